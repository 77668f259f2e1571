/-
  The document's walk at a function: the way behind its name.
-/
import Derived.Test.YtoimgcjbcbhclaaGreatDoorWt30
set_option maxRecDepth 100000
set_option maxHeartbeats 16000000
namespace Go.Proofs.YtoimgcjbcbhclaaGreatDoor
open Go.RowKit
theorem viaC {H G:World→Value→Value→Value→Value→Value→Prop}{goal:Prop}(h1:(∀ w a b c d e,H w a b c d e→G w a b c d e)→goal)(h2:∀ w a b c d e,H w a b c d e→G w a b c d e):goal:=h1 h2
theorem fnOrd {G:Prop}(h:G:=by
 refine uq2 5 6 (fun K hK=>?_) (fun K hK=>?_)
 ·go_simp;refine cm (unhide HPR wd (HBJ.out.trans (hS0.mono HBJ.out.size))) ?_;rintro e X1 ⟨⟨u5,rfl,hu⟩,hb⟩;have hS1:Below wj.heap.size wj X1:=hS0.trans (hb.mono hS0.size)
  have h5:SRow wj.heap.size X1 u5 N1:=srow_mono hu hS0.size;refine hK.out _ _ (fun _=>hS1) ?_;clear hK K hu hb;refine uq1 6 (fun K hK=>?_)
  ·go_simp;have hS2:Below wj.heap.size wj (X1.alloc (.cells #[.string ⟨#[97,114,103,117,109,101,110,116,115]⟩] 9)):=hS1.alloc hS1.size _
   have h6:SRow wj.heap.size (X1.alloc (.cells #[.string ⟨#[97,114,103,117,109,101,110,116,115]⟩] 9)) (.slice (some ⟨X1.heap.size,0,none⟩) 1 1) [tArguments]:=⟨rfl,Or.inr ⟨X1.heap.size,1,#[.string ⟨#[97,114,103,117,109,101,110,116,115]⟩],rfl,hS1.size,heap_new _ _,Nat.le_refl _,by decide,rfl,rfl⟩⟩
   replace h5:=SRow.later h5 ((Below.refl X1.heap.size X1).alloc (Nat.le_refl _) (.cells #[.string ⟨#[97,114,103,117,109,101,110,116,115]⟩] 9));refine hK.out _ _ (fun _=>hS2) ?_;clear hK K hS1
   obtain⟨s6,hs6⟩:∃ s:Value,s=.slice (some ⟨X1.heap.size,0,none⟩) 1 1:=⟨_,rfl⟩;obtain⟨X2,hX⟩:∃ W,W=(X1.alloc (.cells #[.string ⟨#[97,114,103,117,109,101,110,116,115]⟩] 9)):=⟨_,rfl⟩
   rw[←hX] at hS2 h6 h5 ⊢;rw[←hs6] at h6 ⊢;clear hX hs6;refine uq1 7 (fun K hK=>?_)
   ·refine step_app_row rfl _ _ 38 rfl wj.heap.size _ 9 i0 (.string ByteArray.empty) 16 Tryz.underlying38 hi0 hz0 hz1 hz2 rfl _ _ _ rfl h5 _ _ _ rfl h6 (srow_ones [tArguments]) (by have:=unhide HNN;unfold maxLen;simp;omega) (by have:=unhide HNN;simp;omega) hS2.size ?_
    intro u7 X3 hu hgr;have hS3:Below wj.heap.size wj X3:=hS2.grown hgr hS2.size (fun k hk=>(own_lt h5 k hk).2);have h7:SRow wj.heap.size X3 u7 (N1++[tArguments]):=by
     exact zbex
    refine hK.out _ _ (fun _=>hS3) ?_;clear hK K hu hgr hS2 h5 h6;refine uq1 9 (fun K hK=>?_)
    ·go_simp;refine cm (unhide HNM X3 (HBJ.out.trans (hS3.mono HBJ.out.size))) ?_;rintro e X4 ⟨⟨u9,rfl,hu⟩,hb⟩;have hS4:Below wj.heap.size wj X4:=hS3.trans (hb.mono hS3.size)
     have h9:SRow wj.heap.size X4 u9 N2:=srow_mono hu hS3.size;replace h7:=SRow.later h7 hb;refine hK.out _ _ (fun _=>hS4) ?_;clear hK K hu hb hS3;refine uq1 10 (fun K hK=>?_)
     ·refine step_app_row rfl _ _ 38 rfl wj.heap.size _ 9 i0 (.string ByteArray.empty) 16 Tryz.underlying38 hi0 hz0 hz1 hz2 rfl _ _ _ rfl h7 _ _ _ rfl h9 (srow_ones N2) (by have:=unhide HNN;unfold maxLen;simp;omega) (by have:=unhide HNN;simp;omega) hS4.size ?_
      intro u10 X5 hu hgr;have hS5:Below wj.heap.size wj X5:=hS4.grown hgr hS4.size (fun k hk=>(own_lt h7 k hk).2);have h10:SRow wj.heap.size X5 u10 ((N1++[tArguments])++N2):=by
       exact zbex
      refine hK.out _ _ (fun _=>hS5) ?_;clear hK K hu hgr hS4 h7 h9;exact CONT X5 u5 s6 u7 u9 u10 ⟨hS5,h10⟩
 ·go_simp;have hS6:Below wj.heap.size wj (wd.alloc (.cells #[.string ⟨#[97,114,103,117,109,101,110,116,115]⟩] 9)):=hS0.alloc hS0.size _
  have h6:SRow wj.heap.size (wd.alloc (.cells #[.string ⟨#[97,114,103,117,109,101,110,116,115]⟩] 9)) (.slice (some ⟨wd.heap.size,0,none⟩) 1 1) [tArguments]:=⟨rfl,Or.inr ⟨wd.heap.size,1,#[.string ⟨#[97,114,103,117,109,101,110,116,115]⟩],rfl,hS0.size,heap_new _ _,Nat.le_refl _,by decide,rfl,rfl⟩⟩
  refine hK.out _ _ (fun _=>hS6) ?_;clear hK K;obtain⟨s6,hs6⟩:∃ s:Value,s=.slice (some ⟨wd.heap.size,0,none⟩) 1 1:=⟨_,rfl⟩
  obtain⟨X6,hX⟩:∃ W,W=(wd.alloc (.cells #[.string ⟨#[97,114,103,117,109,101,110,116,115]⟩] 9)):=⟨_,rfl⟩;rw[←hX] at hS6 h6 ⊢;rw[←hs6] at h6 ⊢;clear hX hs6;refine uq1 5 (fun K hK=>?_)
  ·go_simp;refine cm (unhide HPR X6 (HBJ.out.trans (hS6.mono HBJ.out.size))) ?_;rintro e X7 ⟨⟨u5,rfl,hu⟩,hb⟩;have hS7:Below wj.heap.size wj X7:=hS6.trans (hb.mono hS6.size)
   have h5:SRow wj.heap.size X7 u5 N1:=srow_mono hu hS6.size;replace h6:=SRow.later h6 hb;refine hK.out _ _ (fun _=>hS7) ?_;clear hK K hu hb hS6;refine uq1 7 (fun K hK=>?_)
   ·refine step_app_row rfl _ _ 38 rfl wj.heap.size _ 9 i0 (.string ByteArray.empty) 16 Tryz.underlying38 hi0 hz0 hz1 hz2 rfl _ _ _ rfl h5 _ _ _ rfl h6 (srow_ones [tArguments]) (by have:=unhide HNN;unfold maxLen;simp;omega) (by have:=unhide HNN;simp;omega) hS7.size ?_
    intro u7 X8 hu hgr;have hS8:Below wj.heap.size wj X8:=hS7.grown hgr hS7.size (fun k hk=>(own_lt h5 k hk).2);have h7:SRow wj.heap.size X8 u7 (N1++[tArguments]):=by
     exact zbex
    refine hK.out _ _ (fun _=>hS8) ?_;clear hK K hu hgr hS7 h5 h6;refine uq1 9 (fun K hK=>?_)
    ·go_simp;refine cm (unhide HNM X8 (HBJ.out.trans (hS8.mono HBJ.out.size))) ?_;rintro e X9 ⟨⟨u9,rfl,hu⟩,hb⟩;have hS9:Below wj.heap.size wj X9:=hS8.trans (hb.mono hS8.size)
     have h9:SRow wj.heap.size X9 u9 N2:=srow_mono hu hS8.size;replace h7:=SRow.later h7 hb;refine hK.out _ _ (fun _=>hS9) ?_;clear hK K hu hb hS8;refine uq1 10 (fun K hK=>?_)
     ·refine step_app_row rfl _ _ 38 rfl wj.heap.size _ 9 i0 (.string ByteArray.empty) 16 Tryz.underlying38 hi0 hz0 hz1 hz2 rfl _ _ _ rfl h7 _ _ _ rfl h9 (srow_ones N2) (by have:=unhide HNN;unfold maxLen;simp;omega) (by have:=unhide HNN;simp;omega) hS9.size ?_
      intro u10 X10 hu hgr;have hS10:Below wj.heap.size wj X10:=hS9.grown hgr hS9.size (fun k hk=>(own_lt h7 k hk).2);have h10:SRow wj.heap.size X10 u10 ((N1++[tArguments])++N2):=by
       exact zbex
      refine hK.out _ _ (fun _=>hS10) ?_;clear hK K hu hgr hS9 h7 h9;exact uz2 (CONT X10 u5 s6 u7 u9 u10 ⟨hS10,h10⟩)):G:=h
theorem fnTailT {G:Prop}(h:G:=by
 go_loopw [13,165] (fun c i wr=>∃ k:Nat,k≤es.length∧i=.int .i64 k∧c=.bool ((es.take k).any fun x=>evW x.tr)∧wr=wj) (fun _ i _=>es.length - (intOf i).toNat)
 case atStart=>exact⟨0,Nat.zero_le _,rfl,by first|rfl|trivial,by first|rfl|trivial⟩
 case round=>
  obtain⟨k,hk2,rfl,hc,hw⟩:=hrel;obtain rfl:wj=wr:=hw.symm;clear hw
  generalize hcv:((es.take k).any fun x=>evW x.tr)=cb at hc
  subst hc;have HCV:=hide hcv;clear hcv
  by_cases hlt:k<es.length
  ·exact zbbt
  ·have hkk:k=es.length:=by omega
   subst hkk;rw[List.take_length] at HCV;have HCW:Hid (cb=evWs y.tr.kids):=by show _=_;rw[←HCB.out];exact HCV.out.symm
   clear HCV;go_wp2_with fail;have hS0:Below wj.heap.size wj wj.drew:=(Below.refl _ _).drew;refine wp_region_U 18 (fun X=>Below wj.heap.size wj X) (by kernel_rfl) ?_
   obtain⟨wd,hwd⟩:∃ wd,wd=wj.drew:=⟨_,rfl⟩;rw[←hwd] at hS0 ⊢;clear hwd;refine uh 0 (.func (.func 71) #[] #[.pointer (some ⟨w.heap.size,0,none⟩)]) hS0 ?_
   refine uc 1 (.map (some mb)) rfl (Or.inl ⟨by kernel_rfl,fun X hX=>by have h0:=keepC hX HTJ.out;go_simp⟩) hS0 ?_
   refine uh 2 (nPtr p) hS0 ?_;refine uc 3 (.int .i64 (pre.length:Int)) rfl (Or.inl ⟨by kernel_rfl,fun X hX=>by have h0:=unhide HNUM X (HBJ.out.trans (hX.mono HBJ.out.size));go_simp⟩) hS0 ?_
   refine uh 4 (nPtr p) hS0 ?_;refine uh 8 (nPtr py) hS0 ?_;refine uh 11 (.bool cb) hS0 ?_
   refine viaC (H:=fun we _ _ _ _ u10=>Below wj.heap.size wj we∧SRow wj.heap.size we u10 ((N1++[tArguments])++N2)) (G:=?GB) (fun CONT=>?_) ?_;rotate_left
   ·exact fnOrd
   intro we u5 s6 u7 u9 nv hH;obtain⟨hS1,hL3⟩:=hH;obtain⟨N,hN⟩:∃ N,N=(N1++[tArguments])++N2:=⟨_,rfl⟩;rw[←hN] at hL3;have hNl:N.length≤90000:=by have h1:=unhide HNN;rw[hN];simp;omega
   have HNE:=hide hN;clear hN;have hs1:=HBJ.out.size;obtain⟨na,nc,hnv⟩:=srow_form hL3;subst hnv
   have hul:∀ g,(Value.slice na N.length nc).ownBlock=some g→wj.heap.size≤g:=fun g hg=>(own_lt hL3 g hg).2;have HGL:=hide hul;clear hul;refine uh 12 (.bool cb) hS1 ?_
   obtain⟨e13,he13⟩:∃ e:Value,e=if cb=true then .bool true else undef:=⟨_,rfl⟩
   obtain⟨e14,he14⟩:∃ e:Value,e=if cb=true then .bool (!true) else undef:=⟨_,rfl⟩
   have HE13:=hide he13;have HE14:=hide he14;clear he13 he14;refine uh 13 e13 hS1 ?_ (hy:=by
    have h13:=unhide HE13;subst h13;cases cb
    ·exact Or.inr ⟨by kernel_rfl,rfl⟩
    ·exact Or.inl ⟨by kernel_rfl,fun _ _=>by go_simp⟩)
   refine uh 14 e14 hS1 ?_ (hy:=by
    have h13:=unhide HE13;have h14:=unhide HE14;subst h13 h14;cases cb
    ·exact Or.inr ⟨by kernel_rfl,rfl⟩
    ·exact Or.inl ⟨by kernel_rfl,fun _ _=>by go_simp⟩)
   obtain⟨fl,hfl⟩:∃ b:Bool,b=(cb && !true):=⟨_,rfl⟩;have HFL:=hide hfl;clear hfl;refine uh 15 (.bool fl) hS1 ?_ (hy:=by
    have h13:=unhide HE13;have h14:=unhide HE14;have h15:=unhide HFL;subst h13 h14 h15;cases cb
    ·exact Or.inl ⟨by kernel_rfl,fun _ _=>by go_simp⟩
    ·exact Or.inl ⟨by kernel_rfl,fun _ _=>by go_simp⟩)
   clear HE13 HE14;refine uh 16 (.agg #[.int .i64 (pre.length:Int),.slice na N.length nc,.bool fl]) hS1 ?_
   have HPUT:=hide (put_any (pre.length:Int) na N.length nc fl _ _ _ w.heap.size we (keepC hS1 HRB.out) (owns_stay (I:=fun _=>True) (fun b _ hl=>hS1.block b hl) (fun _ _=>trivial) HRJ.out.1) HL1.out.1 (by have:=unhide HL1;omega) HRJ.out.ones)
   refine uq1 17 fun K hK=>?_;go_simp;refine cm HPUT.out ?_;rintro e w5 ⟨⟨v',rfl,hr5⟩,hb5⟩;have hS5:Below wj.heap.size wj w5:=hS1.trans (hb5.mono hS1.size);have hL5:=SRow.later hL3 hb5
   have hr5':=owns_low3 hr5 (Nat.le_trans hs1 hS1.size);obtain⟨va,vc,rfl⟩:=srow_form hr5;refine hK.out _ _ (fun _=>hS5) ?_;have hne5:=own_lt hr5;clear hK K HPUT hr5
   obtain⟨bv,hbv⟩:∃ bv,w5.heap[w.heap.size]? = some (.cells #[bv] 114 (0,0)):=⟨_,by rw[hS5.block _ (lt_of_heap HBX.out)];exact HBX.out⟩
   have y0:w5.cell? ⟨w.heap.size,0,none⟩=some bv:=by rw[cell_of hbv];rfl
   have yf:=frozen_of hbv 0;have yl:=lt_of_heap hbv;have HK5:=hide hS5;have HX5:=hide hbv;have HL5:=hide hL5;have HR5:=hide hr5';have HN5:=hide hne5;have HB5:=hide hb5;have HS1':=hide hS1
   clear hbv hS5 hL5 hr5' hne5 hb5 hL3 hS1;refine uq1 18 fun K hK=>?_;go_simp;refine hK.out _ _ (fun e=>by cases e) ?_;clear hK K;refine udone (by kernel_rfl) ?_ _
   obtain⟨wz,hwz⟩:∃ wz,wz=w5.setCell ⟨w.heap.size,0,none⟩ (.slice va (ps1.length+1) vc):=⟨_,rfl⟩;have hset:∀ b,b≠w.heap.size→wz.heap[b]? = w5.heap[b]?:=fun b hb=>by rw[hwz];exact ne_set hb _
   have hbz:Below w.heap.size w wz:=by
    rw[hwz];exact(HBJ.out.trans (HK5.out.mono hs1)).setCell (p:=⟨w.heap.size,0,none⟩) (Nat.le_refl _) _
   have hsz:wj.heap.size≤wz.heap.size:=by
    rw[hwz];have:=HK5.out.size;simpa using this
   have hboxz:wz.heap[w.heap.size]? = some (.cells #[.slice va (ps1.length+1) vc] 114 (0,0)):=by rw[hwz,heap_set HX5.out];rfl
   have hxl:w.heap.size<wj.heap.size:=lt_of_heap HBX.out
   have hrz:=owns_stay (I:=fun b=>we.heap.size≤b) (w':=wz) (fun b hb _=>hset b (by have h1:=(unhide HS1').size;have h2:we.heap.size≤b:=hb;omega)) (fun b hb=>(unhide HN5 b hb).2) HR5.out
   have hnz:SRow w.heap.size wz (.slice na N.length nc) N:=
    srow_mono (owns_stay (I:=fun b=>wj.heap.size≤b) (fun b hb _=>hset b (by have h2:wj.heap.size≤b:=hb;omega)) (fun b hb=>unhide HGL b hb) HL5.out) hs1
   have hfl:=unhide HFL;rw[hfl] at hrz;clear hfl
   have HKE:=hide (unhide HEND0 ps1 _ wj HRJ.out HL1.out.2 HCH.out N HNE.out hNl cb true HCW.out HS2.out wz _ _ _ rfl hbz hsz (fun b hb hl=>(hset b hb).trans (HK5.out.block b hl)) hboxz hrz hnz)
   have z3:wz.cell? ⟨py,3,none⟩=some (.slice ka es.length kc):=by
    rw[World.cell?_of_block (w:=w5) (a:=⟨py,3,none⟩) (hset py (by omega))];exact keepC HK5.out ky
   have hpz:=cell_lt z3;rw[←hwz];clear hwz hset hbz hsz hboxz hrz hnz y0 yf yl HK5 HX5 HL5 HR5 HN5 HB5 HS1' HEND0 HRJ k3 ke ky;go_simp;go_wp2_with fail;obtain⟨HKL0,HEND1⟩:=unhide HKE;have HKL:=hide HKL0
   have HEND:=hide HEND1;clear HKE HKL0 HEND1
   go_loopw [198] (fun i wr=>∃ k:Nat,k≤es.length∧i=.int .i64 k∧RgW (fun b=>I b∨(w.heap.size≤b∧b<wz.heap.size)) nb mb ob fb A (L++tls (rl m) ((es.take k).map Ad.tr) (pre++[p]++x.ads++[py]).length (((ps1++[(Value.slice na N.length nc,(⟨pre.length,N,cb && !true⟩:Sc))]).map Prod.snd).reverse) true) wr∧Fm (fun b=>I b∨(w.heap.size≤b∧b<wz.heap.size)) wz wr) (fun i _=>es.length - (intOf i).toNat)
   case atStart=>exact⟨0,Nat.zero_le _,rfl,by simpa[tls] using HKL.out.rw,Fm.refl _ _⟩
   case round=>exact rlRound):G:=h
theorem fnTailF {G:Prop}(h:G:=by
 go_loopw [13,165] (fun c i wr=>∃ k:Nat,k≤es.length∧i=.int .i64 k∧c=.bool ((es.take k).any fun x=>evW x.tr)∧wr=wj) (fun _ i _=>es.length - (intOf i).toNat)
 case atStart=>exact⟨0,Nat.zero_le _,rfl,by first|rfl|trivial,by first|rfl|trivial⟩
 case round=>
  obtain⟨k,hk2,rfl,hc,hw⟩:=hrel;obtain rfl:wj=wr:=hw.symm;clear hw
  generalize hcv:((es.take k).any fun x=>evW x.tr)=cb at hc
  subst hc;have HCV:=hide hcv;clear hcv
  by_cases hlt:k<es.length
  ·exact zbbt
  ·have hkk:k=es.length:=by omega
   subst hkk;rw[List.take_length] at HCV;have HCW:Hid (cb=evWs y.tr.kids):=by show _=_;rw[←HCB.out];exact HCV.out.symm
   clear HCV;go_wp2_with fail;have hS0:Below wj.heap.size wj wj.drew:=(Below.refl _ _).drew;refine wp_region_U 18 (fun X=>Below wj.heap.size wj X) (by kernel_rfl) ?_
   obtain⟨wd,hwd⟩:∃ wd,wd=wj.drew:=⟨_,rfl⟩;rw[←hwd] at hS0 ⊢;clear hwd;refine uh 0 (.func (.func 71) #[] #[.pointer (some ⟨w.heap.size,0,none⟩)]) hS0 ?_
   refine uc 1 (.map (some mb)) rfl (Or.inl ⟨by kernel_rfl,fun X hX=>by have h0:=keepC hX HTJ.out;go_simp⟩) hS0 ?_
   refine uh 2 (nPtr p) hS0 ?_;refine uc 3 (.int .i64 (pre.length:Int)) rfl (Or.inl ⟨by kernel_rfl,fun X hX=>by have h0:=unhide HNUM X (HBJ.out.trans (hX.mono HBJ.out.size));go_simp⟩) hS0 ?_
   refine uh 4 (nPtr p) hS0 ?_;refine uh 8 (nPtr py) hS0 ?_;refine uh 11 (.bool cb) hS0 ?_
   refine viaC (H:=fun we _ _ _ _ u10=>Below wj.heap.size wj we∧SRow wj.heap.size we u10 ((N1++[tArguments])++N2)) (G:=?GB) (fun CONT=>?_) ?_;rotate_left
   ·exact fnOrd
   intro we u5 s6 u7 u9 nv hH;obtain⟨hS1,hL3⟩:=hH;obtain⟨N,hN⟩:∃ N,N=(N1++[tArguments])++N2:=⟨_,rfl⟩;rw[←hN] at hL3;have hNl:N.length≤90000:=by have h1:=unhide HNN;rw[hN];simp;omega
   have HNE:=hide hN;clear hN;have hs1:=HBJ.out.size;obtain⟨na,nc,hnv⟩:=srow_form hL3;subst hnv
   have hul:∀ g,(Value.slice na N.length nc).ownBlock=some g→wj.heap.size≤g:=fun g hg=>(own_lt hL3 g hg).2;have HGL:=hide hul;clear hul;refine uh 12 (.bool cb) hS1 ?_
   obtain⟨e13,he13⟩:∃ e:Value,e=if cb=true then .bool st2 else undef:=⟨_,rfl⟩
   obtain⟨e14,he14⟩:∃ e:Value,e=if cb=true then .bool (!st2) else undef:=⟨_,rfl⟩
   have HE13:=hide he13;have HE14:=hide he14;clear he13 he14;refine uh 13 e13 hS1 ?_ (hy:=by
    have h13:=unhide HE13;subst h13;cases cb
    ·exact Or.inr ⟨by kernel_rfl,rfl⟩
    ·exact Or.inl ⟨by kernel_rfl,fun _ _=>by go_simp⟩)
   refine uh 14 e14 hS1 ?_ (hy:=by
    have h13:=unhide HE13;have h14:=unhide HE14;subst h13 h14;cases cb
    ·exact Or.inr ⟨by kernel_rfl,rfl⟩
    ·exact Or.inl ⟨by kernel_rfl,fun _ _=>by go_simp⟩)
   obtain⟨fl,hfl⟩:∃ b:Bool,b=(cb && !st2):=⟨_,rfl⟩;have HFL:=hide hfl;clear hfl;refine uh 15 (.bool fl) hS1 ?_ (hy:=by
    have h13:=unhide HE13;have h14:=unhide HE14;have h15:=unhide HFL;subst h13 h14 h15;cases cb
    ·exact Or.inl ⟨by kernel_rfl,fun _ _=>by go_simp⟩
    ·exact Or.inl ⟨by kernel_rfl,fun _ _=>by go_simp⟩)
   clear HE13 HE14;refine uh 16 (.agg #[.int .i64 (pre.length:Int),.slice na N.length nc,.bool fl]) hS1 ?_
   have HPUT:=hide (put_any (pre.length:Int) na N.length nc fl _ _ _ w.heap.size we (keepC hS1 HRB.out) (owns_stay (I:=fun _=>True) (fun b _ hl=>hS1.block b hl) (fun _ _=>trivial) HRJ.out.1) HL1.out.1 (by have:=unhide HL1;omega) HRJ.out.ones)
   refine uq1 17 fun K hK=>?_;go_simp;refine cm HPUT.out ?_;rintro e w5 ⟨⟨v',rfl,hr5⟩,hb5⟩;have hS5:Below wj.heap.size wj w5:=hS1.trans (hb5.mono hS1.size);have hL5:=SRow.later hL3 hb5
   have hr5':=owns_low3 hr5 (Nat.le_trans hs1 hS1.size);obtain⟨va,vc,rfl⟩:=srow_form hr5;refine hK.out _ _ (fun _=>hS5) ?_;have hne5:=own_lt hr5;clear hK K HPUT hr5
   obtain⟨bv,hbv⟩:∃ bv,w5.heap[w.heap.size]? = some (.cells #[bv] 114 (0,0)):=⟨_,by rw[hS5.block _ (lt_of_heap HBX.out)];exact HBX.out⟩
   have y0:w5.cell? ⟨w.heap.size,0,none⟩=some bv:=by rw[cell_of hbv];rfl
   have yf:=frozen_of hbv 0;have yl:=lt_of_heap hbv;have HK5:=hide hS5;have HX5:=hide hbv;have HL5:=hide hL5;have HR5:=hide hr5';have HN5:=hide hne5;have HB5:=hide hb5;have HS1':=hide hS1
   clear hbv hS5 hL5 hr5' hne5 hb5 hL3 hS1;refine uq1 18 fun K hK=>?_;go_simp;refine hK.out _ _ (fun e=>by cases e) ?_;clear hK K;refine udone (by kernel_rfl) ?_ _
   obtain⟨wz,hwz⟩:∃ wz,wz=w5.setCell ⟨w.heap.size,0,none⟩ (.slice va (ps1.length+1) vc):=⟨_,rfl⟩;have hset:∀ b,b≠w.heap.size→wz.heap[b]? = w5.heap[b]?:=fun b hb=>by rw[hwz];exact ne_set hb _
   have hbz:Below w.heap.size w wz:=by
    rw[hwz];exact(HBJ.out.trans (HK5.out.mono hs1)).setCell (p:=⟨w.heap.size,0,none⟩) (Nat.le_refl _) _
   have hsz:wj.heap.size≤wz.heap.size:=by
    rw[hwz];have:=HK5.out.size;simpa using this
   have hboxz:wz.heap[w.heap.size]? = some (.cells #[.slice va (ps1.length+1) vc] 114 (0,0)):=by rw[hwz,heap_set HX5.out];rfl
   have hxl:w.heap.size<wj.heap.size:=lt_of_heap HBX.out
   have hrz:=owns_stay (I:=fun b=>we.heap.size≤b) (w':=wz) (fun b hb _=>hset b (by have h1:=(unhide HS1').size;have h2:we.heap.size≤b:=hb;omega)) (fun b hb=>(unhide HN5 b hb).2) HR5.out
   have hnz:SRow w.heap.size wz (.slice na N.length nc) N:=
    srow_mono (owns_stay (I:=fun b=>wj.heap.size≤b) (fun b hb _=>hset b (by have h2:wj.heap.size≤b:=hb;omega)) (fun b hb=>unhide HGL b hb) HL5.out) hs1
   have hfl:=unhide HFL;rw[hfl] at hrz;clear hfl
   have HKE:=hide (unhide HEND0 ps1 _ wj HRJ.out HL1.out.2 HCH.out N HNE.out hNl cb st2 HCW.out HS2.out wz _ _ _ rfl hbz hsz (fun b hb hl=>(hset b hb).trans (HK5.out.block b hl)) hboxz hrz hnz)
   have z3:wz.cell? ⟨py,3,none⟩=some (.slice ka es.length kc):=by
    rw[World.cell?_of_block (w:=w5) (a:=⟨py,3,none⟩) (hset py (by omega))];exact keepC HK5.out ky
   have hpz:=cell_lt z3;rw[←hwz];clear hwz hset hbz hsz hboxz hrz hnz y0 yf yl HK5 HX5 HL5 HR5 HN5 HB5 HS1' HEND0 HRJ k3 ke ky;go_simp;go_wp2_with fail;obtain⟨HKL0,HEND1⟩:=unhide HKE;have HKL:=hide HKL0
   have HEND:=hide HEND1;clear HKE HKL0 HEND1
   go_loopw [198] (fun i wr=>∃ k:Nat,k≤es.length∧i=.int .i64 k∧RgW (fun b=>I b∨(w.heap.size≤b∧b<wz.heap.size)) nb mb ob fb A (L++tls (rl m) ((es.take k).map Ad.tr) (pre++[p]++x.ads++[py]).length (((ps1++[(Value.slice na N.length nc,(⟨pre.length,N,cb && !st2⟩:Sc))]).map Prod.snd).reverse) st2) wr∧Fm (fun b=>I b∨(w.heap.size≤b∧b<wz.heap.size)) wz wr) (fun i _=>es.length - (intOf i).toNat)
   case atStart=>exact⟨0,Nat.zero_le _,rfl,by simpa[tls] using HKL.out.rw,Fm.refl _ _⟩
   case round=>exact rlRound):G:=h
open zrqeo in
theorem rlFn5t {m:Nat}(hT:WalkC m)(a x y:Ad)(hks:a.ks=[x,y])(hm:a.cnt≤m+1)(I:Nat→Prop)(nb mb ob fb:Nat)(A pre post:List Nat)(L:List Us)(v:Value)(ps:List (Value × Sc))(w:World)
  (hA:A=pre++(a.ads++post)) (hW:RgW I nb mb ob fb A L w) (ha:AAt I w a) (hi:a.tr.ill=0) (hws:WS a.tr) (hR:RR I w v ps) (hp0:0<ps.length) (hpl:ps.length+a.cnt≤20000) (hL:L.length+a.cnt≤20000)
  (hkd:a.kd=5) :
  Calls Tryz.prog 70 #[nPtr a.p,v,.bool true,sPtr nb,sPtr ob,sPtr fb] w fun e w'=>e=.returned (.tuple #[])∧RgW I nb mb ob fb A (L++tls (rl m) y.tr.kids (pre.length+1+x.tr.count+1) (rfSc a.tr x.tr y.tr pre.length ((ps.map Prod.snd).reverse) true) (true||decide (y.tr.tx=tStrict))) w'∧Fm I w w':=by
 exact zra
open zrqep in
theorem rlFn5f {m:Nat}(hT:WalkC m)(a x y:Ad)(hks:a.ks=[x,y])(hm:a.cnt≤m+1)(I:Nat→Prop)(nb mb ob fb:Nat)(A pre post:List Nat)(L:List Us)(v:Value)(ps:List (Value × Sc))(w:World)
  (hA:A=pre++(a.ads++post)) (hW:RgW I nb mb ob fb A L w) (ha:AAt I w a) (hi:a.tr.ill=0) (hws:WS a.tr) (hR:RR I w v ps) (hp0:0<ps.length) (hpl:ps.length+a.cnt≤20000) (hL:L.length+a.cnt≤20000)
  (hkd:a.kd=5) :
  Calls Tryz.prog 70 #[nPtr a.p,v,.bool false,sPtr nb,sPtr ob,sPtr fb] w fun e w'=>e=.returned (.tuple #[])∧RgW I nb mb ob fb A (L++tls (rl m) y.tr.kids (pre.length+1+x.tr.count+1) (rfSc a.tr x.tr y.tr pre.length ((ps.map Prod.snd).reverse) false) (false||decide (y.tr.tx=tStrict))) w'∧Fm I w w':=by
 exact zra
open zrqeq in
theorem rlFnnt {m:Nat}(hT:WalkC m)(a x y:Ad)(hks:a.ks=[x,y])(hm:a.cnt≤m+1)(I:Nat→Prop)(nb mb ob fb:Nat)(A pre post:List Nat)(L:List Us)(v:Value)(ps:List (Value × Sc))(w:World)
  (hA:A=pre++(a.ads++post)) (hW:RgW I nb mb ob fb A L w) (ha:AAt I w a) (hi:a.tr.ill=0) (hws:WS a.tr) (hR:RR I w v ps) (hp0:0<ps.length) (hpl:ps.length+a.cnt≤20000) (hL:L.length+a.cnt≤20000)
  (hkd:a.kd=37) (htx:a.tx=noText) :
  Calls Tryz.prog 70 #[nPtr a.p,v,.bool true,sPtr nb,sPtr ob,sPtr fb] w fun e w'=>e=.returned (.tuple #[])∧RgW I nb mb ob fb A (L++tls (rl m) y.tr.kids (pre.length+1+x.tr.count+1) (rfSc a.tr x.tr y.tr pre.length ((ps.map Prod.snd).reverse) true) (true||decide (y.tr.tx=tStrict))) w'∧Fm I w w':=by
 exact zra
open zrqer in
theorem rlFnnf {m:Nat}(hT:WalkC m)(a x y:Ad)(hks:a.ks=[x,y])(hm:a.cnt≤m+1)(I:Nat→Prop)(nb mb ob fb:Nat)(A pre post:List Nat)(L:List Us)(v:Value)(ps:List (Value × Sc))(w:World)
  (hA:A=pre++(a.ads++post)) (hW:RgW I nb mb ob fb A L w) (ha:AAt I w a) (hi:a.tr.ill=0) (hws:WS a.tr) (hR:RR I w v ps) (hp0:0<ps.length) (hpl:ps.length+a.cnt≤20000) (hL:L.length+a.cnt≤20000)
  (hkd:a.kd=37) (htx:a.tx=noText) :
  Calls Tryz.prog 70 #[nPtr a.p,v,.bool false,sPtr nb,sPtr ob,sPtr fb] w fun e w'=>e=.returned (.tuple #[])∧RgW I nb mb ob fb A (L++tls (rl m) y.tr.kids (pre.length+1+x.tr.count+1) (rfSc a.tr x.tr y.tr pre.length ((ps.map Prod.snd).reverse) false) (false||decide (y.tr.tx=tStrict))) w'∧Fm I w w':=by
 exact zra
open zrqes in
theorem rlFnyt {m:Nat}(hT:WalkC m)(a x y:Ad)(hks:a.ks=[x,y])(hm:a.cnt≤m+1)(I:Nat→Prop)(nb mb ob fb:Nat)(A pre post:List Nat)(L:List Us)(v:Value)(ps:List (Value × Sc))(w:World)
  (hA:A=pre++(a.ads++post)) (hW:RgW I nb mb ob fb A L w) (ha:AAt I w a) (hi:a.tr.ill=0) (hws:WS a.tr) (hR:RR I w v ps) (hp0:0<ps.length) (hpl:ps.length+a.cnt≤20000) (hL:L.length+a.cnt≤20000)
  (hkd:a.kd=37) (htx:a.tx≠noText) :
  Calls Tryz.prog 70 #[nPtr a.p,v,.bool true,sPtr nb,sPtr ob,sPtr fb] w fun e w'=>e=.returned (.tuple #[])∧RgW I nb mb ob fb A (L++tls (rl m) y.tr.kids (pre.length+1+x.tr.count+1) (rfSc a.tr x.tr y.tr pre.length ((ps.map Prod.snd).reverse) true) (true||decide (y.tr.tx=tStrict))) w'∧Fm I w w':=by
 exact zra
open zrqet in
theorem rlFnyf {m:Nat}(hT:WalkC m)(a x y:Ad)(hks:a.ks=[x,y])(hm:a.cnt≤m+1)(I:Nat→Prop)(nb mb ob fb:Nat)(A pre post:List Nat)(L:List Us)(v:Value)(ps:List (Value × Sc))(w:World)
  (hA:A=pre++(a.ads++post)) (hW:RgW I nb mb ob fb A L w) (ha:AAt I w a) (hi:a.tr.ill=0) (hws:WS a.tr) (hR:RR I w v ps) (hp0:0<ps.length) (hpl:ps.length+a.cnt≤20000) (hL:L.length+a.cnt≤20000)
  (hkd:a.kd=37) (htx:a.tx≠noText) :
  Calls Tryz.prog 70 #[nPtr a.p,v,.bool false,sPtr nb,sPtr ob,sPtr fb] w fun e w'=>e=.returned (.tuple #[])∧RgW I nb mb ob fb A (L++tls (rl m) y.tr.kids (pre.length+1+x.tr.count+1) (rfSc a.tr x.tr y.tr pre.length ((ps.map Prod.snd).reverse) false) (false||decide (y.tr.tx=tStrict))) w'∧Fm I w w':=by
 exact zra
theorem walk_all:∀ m,WalkC m
 | 0=>fun a ha=>by have:=cnt_pos a;omega
 | m+1=>by
  have ih:=walk_all m;intro a hm I nb mb ob fb A pre post L v ps st w hA hW ha hi hws hR hp0 hpl hL;have hk:=a.tr_eq.1;have ht:=a.tr_eq.2.1
  by_cases h23:a.kd=23
  ·obtain⟨_,_,c0,c1,_⟩:=ha.cells;rw[h23] at c0
   have e:rl (m+1) a.tr pre.length ((ps.map Prod.snd).reverse) st=[((pre.length:Int),(findS ((ps.map Prod.snd).reverse) a.tx true).1,(findS ((ps.map Prod.snd).reverse) a.tx true).2)]:=by
    rw[rl,if_pos (hk.trans h23),ht]
   rw[e];exact rl23 w a.p nb mb ob fb pre.length v ps st a.tx I A L c0 c1 hW (fun X hX=>hW.look hA hX) hR hp0 (by omega) (by omega)
  by_cases h9:a.kd=9
  ·obtain⟨x,y,hks⟩:=hws.two h9
   have e:rl (m+1) a.tr pre.length ((ps.map Prod.snd).reverse) st=rl m x.tr (pre.length+1) ((ps.map Prod.snd).reverse) st++rl m y.tr (pre.length+1+x.tr.count) (⟨0,[],true⟩::(ps.map Prod.snd).reverse) st:=by
    rw[rl,if_neg (by rw[hk];exact h23),if_pos (hk.trans h9),a.tr_eq.2.2,hks]
    rfl
   rw[e];exact rl9 ih a x y hks hm I nb mb ob fb A pre post L v ps st w hA hW ha hi hws hR hp0 hpl hL h9
  by_cases h13:a.kd=13
  ·have e:rl (m+1) a.tr pre.length ((ps.map Prod.snd).reverse) st=tls (rl m) a.tr.kids (pre.length+1) (⟨pre.length,[a.tx],false⟩::(ps.map Prod.snd).reverse) st:=by
    rw[rl,if_neg (by rw[hk];exact h23),if_neg (by rw[hk];exact h9),if_pos (hk.trans h13),ht]
   rw[e];exact rl13 ih a hm I nb mb ob fb A pre post L v ps st w hA hW ha hi hws hR hp0 hpl hL h13
  by_cases h6:a.kd=6
  ·have e:rl (m+1) a.tr pre.length ((ps.map Prod.snd).reverse) st=tls (rl m) a.tr.kids (pre.length+1) (⟨pre.length,namesT a.tr false,false⟩::(ps.map Prod.snd).reverse) st:=by
    rw[rl,if_neg (by rw[hk];exact h23),if_neg (by rw[hk];exact h9),if_neg (by rw[hk];exact h13),if_pos (hk.trans h6)]
   rw[e];exact rl6 ih a hm I nb mb ob fb A pre post L v ps st w hA hW ha hi hws hR hp0 hpl hL h6
  by_cases hf:a.kd=5∨a.kd=37
  ·have hfun:isFunT a.tr=true:=by unfold isFunT;rw[hk];rcases hf with e|e <;> rw[e] <;> rfl
   obtain⟨x,y,hks⟩:=hws.func hfun
   have e:rl (m+1) a.tr pre.length ((ps.map Prod.snd).reverse) st=tls (rl m) y.tr.kids (pre.length+1+x.tr.count+1) (rfSc a.tr x.tr y.tr pre.length ((ps.map Prod.snd).reverse) st) (st||decide (y.tr.tx=tStrict)):=by
    rw[rl,if_neg (by rw[hk];exact h23),if_neg (by rw[hk];exact h9),if_neg (by rw[hk];exact h13),if_neg (by rw[hk];exact h6),if_pos (by rw[hk];exact hf),a.tr_eq.2.2,hks]
    rfl
   rw[e]
   rcases hf with hf|hf
   ·
    cases st with
    | true=>exact rlFn5t ih a x y hks hm I nb mb ob fb A pre post L v ps w hA hW ha hi hws hR hp0 hpl hL hf
    | false=>exact rlFn5f ih a x y hks hm I nb mb ob fb A pre post L v ps w hA hW ha hi hws hR hp0 hpl hL hf
   ·by_cases htx:a.tx=noText
    ·
     cases st with
     | true=>exact rlFnnt ih a x y hks hm I nb mb ob fb A pre post L v ps w hA hW ha hi hws hR hp0 hpl hL hf htx
     | false=>exact rlFnnf ih a x y hks hm I nb mb ob fb A pre post L v ps w hA hW ha hi hws hR hp0 hpl hL hf htx
    ·
     cases st with
     | true=>exact rlFnyt ih a x y hks hm I nb mb ob fb A pre post L v ps w hA hW ha hi hws hR hp0 hpl hL hf htx
     | false=>exact rlFnyf ih a x y hks hm I nb mb ob fb A pre post L v ps w hA hW ha hi hws hR hp0 hpl hL hf htx
  ·have hfun:isFunT a.tr=false:=by
    unfold isFunT;rw[hk];have a5:(a.kd==5)=false:=by simp;exact fun e=>hf (Or.inl e)
    have a37:(a.kd==37)=false:=by simp;exact fun e=>hf (Or.inr e)
    rw[a5,a37];rfl
   have e:rl (m+1) a.tr pre.length ((ps.map Prod.snd).reverse) st=tls (rl m) a.tr.kids (pre.length+1) ((ps.map Prod.snd).reverse) st:=by
    rw[rl,if_neg (by rw[hk];exact h23),if_neg (by rw[hk];exact h9),if_neg (by rw[hk];exact h13),if_neg (by rw[hk];exact h6),if_neg (by rw[hk];exact hf)]
   rw[e];exact rlElse ih a hm I nb mb ob fb A pre post L v ps st w hA hW ha hi hws hR hp0 hpl hL h23 h9 h13 h6 hfun
theorem past_all (p:Int→Bool)(s:ByteArray)(k:Nat):(s.extract k (pastN p s k)).data.toList=(s.data.toList.drop k).takeWhile fun b=>p (b.toNat:Int):=by
 rw[ByteArray.data_extract,Array.toList_extract,List.extract_eq_take_drop]
 unfold pastN
 rw[Nat.add_sub_cancel_left]
 exact(List.prefix_iff_eq_take.1 (List.takeWhile_prefix _)).symm
theorem drop_bt {s:ByteArray}{k:Nat}(h:k<s.size):∃ r,s.data.toList.drop k=bt s k::r:=by
 have hl:k<s.data.toList.length:=by simpa using h
 refine⟨s.data.toList.drop (k+1),?_⟩
 rw[List.drop_eq_getElem_cons hl]
 congr 1
 unfold bt
 rw[List.getD_eq_getElem?_getD,List.getElem?_eq_getElem hl];rfl
section
variable {ws gs:List ByteArray} {s:ByteArray}
include ws gs s
theorem rd_ne {k e:Nat}{kd n:Int}{tx:ByteArray}(hk:k<s.size)(h:rdTok ws gs s k=.tok kd tx n e):kd=1→tx≠noText:=by
 unfold rdTok at h
 split at h
 ·rename_i hl
  unfold rdName at h
  split at h
  ·
   cases h;exact fun e=>absurd e (by decide)
  ·split at h
   ·
    cases h
   ·
    cases h;intro _ e;obtain⟨r,hr⟩:=drop_bt hk;have hlod:lodB ((bt s k).toNat:Int)=true:=by unfold lodB;rw[hl];rfl
    have e2:(s.extract k (pastN lodB s k)).data.toList=bt s k::r.takeWhile fun b=>lodB (b.toNat:Int):=by rw[past_all,hr,List.takeWhile_cons,if_pos hlod]
    rw[e] at e2;cases e2
 ·split at h
  ·unfold rdNum at h
   split at h
   ·
    cases h
   ·split at h
    ·
     cases h
    ·split at h
     ·
      cases h
     ·
      cases h;exact fun e=>absurd e (by decide)
  ·split at h
   ·unfold rdStr at h
    split at h
    ·split at h
     ·
      cases h
     ·
      cases h;exact fun e=>absurd e (by decide)
    ·
     cases h
   ·unfold rdSign at h
    split at h
    ·
     cases h;exact fun e=>absurd e (by decide)
    ·
     cases h
theorem toks_ne:∀ (m i:Nat) (acc l:List Tk),s.size - i=m→(∀ k ∈ acc,k.kd=1→k.tx≠noText)→toksR ws gs s i acc=.ok l→∀ k ∈ l,k.kd=1→k.tx≠noText:=by
 intro m
 induction m using Nat.strongRecOn with
 | ind m ih=>
  intro i acc l hm ha h
  by_cases hi:i<s.size
  ·rw[toksR,dif_pos hi] at h
   split at h
   ·rename_i kd tx n e he
    split at h
    ·rename_i hlt
     have h1:=pastN_ge gapB s e;exact ih (s.size - pastN gapB s e) (by omega) _ _ l rfl (fun k hk=>by
      rcases List.mem_append.1 hk with hk|hk
      ·exact ha k hk
      ·rw[List.mem_singleton.1 hk];exact rd_ne hi he) h
    ·
     cases h
   ·
    cases h
  ·rw[toksR_end _ _ _ _ _ hi] at h;cases h;intro k hk
   rcases List.mem_append.1 hk with hk|hk
   ·exact ha k hk
   ·rw[List.mem_singleton.1 hk];exact fun e=>absurd e (show ¬ (6:Int)=1 by decide)
end
theorem name_ne {l:List Tk}(h:∀ k ∈ l,k.kd=1→k.tx≠noText){x:ByteArray}(hx:NmL l x):x≠noText:=by
 obtain⟨i,h1,rfl⟩:=hx
 revert h1
 unfold tkA
 by_cases hi:i<l.length
 ·rw[List.getD_eq_getElem?_getD,List.getElem?_eq_getElem hi];exact h _ (List.getElem_mem hi)
 ·rw[List.getD_eq_getElem?_getD,List.getElem?_eq_none (by omega)];exact fun e=>absurd e (by decide)
theorem of_nil (w:World):Calls Tryz.prog 26 #[.pointer none] w fun e w'=>e=.returned (.slice none 0 0)∧w'=w:=by
 go_enter Tryz.func26,Tryz.ntmps26
 go_wp2
 go_ret
 exact⟨rfl,rfl⟩
theorem walk_nil (v:Value)(w:World):Calls Tryz.prog 31 #[.pointer none,v] w fun e w'=>e=.returned (.tuple #[])∧w'=w:=by
 go_enter Tryz.func31,Tryz.ntmps31
 go_wp2
 refine bodyPost_ret (v:=.tuple #[]) (by simp[results,Tryz.results31,go_sem]) rfl ⟨rfl,rfl⟩
theorem evals_nil (w:World):Calls Tryz.prog 28 #[.pointer none] w fun e w'=>e=.returned (.bool false)∧Below w.heap.size w w':=by
 have hb2:Below w.heap.size w ((w.alloc (.cells #[.pointer none] 22)).alloc (.cells #[.bool false] 4)):=((Below.refl _ _).alloc (Nat.le_refl _) _).alloc (by simp) _
 have HB:=hide hb2
 clear hb2
 go_enter Tryz.func28,Tryz.ntmps28
 go_wp2_with fail
 refine cm (walk_nil _ _) ?_
 rintro e w2 ⟨rfl,rfl⟩
 go_wp2_with fail
 go_ret
 exact⟨rfl,HB.out⟩
theorem us_rowE {w:World}{v:Value}{L:List Us}{e:TypeId}(h:w.ownsRow 0 e 3 v L.length (usCells L))(k:Nat)(hk:k<L.length):∃ g cap,v=.slice (some ⟨g,0,none⟩) L.length cap∧g<w.heap.size∧w.cell? ⟨g,k * 3,none⟩=some (.int .i64 (L[k]).1)∧w.cell? ⟨g,k * 3+1,none⟩=some (.int .i64 (L[k]).2.1)∧w.cell? ⟨g,k * 3+2,none⟩=some (.bool (L[k]).2.2):=by
 obtain⟨g,cap,rfl,_,_⟩:=h.form (by omega)
 have key:∀ j,j<3→w.cell? ⟨g,k * 3+j,none⟩=(usC (L[k]))[j]?:=by
  intro j hj;have h1:=h.cellAt (k * 3+j) (by omega);rw[h1];have h2:L=L.take k++(L[k]::L.drop (k+1)):=by rw[←List.drop_eq_getElem_cons hk,List.take_append_drop]
  have h3:usCells L=usCells (L.take k)++(usC (L[k])++usCells (L.drop (k+1))):=by
   conv=>lhs;rw[h2]
   rw[usCells_app];rfl
  have h4:(usCells (L.take k)).length=k * 3:=by rw[usCells_len,List.length_take];omega
  rw[h3,List.getElem?_append_right (by omega),h4,Nat.add_sub_cancel_left,List.getElem?_append_left (by simpa[usC] using hj)]
 refine⟨g,cap,rfl,(own_lt h g rfl).1,?_,?_,?_⟩
 ·have:=key 0 (by omega);simpa[usC] using this
 ·have:=key 1 (by omega);simpa[usC] using this
 ·have:=key 2 (by omega);simpa[usC] using this
end Go.Proofs.YtoimgcjbcbhclaaGreatDoor
