/-
  Parts of proofs that stand more than once.
-/
import Derived.Test.YtoimgcjbcbhclaaGreatDoorWt9
set_option maxRecDepth 100000
set_option maxHeartbeats 16000000
namespace Go.Proofs.YtoimgcjbcbhclaaGreatDoor
open Go.RowKit
theorem zrqeh.zrlX {G:Prop}(h:G:=by
  have HK3:=hide (keepC HB2.out HC3.out);have HE0:=hide (keepC HB2.out HD0.out);have HE1:=hide (keepC HB2.out HD1.out);obtain⟨wd,hwd⟩:∃ wd,wd=w2.drew:=⟨_,rfl⟩
  have hS0:Below w2.heap.size w2 wd:=by rw[hwd];exact(Below.refl _ _).drew
  have hsd:wd.heap.size=w2.heap.size:=by rw[hwd];rfl
  refine wp_region_U 8 (fun X=>Below w2.heap.size w2 X) (by kernel_rfl) ?_;rw[←hwd];have HSD:=hide hsd;clear hwd hsd;refine uh 0 (sPtr tb) hS0 ?_;refine uh 1 (nPtr p) hS0 ?_;refine uh 2 (nPtr p) hS0 ?_
  refine uh 3 (.pointer (some ⟨p,3,none⟩)) hS0 ?_;refine uc 4 (.slice (some ⟨g,0,none⟩) kn kc) rfl (Or.inl ⟨by kernel_rfl,fun X hX=>by have h0:=keepC hX HK3.out;go_simp⟩) hS0 ?_
  refine uh 5 (.pointer (some ⟨g,0,none⟩)) hS0 ?_;refine uc 6 (nPtr q0) rfl (Or.inl ⟨by kernel_rfl,fun X hX=>by have h0:=keepC hX HE0.out;go_simp⟩) hS0 ?_
  refine uc 7 (plV2 (.pointer oa) sb) rfl (Or.inl ⟨by kernel_rfl,fun X hX=>by have h0:=keepC hX HX0.out;have h1:=keepC hX HX1.out;go_simp⟩) hS0 ?_
  refine uq1 8 fun K hK=>?_;go_simp;refine cm (unhide HT1 _ (HB2.out.trans (hS0.mono HB2.out.size))) ?_;rintro e w5 ⟨rfl,hf5,hq5⟩;refine hK.out _ _ (fun e=>by cases e) ?_;clear hK K
  refine udone (by kernel_rfl) ?_ _;have hpd:w.heap.size<wd.heap.size:=by have:=unhide HSD;omega
  have HY0:Hid (w5.cell? ⟨w.heap.size,0,none⟩=some (.pointer oa)):=(hf5.cell (Or.inr ⟨Nat.le_refl _,hpd⟩) hpd).trans (keepC hS0 HX0.out)
  have HY1:Hid (w5.cell? ⟨w.heap.size,1,none⟩=some (.bool sb)):=(hf5.cell (Or.inr ⟨Nat.le_refl _,hpd⟩) hpd).trans (keepC hS0 HX1.out)
  have HZ3:Hid (w5.cell? ⟨p,3,none⟩=some (.slice (some ⟨g,0,none⟩) kn kc)):=(hf5.cell (Or.inl HIP.out) (by omega)).trans (keepC hS0 HK3.out)
  have HZ1:Hid (w5.cell? ⟨g,1,none⟩=some (nPtr q1)):=(hf5.cell (Or.inl HIG.out) (by omega)).trans (keepC hS0 HE1.out);have HQ5:=hide hq5;clear hf5 hq5 hS0 hpd HSD HX0 HX1 HK3 HE0 HE1 hs2 HB2 HP2 HW2;go_simp
  go_wp2_with fail;obtain⟨we,hwe⟩:∃ we,we=w5.drew:=⟨_,rfl⟩;have hS5:Below w5.heap.size w5 we:=by rw[hwe];exact(Below.refl _ _).drew
  refine wp_region_U 10 (fun X=>Below w5.heap.size w5 X) (by kernel_rfl) ?_;rw[←hwe];clear hwe;refine uh 0 (sPtr tb) hS5 ?_;refine uh 1 (nPtr p) hS5 ?_;refine uh 2 (nPtr p) hS5 ?_
  refine uh 3 (.pointer (some ⟨p,3,none⟩)) hS5 ?_;refine uc 4 (.slice (some ⟨g,0,none⟩) kn kc) rfl (Or.inl ⟨by kernel_rfl,fun X hX=>by have h0:=keepC hX HZ3.out;go_simp⟩) hS5 ?_
  refine uh 5 (.pointer (some ⟨g,1,none⟩)) hS5 ?_;refine uc 6 (nPtr q1) rfl (Or.inl ⟨by kernel_rfl,fun X hX=>by have h0:=keepC hX HZ1.out;go_simp⟩) hS5 ?_
  refine uc 7 (plV2 (.pointer oa) sb) rfl (Or.inl ⟨by kernel_rfl,fun X hX=>by have h0:=keepC hX HY0.out;have h1:=keepC hX HY1.out;go_simp⟩) hS5 ?_
  refine uh 8 (.agg #[.int .i64 0,.slice none 0 0,.bool true,.pointer none]) hS5 ?_;refine uq1 9 fun K hK=>?_;go_simp;refine cm (in_any oa sb 0 none 0 0 true none we) ?_;exact zbcx
 ):G:=h
theorem zrqeh.zrtX {G:Prop}(h:G:=by
  have HK3:=hide (keepC HB2.out HC3.out);have HE0:=hide (keepC HB2.out HD0.out);have HE1:=hide (keepC HB2.out HD1.out);obtain⟨wd,hwd⟩:∃ wd,wd=w2.drew:=⟨_,rfl⟩
  have hS0:Below w2.heap.size w2 wd:=by rw[hwd];exact(Below.refl _ _).drew
  have hsd:wd.heap.size=w2.heap.size:=by rw[hwd];rfl
  refine wp_region_U 8 (fun X=>Below w2.heap.size w2 X) (by kernel_rfl) ?_;rw[←hwd];have HSD:=hide hsd;clear hwd hsd;refine uh 0 (sPtr tb) hS0 ?_;refine uh 1 (nPtr p) hS0 ?_;refine uh 2 (nPtr p) hS0 ?_
  refine uh 3 (.pointer (some ⟨p,3,none⟩)) hS0 ?_;refine uc 4 (.slice (some ⟨g,0,none⟩) kn kc) rfl (Or.inl ⟨by kernel_rfl,fun X hX=>by have h0:=keepC hX HK3.out;go_simp⟩) hS0 ?_
  refine uh 5 (.pointer (some ⟨g,0,none⟩)) hS0 ?_;refine uc 6 (nPtr q0) rfl (Or.inl ⟨by kernel_rfl,fun X hX=>by have h0:=keepC hX HE0.out;go_simp⟩) hS0 ?_
  refine uc 7 (plV2 (.pointer oa) true) rfl (Or.inl ⟨by kernel_rfl,fun X hX=>by have h0:=keepC hX HX0.out;have h1:=keepC hX HX1.out;go_simp⟩) hS0 ?_
  refine uq1 8 fun K hK=>?_;go_simp;refine cm (unhide HT1 _ (HB2.out.trans (hS0.mono HB2.out.size))) ?_;rintro e w5 ⟨rfl,hf5,hq5⟩;refine hK.out _ _ (fun e=>by cases e) ?_;clear hK K
  refine udone (by kernel_rfl) ?_ _;have hpd:w.heap.size<wd.heap.size:=by have:=unhide HSD;omega
  have HY0:Hid (w5.cell? ⟨w.heap.size,0,none⟩=some (.pointer oa)):=(hf5.cell (Or.inr ⟨Nat.le_refl _,hpd⟩) hpd).trans (keepC hS0 HX0.out)
  have HY1:Hid (w5.cell? ⟨w.heap.size,1,none⟩=some (.bool true)):=(hf5.cell (Or.inr ⟨Nat.le_refl _,hpd⟩) hpd).trans (keepC hS0 HX1.out)
  have HZ3:Hid (w5.cell? ⟨p,3,none⟩=some (.slice (some ⟨g,0,none⟩) kn kc)):=(hf5.cell (Or.inl HIP.out) (by omega)).trans (keepC hS0 HK3.out)
  have HZ1:Hid (w5.cell? ⟨g,1,none⟩=some (nPtr q1)):=(hf5.cell (Or.inl HIG.out) (by omega)).trans (keepC hS0 HE1.out);have HQ5:=hide hq5;clear hf5 hq5 hS0 hpd HSD HX0 HX1 HK3 HE0 HE1 hs2 HB2 HP2 HW2;go_simp
  go_wp2_with fail;obtain⟨we,hwe⟩:∃ we,we=w5.drew:=⟨_,rfl⟩;have hS5:Below w5.heap.size w5 we:=by rw[hwe];exact(Below.refl _ _).drew
  refine wp_region_U 10 (fun X=>Below w5.heap.size w5 X) (by kernel_rfl) ?_;rw[←hwe];clear hwe;refine uh 0 (sPtr tb) hS5 ?_;refine uh 1 (nPtr p) hS5 ?_;refine uh 2 (nPtr p) hS5 ?_
  refine uh 3 (.pointer (some ⟨p,3,none⟩)) hS5 ?_;refine uc 4 (.slice (some ⟨g,0,none⟩) kn kc) rfl (Or.inl ⟨by kernel_rfl,fun X hX=>by have h0:=keepC hX HZ3.out;go_simp⟩) hS5 ?_
  refine uh 5 (.pointer (some ⟨g,1,none⟩)) hS5 ?_;refine uc 6 (nPtr q1) rfl (Or.inl ⟨by kernel_rfl,fun X hX=>by have h0:=keepC hX HZ1.out;go_simp⟩) hS5 ?_
  refine uc 7 (plV2 (.pointer oa) true) rfl (Or.inl ⟨by kernel_rfl,fun X hX=>by have h0:=keepC hX HY0.out;have h1:=keepC hX HY1.out;go_simp⟩) hS5 ?_
  refine uh 8 (.agg #[.int .i64 0,.slice none 0 0,.bool true,.pointer none]) hS5 ?_;refine uq1 9 fun K hK=>?_;go_simp;refine cm (in_any oa true 0 none 0 0 true none we) ?_;exact zbcx
 ):G:=h
theorem zrqei.zrlX {G:Prop}(h:G:=by
  have HK3:Hid (w2.cell? ⟨p,3,none⟩=some (.slice ka kn kc)):=keepC HB2.out HC3.out;have HK1:Hid (w2.cell? ⟨p,1,none⟩=some (.string tx)):=keepC HB2.out HC1.out
  obtain⟨wd,hwd⟩:∃ wd,wd=w2.drew:=⟨_,rfl⟩;have hS0:Below w2.heap.size w2 wd:=by rw[hwd];exact(Below.refl _ _).drew
  have hsd:wd.heap.size=w2.heap.size:=by rw[hwd];rfl
  refine wp_region_held (S:=fun X=>X=wd) (by kernel_rfl) ?_;change wpAnyH _ _ _ _ _ _ _ _ (World.drew _);rw[←hwd];have HSD:=hide hsd;have j0:=keepC hS0 HX0.out;have j1:=keepC hS0 HK1.out
  have hl0:=cell_lt j0;have hl1:=cell_lt j1;clear hwd hsd;refine wh 0 (.pointer (some ⟨w.heap.size,0,none⟩)) rfl ?_
  refine wh 1 (.pointer oa) rfl ?_ (hy:=Or.inl ⟨by kernel_rfl,fun X hX=>by cases hX;go_simp⟩)
  refine wh 2 (nPtr p) rfl ?_;refine wh 3 (nPtr p) rfl ?_;refine wh 4 (.pointer (some ⟨p,1,none⟩)) rfl ?_;refine wh 5 (.string tx) rfl ?_ (hy:=Or.inl ⟨by kernel_rfl,fun X hX=>by cases hX;go_simp⟩)
  refine wq1 6 fun K hK=>?_;go_simp;refine cm (unhide HFI _ (HB2.out.trans (hS0.mono HB2.out.size))) ?_;rintro e w3 ⟨rfl,hw3⟩;rw[hw3];refine hK.out _ _ rfl (fun _=>?_);clear hK K hw3 w3
  refine wh 7 (.tuple #[.int .i64 ow,.bool su]) rfl ?_;refine wh 8 (.int .i64 ow) rfl ?_;refine wh 9 (.bool su) rfl ?_;refine wh 10 (.int .i64 ow) rfl ?_;refine wh 11 (.bool su) rfl ?_
  refine wpAnyH_done (by kernel_rfl) ?_ _;clear j0 j1 hl0 hl1;go_simp;go_wp2_with fail;have HBD:=hide (HB2.out.trans (hS0.mono HB2.out.size))
  have hJ:TW (fun b=>I b∨(w.heap.size≤b∧b<wd.heap.size)) tb mb A L wd:=HW.out.more HBD.out;have hpJ:w.heap.size≤w.heap.size∧w.heap.size<wd.heap.size:=⟨Nat.le_refl _,by have:=unhide HSD;omega⟩
  obtain⟨v,hv,hrow,_,hvt⟩:=hJ.blk;have HX0':=hide (keepC hS0 HX0.out);have HX1':=hide (keepC hS0 HX1.out);have HK3':=hide (keepC hS0 HK3.out);have HV:=hide hv;have HROW:=hide hrow
  have HVT:=hide hvt;have HJ:=hide hJ;have HPJ:=hide hpJ;obtain⟨va,vc,rfl⟩:=srow_form hrow;clear hJ hpJ hv hrow hvt hS0 HX0 HX1 HK3 HK1 HSD HB2 HP2 hs2 HW2 hbA
  obtain⟨we,hwe⟩:∃ we,we=wd.drew:=⟨_,rfl⟩;have hE0:Below wd.heap.size wd we:=by rw[hwe];exact(Below.refl _ _).drew
  have hse:we.heap.size=wd.heap.size:=by rw[hwe];rfl
  refine wp_region_U 18 (fun X=>Fm (fun b=>(I b∨(w.heap.size≤b∧b<wd.heap.size))∨b=tb) wd X) (by kernel_rfl) ?_;rw[←hwe];have HSE:=hide hse;clear hwe hse
  have hS0:Fm (fun b=>(I b∨(w.heap.size≤b∧b<wd.heap.size))∨b=tb) wd we:=Fm.of hE0;have htl:=lt_of_heap HV.out
  have HT0:Hid (∀ X,Fm (fun b=>(I b∨(w.heap.size≤b∧b<wd.heap.size))∨b=tb) wd X→X.cell? ⟨tb,0,none⟩=some (.map (some mb))):=fun X hX=>by rw[hX.cell (Or.inr rfl) (lt_of_heap HV.out),cell_of HV.out];rfl
  have HT1:Hid (∀ X,Fm (fun b=>(I b∨(w.heap.size≤b∧b<wd.heap.size))∨b=tb) wd X→X.cell? ⟨tb,1,none⟩=some (.slice va L.length vc)):=fun X hX=>by rw[hX.cell (Or.inr rfl) (lt_of_heap HV.out),cell_of HV.out];rfl
  have HNU:Hid (∀ X,Fm (fun b=>(I b∨(w.heap.size≤b∧b<wd.heap.size))∨b=tb) wd X→(Instr.lookup 44 (.map (some mb)) (nPtr p) false).run Tryz.prog X=.ok (.int .i64 (no:Int)) X):=fun X hX=>unhide HNUM X ((Fm.of HBD.out).trans (hX.less fun b hb=>Or.inl (Or.inl hb)))
  refine uh 0 (sPtr tb) hS0 ?_;refine uh 1 (sPtr tb) hS0 ?_;refine uh 2 (sPtr tb) hS0 ?_;refine uh 3 (.pointer (some ⟨tb,1,none⟩)) hS0 ?_
  refine ug 4 (.slice va L.length vc) rfl (Or.inl ⟨by kernel_rfl,fun X hX=>by have h0:=unhide HT1 X hX;go_simp⟩) hS0 ?_
  refine uh 5 (sPtr tb) hS0 ?_;refine uh 6 (sPtr tb) hS0 ?_;refine uh 7 (.pointer (some ⟨tb,0,none⟩)) hS0 ?_
  refine ug 8 (.map (some mb)) rfl (Or.inl ⟨by kernel_rfl,fun X hX=>by have h0:=unhide HT0 X hX;go_simp⟩) hS0 ?_
  refine uh 9 (nPtr p) hS0 ?_;refine ug 10 (.int .i64 (no:Int)) rfl (Or.inl ⟨by kernel_rfl,fun X hX=>by have h0:=unhide HNU X hX;go_simp⟩) hS0 ?_
  refine uh 11 (.int .i64 ow) hS0 ?_;refine uh 12 (.bool su) hS0 ?_;refine uh 13 (.agg #[.int .i64 (no:Int),.int .i64 ow,.bool su]) hS0 ?_;refine uq1 14 fun K hK=>?_;go_simp
  have hE1:Below wd.heap.size wd (we.alloc (.cells #[.int .i64 (no:Int),.int .i64 ow,.bool su] 56)):=hE0.alloc (by have:=unhide HSE;omega) _
  refine hK.out _ _ (fun _=>Fm.of hE1) ?_;clear hK K;refine uq1 15 fun K hK=>?_
  have hrow2:(we.alloc (.cells #[.int .i64 (no:Int),.int .i64 ow,.bool su] 56)).ownsRow 0 56 3 (.slice va L.length vc) L.length (usCells L):=owns_stay (I:=fun _=>True) (fun b _ hl=>hE1.block b hl) (fun _ _=>trivial) HROW.out
  refine step_append_lies _ rfl _ _ 50 rfl 0 56 i0 (.agg #[.int .i64 0,.int .i64 0,.bool false]) 3 24 Tryz.underlying50 hi0 hz0 hz1 hz2 rfl (by decide) _ _ _ rfl hrow2 ⟨we.heap.size,0,none⟩ 1 1 (usC ((no:Int),ow,su)) rfl rfl (us_cells we no ow su 56 _ rfl) (us_one _) (by decide) (by unfold maxLen;omega) (by omega) (Nat.zero_le _) (we.heap.size+1) (by simp) ?_
  intro g4 cap4 w4 hown4 hgr4 hg4 _;obtain⟨wf,hwf⟩:∃ wf,wf=we.alloc (.cells #[.int .i64 (no:Int),.int .i64 ow,.bool su] 56):=⟨_,rfl⟩;rw[←hwf] at hE1 hrow2 hgr4
  have hsf:wf.heap.size=we.heap.size+1:=by rw[hwf];simp
  have hTf:TW (fun b=>I b∨(w.heap.size≤b∧b<wd.heap.size)) tb mb A L wf:=HJ.out.later hE1
  have hvf:wf.heap[tb]? = some (.cells #[.map (some mb),.slice va L.length vc] 108 (0,0)):=by rw[hE1.block tb htl];exact unhide HV
  have hP:=hTf.push (u:=((no:Int),ow,su)) hvf rfl (by rw[usCells_app];exact hown4) hgr4 (hg4.imp id fun e=>by omega)
  have hob:∀ b,(I b∨(w.heap.size≤b∧b<wd.heap.size))∨b=tb→b<wf.heap.size∧(Value.slice va L.length vc).ownBlock≠some b:=by
   exact zbeq
  have hS4:Fm (fun b=>(I b∨(w.heap.size≤b∧b<wd.heap.size))∨b=tb) wd w4:=(Fm.of hE1).trans ⟨hgr4.os,hgr4.tape,hgr4.output,hgr4.size,fun b hb hl=>hgr4.block b hl (fun e=>(hob b hb).2 e.symm)⟩
  have y1:=unhide HT1 w4 hS4;have htb4:w4.heap[tb]? = some (.cells #[.map (some mb),.slice va L.length vc] 108 (0,0)):=(hS4.stay tb (Or.inr rfl) htl).trans HV.out;have yf:=frozen_of htb4
  have yl:=lt_of_heap htb4;refine hK.out _ _ (fun _=>hS4) ?_;clear hK K hown4 hg4 hrow2;refine uh 16 (sPtr tb) hS4 ?_;refine uh 17 (.pointer (some ⟨tb,1,none⟩)) hS4 ?_;refine uq1 18 fun K hK=>?_;go_simp
  refine hK.out _ _ (fun e=>by cases e) ?_;clear hK K;refine udone (by kernel_rfl) ?_ _;obtain⟨w5,hw5⟩:∃ w5,w5=w4.setCell ⟨tb,1,none⟩ (.slice (some ⟨g4,0,none⟩) (L.length+1) cap4):=⟨_,rfl⟩
  rw[←hw5] at hP;obtain⟨hT5,hF5⟩:=hP
  have hF5d:Fm (fun b=>I b∨(w.heap.size≤b∧b<wd.heap.size)) wd w5:=(Fm.of hE1).trans (hF5.less fun b hb=>⟨(hob b (Or.inl hb)).1,(hTf.ne b hb).2,(hob b (Or.inl hb)).2⟩)
  have HT5:=hide (hT5.less HW.out (fun b hb=>Or.inl hb));have HF5:Hid (Fm I w w5):=(Fm.of HBD.out).trans (hF5d.less fun b hb=>Or.inl hb);have hpd:=HPJ.out.2
  have HX0:Hid (w5.cell? ⟨w.heap.size,0,none⟩=some (.pointer oa)):=(hF5d.cell (Or.inr HPJ.out) hpd).trans (unhide HX0')
  have HX1:Hid (w5.cell? ⟨w.heap.size,1,none⟩=some (.bool sb)):=(hF5d.cell (Or.inr HPJ.out) hpd).trans (unhide HX1')
  have HK3:Hid (w5.cell? ⟨p,3,none⟩=some (.slice ka kn kc)):=(hF5d.cell (Or.inl HIP.out) (by omega)).trans (unhide HK3');have HW5:=hide hw5
  clear hF5 hT5 hF5d hob hTf hvf hE1 hE0 hS0 hS4 y1 htb4 yf yl hgr4 hwf hsf htl HT0 HT1 HNU HJ HV HROW HVT hw5 hpd;go_simp;rw[←HW5.out];go_wp2_with fail
  have hS5:Below w5.heap.size w5 w5.drew:=(Below.refl _ _).drew;refine wp_region_U 6 (fun X=>Below w5.heap.size w5 X) (by kernel_rfl) ?_;refine uh 0 (sPtr tb) hS5 ?_;refine uh 1 (nPtr p) hS5 ?_
  refine uh 2 (nPtr p) hS5 ?_;refine uh 3 (.pointer (some ⟨p,3,none⟩)) hS5 ?_;refine ug 4 (.slice ka kn kc) rfl (Or.inl ⟨by kernel_rfl,fun X hX=>by have h0:=keepC hX HK3.out;go_simp⟩) hS5 ?_
  refine ug 5 (plV2 (.pointer oa) sb) rfl (Or.inl ⟨by kernel_rfl,fun X hX=>by have h0:=keepC hX HX0.out;have h1:=keepC hX HX1.out;go_simp⟩) hS5 ?_
  exact zbeg
 ):G:=h
theorem zrqei.zrtX {G:Prop}(h:G:=by
  have HK3:Hid (w2.cell? ⟨p,3,none⟩=some (.slice ka kn kc)):=keepC HB2.out HC3.out;have HK1:Hid (w2.cell? ⟨p,1,none⟩=some (.string tx)):=keepC HB2.out HC1.out
  obtain⟨wd,hwd⟩:∃ wd,wd=w2.drew:=⟨_,rfl⟩;have hS0:Below w2.heap.size w2 wd:=by rw[hwd];exact(Below.refl _ _).drew
  have hsd:wd.heap.size=w2.heap.size:=by rw[hwd];rfl
  refine wp_region_held (S:=fun X=>X=wd) (by kernel_rfl) ?_;change wpAnyH _ _ _ _ _ _ _ _ (World.drew _);rw[←hwd];have HSD:=hide hsd;have j0:=keepC hS0 HX0.out;have j1:=keepC hS0 HK1.out
  have hl0:=cell_lt j0;have hl1:=cell_lt j1;clear hwd hsd;refine wh 0 (.pointer (some ⟨w.heap.size,0,none⟩)) rfl ?_
  refine wh 1 (.pointer oa) rfl ?_ (hy:=Or.inl ⟨by kernel_rfl,fun X hX=>by cases hX;go_simp⟩)
  refine wh 2 (nPtr p) rfl ?_;refine wh 3 (nPtr p) rfl ?_;refine wh 4 (.pointer (some ⟨p,1,none⟩)) rfl ?_;refine wh 5 (.string tx) rfl ?_ (hy:=Or.inl ⟨by kernel_rfl,fun X hX=>by cases hX;go_simp⟩)
  refine wq1 6 fun K hK=>?_;go_simp;refine cm (unhide HFI _ (HB2.out.trans (hS0.mono HB2.out.size))) ?_;rintro e w3 ⟨rfl,hw3⟩;rw[hw3];refine hK.out _ _ rfl (fun _=>?_);clear hK K hw3 w3
  refine wh 7 (.tuple #[.int .i64 ow,.bool su]) rfl ?_;refine wh 8 (.int .i64 ow) rfl ?_;refine wh 9 (.bool su) rfl ?_;refine wh 10 (.int .i64 ow) rfl ?_;refine wh 11 (.bool su) rfl ?_
  refine wpAnyH_done (by kernel_rfl) ?_ _;clear j0 j1 hl0 hl1;go_simp;go_wp2_with fail;have HBD:=hide (HB2.out.trans (hS0.mono HB2.out.size))
  have hJ:TW (fun b=>I b∨(w.heap.size≤b∧b<wd.heap.size)) tb mb A L wd:=HW.out.more HBD.out;have hpJ:w.heap.size≤w.heap.size∧w.heap.size<wd.heap.size:=⟨Nat.le_refl _,by have:=unhide HSD;omega⟩
  obtain⟨v,hv,hrow,_,hvt⟩:=hJ.blk;have HX0':=hide (keepC hS0 HX0.out);have HX1':=hide (keepC hS0 HX1.out);have HK3':=hide (keepC hS0 HK3.out);have HV:=hide hv;have HROW:=hide hrow
  have HVT:=hide hvt;have HJ:=hide hJ;have HPJ:=hide hpJ;obtain⟨va,vc,rfl⟩:=srow_form hrow;clear hJ hpJ hv hrow hvt hS0 HX0 HX1 HK3 HK1 HSD HB2 HP2 hs2 HW2 hbA
  obtain⟨we,hwe⟩:∃ we,we=wd.drew:=⟨_,rfl⟩;have hE0:Below wd.heap.size wd we:=by rw[hwe];exact(Below.refl _ _).drew
  have hse:we.heap.size=wd.heap.size:=by rw[hwe];rfl
  refine wp_region_U 18 (fun X=>Fm (fun b=>(I b∨(w.heap.size≤b∧b<wd.heap.size))∨b=tb) wd X) (by kernel_rfl) ?_;rw[←hwe];have HSE:=hide hse;clear hwe hse
  have hS0:Fm (fun b=>(I b∨(w.heap.size≤b∧b<wd.heap.size))∨b=tb) wd we:=Fm.of hE0;have htl:=lt_of_heap HV.out
  have HT0:Hid (∀ X,Fm (fun b=>(I b∨(w.heap.size≤b∧b<wd.heap.size))∨b=tb) wd X→X.cell? ⟨tb,0,none⟩=some (.map (some mb))):=fun X hX=>by rw[hX.cell (Or.inr rfl) (lt_of_heap HV.out),cell_of HV.out];rfl
  have HT1:Hid (∀ X,Fm (fun b=>(I b∨(w.heap.size≤b∧b<wd.heap.size))∨b=tb) wd X→X.cell? ⟨tb,1,none⟩=some (.slice va L.length vc)):=fun X hX=>by rw[hX.cell (Or.inr rfl) (lt_of_heap HV.out),cell_of HV.out];rfl
  have HNU:Hid (∀ X,Fm (fun b=>(I b∨(w.heap.size≤b∧b<wd.heap.size))∨b=tb) wd X→(Instr.lookup 44 (.map (some mb)) (nPtr p) false).run Tryz.prog X=.ok (.int .i64 (no:Int)) X):=fun X hX=>unhide HNUM X ((Fm.of HBD.out).trans (hX.less fun b hb=>Or.inl (Or.inl hb)))
  refine uh 0 (sPtr tb) hS0 ?_;refine uh 1 (sPtr tb) hS0 ?_;refine uh 2 (sPtr tb) hS0 ?_;refine uh 3 (.pointer (some ⟨tb,1,none⟩)) hS0 ?_
  refine ug 4 (.slice va L.length vc) rfl (Or.inl ⟨by kernel_rfl,fun X hX=>by have h0:=unhide HT1 X hX;go_simp⟩) hS0 ?_
  refine uh 5 (sPtr tb) hS0 ?_;refine uh 6 (sPtr tb) hS0 ?_;refine uh 7 (.pointer (some ⟨tb,0,none⟩)) hS0 ?_
  refine ug 8 (.map (some mb)) rfl (Or.inl ⟨by kernel_rfl,fun X hX=>by have h0:=unhide HT0 X hX;go_simp⟩) hS0 ?_
  refine uh 9 (nPtr p) hS0 ?_;refine ug 10 (.int .i64 (no:Int)) rfl (Or.inl ⟨by kernel_rfl,fun X hX=>by have h0:=unhide HNU X hX;go_simp⟩) hS0 ?_
  refine uh 11 (.int .i64 ow) hS0 ?_;refine uh 12 (.bool su) hS0 ?_;refine uh 13 (.agg #[.int .i64 (no:Int),.int .i64 ow,.bool su]) hS0 ?_;refine uq1 14 fun K hK=>?_;go_simp
  have hE1:Below wd.heap.size wd (we.alloc (.cells #[.int .i64 (no:Int),.int .i64 ow,.bool su] 56)):=hE0.alloc (by have:=unhide HSE;omega) _
  refine hK.out _ _ (fun _=>Fm.of hE1) ?_;clear hK K;refine uq1 15 fun K hK=>?_
  have hrow2:(we.alloc (.cells #[.int .i64 (no:Int),.int .i64 ow,.bool su] 56)).ownsRow 0 56 3 (.slice va L.length vc) L.length (usCells L):=owns_stay (I:=fun _=>True) (fun b _ hl=>hE1.block b hl) (fun _ _=>trivial) HROW.out
  refine step_append_lies _ rfl _ _ 50 rfl 0 56 i0 (.agg #[.int .i64 0,.int .i64 0,.bool false]) 3 24 Tryz.underlying50 hi0 hz0 hz1 hz2 rfl (by decide) _ _ _ rfl hrow2 ⟨we.heap.size,0,none⟩ 1 1 (usC ((no:Int),ow,su)) rfl rfl (us_cells we no ow su 56 _ rfl) (us_one _) (by decide) (by unfold maxLen;omega) (by omega) (Nat.zero_le _) (we.heap.size+1) (by simp) ?_
  intro g4 cap4 w4 hown4 hgr4 hg4 _;obtain⟨wf,hwf⟩:∃ wf,wf=we.alloc (.cells #[.int .i64 (no:Int),.int .i64 ow,.bool su] 56):=⟨_,rfl⟩;rw[←hwf] at hE1 hrow2 hgr4
  have hsf:wf.heap.size=we.heap.size+1:=by rw[hwf];simp
  have hTf:TW (fun b=>I b∨(w.heap.size≤b∧b<wd.heap.size)) tb mb A L wf:=HJ.out.later hE1
  have hvf:wf.heap[tb]? = some (.cells #[.map (some mb),.slice va L.length vc] 108 (0,0)):=by rw[hE1.block tb htl];exact unhide HV
  have hP:=hTf.push (u:=((no:Int),ow,su)) hvf rfl (by rw[usCells_app];exact hown4) hgr4 (hg4.imp id fun e=>by omega)
  have hob:∀ b,(I b∨(w.heap.size≤b∧b<wd.heap.size))∨b=tb→b<wf.heap.size∧(Value.slice va L.length vc).ownBlock≠some b:=by
   exact zbeq
  have hS4:Fm (fun b=>(I b∨(w.heap.size≤b∧b<wd.heap.size))∨b=tb) wd w4:=(Fm.of hE1).trans ⟨hgr4.os,hgr4.tape,hgr4.output,hgr4.size,fun b hb hl=>hgr4.block b hl (fun e=>(hob b hb).2 e.symm)⟩
  have y1:=unhide HT1 w4 hS4;have htb4:w4.heap[tb]? = some (.cells #[.map (some mb),.slice va L.length vc] 108 (0,0)):=(hS4.stay tb (Or.inr rfl) htl).trans HV.out;have yf:=frozen_of htb4
  have yl:=lt_of_heap htb4;refine hK.out _ _ (fun _=>hS4) ?_;clear hK K hown4 hg4 hrow2;refine uh 16 (sPtr tb) hS4 ?_;refine uh 17 (.pointer (some ⟨tb,1,none⟩)) hS4 ?_;refine uq1 18 fun K hK=>?_;go_simp
  refine hK.out _ _ (fun e=>by cases e) ?_;clear hK K;refine udone (by kernel_rfl) ?_ _;obtain⟨w5,hw5⟩:∃ w5,w5=w4.setCell ⟨tb,1,none⟩ (.slice (some ⟨g4,0,none⟩) (L.length+1) cap4):=⟨_,rfl⟩
  rw[←hw5] at hP;obtain⟨hT5,hF5⟩:=hP
  have hF5d:Fm (fun b=>I b∨(w.heap.size≤b∧b<wd.heap.size)) wd w5:=(Fm.of hE1).trans (hF5.less fun b hb=>⟨(hob b (Or.inl hb)).1,(hTf.ne b hb).2,(hob b (Or.inl hb)).2⟩)
  have HT5:=hide (hT5.less HW.out (fun b hb=>Or.inl hb));have HF5:Hid (Fm I w w5):=(Fm.of HBD.out).trans (hF5d.less fun b hb=>Or.inl hb);have hpd:=HPJ.out.2
  have HX0:Hid (w5.cell? ⟨w.heap.size,0,none⟩=some (.pointer oa)):=(hF5d.cell (Or.inr HPJ.out) hpd).trans (unhide HX0')
  have HX1:Hid (w5.cell? ⟨w.heap.size,1,none⟩=some (.bool true)):=(hF5d.cell (Or.inr HPJ.out) hpd).trans (unhide HX1')
  have HK3:Hid (w5.cell? ⟨p,3,none⟩=some (.slice ka kn kc)):=(hF5d.cell (Or.inl HIP.out) (by omega)).trans (unhide HK3');have HW5:=hide hw5
  clear hF5 hT5 hF5d hob hTf hvf hE1 hE0 hS0 hS4 y1 htb4 yf yl hgr4 hwf hsf htl HT0 HT1 HNU HJ HV HROW HVT hw5 hpd;go_simp;rw[←HW5.out];go_wp2_with fail
  have hS5:Below w5.heap.size w5 w5.drew:=(Below.refl _ _).drew;refine wp_region_U 6 (fun X=>Below w5.heap.size w5 X) (by kernel_rfl) ?_;refine uh 0 (sPtr tb) hS5 ?_;refine uh 1 (nPtr p) hS5 ?_
  refine uh 2 (nPtr p) hS5 ?_;refine uh 3 (.pointer (some ⟨p,3,none⟩)) hS5 ?_;refine ug 4 (.slice ka kn kc) rfl (Or.inl ⟨by kernel_rfl,fun X hX=>by have h0:=keepC hX HK3.out;go_simp⟩) hS5 ?_
  refine ug 5 (plV2 (.pointer oa) true) rfl (Or.inl ⟨by kernel_rfl,fun X hX=>by have h0:=keepC hX HX0.out;have h1:=keepC hX HX1.out;go_simp⟩) hS5 ?_
  exact zbeg
 ):G:=h
theorem zrqej.zrdpX {G:Prop}(h:G:=by
  have hlk:=hnum w1 (Fm.of hb1);have cn:w.cell? ⟨nb,0,none⟩=some (.map (some mb)):=by rw[cell_of hW.num];rfl
  have hnl:=lt_of_heap hW.num;have HW:=hide hW;have HR:=hide hR;have HC1:=hide c1;have HB1:=hide hb1;rw[hw1] at hlk;have HW1:=hide hw1;clear hW hR hnum c1 hw1 hb1;go_enter Tryz.func70,Tryz.ntmps70
  go_wp2_with fail
  have HLP:Hid (Below w.heap.size w ((w.alloc (.cells #[.slice (some ⟨g,0,none⟩) ps.length cap] 114)).alloc (.cells #[.int .i64 (no:Int),.int .i64 (-1),.bool true] 57))):=((Below.refl _ _).alloc (Nat.le_refl _) _).alloc (by simp) _
  go_loopw [11] (fun i wr=>∃ (k:Nat) (su:Bool),k≤ps.length∧i=.int .i64 ((k:Int) - 1)∧wr.heap[w.heap.size+1]? = some (.cells #[.int .i64 (no:Int),.int .i64 (-1),.bool su] 57 (0,0))∧wr.heap[w.heap.size]? = some (.cells #[.slice (some ⟨g,0,none⟩) ps.length cap] 114 (0,0))∧Below w.heap.size w wr∧findS ((ps.map Prod.snd).reverse) tx true=findS (((ps.take k).map Prod.snd).reverse) tx su) (fun i _=>(intOf i+1).toNat)
  case atStart=>
   refine⟨ps.length,true,Nat.le_refl _,rfl,?_,?_,HLP.out,by rw[List.take_length]⟩
   ·have:=heap_new (w.alloc (.cells #[.slice (some ⟨g,0,none⟩) ps.length cap] 114)) (.cells #[.int .i64 (no:Int),.int .i64 (-1),.bool true] 57);simpa using this
   ·rw[Below.heap_alloc _ _ _ (by simp)];exact heap_new _ _
  case round=>
   obtain⟨k,su,hk,rfl,hu,hv,hbw,hfd⟩:=hrel;have HU:=hide hu;have HV:=hide hv;have HBW:=hide hbw;have HFD:=hide hfd;clear hu hv hbw hfd
   cases k with
   | zero=>
    have hneg:¬ (((0:Nat):Int) - 1 ≥ 0):=by omega
    obtain⟨ow,how⟩:∃ ow:Int,ow = -1:=⟨_,rfl⟩;rw[←how] at HU;have HFS:Hid (findS ((ps.map Prod.snd).reverse) tx true=(ow,su)):=by
     show _=_
     rw[HFD.out,how];rfl
    clear how;have hsw:=HBW.out.size;have HRW:Hid (RgW I nb mb ob fb A L wr):=HW.out.later HBW.out;obtain⟨ov,o1,o2,_,o4⟩:=HRW.out.out;obtain⟨oa,oc,rfl⟩:=srow_form o2;have HO1:=hide o1
    have HO2:=hide o2;have ol:=lt_of_heap o1;have oc1:wr.cell? ⟨ob,0,none⟩=some (.slice oa L.length oc):=by rw[cell_of o1];rfl
    have u0:wr.cell? ⟨w.heap.size+1,0,none⟩=some (.int .i64 (no:Int)):=by rw[cell_of HU.out];rfl
    have u1:wr.cell? ⟨w.heap.size+1,1,none⟩=some (.int .i64 ow):=by rw[cell_of HU.out];rfl
    have u2:wr.cell? ⟨w.heap.size+1,2,none⟩=some (.bool su):=by rw[cell_of HU.out];rfl
    have ul:=lt_of_heap HU.out;clear o1 o2 c0 cn hlk
    go_wp2_with (at_builtin;refine wpList_append_lies _ rfl _ _ 52 rfl 0 57 i0 (.agg #[.int .i64 0,.int .i64 0,.bool false]) 3 24 Tryz.underlying52 hi0 hz0 hz1 hz2 rfl (by decide) _ _ _ rfl (HO2.out.alloc _) ⟨wr.heap.size,0,none⟩ 1 1 (usC ((no:Int),ow,su)) rfl rfl (us_cells wr _ _ _ _ _ (by simp)) (us_one _) (by decide) (by unfold maxLen;omega) (by omega) (Nat.zero_le _) (wr.heap.size+1) (by simp) ?_)
    intro g3 cap3 w3 hown3 hgr3 hg3 _;rw[us_one_more] at hown3
    have HRA:Hid (RgW I nb mb ob fb A L (World.alloc wr (.cells #[.int .i64 (no:Int),.int .i64 ow,.bool su] 57))):=HRW.out.later ((Below.refl _ _).alloc (Nat.le_refl _) _)
    have hob:(World.alloc wr (.cells #[.int .i64 (no:Int),.int .i64 ow,.bool su] 57)).heap[ob]? = some (.cells #[.slice oa L.length oc] 52 (0,0)):=(Below.heap_alloc wr _ ob ol).trans HO1.out
    have HP:=hide (HRA.out.push hob rfl hown3 hgr3 (hg3.imp id fun e=>by rw[e];simp))
    have hob3:w3.heap[ob]? = some (.cells #[.slice oa L.length oc] 52 (0,0)):=(hgr3.block ob (by simp;omega) (fun e=>o4 e.symm)).trans hob
    have y0:w3.cell? ⟨ob,0,none⟩=some (.slice oa L.length oc):=by rw[cell_of hob3];rfl
    have yf:w3.frozen? ⟨ob,0,none⟩=false:=frozen_of hob3 0;have yl:=lt_of_heap hob3
    have HFF:Hid (Fm I w (World.alloc wr (.cells #[.int .i64 (no:Int),.int .i64 ow,.bool su] 57))):=Fm.of (HBW.out.alloc hsw _);exact zbfl
   | succ k=>
    have hkl:k<ps.length:=by omega
    have hi1:(((k+1:Nat):Int) - 1)=(k:Int):=by omega
    rw[hi1];have hge:((k:Int) ≥ 0):=by omega
    have hki:(k:Int)<(ps.length:Int):=by omega
    obtain⟨x,hxe⟩:∃ x,ps[k]=x:=⟨_,rfl⟩;have hxm:x ∈ ps:=hxe ▸ List.getElem_mem hkl;have hrr:=HR.out.later (w':=wr) (fun b _ hl=>HBW.out.block b hl);obtain⟨hrow,_,hall⟩:=hrr
    obtain⟨hsr,_,hsl⟩:=hall x hxm;have hca:=rgCells_at ps k hkl;rw[hxe] at hca;have hlen3:3 * k+2<ps.length * 3:=by omega
    rw[Nat.mul_comm 3 k] at hca hlen3;have d0:wr.cell? ⟨g,k * 3,none⟩=some (.int .i64 x.2.own):=by rw[hrow.cellAt (k * 3) (by omega)];exact hca.1
    have d1:wr.cell? ⟨g,k * 3+1,none⟩=some x.1:=by rw[hrow.cellAt (k * 3+1) (by omega)];exact hca.2.1
    have d2:wr.cell? ⟨g,k * 3+2,none⟩=some (.bool x.2.opn):=by rw[hrow.cellAt (k * 3+2) (by omega)];exact hca.2.2
    have HHAS:=hide (fun X (hX:X=wr.drew)=>rhas_any (B:=0) x.2.nms tx x.1 X (by rw[hX];exact owns_stay (w:=wr) (I:=fun _=>True) (fun _ _ _=>rfl) (fun _ _=>trivial) hsr) hsl)
    have HFD2:Hid (findS ((ps.map Prod.snd).reverse) tx true=if hasB x.2.nms tx then (x.2.own,su) else findS (((ps.take k).map Prod.snd).reverse) tx (su && !x.2.opn)):=by
     show _=_
     rw[HFD.out,List.take_succ_eq_append_getElem hkl,hxe,List.map_append];exact find_last _ _ _ _
    obtain⟨xa,xc,hx1⟩:=srow_form hsr;obtain⟨xv,xs⟩:=x;obtain⟨xo,xn,xp⟩:=xs;simp only at d0 d1 d2 HHAS HFD2 hx1;subst hx1
    have e7:wr.cell? ⟨w.heap.size,0,none⟩=some (.slice (some ⟨g,0,none⟩) ps.length cap):=by rw[cell_of HV.out];rfl
    have ep:wr.cell? ⟨p,1,none⟩=some (.string tx):=keepC HBW.out HC1.out;have hgl:=(own_lt hrow g rfl).1;have hwl:=lt_of_heap HV.out;have hpl2:=cell_lt ep;clear hrow hall hsr hca hxm hxe HFD c0 cn hlk
    go_wp2_with fail;have HD0:=hide d0;have HD2:=hide d2;obtain⟨wd,hwd⟩:∃ wd,wd=wr.drew:=⟨_,rfl⟩;have hS0:Below wr.heap.size wr wd:=by rw[hwd];exact(Below.refl _ _).drew
    have HWD:=hide hwd;have j0:=keepC hS0 e7;have j1:=keepC hS0 d1;have j2:=keepC hS0 ep;have jl0:=cell_lt j0;have jl1:=cell_lt j1;have jl2:=cell_lt j2;clear e7 d0 d1 d2 ep
    refine wp_region_held (S:=fun X=>X=wd) (by kernel_rfl) ?_;change wpAnyH _ _ _ _ _ _ _ _ (World.drew _);rw[←hwd];clear hwd
    refine wh 0 (.slice (some ⟨g,0,none⟩) ps.length cap) rfl ?_ (hy:=Or.inl ⟨by kernel_rfl,fun X hX=>by cases hX;go_simp⟩)
    refine wh 1 (.int .i64 (k:Int)) rfl ?_;refine wh 2 (.pointer (some ⟨g,k * 3,none⟩)) rfl ?_ (hy:=Or.inl ⟨by kernel_rfl,fun X hX=>by cases hX;go_simp⟩)
    refine wh 3 (.pointer (some ⟨g,k * 3+1,none⟩)) rfl ?_ (hy:=Or.inl ⟨by kernel_rfl,fun X hX=>by cases hX;go_simp⟩)
    refine wh 4 (.slice xa xn.length xc) rfl ?_ (hy:=Or.inl ⟨by kernel_rfl,fun X hX=>by cases hX;go_simp⟩)
    refine wh 5 (nPtr p) rfl ?_;refine wh 6 (nPtr p) rfl ?_;refine wh 7 (.pointer (some ⟨p,1,none⟩)) rfl ?_;refine wh 8 (.string tx) rfl ?_ (hy:=Or.inl ⟨by kernel_rfl,fun X hX=>by cases hX;go_simp⟩)
    refine wq1 9 fun K hK=>?_;go_simp;refine cm (unhide HHAS wd HWD.out) ?_;rintro e w3 ⟨rfl,hw3⟩;rw[hw3];refine hK.out _ _ rfl (fun _=>?_);clear hK K hw3 w3;refine wpAnyH_done (by kernel_rfl) ?_ _
    clear j1 j2 jl1 jl2;have HBD:Hid (Below w.heap.size w wd):=HBW.out.trans (hS0.mono HBW.out.size)
    have HUD:Hid (wd.heap[w.heap.size+1]? = some (.cells #[.int .i64 (no:Int),.int .i64 (-1),.bool su] 57 (0,0))):=by
     show _=_
     rw[hS0.block _ (lt_of_heap HU.out)];exact unhide HU
    have HVD:Hid (wd.heap[w.heap.size]? = some (.cells #[.slice (some ⟨g,0,none⟩) ps.length cap] 114 (0,0))):=by
     show _=_
     rw[hS0.block _ (lt_of_heap HV.out)];exact unhide HV
    have d0:=keepC hS0 HD0.out;have d2:=keepC hS0 HD2.out;have hul:=lt_of_heap HUD.out;have uf:=frozen_of HUD.out
    have uc1:wd.cell? ⟨w.heap.size+1,1,none⟩=some (.int .i64 (-1)):=by rw[cell_of HUD.out];rfl
    have uc2:wd.cell? ⟨w.heap.size+1,2,none⟩=some (.bool su):=by rw[cell_of HUD.out];rfl
    have gl2:=cell_lt d0;have uf1:=uf 1;have uf2:=uf 2;have HS0:=hide hS0;clear uf hS0 HD0 HD2 HHAS HU HV HBW HWD hgl hwl hpl2
    cases hh:hasB xn tx with
    | true=>
     rw[hh] at HFD2;have HH:=hide hh;clear hh;have hobl:ob<w.heap.size:=by
      obtain⟨ov,o1,_⟩:=HW.out.out;exact lt_of_heap o1
     obtain⟨wz,hwz⟩:∃ wz,wz=wd.setCell ⟨w.heap.size+1,1,none⟩ (.int .i64 xo):=⟨_,rfl⟩;have HBW:Hid (Below w.heap.size w wz):=by
      show Below _ _ _
      rw[hwz];exact HBD.out.setCell (p:=⟨w.heap.size+1,1,none⟩) (by simp) _
     have HRW:Hid (RgW I nb mb ob fb A L wz):=HW.out.later HBW.out;have hsw:=HBW.out.size;obtain⟨ov,o1,o2,_,o4⟩:=HRW.out.out;obtain⟨oa,oc,rfl⟩:=srow_form o2;have HO1:=hide o1;have HO2:=hide o2
     have ol:=lt_of_heap o1;have hne:ob≠w.heap.size+1:=by omega
     have hne2:w.heap.size+1≠ob:=by omega
     have oc1:wd.cell? ⟨ob,0,none⟩=some (.slice oa L.length oc):=by
      have h1:wz.heap[ob]? = wd.heap[ob]?:=by rw[hwz];exact ne_set hne _
      rw[h1] at o1;rw[cell_of o1];rfl
     have uc0:wd.cell? ⟨w.heap.size+1,0,none⟩=some (.int .i64 (no:Int)):=by rw[cell_of HUD.out];rfl
     have HFS:Hid (findS ((ps.map Prod.snd).reverse) tx true=(xo,su)):=unhide HFD2;rw[hwz] at HBW HRW HO1 HO2 ol hsw;clear o1 o2 hwz;go_simp
     go_wp2_with (at_builtin;refine wpList_append_lies _ rfl _ _ 52 rfl 0 57 i0 (.agg #[.int .i64 0,.int .i64 0,.bool false]) 3 24 Tryz.underlying52 hi0 hz0 hz1 hz2 rfl (by decide) _ _ _ rfl (HO2.out.alloc _) ⟨wd.heap.size,0,none⟩ 1 1 (usC ((no:Int),xo,su)) rfl rfl (us_cells (wd.setCell ⟨w.heap.size+1,1,none⟩ (.int .i64 xo)) _ _ _ _ _ (by simp)) (us_one _) (by decide) (by unfold maxLen;omega) (by omega) (Nat.zero_le _) (wd.heap.size+1) (by simp) ?_)
     intro g3 cap3 w3 hown3 hgr3 hg3 _;rw[us_one_more] at hown3
     have HRA:Hid (RgW I nb mb ob fb A L (World.alloc (wd.setCell ⟨w.heap.size+1,1,none⟩ (.int .i64 xo)) (.cells #[.int .i64 (no:Int),.int .i64 xo,.bool su] 57))):=HRW.out.later ((Below.refl _ _).alloc (Nat.le_refl _) _)
     have hob:(World.alloc (wd.setCell ⟨w.heap.size+1,1,none⟩ (.int .i64 xo)) (.cells #[.int .i64 (no:Int),.int .i64 xo,.bool su] 57)).heap[ob]? = some (.cells #[.slice oa L.length oc] 52 (0,0)):=(Below.heap_alloc (wd.setCell ⟨w.heap.size+1,1,none⟩ (.int .i64 xo)) _ ob ol).trans HO1.out
     have HP:=hide (HRA.out.push hob rfl hown3 hgr3 (hg3.imp id fun e=>by rw[e];simp))
     have hob3:w3.heap[ob]? = some (.cells #[.slice oa L.length oc] 52 (0,0)):=(hgr3.block ob (by simp;omega) (fun e=>o4 e.symm)).trans hob
     have y0:w3.cell? ⟨ob,0,none⟩=some (.slice oa L.length oc):=by rw[cell_of hob3];rfl
     have yf:w3.frozen? ⟨ob,0,none⟩=false:=frozen_of hob3 0;have yl:=lt_of_heap hob3
     have HFF:Hid (Fm I w (World.alloc (wd.setCell ⟨w.heap.size+1,1,none⟩ (.int .i64 xo)) (.cells #[.int .i64 (no:Int),.int .i64 xo,.bool su] 57))):=Fm.of (HBW.out.alloc hsw _);exact zbfl
    | false=>
     rw[hh] at HFD2;have HH:=hide hh;clear hh
     cases xp with
     | true=>
      have HZ:Hid ((wd.setCell ⟨w.heap.size+1,2,none⟩ (.bool false)).heap[w.heap.size+1]? = some (.cells #[.int .i64 (no:Int),.int .i64 (-1),.bool false] 57 (0,0))∧(wd.setCell ⟨w.heap.size+1,2,none⟩ (.bool false)).heap[w.heap.size]? = some (.cells #[.slice (some ⟨g,0,none⟩) ps.length cap] 114 (0,0))∧Below w.heap.size w (wd.setCell ⟨w.heap.size+1,2,none⟩ (.bool false))):=
       ⟨(three_set _ _ _ _ _ HUD.out).2,by rw[ne_set (by simp)];exact HVD.out,HBD.out.setCell (p:=⟨w.heap.size+1,2,none⟩) (by simp) _⟩
      have HFS:Hid (findS ((ps.map Prod.snd).reverse) tx true=findS (((ps.take k).map Prod.snd).reverse) tx false):=by
       show _=_
       rw[HFD2.out];simp
      go_simp;go_wp2_with fail
      go_roundw
      case rel=>exact⟨k,false,by omega,by go_num,HZ.out.1,HZ.out.2.1,HZ.out.2.2,HFS.out⟩
      case measure=>simp[intOf]
     | false=>
      have HFS:Hid (findS ((ps.map Prod.snd).reverse) tx true=findS (((ps.take k).map Prod.snd).reverse) tx su):=by
       show _=_
       rw[HFD2.out];simp
      go_simp;go_wp2_with fail
      go_roundw
      case rel=>exact⟨k,su,by omega,by go_num,HUD.out,HVD.out,HBD.out,HFS.out⟩
      case measure=>simp[intOf]
 ):G:=h
end Go.Proofs.YtoimgcjbcbhclaaGreatDoor
