/-
  The document's parser: what declarations ask.
-/
import Derived.Test.YtoimgcjbcbhclaaGreatDoorAo28
set_option maxRecDepth 100000
set_option maxHeartbeats 16000000
namespace Go.Proofs.YtoimgcjbcbhclaaGreatDoor
open Go.RowKit
structure Stx (c : PC) (w : World) (k : Int) (tx : ByteArray) (i : Nat) (W : World) : Prop where
 ps : Ps c W i 0 (-1)
 nd : W.heap[w.heap.size]? = some (nodeObj k tx 0 (.slice none 0 0))
 ap : Ap c.P w.heap.size w W
section
variable {c : PC} {w : World} {k : Int}
include c w k
theorem Stx.below {tx : ByteArray} {i : Nat} {W W' : World} (h : Stx c w k tx i W) (hb : Below W.heap.size W W') : Stx c w k tx i W' := ⟨h.ps.later hb, (hb.block _ (lt_of_heap h.nd)).trans h.nd, h.ap.next (Ap.of hb)⟩
theorem Stk.on {i j : Nat} {W W' : World} (h : Stk c w k i W) (hP : c.P < w.heap.size) (hp : Ps c W' j 0 (-1)) (ha : Ap c.P W.heap.size W W') : Stk c w k j W' := ⟨hp, (ha.block _ (lt_of_heap h.nd) (by omega)).trans h.nd, h.ap.next ha⟩
theorem Stx.on {tx : ByteArray} {i j : Nat} {W W' : World} (h : Stx c w k tx i W) (hP : c.P < w.heap.size) (hp : Ps c W' j 0 (-1)) (ha : Ap c.P W.heap.size W W') : Stx c w k tx j W' := ⟨hp, (ha.block _ (lt_of_heap h.nd) (by omega)).trans h.nd, h.ap.next ha⟩
theorem Stk.text {i : Nat} {W : World} (h : Stk c w k i W) (hlo : c.lo ≤ w.heap.size) (tx : ByteArray) : Stx c w k tx i (W.setCell ⟨w.heap.size, 1, none⟩ (.string tx)) :=
 ⟨h.ps.ap ((Below.refl w.heap.size W).setCell (p := ⟨w.heap.size, 1, none⟩) (Nat.le_refl _) _) hlo, by rw [heap_set h.nd]; rfl, h.ap.setCell (p := ⟨w.heap.size, 1, none⟩) (Or.inl (Nat.le_refl _)) _⟩
end
def dcs : List (ByteArray × Int) := [(tVar, 2), (tLet, 3), (tConst, 4)]
def dcK (s : ByteArray) : Int := (look2 dcs s).getD 0
section
variable (s : ByteArray)
include s
theorem dc_abc : look2 [(tVar, 2), (tLet, 3), (tConst, 4)] s = look2 dcs s := by
 exact zbbp
theorem dc_acb : look2 [(tVar, 2), (tConst, 4), (tLet, 3)] s = look2 dcs s := by
 exact zbbp
theorem dc_bac : look2 [(tLet, 3), (tVar, 2), (tConst, 4)] s = look2 dcs s := by
 exact zbbp
theorem dc_bca : look2 [(tLet, 3), (tConst, 4), (tVar, 2)] s = look2 dcs s := by
 exact zbbp
theorem dc_cab : look2 [(tConst, 4), (tVar, 2), (tLet, 3)] s = look2 dcs s := by
 exact zbbp
theorem dc_cba : look2 [(tConst, 4), (tLet, 3), (tVar, 2)] s = look2 dcs s := by
 exact zbbp
end
theorem decl_made (W : World) : ∃ ma mb mc mab mac mba mbc mca mcb mabc macb mbac mbca mcab mcba : Array MapEntry,
  (Instr.makeMap 89 none).run Tryz.prog W = .ok (.map (some W.heap.size)) (W.alloc (.map #[] 0))
  ∧ (Instr.mapUpdate 89 (.map (some W.heap.size)) (.string tVar) (.int .i64 2)).run Tryz.prog (W.alloc (.map #[] 0)) = .ok () (W.alloc (.map ma 1))
  ∧ (Instr.mapUpdate 89 (.map (some W.heap.size)) (.string tLet) (.int .i64 3)).run Tryz.prog (W.alloc (.map #[] 0)) = .ok () (W.alloc (.map mb 1))
  ∧ (Instr.mapUpdate 89 (.map (some W.heap.size)) (.string tConst) (.int .i64 4)).run Tryz.prog (W.alloc (.map #[] 0)) = .ok () (W.alloc (.map mc 1))
  ∧ (Instr.mapUpdate 89 (.map (some W.heap.size)) (.string tLet) (.int .i64 3)).run Tryz.prog (W.alloc (.map ma 1)) = .ok () (W.alloc (.map mab 2))
  ∧ (Instr.mapUpdate 89 (.map (some W.heap.size)) (.string tConst) (.int .i64 4)).run Tryz.prog (W.alloc (.map ma 1)) = .ok () (W.alloc (.map mac 2))
  ∧ (Instr.mapUpdate 89 (.map (some W.heap.size)) (.string tVar) (.int .i64 2)).run Tryz.prog (W.alloc (.map mb 1)) = .ok () (W.alloc (.map mba 2))
  ∧ (Instr.mapUpdate 89 (.map (some W.heap.size)) (.string tConst) (.int .i64 4)).run Tryz.prog (W.alloc (.map mb 1)) = .ok () (W.alloc (.map mbc 2))
  ∧ (Instr.mapUpdate 89 (.map (some W.heap.size)) (.string tVar) (.int .i64 2)).run Tryz.prog (W.alloc (.map mc 1)) = .ok () (W.alloc (.map mca 2))
  ∧ (Instr.mapUpdate 89 (.map (some W.heap.size)) (.string tLet) (.int .i64 3)).run Tryz.prog (W.alloc (.map mc 1)) = .ok () (W.alloc (.map mcb 2))
  ∧ (Instr.mapUpdate 89 (.map (some W.heap.size)) (.string tConst) (.int .i64 4)).run Tryz.prog (W.alloc (.map mab 2)) = .ok () (W.alloc (.map mabc 3))
  ∧ (Instr.mapUpdate 89 (.map (some W.heap.size)) (.string tLet) (.int .i64 3)).run Tryz.prog (W.alloc (.map mac 2)) = .ok () (W.alloc (.map macb 3))
  ∧ (Instr.mapUpdate 89 (.map (some W.heap.size)) (.string tConst) (.int .i64 4)).run Tryz.prog (W.alloc (.map mba 2)) = .ok () (W.alloc (.map mbac 3))
  ∧ (Instr.mapUpdate 89 (.map (some W.heap.size)) (.string tVar) (.int .i64 2)).run Tryz.prog (W.alloc (.map mbc 2)) = .ok () (W.alloc (.map mbca 3))
  ∧ (Instr.mapUpdate 89 (.map (some W.heap.size)) (.string tLet) (.int .i64 3)).run Tryz.prog (W.alloc (.map mca 2)) = .ok () (W.alloc (.map mcab 3))
  ∧ (Instr.mapUpdate 89 (.map (some W.heap.size)) (.string tVar) (.int .i64 2)).run Tryz.prog (W.alloc (.map mcb 2)) = .ok () (W.alloc (.map mcba 3))
  ∧ (∀ s, (Instr.lookup 89 (.map (some W.heap.size)) (.string s) false).run Tryz.prog (W.alloc (.map mabc 3)) = .ok (.int .i64 (dcK s)) (W.alloc (.map mabc 3)))
  ∧ (∀ s, (Instr.lookup 89 (.map (some W.heap.size)) (.string s) false).run Tryz.prog (W.alloc (.map macb 3)) = .ok (.int .i64 (dcK s)) (W.alloc (.map macb 3)))
  ∧ (∀ s, (Instr.lookup 89 (.map (some W.heap.size)) (.string s) false).run Tryz.prog (W.alloc (.map mbac 3)) = .ok (.int .i64 (dcK s)) (W.alloc (.map mbac 3)))
  ∧ (∀ s, (Instr.lookup 89 (.map (some W.heap.size)) (.string s) false).run Tryz.prog (W.alloc (.map mbca 3)) = .ok (.int .i64 (dcK s)) (W.alloc (.map mbca 3)))
  ∧ (∀ s, (Instr.lookup 89 (.map (some W.heap.size)) (.string s) false).run Tryz.prog (W.alloc (.map mcab 3)) = .ok (.int .i64 (dcK s)) (W.alloc (.map mcab 3)))
  ∧ (∀ s, (Instr.lookup 89 (.map (some W.heap.size)) (.string s) false).run Tryz.prog (W.alloc (.map mcba 3)) = .ok (.int .i64 (dcK s)) (W.alloc (.map mcba 3))) :=
 ⟨mapOf (numsV [(tVar, 2)]), mapOf (numsV [(tLet, 3)]), mapOf (numsV [(tConst, 4)]), mapOf (numsV [(tVar, 2), (tLet, 3)]), mapOf (numsV [(tVar, 2), (tConst, 4)]), mapOf (numsV [(tLet, 3), (tVar, 2)]), mapOf (numsV [(tLet, 3), (tConst, 4)]), mapOf (numsV [(tConst, 4), (tVar, 2)]), mapOf (numsV [(tConst, 4), (tLet, 3)]), mapOf (numsV [(tVar, 2), (tLet, 3), (tConst, 4)]), mapOf (numsV [(tVar, 2), (tConst, 4), (tLet, 3)]), mapOf (numsV [(tLet, 3), (tVar, 2), (tConst, 4)]), mapOf (numsV [(tLet, 3), (tConst, 4), (tVar, 2)]), mapOf (numsV [(tConst, 4), (tVar, 2), (tLet, 3)]), mapOf (numsV [(tConst, 4), (tLet, 3), (tVar, 2)]),
  mkMap 89 W,
  upd_last 89 3 W (numsV []) tVar _ 0 _ _ rfl rfl rfl Tryz.underlying89 (by decide +kernel),
  upd_last 89 3 W (numsV []) tLet _ 0 _ _ rfl rfl rfl Tryz.underlying89 (by decide +kernel),
  upd_last 89 3 W (numsV []) tConst _ 0 _ _ rfl rfl rfl Tryz.underlying89 (by decide +kernel),
  upd_last 89 3 W (numsV [(tVar, 2)]) tLet _ 1 _ _ rfl rfl rfl Tryz.underlying89 (by decide +kernel),
  upd_last 89 3 W (numsV [(tVar, 2)]) tConst _ 1 _ _ rfl rfl rfl Tryz.underlying89 (by decide +kernel),
  upd_last 89 3 W (numsV [(tLet, 3)]) tVar _ 1 _ _ rfl rfl rfl Tryz.underlying89 (by decide +kernel),
  upd_last 89 3 W (numsV [(tLet, 3)]) tConst _ 1 _ _ rfl rfl rfl Tryz.underlying89 (by decide +kernel),
  upd_last 89 3 W (numsV [(tConst, 4)]) tVar _ 1 _ _ rfl rfl rfl Tryz.underlying89 (by decide +kernel),
  upd_last 89 3 W (numsV [(tConst, 4)]) tLet _ 1 _ _ rfl rfl rfl Tryz.underlying89 (by decide +kernel),
  upd_last 89 3 W (numsV [(tVar, 2), (tLet, 3)]) tConst _ 2 _ _ rfl rfl rfl Tryz.underlying89 (by decide +kernel),
  upd_last 89 3 W (numsV [(tVar, 2), (tConst, 4)]) tLet _ 2 _ _ rfl rfl rfl Tryz.underlying89 (by decide +kernel),
  upd_last 89 3 W (numsV [(tLet, 3), (tVar, 2)]) tConst _ 2 _ _ rfl rfl rfl Tryz.underlying89 (by decide +kernel),
  upd_last 89 3 W (numsV [(tLet, 3), (tConst, 4)]) tVar _ 2 _ _ rfl rfl rfl Tryz.underlying89 (by decide +kernel),
  upd_last 89 3 W (numsV [(tConst, 4), (tVar, 2)]) tLet _ 2 _ _ rfl rfl rfl Tryz.underlying89 (by decide +kernel),
  upd_last 89 3 W (numsV [(tConst, 4), (tLet, 3)]) tVar _ 2 _ _ rfl rfl rfl Tryz.underlying89 (by decide +kernel),
  fun s => (look_nums W.heap.size 3 [(tVar, 2), (tLet, 3), (tConst, 4)] s _ (heap_new _ _)).trans (by rw [dc_abc s]; rfl),
  fun s => (look_nums W.heap.size 3 [(tVar, 2), (tConst, 4), (tLet, 3)] s _ (heap_new _ _)).trans (by rw [dc_acb s]; rfl),
  fun s => (look_nums W.heap.size 3 [(tLet, 3), (tVar, 2), (tConst, 4)] s _ (heap_new _ _)).trans (by rw [dc_bac s]; rfl),
  fun s => (look_nums W.heap.size 3 [(tLet, 3), (tConst, 4), (tVar, 2)] s _ (heap_new _ _)).trans (by rw [dc_bca s]; rfl),
  fun s => (look_nums W.heap.size 3 [(tConst, 4), (tVar, 2), (tLet, 3)] s _ (heap_new _ _)).trans (by rw [dc_cab s]; rfl),
  fun s => (look_nums W.heap.size 3 [(tConst, 4), (tLet, 3), (tVar, 2)] s _ (heap_new _ _)).trans (by rw [dc_cba s]; rfl)⟩
def TokS (c : PC) (w W : World) : Prop := W.heap[c.P]? = w.heap[c.P]? ∧ W.heap[c.tb]? = w.heap[c.tb]?
section
variable {c : PC} {w W : World} (h : TokS c w W)
include c w W h
theorem TokS.cell (o : Nat) : W.cell? ⟨c.P, o, none⟩ = w.cell? ⟨c.P, o, none⟩ := World.cell?_of_block (w := w) h.1
theorem TokS.tok (o : Nat) : W.cell? ⟨c.tb, o, none⟩ = w.cell? ⟨c.tb, o, none⟩ := World.cell?_of_block (w := w) h.2
theorem TokS.alloc (hp : c.P < W.heap.size) (ht : c.tb < W.heap.size) (o : Obj) : TokS c w (W.alloc o) := ⟨(Below.heap_alloc W o _ hp).trans h.1, (Below.heap_alloc W o _ ht).trans h.2⟩
theorem TokS.set {N o : Nat} {v : Value} (hp : c.P ≠ N) (ht : c.tb ≠ N) : TokS c w (W.setCell ⟨N, o, none⟩ v) := ⟨(Below.heap_setCell W ⟨N, o, none⟩ v _ hp).trans h.1, (Below.heap_setCell W ⟨N, o, none⟩ v _ ht).trans h.2⟩
end
theorem viaM {G : Array MapEntry → Prop} {goal : Prop} (h1 : (∀ m, G m) → goal) (h2 : ∀ m, G m) : goal := h1 h2
theorem Stn.decl {c : PC} {w : World} {i : Nat} {W W0 : World} (h : Stn c w i W) (hlo : c.lo ≤ w.heap.size) (h0 : W0 = W.drew) (o : Obj) (k : Int) : Stk c w k i ((W0.setCell ⟨w.heap.size, 0, none⟩ (.int .i64 k)).alloc o) := by
 subst h0
 exact ((h.below (Below.refl W.heap.size W).drew).kind hlo k).below ((Below.refl _ _).alloc (Nat.le_refl _) o)
theorem rst_decl {c : PC} {F : Fns} (hF : RCt c F) (hN : ∃ k, FNx c.l k F) (hK : FOk F) (w : World) (d i : Nat) (r : PR Tr) (hd : d ≤ 30) (tg : ByteArray) (kd : Int) (hdc : (tg = tVar ∧ kd = 2) ∨ (tg = tLet ∧ kd = 3) ∨ (tg = tConst ∧ kd = 4)) (hf : fx c.l i = tg) (hs : r = declP c.l F d i) (ho : r ≠ .out) (h : Ps c w i 0 (-1)) :
  Calls Tryz.prog 111 #[pPtr c, .int .i64 (d : Int)] w (QPost c w (NV w.heap.size) ZN r) := by
 have h9 := h
 have HLT := hide h.rlt
 have HLO := hide h.base.size
 have HO := hide ho
 have HF := hide hF
 have HNN := hide hN
 have HKK := hide hK
 have hdd : decide ((30 : Int) < (d : Int)) = false := decide_eq_false (by omega)
 have n0 : ¬ fx c.l i = tLBrace := by rw [hf]; rcases hdc with ⟨rfl, _⟩ | ⟨rfl, _⟩ | ⟨rfl, _⟩ <;> decide
 have n1 : ¬ fx c.l i = tSemi := by rw [hf]; rcases hdc with ⟨rfl, _⟩ | ⟨rfl, _⟩ | ⟨rfl, _⟩ <;> decide
 have n2 : ¬ fx c.l i = tFunction := by rw [hf]; rcases hdc with ⟨rfl, _⟩ | ⟨rfl, _⟩ | ⟨rfl, _⟩ <;> decide
 have n3 : ¬ fx c.l i = tIf := by rw [hf]; rcases hdc with ⟨rfl, _⟩ | ⟨rfl, _⟩ | ⟨rfl, _⟩ <;> decide
 have n4 : ¬ fx c.l i = tWhile := by rw [hf]; rcases hdc with ⟨rfl, _⟩ | ⟨rfl, _⟩ | ⟨rfl, _⟩ <;> decide
 have n5 : ¬ fx c.l i = tWith := by rw [hf]; rcases hdc with ⟨rfl, _⟩ | ⟨rfl, _⟩ | ⟨rfl, _⟩ <;> decide
 have n6 : ¬ fx c.l i = tTry := by rw [hf]; rcases hdc with ⟨rfl, _⟩ | ⟨rfl, _⟩ | ⟨rfl, _⟩ <;> decide
 have HQ := hide hs
 clear hs
 have HS0 := hide (Stn.new h)
 have hc := rnext_any c (w.alloc nd0) i tLBrace (by decide) HS0.out.ps
 rw [decide_eq_false n0] at hc
 have HC := hide hc
 clear hc
 clear h
 go_enter Tryz.func111, Tryz.ntmps111
 go_wp2_with fail
 refine cm HC.out ?_
 rintro e w1 ⟨rfl, hb⟩
 have HS1 := hide (HS0.out.below hb)
 clear hb HC HS0
 have HC := hide (rskip_no c w1 i tSemi (by decide) n1 HS1.out.ps)
 go_wp2_with fail
 refine cm HC.out ?_
 rintro e w2 ⟨rfl, hb⟩
 have HS2 := hide (HS1.out.below hb)
 clear hb HC HS1
 have HC := hide (rskip_no c w2 i tFunction (by decide) n2 HS2.out.ps)
 go_wp2_with fail
 refine cm HC.out ?_
 rintro e w3 ⟨rfl, hb⟩
 have HS3 := hide (HS2.out.below hb)
 clear hb HC HS2
 have HC := hide (rskip_no c w3 i tIf (by decide) n3 HS3.out.ps)
 go_wp2_with fail
 refine cm HC.out ?_
 rintro e w4 ⟨rfl, hb⟩
 have HS4 := hide (HS3.out.below hb)
 clear hb HC HS3
 have hc := rnext_any c w4 i tWhile (by decide) HS4.out.ps
 rw [decide_eq_false n4] at hc
 have HC := hide hc
 clear hc
 go_wp2_with fail
 refine cm HC.out ?_
 rintro e w5 ⟨rfl, hb⟩
 have HS5 := hide (HS4.out.below hb)
 clear hb HC HS4
 have hc := rnext_any c w5 i tWith (by decide) HS5.out.ps
 rw [decide_eq_false n5] at hc
 have HC := hide hc
 clear hc
 go_wp2_with fail
 refine cm HC.out ?_
 rintro e w6 ⟨rfl, hb⟩
 have HS6 := hide (HS5.out.below hb)
 clear hb HC HS5
 have HC := hide (rskip_no c w6 i tTry (by decide) n6 HS6.out.ps)
 go_wp2_with fail
 refine cm HC.out ?_
 rintro e w7 ⟨rfl, hb⟩
 have HS7 := hide (HS6.out.below hb)
 clear hb HC HS6
 have hkk : dcK tg = kd := by rcases hdc with ⟨rfl, rfl⟩ | ⟨rfl, rfl⟩ | ⟨rfl, rfl⟩ <;> decide +kernel
 have hHK : hdKind tg = kd := by rcases hdc with ⟨rfl, rfl⟩ | ⟨rfl, rfl⟩ | ⟨rfl, rfl⟩ <;> decide +kernel
 have htx : (tkA c.l i).tx = tg := ((fx_is (by rcases hdc with ⟨rfl, _⟩ | ⟨rfl, _⟩ | ⟨rfl, _⟩ <;> decide)).1 hf).2
 have HHL := hide (fx_lt h9.base.ends h9.lt hf (by rcases hdc with ⟨rfl, _⟩ | ⟨rfl, _⟩ | ⟨rfl, _⟩ <;> decide))
 clear h9 n0 n1 n2 n3 n4 n5 n6
 rcases hdc with ⟨h1, h2⟩ | ⟨h1, h2⟩ | ⟨h1, h2⟩
 focus
  have hc := rnext_any c w7 i tVar (by decide) HS7.out.ps; rw [decide_eq_true (hf.trans h1)] at hc; have HC := hide hc; clear hc; go_wp2_with fail; refine cm HC.out ?_; rintro e wk ⟨rfl, hb⟩
  have HSk := hide (HS7.out.below hb); clear hb HC HS7
 rotate_left
 focus
  have hc := rnext_any c w7 i tVar (by decide) HS7.out.ps; rw [decide_eq_false (by rw [hf, h1]; decide)] at hc
  have HC := hide hc; clear hc; go_wp2_with fail; refine cm HC.out ?_; rintro e w8 ⟨rfl, hb⟩; have HS8 := hide (HS7.out.below hb); clear hb HC HS7; have hc := rnext_any c w8 i tLet (by decide) HS8.out.ps
  rw [decide_eq_true (hf.trans h1)] at hc; have HC := hide hc; clear hc; go_wp2_with fail; refine cm HC.out ?_; rintro e wk ⟨rfl, hb⟩; have HSk := hide (HS8.out.below hb); clear hb HC HS8
 rotate_left
 focus
  have hc := rnext_any c w7 i tVar (by decide) HS7.out.ps; rw [decide_eq_false (by rw [hf, h1]; decide)] at hc
  have HC := hide hc; clear hc; go_wp2_with fail; refine cm HC.out ?_; rintro e w8 ⟨rfl, hb⟩; have HS8 := hide (HS7.out.below hb); clear hb HC HS7; have hc := rnext_any c w8 i tLet (by decide) HS8.out.ps
  rw [decide_eq_false (by rw [hf, h1]; decide)] at hc
  have HC := hide hc; clear hc; go_wp2_with fail; refine cm HC.out ?_; rintro e w9 ⟨rfl, hb⟩; have HS9 := hide (HS8.out.below hb); clear hb HC HS8; have hc := rnext_any c w9 i tConst (by decide) HS9.out.ps
  rw [decide_eq_true (hf.trans h1)] at hc; have HC := hide hc; clear hc; go_wp2_with fail; refine cm HC.out ?_; rintro e wk ⟨rfl, hb⟩; have HSk := hide (HS9.out.below hb); clear hb HC HS9
 rotate_left
 all_goals
  have HKD := hide h2; clear h2; clear ho hF hN hK; have nb := HSk.out.nd; obtain ⟨c0, c1, c2, c3, cf⟩ := node_cells nb; have cf0 := cf 0; have cf3 := cf 3; have hnl := lt_of_heap nb; clear nb; have x0 := HSk.out.ps.c0
  have x1 := HSk.out.ps.c1; have xf := HSk.out.ps.fz 1; have hR := HSk.out.ps.rlt; have hT := HSk.out.ps.base.tlt; obtain ⟨k0, k1, k2, k3⟩ := HSk.out.ps.toks
  have hlt : (i : Int) < (c.l.length : Int) := by have := HSk.out.ps.lt; omega
  go_wp2_with fail; obtain ⟨W0, hW0⟩ : ∃ W0, W0 = wk.drew := ⟨_, rfl⟩; have hS0 : TokS c wk W0 := by rw [hW0]; exact ⟨rfl, rfl⟩
  have hz0 : W0.heap.size = wk.heap.size := by rw [hW0]; rfl
  have y0 : W0.cell? ⟨w.heap.size, 0, none⟩ = some (.int .i64 0) := by rw [hW0]; exact c0
  have yf : W0.frozen? ⟨w.heap.size, 0, none⟩ = false := by rw [hW0]; exact cf0
  have hSA : ∀ o, TokS c wk (W0.alloc o) := fun o => hS0.alloc (by omega) (by omega) o; have hPN : c.P ≠ w.heap.size := by have := unhide HLT; omega
  have hTN : c.tb ≠ w.heap.size := by have h1 := HSk.out.ps.base.old; have h2 := unhide HLO; omega
  have hSB : ∀ o, TokS c wk ((W0.setCell ⟨w.heap.size, 0, none⟩ (.int .i64 kd)).alloc o) := fun o => (hS0.set hPN hTN).alloc (by simp; omega) (by simp; omega) o
  have hnl0 : w.heap.size < W0.heap.size := by omega
  have HST : ∀ o, Hid (Stk c w kd i ((W0.setCell ⟨w.heap.size, 0, none⟩ (.int .i64 kd)).alloc o)) := fun o => HSk.out.decl HLO.out hW0 o kd
  have HQ1 : Hid (r = (nameP c.l (i + 1)).bind fun s i1 => if kd = 4 ∧ ¬ fx c.l i1 = tEq then badF c.l 3 i1 else if fx c.l i1 = tEq then (deepP c.l F.vl d (i1 + 1)).bind fun v i2 => (mustP c.l tSemi i2).bind fun _ i3 => .ok (.mk kd s 0 [v]) i3 else (mustP c.l tSemi i1).bind fun _ i2 => .ok (.mk kd s 0 []) i2) := by
   have h1 := unhide HQ; unfold declP at h1; rw [htx, hHK] at h1; exact h1
  have HHL3 := hide HSk.out.ps.base.len; clear HQ hHK hz0 c0 c1 c2 c3 cf cf0 cf3 hf h1; have HW0 := hide hW0; clear hW0; apply viaM
  ·
   intro CONT; refine wp_region_held (S := TokS c wk) (by kernel_rfl) ?_; change wpAnyH _ _ _ _ _ _ _ _ (World.drew _); rw [← HW0.out]
   obtain ⟨ma, mb, mc, mab, mac, mba, mbc, mca, mcb, mabc, macb, mbac, mbca, mcab, mcba, e0, ea, eb, ec, eab, eac, eba, ebc, eca, ecb, eabc, eacb, ebac, ebca, ecab, ecba, labc, lacb, lbac, lbca, lcab, lcba⟩ := decl_made W0
   refine wh 0 (nPtr w.heap.size) hS0 ?_; refine wh 6 (pPtr c) hS0 ?_; refine wh 7 (pPtr c) hS0 ?_; refine wh 8 (.pointer (some ⟨c.P, 0, none⟩)) hS0 ?_
   refine wg 9 (.slice (some ⟨c.tb, 0, none⟩) c.l.length c.cap) rfl (Or.inl ⟨by kernel_rfl, fun W hW => by have hh := (TokS.cell hW 0).trans x0; go_simp⟩) hS0 ?_
   refine wh 10 (pPtr c) hS0 ?_; refine wh 11 (pPtr c) hS0 ?_; refine wh 12 (.pointer (some ⟨c.P, 1, none⟩)) hS0 ?_
   refine wg 13 (.int .i64 (i : Int)) rfl (Or.inl ⟨by kernel_rfl, fun W hW => by have hh := (TokS.cell hW 1).trans x1; go_simp⟩) hS0 ?_
   refine wh 14 (.pointer (some ⟨c.tb, i * 4, none⟩)) hS0 ?_; refine wh 15 (.pointer (some ⟨c.tb, i * 4 + 1, none⟩)) hS0 ?_
   refine wg 16 (.string tg) rfl (Or.inl ⟨by kernel_rfl, fun W hW => by have hh := (TokS.tok hW (i * 4 + 1)).trans (k1.trans (by rw [htx])); go_simp⟩) hS0 ?_
   refine wq1 1 fun K hK => ?_; go_simp; refine hK _ _ (hSA _) (fun _ => ?_); clear hK K; have e1 := labc tg; have e2 := lacb tg; have e3 := lbac tg; have e4 := lbca tg; have e5 := lcab tg; have e6 := lcba tg
   rw [hkk] at e1 e2 e3 e4 e5 e6; have z0 : ∀ m : Array MapEntry, (W0.alloc (.map m 3)).cell? ⟨w.heap.size, 0, none⟩ = some (.int .i64 0) := fun m => by rw [World.cell?_alloc_past _ _ _ hnl0]; exact y0
   have zf : ∀ m : Array MapEntry, (W0.alloc (.map m 3)).frozen? ⟨w.heap.size, 0, none⟩ = false := fun m => by rw [World.frozen?_of_block (w := W0) (Below.heap_alloc W0 _ _ hnl0)]; exact yf
   refine wpAnyH_ready (rs := [2, 3, 4]) (by kernel_rfl) (by simp) (AllReadyH.cons rfl (fun K hK => ?_) (AllReadyH.cons rfl (fun K hK => ?_) (AllReadyH.cons rfl (fun K hK => ?_) AllReadyH.nil)))
   all_goals
    go_simp; refine hK _ _ (hSA _) (fun _ => ?_); clear hK K
   refine wpAnyH_ready (rs := [3, 4]) (by kernel_rfl) (by simp) (AllReadyH.cons rfl (fun K hK => ?_) (AllReadyH.cons rfl (fun K hK => ?_) AllReadyH.nil)); rotate_left 2
   refine wpAnyH_ready (rs := [2, 4]) (by kernel_rfl) (by simp) (AllReadyH.cons rfl (fun K hK => ?_) (AllReadyH.cons rfl (fun K hK => ?_) AllReadyH.nil)); rotate_left 2
   refine wpAnyH_ready (rs := [2, 3]) (by kernel_rfl) (by simp) (AllReadyH.cons rfl (fun K hK => ?_) (AllReadyH.cons rfl (fun K hK => ?_) AllReadyH.nil)); rotate_left 2
   all_goals
    go_simp; refine hK _ _ (hSA _) (fun _ => ?_); clear hK K
   refine wq1 4 fun K hK => ?_; rotate_left; refine wq1 3 fun K hK => ?_; rotate_left; refine wq1 4 fun K hK => ?_; rotate_left; refine wq1 2 fun K hK => ?_; rotate_left; refine wq1 3 fun K hK => ?_; rotate_left
   refine wq1 2 fun K hK => ?_; rotate_left
   all_goals
     go_simp; refine hK _ _ (hSA _) (fun _ => ?_); clear hK K; refine wh 5 (.map (some W0.heap.size)) (hSA _) ?_; refine wq1 17 fun K hK => ?_; go_simp; refine hK _ _ (hSA _) (fun _ => ?_); clear hK K
     refine wh 18 (nPtr w.heap.size) (hSA _) ?_; refine wh 19 (.pointer (some ⟨w.heap.size, 0, none⟩)) (hSA _) ?_; refine wq1 20 fun K hK => ?_; go_simp; refine hK _ _ (hSB _) (fun _ => ?_); clear hK K
     refine wpAnyH_done (by kernel_rfl) ?_ _; go_simp
     first | exact CONT mabc | exact CONT macb | exact CONT mbac | exact CONT mbca | exact CONT mcab | exact CONT mcba
  ·
   intro m; obtain ⟨W1, hW1⟩ : ∃ W1, W1 = (W0.setCell ⟨w.heap.size, 0, none⟩ (.int .i64 kd)).alloc (.map m 3) := ⟨_, rfl⟩; have HK1 : Hid (Stk c w kd i W1) := by rw [hW1]; exact unhide (HST _)
   rw [← hW1]; clear hW1 HST hSA hSB hS0 x0 x1 xf hR hT k0 k1 k2 k3 y0 yf hnl0 hkk htx; have hl := unhide HHL; have hl3 := unhide HHL3; have x1 := HK1.out.ps.c1; have xf := HK1.out.ps.fz 1; have hR := HK1.out.ps.rlt
   have HK2 := hide (HK1.out.stepped HLT.out hl); have HC := hide (rident_any c _ (i + 1) HK2.out.ps); go_wp2_with fail; refine cm HC.out ?_; intro e wi hp; clear HC x1 xf hR
   cases hr : nameP c.l (i + 1) with
   | out => rw [hr] at HQ1; exact absurd HQ1.out HO.out
   | bad er pl =>
    rw [hr] at hp HQ1; have hq : r = .bad er pl := unhide HQ1; subst hq; obtain ⟨⟨v, rfl, s, rfl⟩, ⟨j, hp1⟩, he, ha⟩ := hp; have nb := (ha.block _ (lt_of_heap HK2.out.nd) (by have := unhide HLT; omega)).trans HK2.out.nd
    obtain ⟨c0, c1, c2, c3, cf⟩ := node_cells nb; have cf1 := cf 1; have hnl := lt_of_heap nb
    have hbw : Below w.heap.size wi (wi.setCell ⟨w.heap.size, 1, none⟩ (.string s)) := (Below.refl w.heap.size wi).setCell (p := ⟨w.heap.size, 1, none⟩) (Nat.le_refl _) _
    have HA := hide ((HK2.out.ap.next ha).trans (Ap.of hbw)); have HP := hide (hp1.ap hbw HLO.out)
    have nb2 : (wi.setCell ⟨w.heap.size, 1, none⟩ (.string s)).heap[w.heap.size]? = some (nodeObj kd s 0 (.slice none 0 0)) := by rw [heap_set nb]; rfl
    obtain ⟨d0, d1, d2, d3, df⟩ := node_cells nb2; have hnl2 := lt_of_heap nb2; have HC3 := hide (rok_old he HP.out); have HC4 := hide (rskip_old c _ j er pl he tEq HP.out); clear hp1 ha hr HQ1 nb nb2 hbw
    first
     | have h4 : kd = 4 := (HKD : Hid (kd = 4)).out
       subst h4; go_wp2_with fail; refine cm HC3.out ?_; rintro e wo ⟨rfl, rfl⟩; clear HC3
     | clear HC3
       have h4 := HKD.out; subst h4
    go_wp2_with fail; refine cm HC4.out ?_; rintro e wz ⟨rfl, hb⟩; have HA9 := hide (HA.out.next (Ap.of hb)); have HP9 := hide (HP.out.later hb); have HC5 := hide (rmust_old c wz j er pl he tSemi HP9.out)
    clear hb HC4 c0 c1 c2 c3 cf cf1 hnl d0 d1 d2 d3 df hnl2; go_wp2_with fail; refine cm HC5.out ?_; rintro e wy ⟨rfl, rfl⟩; clear HC5; go_wp2_with fail; go_ret; exact ⟨⟨_, rfl, _, rfl⟩, ⟨j, HP9.out⟩, he, HA9.out⟩
   | ok s j =>
    rw [hr] at hp HQ1
    have HQ2 : Hid (r = if kd = 4 ∧ ¬ fx c.l j = tEq then badF c.l 3 j else if fx c.l j = tEq then (deepP c.l F.vl d (j + 1)).bind fun v i2 => (mustP c.l tSemi i2).bind fun _ i3 => .ok (.mk kd s 0 [v]) i3 else (mustP c.l tSemi j).bind fun _ i2 => .ok (.mk kd s 0 []) i2) := unhide HQ1
    obtain ⟨⟨v, rfl, rfl⟩, hp1, ha⟩ := hp; have HK3 := hide (HK2.out.on HLT.out hp1 ha); have HX := hide (HK3.out.text HLO.out s); have nb := HK3.out.nd; obtain ⟨c0, c1, c2, c3, cf⟩ := node_cells nb; have cf1 := cf 1
    have hnl := lt_of_heap nb; obtain ⟨d0, d1, d2, d3, df⟩ := node_cells HX.out.nd; have hnl2 := lt_of_heap HX.out.nd; clear hp1 ha hr HQ1 nb HK1 HK2
    by_cases hx : fx c.l j = tEq
    ·
     rw [if_neg (fun h => h.2 hx), if_pos hx] at HQ2; have HEQ := hide hx
     first
      | have h4 : kd = 4 := (HKD : Hid (kd = 4)).out
        rw [h4] at c0 d0; have HC3 := hide (rok_new HX.out.ps); have hc := rnext_any c _ j tEq (by decide) HX.out.ps; rw [decide_eq_true hx] at hc; have HC4 := hide hc; clear hc hx; go_wp2_with fail; refine cm HC3.out ?_
        rintro e wo ⟨rfl, rfl⟩; clear HC3; go_wp2_with fail; refine cm HC4.out ?_; rintro e wn ⟨rfl, hb⟩; have HY := hide (HX.out.below hb); clear hb HC4 c0 c1 c2 c3 cf cf1 hnl d0 d1 d2 d3 df hnl2
        have HC4 := hide (rskip_yes c _ j tEq (by decide) HEQ.out HY.out.ps); go_wp2_with fail; refine cm HC4.out ?_; rintro e ws ⟨rfl, hp6, ha6⟩; have HZ := hide (HY.out.on HLT.out hp6 ha6); clear hp6 ha6 HC4 HY
      | have h4 := HKD.out
        rw [h4] at c0 d0; clear hx; have HC4 := hide (rskip_yes c _ j tEq (by decide) HEQ.out HX.out.ps); go_wp2_with fail; refine cm HC4.out ?_; rintro e ws ⟨rfl, hp6, ha6⟩; have HZ := hide (HX.out.on HLT.out hp6 ha6)
        clear hp6 ha6 HC4 c0 c1 c2 c3 cf cf1 hnl d0 d1 d2 d3 df hnl2
     cases hr : deepP c.l F.vl d (j + 1) with
     | out => rw [hr] at HQ2; exact absurd HQ2.out HO.out
     | bad er pl =>
      have HC := hide (HF.out.vl ws d (j + 1) _ hd hr.symm (by nofun) HZ.out.ps); rw [hr] at HQ2; have hq : r = .bad er pl := unhide HQ2; subst hq; clear hr HQ2; go_wp2_with fail; refine cm HC.out ?_
      rintro e wv ⟨⟨v, rfl, q, rfl⟩, ⟨j2, hp1⟩, he, ha⟩; have nb := (ha.block _ (lt_of_heap HZ.out.nd) (by have := unhide HLT; omega)).trans HZ.out.nd
      obtain ⟨c0, c1, c2, c3, cf⟩ := node_cells nb; have cf3 := cf 3; have hnl := lt_of_heap nb; have hA := HZ.out.ap.next ha
      have HB : Hid (Below w.heap.size wv ((wv.setCell ⟨w.heap.size, 3, none⟩ (.slice (some ⟨wv.heap.size, 0, none⟩) 1 1)).alloc (.cells #[nPtr q] 22))) := ((Below.refl w.heap.size wv).setCell (p := ⟨w.heap.size, 3, none⟩) (Nat.le_refl _) _).alloc (by simp; omega) _
      have HA := hide (hA.trans (Ap.of HB.out)); have HP := hide (hp1.ap HB.out HLO.out); have HC2 := hide (rmust_old c _ j2 er pl he tSemi HP.out); clear hp1 ha HC nb hA; go_wp2_with fail; refine cm HC2.out ?_
      rintro e wz ⟨rfl, rfl⟩; clear HC2; go_wp2_with fail; go_ret; exact ⟨⟨_, rfl, _, rfl⟩, ⟨j2, HP.out⟩, he, HA.out⟩
     | ok t j3 =>
      have HC := hide (HF.out.vl ws d (j + 1) _ hd hr.symm (by nofun) HZ.out.ps); rw [hr] at HQ2; have hq : r = (mustP c.l tSemi j3).bind fun _ i2 => .ok (.mk kd s 0 [t]) i2 := unhide HQ2; have HQ3 := hide hq
      clear hr HQ2 hq; go_wp2_with fail; refine cm HC.out ?_; rintro e wv ⟨⟨v, rfl, q, rfl, hn⟩, hp1, ha⟩; have nb := (ha.block _ (lt_of_heap HZ.out.nd) (by have := unhide HLT; omega)).trans HZ.out.nd
      obtain ⟨c0, c1, c2, c3, cf⟩ := node_cells nb; have cf3 := cf 3; have hnl := lt_of_heap nb; have hA := HZ.out.ap.next ha
      have HB : Hid (Below w.heap.size wv ((wv.setCell ⟨w.heap.size, 3, none⟩ (.slice (some ⟨wv.heap.size, 0, none⟩) 1 1)).alloc (.cells #[nPtr q] 22))) := ((Below.refl w.heap.size wv).setCell (p := ⟨w.heap.size, 3, none⟩) (Nat.le_refl _) _).alloc (by simp; omega) _
      have HA := hide (hA.trans (Ap.of HB.out)); have HP := hide (hp1.ap HB.out HLO.out)
      have HN : Hid (NV w.heap.size ((wv.setCell ⟨w.heap.size, 3, none⟩ (.slice (some ⟨wv.heap.size, 0, none⟩) 1 1)).alloc (.cells #[nPtr q] 22)) (.mk kd s 0 [t]) (nPtr w.heap.size)) := st_row (Nat.le_refl _) (lt_of_heap HZ.out.nd) (set1 wv w.heap.size _) (by simp) ha.size (by rw [heap_set nb]; rfl) (NAts.cons hn NAts.nil) rfl #[nPtr q] rfl (by simp [maxLen])
      have HC2 := hide (rmust_any c _ j3 tSemi (by decide) HP.out); have HQ2 := HQ3; clear hp1 ha HC nb hA hn HQ3; go_wp2_with fail; refine cm HC2.out ?_; intro e wz hp
      cases hr2 : mustP c.l tSemi j3 with
      | out => rw [hr2] at HQ2; exact absurd HQ2.out HO.out
      | bad er pl =>
       rw [hr2] at hp HQ2; have hq : r = .bad er pl := unhide HQ2; subst hq; obtain ⟨⟨v, rfl, rfl⟩, hp2, he, ha2⟩ := hp; have HP2 := hide hp2; have HA2 := hide (HA.out.next ha2); clear hp2 ha2 HC2 hr2; go_wp2_with fail
       go_ret; exact ⟨⟨_, rfl, _, rfl⟩, HP2.out, he, HA2.out⟩
      | ok x j2 =>
       rw [hr2] at hp HQ2; have hq : r = .ok (.mk kd s 0 [t]) j2 := unhide HQ2; subst hq; obtain ⟨⟨v, rfl, rfl⟩, hp2, ha2⟩ := hp; have HP2 := hide hp2; have HA2 := hide (HA.out.next ha2)
       have HN2 := hide (NV.later HN.out ha2 HLT.out); clear hp2 ha2 HC2 hr2; go_wp2_with fail; go_ret; exact ⟨⟨_, rfl, HN2.out⟩, HP2.out, HA2.out⟩
    ·
     first
      | have h4 : kd = 4 := (HKD : Hid (kd = 4)).out
        subst h4; rw [if_pos ⟨rfl, hx⟩] at HQ2; have HC3 := hide (rok_new HX.out.ps); have hc := rnext_any c _ j tEq (by decide) HX.out.ps; rw [decide_eq_false hx] at hc; have HC4 := hide hc
        have hq : r = .bad 3 (tkA c.l j).pl := unhide HQ2; subst hq; clear hc hx; go_wp2_with fail; refine cm HC3.out ?_; rintro e wo ⟨rfl, rfl⟩; clear HC3; go_wp2_with fail; refine cm HC4.out ?_; rintro e wn ⟨rfl, hb⟩
        have HY := hide (HX.out.below hb); have HC5 := hide (rfail_new c wn j 3 (by decide) HY.out.ps); clear hb HC4 c0 c1 c2 c3 cf cf1 hnl d0 d1 d2 d3 df hnl2; go_wp2_with fail; refine cm HC5.out ?_
        rintro e wq ⟨⟨v, rfl, q, rfl⟩, ⟨j2, hp2⟩, he, ha⟩; have HA := hide (HY.out.ap.next ha); have HP := hide hp2; have HC6 := hide (rskip_old c wq j2 _ _ he tEq hp2); clear hp2 ha HC5; go_wp2_with fail
        refine cm HC6.out ?_; rintro e wz ⟨rfl, hb⟩; have HA9 := hide (HA.out.next (Ap.of hb)); have HP9 := hide (HP.out.later hb); have HC7 := hide (rmust_old c wz j2 _ _ he tSemi HP9.out); clear hb HC6; go_wp2_with fail
        refine cm HC7.out ?_; rintro e wy ⟨rfl, rfl⟩; clear HC7; go_wp2_with fail; go_ret; exact ⟨⟨_, rfl, _, rfl⟩, ⟨j2, HP9.out⟩, he, HA9.out⟩
      | have h4 : ¬ kd = 4 := by have := HKD.out; omega
        rw [if_neg (fun h => h4 h.1), if_neg hx] at HQ2; have h5 := HKD.out; subst h5; have HC4 := hide (rskip_no c _ j tEq (by decide) hx HX.out.ps); clear hx; go_wp2_with fail; refine cm HC4.out ?_; rintro e wn ⟨rfl, hb⟩
        have HY := hide (HX.out.below hb); clear hb HC4 c0 c1 c2 c3 cf cf1 hnl d0 d1 d2 d3 df hnl2; have HA := hide HY.out.ap
        have HN : Hid (NV w.heap.size wn (.mk _ s 0 []) (nPtr w.heap.size)) := st_done (Nat.le_refl _) HY.out.nd owns_nil NAts.nil; have HC2 := hide (rmust_any c wn j tSemi (by decide) HY.out.ps); go_wp2_with fail
        refine cm HC2.out ?_; intro e wz hp
        cases hr2 : mustP c.l tSemi j with
        | out => rw [hr2] at HQ2; exact absurd HQ2.out HO.out
        | bad er pl =>
         rw [hr2] at hp HQ2; have hq : r = .bad er pl := unhide HQ2; subst hq; obtain ⟨⟨v, rfl, rfl⟩, hp2, he, ha2⟩ := hp; have HP2 := hide hp2; have HA2 := hide (HA.out.next ha2); clear hp2 ha2 HC2 hr2; go_wp2_with fail
         go_ret; exact ⟨⟨_, rfl, _, rfl⟩, HP2.out, he, HA2.out⟩
        | ok x j2 =>
         rw [hr2] at hp HQ2; have hq : r = .ok (.mk _ s 0 []) j2 := unhide HQ2; subst hq; obtain ⟨⟨v, rfl, rfl⟩, hp2, ha2⟩ := hp; have HP2 := hide hp2; have HA2 := hide (HA.out.next ha2)
         have HN2 := hide (NV.later HN.out ha2 HLT.out); clear hp2 ha2 HC2 hr2; go_wp2_with fail; go_ret; exact ⟨⟨_, rfl, HN2.out⟩, HP2.out, HA2.out⟩
theorem rst_try_a {c : PC} {F : Fns} (hF : RCt c F) (hN : ∃ k, FNx c.l k F) (hK : FOk F) (w : World) (d i : Nat) (r : PR Tr) (hd : d ≤ 30) (er : Int) (pl : Nat) (hf : fx c.l i = tTry) (hb0 : blockP c.l F d (i + 1) = .bad er pl) (hs : r = (blockP c.l F d (i + 1)).bind fun b i1 => (catchP c.l F d i1).bind fun cc i2 => (finallyP c.l F d i2).bind fun f i3 => if cc.length + f.length = 0 then badF c.l 3 i3 else .ok (.mk 12 noText 0 (b :: (cc ++ f))) i3) (ho : r ≠ .out) (h : Ps c w i 0 (-1)) :
  Calls Tryz.prog 111 #[pPtr c, .int .i64 (d : Int)] w (QPost c w (NV w.heap.size) ZN r) := by
 have HLT := hide h.rlt
 have HLO := hide h.base.size
 have HO := hide ho
 have HF := hide hF
 have HNN := hide hN
 have HKK := hide hK
 have hdd : decide ((30 : Int) < (d : Int)) = false := decide_eq_false (by omega)
 have n0 : ¬ fx c.l i = tLBrace := by rw [hf]; decide
 have n1 : ¬ fx c.l i = tSemi := by rw [hf]; decide
 have n2 : ¬ fx c.l i = tFunction := by rw [hf]; decide
 have n3 : ¬ fx c.l i = tIf := by rw [hf]; decide
 have n4 : ¬ fx c.l i = tWhile := by rw [hf]; decide
 have n5 : ¬ fx c.l i = tWith := by rw [hf]; decide
 have HQ := hide hs
 clear hs
 have HS0 := hide (Stn.new h)
 have hc := rnext_any c (w.alloc nd0) i tLBrace (by decide) HS0.out.ps
 rw [decide_eq_false n0] at hc
 have HC := hide hc
 clear hc
 clear h
 go_enter Tryz.func111, Tryz.ntmps111
 go_wp2_with fail
 refine cm HC.out ?_
 rintro e w1 ⟨rfl, hb⟩
 have HS1 := hide (HS0.out.below hb)
 clear hb HC HS0
 have HC := hide (rskip_no c w1 i tSemi (by decide) n1 HS1.out.ps)
 go_wp2_with fail
 refine cm HC.out ?_
 rintro e w2 ⟨rfl, hb⟩
 have HS2 := hide (HS1.out.below hb)
 clear hb HC HS1
 have HC := hide (rskip_no c w2 i tFunction (by decide) n2 HS2.out.ps)
 go_wp2_with fail
 refine cm HC.out ?_
 rintro e w3 ⟨rfl, hb⟩
 have HS3 := hide (HS2.out.below hb)
 clear hb HC HS2
 have HC := hide (rskip_no c w3 i tIf (by decide) n3 HS3.out.ps)
 go_wp2_with fail
 refine cm HC.out ?_
 rintro e w4 ⟨rfl, hb⟩
 have HS4 := hide (HS3.out.below hb)
 clear hb HC HS3
 have hc := rnext_any c w4 i tWhile (by decide) HS4.out.ps
 rw [decide_eq_false n4] at hc
 have HC := hide hc
 clear hc
 go_wp2_with fail
 refine cm HC.out ?_
 rintro e w5 ⟨rfl, hb⟩
 have HS5 := hide (HS4.out.below hb)
 clear hb HC HS4
 have hc := rnext_any c w5 i tWith (by decide) HS5.out.ps
 rw [decide_eq_false n5] at hc
 have HC := hide hc
 clear hc
 go_wp2_with fail
 refine cm HC.out ?_
 rintro e w6 ⟨rfl, hb⟩
 have HS6 := hide (HS5.out.below hb)
 clear hb HC HS5
 have HC := hide (rskip_yes c w6 i tTry (by decide) hf HS6.out.ps)
 go_wp2_with fail
 refine cm HC.out ?_
 rintro e w7 ⟨rfl, hp, ha⟩
 have HS7 := hide (HS6.out.on HLT.out hp ha)
 clear hp ha HC HS6
 clear ho hF hN hK
 obtain ⟨i0, hi0, hz0, hz1, hz2⟩ := info_parts info22
 have HK2 := hide (HS7.out.kind HLO.out 12)
 have hPN : c.P < w.heap.size := unhide HLT
 have nb := HS7.out.nd
 obtain ⟨c0, c1, c2, c3, cf⟩ := node_cells nb
 have cf0 := cf 0
 have cf3 := cf 3
 have hnl := lt_of_heap nb
 clear nb
 have hq : r = .bad er pl := by have h1 := unhide HQ; rw [hb0] at h1; exact h1
 subst hq
 clear HQ
 have HC := hide (rbraces_any HF.out HNN.out HKK.out false _ d (i + 1) _ hd hb0.symm (by nofun) HK2.out.ps)
 clear hb0
 go_wp2_with fail
 refine cm HC.out ?_
 rintro e wv ⟨⟨v, rfl, q, rfl⟩, ⟨j2, hp2⟩, he, ha2⟩
 have nb := (ha2.block _ (lt_of_heap HK2.out.nd) (by have := unhide HLT; omega)).trans HK2.out.nd
 clear c0 c1 c2 c3 cf cf0 cf3 hnl
 obtain ⟨c0, c1, c2, c3, cf⟩ := node_cells nb
 have cf3 := cf 3
 have hnl := lt_of_heap nb
 have hA := HK2.out.ap.next ha2
 have HB : Hid (Below w.heap.size wv ((wv.setCell ⟨w.heap.size, 3, none⟩ (.slice (some ⟨wv.heap.size, 0, none⟩) 1 1)).alloc (.cells #[nPtr q] 22))) := ((Below.refl w.heap.size wv).setCell (p := ⟨w.heap.size, 3, none⟩) (Nat.le_refl _) _).alloc (by simp; omega) _
 have HA := hide (hA.trans (Ap.of HB.out))
 have HP := hide (hp2.ap HB.out HLO.out)
 have HNB : Hid (((wv.setCell ⟨w.heap.size, 3, none⟩ (.slice (some ⟨wv.heap.size, 0, none⟩) 1 1)).alloc (.cells #[nPtr q] 22)).heap[w.heap.size]? = some (nodeObj 12 noText 0 (.slice (some ⟨wv.heap.size, 0, none⟩) 1 1))) := by
  show _ = _
  rw [Below.heap_alloc _ _ _ (by simp; omega), heap_set nb]
  rfl
 clear hp2 ha2 HC nb hA
 have HC3 := hide (rskip_old c _ j2 _ _ he tCatch HP.out)
 go_wp2_with fail
 refine cm HC3.out ?_
 rintro e wx ⟨rfl, hb⟩
 have HA1 := hide (HA.out.next (Ap.of hb))
 have HP1 := hide (HP.out.later hb)
 have HN1 := hide ((hb.block _ (lt_of_heap HNB.out)).trans HNB.out)
 clear hb HC3 HA HP HNB
 have HC4 := hide (rskip_old c _ j2 _ _ he tFinally HP1.out)
 clear c0 c1 c2 c3 cf cf3 hnl
 go_wp2_with fail
 refine cm HC4.out ?_
 rintro e wy ⟨rfl, hb⟩
 have HA2 := hide (HA1.out.next (Ap.of hb))
 have HP2 := hide (HP1.out.later hb)
 have nb := (hb.block _ (lt_of_heap HN1.out)).trans HN1.out
 clear hb HC4 HA1 HP1 HN1
 obtain ⟨c0, c1, c2, c3, cf⟩ := node_cells nb
 have hnl := lt_of_heap nb
 clear nb
 have HC5 := hide (rfail_old c wy j2 _ _ 3 he HP2.out)
 go_wp2_with fail
 refine cm HC5.out ?_
 rintro e wz ⟨⟨v, rfl, q2, rfl⟩, hp3, _, ha3⟩
 have HA3 := hide (HA2.out.next ha3)
 have HP3 := hide hp3
 clear hp3 ha3 HC5 c0 c1 c2 c3 cf hnl
 go_wp2_with fail
 go_ret
 exact ⟨⟨_, rfl, _, rfl⟩, HP3.out, he, HA3.out⟩
theorem rst_try_b {c : PC} {F : Fns} (hF : RCt c F) (hN : ∃ k, FNx c.l k F) (hK : FOk F) (w : World) (d i : Nat) (r : PR Tr) (hd : d ≤ 30) (b : Tr) (j : Nat) (hf : fx c.l i = tTry) (hb0 : blockP c.l F d (i + 1) = .ok b j) (hc0 : ¬ fx c.l j = tCatch) (hf0 : ¬ fx c.l j = tFinally) (hs : r = (blockP c.l F d (i + 1)).bind fun b i1 => (catchP c.l F d i1).bind fun cc i2 => (finallyP c.l F d i2).bind fun f i3 => if cc.length + f.length = 0 then badF c.l 3 i3 else .ok (.mk 12 noText 0 (b :: (cc ++ f))) i3) (ho : r ≠ .out) (h : Ps c w i 0 (-1)) :
  Calls Tryz.prog 111 #[pPtr c, .int .i64 (d : Int)] w (QPost c w (NV w.heap.size) ZN r) := by
 have HLT := hide h.rlt
 have HLO := hide h.base.size
 have HO := hide ho
 have HF := hide hF
 have HNN := hide hN
 have HKK := hide hK
 have hdd : decide ((30 : Int) < (d : Int)) = false := decide_eq_false (by omega)
 have n0 : ¬ fx c.l i = tLBrace := by rw [hf]; decide
 have n1 : ¬ fx c.l i = tSemi := by rw [hf]; decide
 have n2 : ¬ fx c.l i = tFunction := by rw [hf]; decide
 have n3 : ¬ fx c.l i = tIf := by rw [hf]; decide
 have n4 : ¬ fx c.l i = tWhile := by rw [hf]; decide
 have n5 : ¬ fx c.l i = tWith := by rw [hf]; decide
 have HQ := hide hs
 clear hs
 have HS0 := hide (Stn.new h)
 have hc := rnext_any c (w.alloc nd0) i tLBrace (by decide) HS0.out.ps
 rw [decide_eq_false n0] at hc
 have HC := hide hc
 clear hc
 clear h
 go_enter Tryz.func111, Tryz.ntmps111
 go_wp2_with fail
 refine cm HC.out ?_
 rintro e w1 ⟨rfl, hb⟩
 have HS1 := hide (HS0.out.below hb)
 clear hb HC HS0
 have HC := hide (rskip_no c w1 i tSemi (by decide) n1 HS1.out.ps)
 go_wp2_with fail
 refine cm HC.out ?_
 rintro e w2 ⟨rfl, hb⟩
 have HS2 := hide (HS1.out.below hb)
 clear hb HC HS1
 have HC := hide (rskip_no c w2 i tFunction (by decide) n2 HS2.out.ps)
 go_wp2_with fail
 refine cm HC.out ?_
 rintro e w3 ⟨rfl, hb⟩
 have HS3 := hide (HS2.out.below hb)
 clear hb HC HS2
 have HC := hide (rskip_no c w3 i tIf (by decide) n3 HS3.out.ps)
 go_wp2_with fail
 refine cm HC.out ?_
 rintro e w4 ⟨rfl, hb⟩
 have HS4 := hide (HS3.out.below hb)
 clear hb HC HS3
 have hc := rnext_any c w4 i tWhile (by decide) HS4.out.ps
 rw [decide_eq_false n4] at hc
 have HC := hide hc
 clear hc
 go_wp2_with fail
 refine cm HC.out ?_
 rintro e w5 ⟨rfl, hb⟩
 have HS5 := hide (HS4.out.below hb)
 clear hb HC HS4
 have hc := rnext_any c w5 i tWith (by decide) HS5.out.ps
 rw [decide_eq_false n5] at hc
 have HC := hide hc
 clear hc
 go_wp2_with fail
 refine cm HC.out ?_
 rintro e w6 ⟨rfl, hb⟩
 have HS6 := hide (HS5.out.below hb)
 clear hb HC HS5
 have HC := hide (rskip_yes c w6 i tTry (by decide) hf HS6.out.ps)
 go_wp2_with fail
 refine cm HC.out ?_
 rintro e w7 ⟨rfl, hp, ha⟩
 have HS7 := hide (HS6.out.on HLT.out hp ha)
 clear hp ha HC HS6
 clear ho hF hN hK
 obtain ⟨i0, hi0, hz0, hz1, hz2⟩ := info_parts info22
 have HK2 := hide (HS7.out.kind HLO.out 12)
 have hPN : c.P < w.heap.size := unhide HLT
 have nb := HS7.out.nd
 obtain ⟨c0, c1, c2, c3, cf⟩ := node_cells nb
 have cf0 := cf 0
 have cf3 := cf 3
 have hnl := lt_of_heap nb
 clear nb
 have hq : r = .bad 3 (tkA c.l j).pl := by
  have h1 := unhide HQ; rw [hb0, bind_ok] at h1; unfold catchP at h1; rw [if_neg hc0, bind_ok] at h1; unfold finallyP at h1; rw [if_neg hf0, bind_ok] at h1; exact h1
 subst hq
 clear HQ
 have HC := hide (rbraces_any HF.out HNN.out HKK.out false _ d (i + 1) _ hd hb0.symm (by nofun) HK2.out.ps)
 clear hb0
 go_wp2_with fail
 refine cm HC.out ?_
 rintro e wv ⟨⟨v, rfl, q, rfl, hn⟩, hp2, ha2⟩
 have nb := (ha2.block _ (lt_of_heap HK2.out.nd) (by have := unhide HLT; omega)).trans HK2.out.nd
 clear c0 c1 c2 c3 cf cf0 cf3 hnl
 obtain ⟨c0, c1, c2, c3, cf⟩ := node_cells nb
 have cf3 := cf 3
 have hnl := lt_of_heap nb
 have hA := HK2.out.ap.next ha2
 have HB : Hid (Below w.heap.size wv ((wv.setCell ⟨w.heap.size, 3, none⟩ (.slice (some ⟨wv.heap.size, 0, none⟩) 1 1)).alloc (.cells #[nPtr q] 22))) := ((Below.refl w.heap.size wv).setCell (p := ⟨w.heap.size, 3, none⟩) (Nat.le_refl _) _).alloc (by simp; omega) _
 have HA := hide (hA.trans (Ap.of HB.out))
 have HP := hide (hp2.ap HB.out HLO.out)
 have HOP : Hid (Open w.heap.size ((wv.setCell ⟨w.heap.size, 3, none⟩ (.slice (some ⟨wv.heap.size, 0, none⟩) 1 1)).alloc (.cells #[nPtr q] 22)) (.mk 12 noText 0 [b]) w.heap.size (.slice (some ⟨wv.heap.size, 0, none⟩) 1 1) [q]) := st_open (Nat.le_refl _) (lt_of_heap HK2.out.nd) (set1 wv w.heap.size _) (by simp) ha2.size (by rw [heap_set nb]; rfl) (NAts.cons hn NAts.nil) rfl #[nPtr q] rfl (by simp [maxLen])
 clear hp2 ha2 HC nb hA hn
 have hx := hc0
 have HC3 := hide (rskip_no c _ j tCatch (by decide) hx HP.out)
 clear hx
 go_wp2_with fail
 refine cm HC3.out ?_
 rintro e wx ⟨rfl, hb⟩
 replace HOP := hide (HOP.out.stay (Ap.of hb) HLT.out)
 replace HA := hide (HA.out.next (Ap.of hb))
 replace HP := hide (HP.out.later hb)
 clear hb HC3
 clear c0 c1 c2 c3 cf cf3 hnl
 have hx := hf0
 have HC3 := hide (rskip_no c _ j tFinally (by decide) hx HP.out)
 clear hx
 go_wp2_with fail
 refine cm HC3.out ?_
 rintro e wy ⟨rfl, hb⟩
 replace HOP := hide (HOP.out.stay (Ap.of hb) HLT.out)
 replace HA := hide (HA.out.next (Ap.of hb))
 replace HP := hide (HP.out.later hb)
 clear hb HC3
 obtain ⟨c3, cf, hnl⟩ := HOP.out.cell
 have HC5 := hide (rfail_new c wy j 3 (by decide) HP.out)
 go_wp2_with fail
 refine cm HC5.out ?_
 rintro e wz ⟨⟨v, rfl, q2, rfl⟩, hp3, he, ha3⟩
 have HA3 := hide (HA.out.next ha3)
 have HP3 := hide hp3
 clear hp3 ha3 HC5 c3 cf hnl
 go_wp2_with fail
 go_ret
 exact ⟨⟨_, rfl, _, rfl⟩, HP3.out, he, HA3.out⟩
end Go.Proofs.YtoimgcjbcbhclaaGreatDoor
