/-
  The document's parser: functions.
-/
import Derived.Test.YtoimgcjbcbhclaaGreatDoorAo18
set_option maxRecDepth 100000
set_option maxHeartbeats 16000000
namespace Go.Proofs.YtoimgcjbcbhclaaGreatDoor
open Go.RowKit
theorem rfunction_any {c : PC} {F : Fns} (hF : RCt c F) (hN : ∃ k, FNx c.l k F) (hK : FOk F) (w : World) (kd : Int) (s : ByteArray) (d i : Nat) (r : PR Tr) (hd : d ≤ 30) (hs : r = rfuncTail c.l F kd s d i) (ho : r ≠ .out) (h : Ps c w i 0 (-1)) :
  Calls Tryz.prog 189 #[pPtr c, .int .i64 kd, .string s, .int .i64 (d : Int)] w (QPost c w (NV w.heap.size) ZN r) := by
 unfold rfuncTail rparamsP at hs
 have HLT := hide h.rlt
 have hne : w.heap.size ≠ c.P := by have := h.rlt; omega
 have HBX : Hid (BoxP c w.heap.size (w.alloc (.cells #[pPtr c] 164))) := ⟨heap_new _ _, hne⟩
 have HP0 := hide (h.alloc (.cells #[pPtr c] 164))
 have HA0 := hide ((Ap.refl c.P w.heap.size w).alloc (Nat.le_refl _) (.cells #[pPtr c] 164))
 have HC1 := hide (rmust_any c _ i tOpen (by decide) HP0.out)
 have hb := HBX.out.cell
 have HS := hide hs
 have HO := hide ho
 have HF := hide hF
 have HNX := hide hN
 have HKO := hide hK
 clear h hs ho hF hN hK hne
 go_enter Tryz.func189, Tryz.ntmps189
 go_wp2_with fail
 refine cm HC1.out ?_
 intro e w1 hp
 cases hr : mustP c.l tOpen i with
 | out => rw [hr] at HS; exact absurd HS.out HO.out
 | bad er pl =>
  rw [hr] at hp HS; have hq : r = .bad er pl := unhide HS; subst hq; obtain ⟨⟨v, rfl, rfl⟩, ⟨j, hp1⟩, he, ha⟩ := hp; have HP1 := hide hp1; have HA1 := hide (HA0.out.trans (ha.mono (by simp)))
  have hb1 := (HBX.out.ap ha).cell; clear hp1 ha hr HC1 HP0 HA0 hb; have HC2 := hide (rlist_old c w1 j er pl tShut (.func (.func 253) #[] #[.pointer (some ⟨w.heap.size, 0, none⟩)]) he HP1.out); go_wp2_with fail
  refine cm HC2.out ?_; rintro e w2 ⟨rfl, rfl⟩; clear HC2; have HC3 := hide (rbraces_old c _ j er pl d true he (HP1.out.alloc (nodeObj 40 noText 0 (.slice none 0 0)))); have hwl : w.heap.size < w2.heap.size := by
   rcases Nat.lt_or_ge w.heap.size w2.heap.size with h' | h'
   ·
    exact h'
   ·
    simp [World.cell?, Array.getElem?_eq_none h'] at hb1
  go_wp2_with fail; refine cm HC3.out ?_; rintro e w3 ⟨⟨v, rfl, q, rfl⟩, ⟨j3, hp3⟩, _, ha3⟩; have HP3 := hide hp3
  have HA3 := hide ((HA1.out.alloc HA1.out.size (nodeObj 40 noText 0 (.slice none 0 0))).trans (ha3.mono (by simp; omega)))
  exact zbbm
 | ok x1 j1 =>
  rw [hr] at hp HS; obtain ⟨⟨v, rfl, rfl⟩, hp1, ha⟩ := hp; have HP1 := hide hp1; have HA1 := hide (HA0.out.trans (ha.mono (by simp))); have HBX1 := hide (HBX.out.ap ha); have hb1 := HBX1.out.cell; have hwl := HBX1.out.lt
  clear hp1 ha hr HC1 HP0 HA0 hb HBX
  cases hr2 : rlistLoop c.l tShut (paramP c.l) F.fuel [] j1 with
  | out => rw [bind_ok, hr2] at HS; exact absurd HS.out HO.out
  | bad er pl =>
   have HC2 := hide (rlist_any (param_part c w.heap.size) tShut (by decide) F.fuel w1 j1 _ hr2.symm (by nofun) HBX1.out (by omega) HP1.out); rw [bind_ok, hr2] at HS; have hq : r = .bad er pl := unhide HS; subst hq
   clear hr2; go_wp2_with fail; refine cm HC2.out ?_; rintro e w2 ⟨⟨v, rfl, a, n, k, rfl⟩, ⟨j, hp2⟩, he, ha2⟩; have HP2 := hide hp2; have HA2 := hide (HA1.out.next ha2); have hb2 := (HBX1.out.ap ha2).cell
   have hwl2 := (HBX1.out.ap ha2).lt; clear hp2 ha2 HC2 HP1 HA1; have HC3 := hide (rbraces_old c _ j er pl d true he (HP2.out.alloc (nodeObj 40 noText 0 (.slice a n k)))); go_wp2_with fail; refine cm HC3.out ?_
   rintro e w3 ⟨⟨v, rfl, q, rfl⟩, ⟨j3, hp3⟩, _, ha3⟩; have HP3 := hide hp3; have HA3 := hide ((HA2.out.alloc HA2.out.size (nodeObj 40 noText 0 (.slice a n k))).trans (ha3.mono (by simp; omega)))
   exact zbbm
  | ok ts j2 =>
   have HC2 := hide (rlist_any (param_part c w.heap.size) tShut (by decide) F.fuel w1 j1 _ hr2.symm (by nofun) HBX1.out (by omega) HP1.out); rw [bind_ok, hr2] at HS
   have hq : r = (blockP c.l F d j2).bind fun b i2 => .ok (.mk kd s 0 [.mk 40 noText 0 ts, codeT b]) i2 := unhide HS; have HQ := hide hq; clear hr2 hq HS; go_wp2_with fail; refine cm HC2.out ?_
   rintro e w2 ⟨⟨v, rfl, hkv⟩, hp2, ha2⟩; obtain ⟨a, k, rfl⟩ := hkv.shape; have HP2 := hide (hp2.alloc (nodeObj 40 noText 0 (.slice a ts.length k)))
   have HA2 := hide ((HA1.out.next ha2).alloc (HA1.out.next ha2).size (nodeObj 40 noText 0 (.slice a ts.length k))); have HNP := hide (EV.new (hkv.mono HA1.out.size) (HA1.out.next ha2).size 40 noText 0).nv
   have hb2 := (HBX1.out.ap ha2).cell; have hwl2 := (HBX1.out.ap ha2).lt; clear hp2 ha2 HC2 HP1 HA1 hkv
   cases hr3 : blockP c.l F d j2 with
   | out => rw [hr3] at HQ; exact absurd HQ.out HO.out
   | bad er pl =>
    have HC3 := hide (rbraces_any HF.out HNX.out HKO.out true _ d j2 (.bad er pl) hd (by rw [hr3]; rfl) (by nofun) HP2.out)
    rw [hr3] at HQ; have hq : r = .bad er pl := unhide HQ; subst hq; clear hr3; go_wp2_with fail; refine cm HC3.out ?_; rintro e w3 ⟨⟨v, rfl, q, rfl⟩, ⟨j3, hp3⟩, he, ha3⟩; have HP3 := hide hp3
    have HA3 := hide (HA2.out.trans (ha3.mono (by simp; omega)))
    exact zbbm
   | ok b j3 =>
    have HC3 := hide (rbraces_any HF.out HNX.out HKO.out true _ d j2 (.ok (codeT b) j3) hd (by rw [hr3]; rfl) (by nofun) HP2.out)
    rw [hr3] at HQ; have hq : r = .ok (.mk kd s 0 [.mk 40 noText 0 ts, codeT b]) j3 := unhide HQ; subst hq; clear hr3; go_wp2_with fail; refine cm HC3.out ?_; rintro e w3 ⟨⟨v, rfl, q, rfl, hn3⟩, hp3, ha3⟩
    have HP3 := hide hp3; have HA3 := hide (HA2.out.trans (ha3.mono (by simp; omega)))
    have HNP3 := hide (nats_two HNP.out ha3 HLT.out HA2.out.size hn3); clear hp3 ha3 HC3 hn3 HNP; go_wp2_with fail; go_ret
    refine ⟨⟨_, rfl, (nv_row HNP3.out HA3.out.size (by simp [maxLen]) #[nPtr w2.heap.size, nPtr q] rfl 2 rfl kd s 0 _ rfl).nv⟩, (HP3.out.alloc _).alloc _, (HA3.out.alloc HA3.out.size _).alloc (by have := HA3.out.size; simp; omega) _⟩
theorem setMap_new (W : World) (o1 o2 : Obj) : setMap (W.alloc o1) W.heap.size o2 = W.alloc o2 := by
 have h : (W.heap.push o1).setIfInBounds W.heap.size o2 = W.heap.push o2 := by
  apply Array.ext (by simp); intro k h1 h2; simp only [Array.size_setIfInBounds, Array.size_push] at h1; rw [Array.getElem_setIfInBounds (by simpa using h1)]
  by_cases hk : W.heap.size = k
  ·
   subst hk; simp
  ·
   rw [if_neg hk, Array.getElem_push_lt (by omega), Array.getElem_push_lt (by omega)]
 unfold setMap World.alloc
 simp only [h]
theorem upd_last (T E : TypeId) (W : World) (l : List (ByteArray × Value)) (s : ByteArray) (v : Value) (k : Nat) (m m' : Array MapEntry) (hk : k = l.length) (hm : m = mapOf l) (hm' : m' = mapOf (l ++ [(s, v)])) (hT : Tryz.prog.underlying T = some (.map 9 E)) (hn : l.find? (fun e => decide (s = e.1)) = none) :
  (Instr.mapUpdate T (.map (some W.heap.size)) (.string s) v).run Tryz.prog (W.alloc (.map m k)) = .ok () (W.alloc (.map m' (k + 1))) := by
 subst hk hm hm'
 rw [update_new T E W.heap.size l s v _ hT (heap_new _ _) hn, setMap_new]
theorem lookup_map1 (T E : TypeId) (m k : Nat) (l : List (ByteArray × Value)) (s : ByteArray) (z : Value) (W : World) (hT : Tryz.prog.underlying T = some (.map 9 E)) (hm : W.heap[m]? = some (.map (mapOf l) k)) (hz : (zeroValue E).run Tryz.prog W = .ok z W) :
  (Instr.lookup T (.map (some m)) (.string s) false).run Tryz.prog W = .ok (((l.find? (fun e => decide (s = e.1))).map (·.2)).getD z) W := by
 exact zbbo
def numsV (l : List (ByteArray × Int)) : List (ByteArray × Value) := l.map fun e => (e.1, .int .i64 e.2)
theorem look_nums (g k : Nat) (l : List (ByteArray × Int)) (s : ByteArray) (W : World) (hm : W.heap[g]? = some (.map (mapOf (numsV l)) k)) :
  (Instr.lookup 89 (.map (some g)) (.string s) false).run Tryz.prog W = .ok (.int .i64 ((look2 l s).getD 0)) W := by
 rw [lookup_map1 89 3 g k _ s (.int .i64 0) W Tryz.underlying89 hm (by kernel_rfl)]
 unfold numsV look2
 rw [List.find?_map]
 simp only [Function.comp_def]
 cases l.find? (fun e => decide (s = e.1)) <;> rfl
theorem lits_made (W : World) : ∃ m1 m2 m3 m4 : Array MapEntry,
  (Instr.makeMap 89 none).run Tryz.prog W = .ok (.map (some W.heap.size)) (W.alloc (.map #[] 0))
  ∧ (Instr.mapUpdate 89 (.map (some W.heap.size)) (.string tTrue) (.int .i64 19)).run Tryz.prog (W.alloc (.map #[] 0)) = .ok () (W.alloc (.map m1 1))
  ∧ (Instr.mapUpdate 89 (.map (some W.heap.size)) (.string tFalse) (.int .i64 20)).run Tryz.prog (W.alloc (.map m1 1)) = .ok () (W.alloc (.map m2 2))
  ∧ (Instr.mapUpdate 89 (.map (some W.heap.size)) (.string tNull) (.int .i64 21)).run Tryz.prog (W.alloc (.map m2 2)) = .ok () (W.alloc (.map m3 3))
  ∧ (Instr.mapUpdate 89 (.map (some W.heap.size)) (.string tUndef) (.int .i64 22)).run Tryz.prog (W.alloc (.map m3 3)) = .ok () (W.alloc (.map m4 4))
  ∧ ∀ s, (Instr.lookup 89 (.map (some W.heap.size)) (.string s) false).run Tryz.prog (W.alloc (.map m4 4)) = .ok (.int .i64 (litK s)) (W.alloc (.map m4 4)) := by
 refine ⟨mapOf (numsV (lits.take 1)), mapOf (numsV (lits.take 2)), mapOf (numsV (lits.take 3)), mapOf (numsV lits), mkMap 89 W, ?_, ?_, ?_, ?_, ?_⟩
 ·
  exact upd_last 89 3 W [] tTrue _ 0 _ _ rfl rfl rfl Tryz.underlying89 rfl
 ·
  exact upd_last 89 3 W (numsV (lits.take 1)) tFalse _ 1 _ _ rfl rfl rfl Tryz.underlying89 (by decide +kernel)
 ·
  exact upd_last 89 3 W (numsV (lits.take 2)) tNull _ 2 _ _ rfl rfl rfl Tryz.underlying89 (by decide +kernel)
 ·
  exact upd_last 89 3 W (numsV (lits.take 3)) tUndef _ 3 _ _ rfl rfl rfl Tryz.underlying89 (by decide +kernel)
 ·
  intro s; exact look_nums W.heap.size 4 lits s _ (heap_new _ _)
theorem ops_made (W : World) : ∃ m1 m2 m3 m4 m5 m6 m7 : Array MapEntry,
  (Instr.makeMap 89 none).run Tryz.prog W = .ok (.map (some W.heap.size)) (W.alloc (.map #[] 0))
  ∧ (Instr.mapUpdate 89 (.map (some W.heap.size)) (.string tOr) (.int .i64 25)).run Tryz.prog (W.alloc (.map #[] 0)) = .ok () (W.alloc (.map m1 1))
  ∧ (Instr.mapUpdate 89 (.map (some W.heap.size)) (.string tAnd) (.int .i64 26)).run Tryz.prog (W.alloc (.map m1 1)) = .ok () (W.alloc (.map m2 2))
  ∧ (Instr.mapUpdate 89 (.map (some W.heap.size)) (.string tSame) (.int .i64 27)).run Tryz.prog (W.alloc (.map m2 2)) = .ok () (W.alloc (.map m3 3))
  ∧ (Instr.mapUpdate 89 (.map (some W.heap.size)) (.string tLess) (.int .i64 28)).run Tryz.prog (W.alloc (.map m3 3)) = .ok () (W.alloc (.map m4 4))
  ∧ (Instr.mapUpdate 89 (.map (some W.heap.size)) (.string tAdd) (.int .i64 29)).run Tryz.prog (W.alloc (.map m4 4)) = .ok () (W.alloc (.map m5 5))
  ∧ (Instr.mapUpdate 89 (.map (some W.heap.size)) (.string tSub) (.int .i64 30)).run Tryz.prog (W.alloc (.map m5 5)) = .ok () (W.alloc (.map m6 6))
  ∧ (Instr.mapUpdate 89 (.map (some W.heap.size)) (.string tMul) (.int .i64 31)).run Tryz.prog (W.alloc (.map m6 6)) = .ok () (W.alloc (.map m7 7))
  ∧ ∀ s, (Instr.lookup 89 (.map (some W.heap.size)) (.string s) false).run Tryz.prog (W.alloc (.map m7 7)) = .ok (.int .i64 (opK s)) (W.alloc (.map m7 7)) := by
 refine ⟨mapOf (numsV (ops.take 1)), mapOf (numsV (ops.take 2)), mapOf (numsV (ops.take 3)), mapOf (numsV (ops.take 4)), mapOf (numsV (ops.take 5)), mapOf (numsV (ops.take 6)), mapOf (numsV ops), mkMap 89 W, ?_, ?_, ?_, ?_, ?_, ?_, ?_, ?_⟩
 ·
  exact upd_last 89 3 W [] tOr _ 0 _ _ rfl rfl rfl Tryz.underlying89 rfl
 ·
  exact upd_last 89 3 W (numsV (ops.take 1)) tAnd _ 1 _ _ rfl rfl rfl Tryz.underlying89 (by decide +kernel)
 ·
  exact upd_last 89 3 W (numsV (ops.take 2)) tSame _ 2 _ _ rfl rfl rfl Tryz.underlying89 (by decide +kernel)
 ·
  exact upd_last 89 3 W (numsV (ops.take 3)) tLess _ 3 _ _ rfl rfl rfl Tryz.underlying89 (by decide +kernel)
 ·
  exact upd_last 89 3 W (numsV (ops.take 4)) tAdd _ 4 _ _ rfl rfl rfl Tryz.underlying89 (by decide +kernel)
 ·
  exact upd_last 89 3 W (numsV (ops.take 5)) tSub _ 5 _ _ rfl rfl rfl Tryz.underlying89 (by decide +kernel)
 ·
  exact upd_last 89 3 W (numsV (ops.take 6)) tMul _ 6 _ _ rfl rfl rfl Tryz.underlying89 (by decide +kernel)
 ·
  intro s; exact look_nums W.heap.size 7 ops s _ (heap_new _ _)
abbrev boxA (c : PC) : Obj := .cells #[pPtr c] 164
abbrev boxB (d : Nat) : Obj := .cells #[.int .i64 (d : Int)] 3
abbrev tokO (t : Tk) : Obj := .cells #[.int .i64 t.kd, .string t.tx, .int .i64 t.n, .int .i64 (t.pl : Int)] 167
theorem new_obj {w : World} {o : Obj} {g : Nat} (hg : g = w.heap.size) : (w.alloc o).heap[g]? = some o := by subst hg; exact heap_new _ _
theorem nv_leaf2 {B : Nat} {w : World} (hB : B ≤ w.heap.size) (kd : Int) (tx : ByteArray) (z : Int) (q : Nat) (hq : q = w.heap.size) : NV B (w.alloc (nodeObj kd tx z (.slice none 0 0))) (.mk kd tx z []) (nPtr q) := by subst hq; exact nv_leaf hB kd tx z
section
variable (c : PC) (w : World) (d : Nat) (o : Obj)
include c w d o
theorem box2_new (hP : c.P < w.heap.size) : Box2 c w.heap.size (w.heap.size + 1) d (((w.alloc (boxA c)).alloc (boxB d)).alloc o).drew := by
 refine ⟨⟨?_, by omega⟩, ⟨?_, by omega⟩⟩
 ·
  show (((w.alloc (boxA c)).alloc (boxB d)).alloc o).heap[w.heap.size]? = _
  rw [Below.heap_alloc _ _ _ (by simp; omega), Below.heap_alloc _ _ _ (by simp)]
  exact heap_new _ _
 ·
  show (((w.alloc (boxA c)).alloc (boxB d)).alloc o).heap[w.heap.size + 1]? = _
  rw [Below.heap_alloc _ _ _ (by simp)]; exact new_obj (by simp)
theorem fst_ap : Ap c.P w.heap.size w (((w.alloc (boxA c)).alloc (boxB d)).alloc o).drew :=
 ((((Ap.refl c.P w.heap.size w).alloc (Nat.le_refl _) _).alloc (by simp) _).alloc (by simp; omega) _).drew
end
section
variable {c : PC} (w : World) (d i : Nat)
include c w d i
theorem rfirst_name (hk : (tkA c.l i).kd = 1) (h : Ps c w i 0 (-1)) :
  Calls Tryz.prog 297 #[pPtr c, .int .i64 (d : Int)] w (QPost c w (NV w.heap.size) ZN (.ok (.mk 23 (tkA c.l i).tx 0 []) (i + 1))) := by
 have hl : i + 1 < c.l.length := next_lt h.base.ends h.lt (by rw [hk]; decide)
 have HPW := hide h
 have HLT := hide h.rlt
 have h0 := h.c0
 have h1 := h.c1
 have f1 := h.fz 1
 obtain ⟨k0, k1, k2, k3⟩ := h.toks
 have hlt : (i : Int) < (c.l.length : Int) := by have := h.lt; omega
 have hl3 := h.base.len
 have hR := h.rlt
 have hT := h.base.tlt
 have hR1 : c.P < w.heap.size + 1 := by omega
 have hR2 : c.P < w.heap.size + 1 + 1 := by omega
 have hT1 : c.tb < w.heap.size + 1 := by omega
 have hT2 : c.tb < w.heap.size + 1 + 1 := by omega
 have HC1 := hide (rok_new ((h.alloc (boxA c)).alloc (boxB d)))
 have b1 : ((tkA c.l i).kd == 1) = true := beq_iff_eq.2 hk
 clear h hk
 generalize tkA c.l i = t at *
 go_enter Tryz.func297, Tryz.ntmps297
 go_wp2_with fail
 refine cm HC1.out ?_
 rintro e w1 ⟨rfl, rfl⟩
 clear HC1
 go_wp2_with fail
 go_region
 go_wp2_with fail
 go_ret
 have hn : ((i : Int) + 1) = (((i + 1 : Nat)) : Int) := by omega
 rw [hn]
 refine ⟨⟨_, rfl, nv_leaf2 (by simp; omega) 23 t.tx 0 _ (by simp)⟩, ?_, ?_⟩
 ·
  exact zbfp
 ·
  exact zbcy
theorem rfirst_num (hk : (tkA c.l i).kd = 3) (h : Ps c w i 0 (-1)) :
  Calls Tryz.prog 297 #[pPtr c, .int .i64 (d : Int)] w (QPost c w (NV w.heap.size) ZN (.ok (.mk 17 noText (tkA c.l i).n []) (i + 1))) := by
 have hl : i + 1 < c.l.length := next_lt h.base.ends h.lt (by rw [hk]; decide)
 have HPW := hide h
 have HLT := hide h.rlt
 have h0 := h.c0
 have h1 := h.c1
 have f1 := h.fz 1
 obtain ⟨k0, k1, k2, k3⟩ := h.toks
 have hlt : (i : Int) < (c.l.length : Int) := by have := h.lt; omega
 have hl3 := h.base.len
 have hR := h.rlt
 have hT := h.base.tlt
 have hR1 : c.P < w.heap.size + 1 := by omega
 have hR2 : c.P < w.heap.size + 1 + 1 := by omega
 have hT1 : c.tb < w.heap.size + 1 := by omega
 have hT2 : c.tb < w.heap.size + 1 + 1 := by omega
 have HC1 := hide (rok_new ((h.alloc (boxA c)).alloc (boxB d)))
 have b1 : ((tkA c.l i).kd == 1) = false := by rw [hk]; rfl
 have b3 : ((tkA c.l i).kd == 3) = true := beq_iff_eq.2 hk
 clear h hk
 generalize tkA c.l i = t at *
 go_enter Tryz.func297, Tryz.ntmps297
 go_wp2_with fail
 refine cm HC1.out ?_
 rintro e w1 ⟨rfl, rfl⟩
 clear HC1
 go_wp2_with fail
 go_region
 go_wp2_with fail
 go_ret
 have hn : ((i : Int) + 1) = (((i + 1 : Nat)) : Int) := by omega
 rw [hn]
 refine ⟨⟨_, rfl, nv_leaf2 (by simp; omega) 17 noText t.n _ (by simp)⟩, ?_, ?_⟩
 ·
  exact zbfp
 ·
  exact zbcy
theorem rfirst_str (hk : (tkA c.l i).kd = 4) (h : Ps c w i 0 (-1)) :
  Calls Tryz.prog 297 #[pPtr c, .int .i64 (d : Int)] w (QPost c w (NV w.heap.size) ZN (.ok (.mk 18 (tkA c.l i).tx 0 []) (i + 1))) := by
 have hl : i + 1 < c.l.length := next_lt h.base.ends h.lt (by rw [hk]; decide)
 have HPW := hide h
 have HLT := hide h.rlt
 have h0 := h.c0
 have h1 := h.c1
 have f1 := h.fz 1
 obtain ⟨k0, k1, k2, k3⟩ := h.toks
 have hlt : (i : Int) < (c.l.length : Int) := by have := h.lt; omega
 have hl3 := h.base.len
 have hR := h.rlt
 have hT := h.base.tlt
 have hR1 : c.P < w.heap.size + 1 := by omega
 have hR2 : c.P < w.heap.size + 1 + 1 := by omega
 have hT1 : c.tb < w.heap.size + 1 := by omega
 have hT2 : c.tb < w.heap.size + 1 + 1 := by omega
 have HC1 := hide (rok_new ((h.alloc (boxA c)).alloc (boxB d)))
 have b1 : ((tkA c.l i).kd == 1) = false := by rw [hk]; rfl
 have b3 : ((tkA c.l i).kd == 3) = false := by rw [hk]; rfl
 have b4 : ((tkA c.l i).kd == 4) = true := beq_iff_eq.2 hk
 clear h hk
 generalize tkA c.l i = t at *
 go_enter Tryz.func297, Tryz.ntmps297
 go_wp2_with fail
 refine cm HC1.out ?_
 rintro e w1 ⟨rfl, rfl⟩
 clear HC1
 go_wp2_with fail
 go_region
 go_wp2_with fail
 go_ret
 have hn : ((i : Int) + 1) = (((i + 1 : Nat)) : Int) := by omega
 rw [hn]
 refine ⟨⟨_, rfl, nv_leaf2 (by simp; omega) 18 t.tx 0 _ (by simp)⟩, ?_, ?_⟩
 ·
  exact zbfp
 ·
  exact zbcy
end
section
variable {c : PC} {F : Fns} (hF : RCt c F)
include c F hF
theorem rfirst_par (w : World) (d i : Nat) (r : PR Tr) (hd : d ≤ 30) (hn1 : (tkA c.l i).kd ≠ 1) (hn3 : (tkA c.l i).kd ≠ 3) (hn4 : (tkA c.l i).kd ≠ 4) (hf : fx c.l i = tOpen) (hs : r = inParP c.l F d i) (ho : r ≠ .out) (h : Ps c w i 0 (-1)) :
  Calls Tryz.prog 297 #[pPtr c, .int .i64 (d : Int)] w (QPost c w (NV w.heap.size) ZN r) := by
 have HPW := hide h
 have HLT := hide h.rlt
 have h0 := h.c0
 have h1 := h.c1
 have f1 := h.fz 1
 obtain ⟨k0, k1, k2, k3⟩ := h.toks
 have hlt : (i : Int) < (c.l.length : Int) := by have := h.lt; omega
 have hl3 := h.base.len
 have hR := h.rlt
 have hT := h.base.tlt
 have hR1 : c.P < w.heap.size + 1 := by omega
 have hR2 : c.P < w.heap.size + 1 + 1 := by omega
 have hT1 : c.tb < w.heap.size + 1 := by omega
 have hT2 : c.tb < w.heap.size + 1 + 1 := by omega
 have HC1 := hide (rok_new ((h.alloc (boxA c)).alloc (boxB d)))
 have b1 : ((tkA c.l i).kd == 1) = false := beq_eq_false_iff_ne.2 hn1
 have b3 : ((tkA c.l i).kd == 3) = false := beq_eq_false_iff_ne.2 hn3
 have b4 : ((tkA c.l i).kd == 4) = false := beq_eq_false_iff_ne.2 hn4
 have hx := rnext_any c (((w.alloc (boxA c)).alloc (boxB d)).alloc (tokO (tkA c.l i))).drew i tOpen (by decide) ((((h.alloc (boxA c)).alloc (boxB d)).alloc (tokO (tkA c.l i))).drew)
 rw [decide_eq_true hf] at hx
 have HX := hide hx
 have HS := hide hs
 have HO := hide ho
 have HF := hide hF
 clear hx h hf hn1 hn3 hn4 hs ho hF
 go_enter Tryz.func297, Tryz.ntmps297
 go_wp2_with fail
 refine cm HC1.out ?_
 rintro e w1 ⟨rfl, rfl⟩
 clear HC1
 go_wp2_with fail
 go_region
 go_wp2_with fail
 refine cm HX.out ?_
 rintro e w1 ⟨rfl, hb⟩
 have HP1 := hide (((((HPW.out.alloc (boxA c)).alloc (boxB d)).alloc (tokO (tkA c.l i))).drew).later hb)
 have HA1 := hide ((fst_ap c w d (tokO (tkA c.l i))).next (Ap.of hb))
 have HB1 := hide ((box2_new c w d (tokO (tkA c.l i)) hR).ap (Ap.of hb))
 have q0 := HB1.out.p.cell
 have q1 := HB1.out.n.cell
 have HC2 := hide (rhead_any HF.out w1 d i r hd HS.out HO.out HP1.out)
 clear hb HX h0 h1 k0 k1 k2 k3
 go_wp2_with fail
 refine cm HC2.out ?_
 intro e w2 hp
 cases r with
 | out => exact absurd rfl HO.out
 | bad er pl =>
  obtain ⟨⟨v, rfl, q, rfl⟩, hp2, he, ha⟩ := hp; have H2 := hide hp2; have H3 := hide (HA1.out.next ha); clear hp2 ha HC2; exact zcbz
 | ok t j =>
  obtain ⟨⟨v, rfl, q, rfl, hn⟩, hp2, ha⟩ := hp; have H1 : Hid (NAt (fun b => w.heap.size ≤ b) w2 t q) := NAt.mono (fun b hb _ => Nat.le_trans HA1.out.size hb) _ _ hn; have H2 := hide hp2; have H3 := hide (HA1.out.next ha)
  clear hn hp2 ha HC2; exact zcbx
theorem rfirst_fun (hN : ∃ k, FNx c.l k F) (hK : FOk F) (w : World) (d i : Nat) (r : PR Tr) (hd : d ≤ 30) (hn1 : (tkA c.l i).kd ≠ 1) (hn3 : (tkA c.l i).kd ≠ 3) (hn4 : (tkA c.l i).kd ≠ 4) (hnp : ¬ fx c.l i = tOpen) (hf : fx c.l i = tFunction) (hs : r = rlambdaP c.l F d i) (ho : r ≠ .out) (h : Ps c w i 0 (-1)) :
  Calls Tryz.prog 297 #[pPtr c, .int .i64 (d : Int)] w (QPost c w (NV w.heap.size) ZN r) := by
 have hm : mustP c.l tFunction i = .ok () (i + 1) := by unfold mustP; rw [if_pos hf]
 unfold rlambdaP at hs
 rw [hm, bind_ok] at hs
 have HPW := hide h
 have HLT := hide h.rlt
 have h0 := h.c0
 have h1 := h.c1
 have f1 := h.fz 1
 obtain ⟨k0, k1, k2, k3⟩ := h.toks
 have hlt : (i : Int) < (c.l.length : Int) := by have := h.lt; omega
 have hl3 := h.base.len
 have hR := h.rlt
 have hT := h.base.tlt
 have hR1 : c.P < w.heap.size + 1 := by omega
 have hR2 : c.P < w.heap.size + 1 + 1 := by omega
 have hT1 : c.tb < w.heap.size + 1 := by omega
 have hT2 : c.tb < w.heap.size + 1 + 1 := by omega
 have HC1 := hide (rok_new ((h.alloc (boxA c)).alloc (boxB d)))
 have b1 : ((tkA c.l i).kd == 1) = false := beq_eq_false_iff_ne.2 hn1
 have b3 : ((tkA c.l i).kd == 3) = false := beq_eq_false_iff_ne.2 hn3
 have b4 : ((tkA c.l i).kd == 4) = false := beq_eq_false_iff_ne.2 hn4
 have hx := rnext_any c (((w.alloc (boxA c)).alloc (boxB d)).alloc (tokO (tkA c.l i))).drew i tOpen (by decide) ((((h.alloc (boxA c)).alloc (boxB d)).alloc (tokO (tkA c.l i))).drew)
 rw [decide_eq_false hnp] at hx
 have HX := hide hx
 have HS := hide hs
 have HO := hide ho
 have HF := hide hF
 have HNX := hide hN
 have HKO := hide hK
 have HFX := hide hf
 clear hx h hf hn1 hn3 hn4 hs ho hF hN hK hm hnp
 go_enter Tryz.func297, Tryz.ntmps297
 go_wp2_with fail
 refine cm HC1.out ?_
 rintro e w1 ⟨rfl, rfl⟩
 clear HC1
 go_wp2_with fail
 go_region
 go_wp2_with fail
 refine cm HX.out ?_
 rintro e w1 ⟨rfl, hb⟩
 have HP1 := hide (((((HPW.out.alloc (boxA c)).alloc (boxB d)).alloc (tokO (tkA c.l i))).drew).later hb)
 have HA1 := hide ((fst_ap c w d (tokO (tkA c.l i))).next (Ap.of hb))
 have HB1 := hide ((box2_new c w d (tokO (tkA c.l i)) hR).ap (Ap.of hb))
 have HT1 : Hid (w1.heap[w.heap.size + 2]? = some (tokO (tkA c.l i))) := (hb.block (w.heap.size + 2) (by simp)).trans (new_obj (by simp))
 have q0 := HB1.out.p.cell
 clear hb HX h0 h1 k0 k1 k2 k3
 have HC2 := hide (rskip_yes c w1 i tFunction (by decide) HFX.out HP1.out)
 go_wp2_with fail
 refine cm HC2.out ?_
 rintro e w2 ⟨rfl, hp2, ha2⟩
 have HP2 := hide hp2
 have HA2 := hide (HA1.out.next ha2)
 have HB2 := hide (HB1.out.ap ha2)
 have q0 := HB2.out.p.cell
 have h0 := hp2.c0
 have h1 := hp2.c1
 obtain ⟨k0, k1, k2, k3⟩ := hp2.toks
 have hlt2 : ((i : Int) + 1) < (c.l.length : Int) := by have := hp2.lt; omega
 have hc1 : (((i + 1 : Nat)) : Int) = (i : Int) + 1 := by omega
 rw [hc1] at h1
 have q1 := HB2.out.n.cell
 clear hp2 ha2 HC2 HP1 HA1 HB1 hc1
 by_cases hk : (tkA c.l (i + 1)).kd = 1
 ·
  have hin : isName c.l (i + 1) = true := by unfold isName; rw [hk]; rfl
  have hnm : nameP c.l (i + 1) = .ok (tkA c.l (i + 1)).tx (i + 2) := by unfold nameP; rw [if_pos hk]
  rw [hin, if_pos rfl, hnm, bind_ok] at HS; rw [hk] at k0; have HC3 := hide (rident_any c w2.drew (i + 1) HP2.out.drew); rw [hnm] at HC3; clear hk hin hnm; go_wp2_with fail
  go_region
  go_wp2_with fail; refine cm HC3.out ?_; rintro e w3 ⟨⟨v, rfl, rfl⟩, hp3, ha3⟩; have HA3 := hide (HA2.out.drew.next ha3)
  have HB3 := hide ((⟨⟨HB2.out.p.blk, HB2.out.p.ne⟩, ⟨HB2.out.n.blk, HB2.out.n.ne⟩⟩ : Box2 c w.heap.size (w.heap.size + 1) d w2.drew).ap ha3); have q2 := HB3.out.p.cell; have q3 := HB3.out.n.cell
  have HC5 := hide (rfunction_any HF.out HNX.out HKO.out w3 37 (tkA c.l (i + 1)).tx d (i + 2) r hd HS.out HO.out hp3); clear hp3 ha3 HC3 h0 h1 k0 k1 k2 k3 q0 q1; exact zbcb
 ·
  have hin : isName c.l (i + 1) = false := by unfold isName; exact beq_eq_false_iff_ne.2 hk
  have b1 : ((tkA c.l (i + 1)).kd == 1) = false := beq_eq_false_iff_ne.2 hk; rw [hin, if_neg (by decide)] at HS
  have HC5 := hide (rfunction_any HF.out HNX.out HKO.out w2.drew 37 noText d (i + 1) r hd HS.out HO.out HP2.out.drew); have HA3 := hide (HA2.out.drew); clear hk hin; go_wp2_with fail
  go_region
  exact zbcb
theorem rfirst_obj (w : World) (d i : Nat) (r : PR Tr) (hd : d ≤ 30) (hn1 : (tkA c.l i).kd ≠ 1) (hn3 : (tkA c.l i).kd ≠ 3) (hn4 : (tkA c.l i).kd ≠ 4) (hnp : ¬ fx c.l i = tOpen) (hnf : ¬ fx c.l i = tFunction) (hf : fx c.l i = tLBrace) (hs : r = robjectP c.l F d i) (ho : r ≠ .out) (h : Ps c w i 0 (-1)) :
  Calls Tryz.prog 297 #[pPtr c, .int .i64 (d : Int)] w (QPost c w (NV w.heap.size) ZN r) := by
 have hm : mustP c.l tLBrace i = .ok () (i + 1) := by unfold mustP; rw [if_pos hf]
 unfold robjectP at hs
 rw [hm, bind_ok] at hs
 have HPW := hide h
 have HLT := hide h.rlt
 have h0 := h.c0
 have h1 := h.c1
 have f1 := h.fz 1
 obtain ⟨k0, k1, k2, k3⟩ := h.toks
 have hlt : (i : Int) < (c.l.length : Int) := by have := h.lt; omega
 have hl3 := h.base.len
 have hR := h.rlt
 have hT := h.base.tlt
 have hR1 : c.P < w.heap.size + 1 := by omega
 have hR2 : c.P < w.heap.size + 1 + 1 := by omega
 have hT1 : c.tb < w.heap.size + 1 := by omega
 have hT2 : c.tb < w.heap.size + 1 + 1 := by omega
 have HC1 := hide (rok_new ((h.alloc (boxA c)).alloc (boxB d)))
 have b1 : ((tkA c.l i).kd == 1) = false := beq_eq_false_iff_ne.2 hn1
 have b3 : ((tkA c.l i).kd == 3) = false := beq_eq_false_iff_ne.2 hn3
 have b4 : ((tkA c.l i).kd == 4) = false := beq_eq_false_iff_ne.2 hn4
 have hx := rnext_any c (((w.alloc (boxA c)).alloc (boxB d)).alloc (tokO (tkA c.l i))).drew i tOpen (by decide) ((((h.alloc (boxA c)).alloc (boxB d)).alloc (tokO (tkA c.l i))).drew)
 rw [decide_eq_false hnp] at hx
 have HX := hide hx
 have HS := hide hs
 have HO := hide ho
 have HF := hide hF
 have HFX := hide hf
 have HNF := hide hnf
 clear hx h hf hn1 hn3 hn4 hs ho hF hm hnp hnf
 go_enter Tryz.func297, Tryz.ntmps297
 go_wp2_with fail
 refine cm HC1.out ?_
 rintro e w1 ⟨rfl, rfl⟩
 clear HC1
 go_wp2_with fail
 go_region
 go_wp2_with fail
 refine cm HX.out ?_
 rintro e w1 ⟨rfl, hb⟩
 have HP1 := hide (((((HPW.out.alloc (boxA c)).alloc (boxB d)).alloc (tokO (tkA c.l i))).drew).later hb)
 have HA1 := hide ((fst_ap c w d (tokO (tkA c.l i))).next (Ap.of hb))
 have HB1 := hide ((box2_new c w d (tokO (tkA c.l i)) hR).ap (Ap.of hb))
 have HT1 : Hid (w1.heap[w.heap.size + 2]? = some (tokO (tkA c.l i))) := (hb.block (w.heap.size + 2) (by simp)).trans (new_obj (by simp))
 have q0 := HB1.out.p.cell
 clear hb HX h0 h1 k0 k1 k2 k3
 have HC2 := hide (rskip_no c w1 i tFunction (by decide) HNF.out HP1.out)
 go_wp2_with fail
 refine cm HC2.out ?_
 rintro e w2 ⟨rfl, hb2⟩
 have HP2 := hide (HP1.out.later hb2)
 have HA2 := hide (HA1.out.next (Ap.of hb2))
 have HB2 := hide (HB1.out.ap (Ap.of hb2))
 have q1 := HB2.out.p.cell
 have HC3 := hide (rskip_yes c w2 i tLBrace (by decide) HFX.out HP2.out)
 clear hb2 HC2 HP1 HA1 HB1 q0
 go_wp2_with fail
 refine cm HC3.out ?_
 rintro e w3 ⟨rfl, hp3, ha3⟩
 have HA3 := hide (HA2.out.next ha3)
 have HB3 := hide (HB2.out.ap ha3)
 have q2 := HB3.out.p.cell
 have hbl := HB3.out.n.lt
 have HP3 := hide hp3
 clear hp3 ha3 HC3 HP2 HA2 HB2 q1
 cases hr : rlistLoop c.l tRBrace (propP c.l F d) F.fuel [] (i + 1) with
 | out => rw [hr] at HS; exact absurd HS.out HO.out
 | bad er pl =>
  have HC4 := hide (rlist_any (prop_part HF.out w.heap.size (w.heap.size + 1) d hd) tRBrace (by decide) F.fuel w3 (i + 1) _ hr.symm (by nofun) HB3.out (by omega) HP3.out); rw [hr] at HS
  have hq : r = .bad er pl := unhide HS; subst hq; clear hr; go_wp2_with fail; refine cm HC4.out ?_; rintro e w4 ⟨⟨v, rfl, a, n, k, rfl⟩, ⟨j, hp4⟩, he, ha4⟩; have H2 := hide hp4; have H3 := hide (HA3.out.next ha4)
  clear hp4 ha4 HC4; go_wp2_with fail; go_ret; exact ⟨⟨_, rfl, _, rfl⟩, ⟨j, H2.out.alloc _⟩, he, H3.out.alloc H3.out.size _⟩
 | ok ts j =>
  have HC4 := hide (rlist_any (prop_part HF.out w.heap.size (w.heap.size + 1) d hd) tRBrace (by decide) F.fuel w3 (i + 1) _ hr.symm (by nofun) HB3.out (by omega) HP3.out); rw [hr] at HS
  have hq : r = .ok (.mk 38 noText 0 ts) j := unhide HS; subst hq; clear hr; go_wp2_with fail; refine cm HC4.out ?_; rintro e w4 ⟨⟨v, rfl, hkv⟩, hp4, ha4⟩; obtain ⟨a, k, rfl⟩ := hkv.shape
  have H1 := hide (hkv.mono HA3.out.size); have H2 := hide hp4; have H3 := hide (HA3.out.next ha4); clear hp4 ha4 HC4 hkv; go_wp2_with fail; go_ret
  exact ⟨⟨_, rfl, (EV.new H1.out H3.out.size 38 noText 0).nv⟩, H2.out.alloc _, H3.out.alloc H3.out.size _⟩
end
section
variable {c : PC} (w : World) (d i : Nat) (hn1 : (tkA c.l i).kd ≠ 1) (hn3 : (tkA c.l i).kd ≠ 3) (hn4 : (tkA c.l i).kd ≠ 4) (hnp : ¬ fx c.l i = tOpen) (hnf : ¬ fx c.l i = tFunction) (hnb : ¬ fx c.l i = tLBrace)
include c w d i hn1 hn3 hn4 hnp hnf hnb
theorem rfirst_lit (hk2 : (tkA c.l i).kd = 2) (hlk : 0 < litK (tkA c.l i).tx) (h : Ps c w i 0 (-1)) :
  Calls Tryz.prog 297 #[pPtr c, .int .i64 (d : Int)] w (QPost c w (NV w.heap.size) ZN (.ok (.mk (litK (tkA c.l i).tx) noText 0 []) (i + 1))) := by
 have hl : i + 1 < c.l.length := next_lt h.base.ends h.lt (by rw [hk2]; decide)
 have bk : ((tkA c.l i).kd == 2) = true := beq_iff_eq.2 hk2
 clear hk2
 have HPW := hide h
 have HLT := hide h.rlt
 have h0 := h.c0
 have h1 := h.c1
 have f1 := h.fz 1
 obtain ⟨k0, k1, k2, k3⟩ := h.toks
 have hlt : (i : Int) < (c.l.length : Int) := by have := h.lt; omega
 have hl3 := h.base.len
 have hR := h.rlt
 have hT := h.base.tlt
 have hR1 : c.P < w.heap.size + 1 := by omega
 have hR2 : c.P < w.heap.size + 1 + 1 := by omega
 have hT1 : c.tb < w.heap.size + 1 := by omega
 have hT2 : c.tb < w.heap.size + 1 + 1 := by omega
 have HC1 := hide (rok_new ((h.alloc (boxA c)).alloc (boxB d)))
 have b1 : ((tkA c.l i).kd == 1) = false := beq_eq_false_iff_ne.2 hn1
 have b3 : ((tkA c.l i).kd == 3) = false := beq_eq_false_iff_ne.2 hn3
 have b4 : ((tkA c.l i).kd == 4) = false := beq_eq_false_iff_ne.2 hn4
 have hx := rnext_any c (((w.alloc (boxA c)).alloc (boxB d)).alloc (tokO (tkA c.l i))).drew i tOpen (by decide) ((((h.alloc (boxA c)).alloc (boxB d)).alloc (tokO (tkA c.l i))).drew)
 rw [decide_eq_false hnp] at hx
 have HX := hide hx
 have HNB := hide hnb
 have HNF := hide hnf
 clear hx h hn1 hn3 hn4 hnp hnf hnb
 go_enter Tryz.func297, Tryz.ntmps297
 go_wp2_with fail
 refine cm HC1.out ?_
 rintro e w1 ⟨rfl, rfl⟩
 clear HC1
 go_wp2_with fail
 go_region
 go_wp2_with fail
 refine cm HX.out ?_
 rintro e w1 ⟨rfl, hb⟩
 have HP1 := hide (((((HPW.out.alloc (boxA c)).alloc (boxB d)).alloc (tokO (tkA c.l i))).drew).later hb)
 have HA1 := hide ((fst_ap c w d (tokO (tkA c.l i))).next (Ap.of hb))
 have HB1 := hide ((box2_new c w d (tokO (tkA c.l i)) hR).ap (Ap.of hb))
 have HT1 : Hid (w1.heap[w.heap.size + 2]? = some (tokO (tkA c.l i))) := (hb.block (w.heap.size + 2) (by simp)).trans (new_obj (by simp))
 have q0 := HB1.out.p.cell
 clear hb HX h0 h1 k0 k1 k2 k3
 have HC2 := hide (rskip_no c w1 i tFunction (by decide) HNF.out HP1.out)
 go_wp2_with fail
 refine cm HC2.out ?_
 rintro e w2 ⟨rfl, hb2⟩
 have HP2 := hide (HP1.out.later hb2)
 have HA2 := hide (HA1.out.next (Ap.of hb2))
 have HB2 := hide (HB1.out.ap (Ap.of hb2))
 have HT2 := hide ((hb2.block (w.heap.size + 2) (lt_of_heap HT1.out)).trans HT1.out)
 have q1 := HB2.out.p.cell
 have HC3 := hide (rskip_no c w2 i tLBrace (by decide) HNB.out HP2.out)
 clear hb2 HC2 HP1 HA1 HB1 q0 HT1
 go_wp2_with fail
 refine cm HC3.out ?_
 rintro e w3 ⟨rfl, hb3⟩
 have HP3 := hide (HP2.out.later hb3)
 have HA3 := hide (HA2.out.next (Ap.of hb3))
 have HB3 := hide (HB2.out.ap (Ap.of hb3))
 have ht3 := (hb3.block (w.heap.size + 2) (lt_of_heap HT2.out)).trans HT2.out
 have t0 : w3.cell? ⟨w.heap.size + 2, 0, none⟩ = some (.int .i64 (tkA c.l i).kd) := by rw [cell_of ht3]; rfl
 have t1 : w3.cell? ⟨w.heap.size + 2, 1, none⟩ = some (.string (tkA c.l i).tx) := by rw [cell_of ht3]; rfl
 have htl := lt_of_heap ht3
 have q2 := HB3.out.p.cell
 have hbl := HB3.out.p.lt
 have c1 := HP3.out.c1
 have cf := HP3.out.fz 1
 have hPl := HP3.out.rlt
 obtain ⟨m1, m2, m3, m4, e0, e1, e2, e3, e4, e5⟩ := lits_made w3
 clear hb3 HC3 HP2 HA2 HB2 q1 ht3 HT2
 generalize tkA c.l i = t at *
 go_wp2_with fail
 go_ret
 have hn : ((i : Int) + 1) = (((i + 1 : Nat)) : Int) := by omega
 rw [hn]
 refine ⟨⟨_, rfl, nv_leaf2 (by have := HA3.out.size; simp; omega) _ noText 0 _ (by simp)⟩, ?_, ?_⟩
 ·
  exact ((HP3.out.step hl).alloc _).alloc _
 ·
  exact ((HA3.out.setCell (p := ⟨c.P, 1, none⟩) (Or.inr rfl) _).alloc (by have := HA3.out.size; simp; omega) _).alloc (by have := HA3.out.size; simp; omega) _
theorem rfirst_no (hno : ¬ ((tkA c.l i).kd = 2 ∧ 0 < litK (tkA c.l i).tx)) (h : Ps c w i 0 (-1)) :
  Calls Tryz.prog 297 #[pPtr c, .int .i64 (d : Int)] w (QPost c w (NV w.heap.size) ZN (badF c.l 3 i)) := by
 have HPW := hide h
 have HLT := hide h.rlt
 have h0 := h.c0
 have h1 := h.c1
 have f1 := h.fz 1
 obtain ⟨k0, k1, k2, k3⟩ := h.toks
 have hlt : (i : Int) < (c.l.length : Int) := by have := h.lt; omega
 have hl3 := h.base.len
 have hR := h.rlt
 have hT := h.base.tlt
 have hR1 : c.P < w.heap.size + 1 := by omega
 have hR2 : c.P < w.heap.size + 1 + 1 := by omega
 have hT1 : c.tb < w.heap.size + 1 := by omega
 have hT2 : c.tb < w.heap.size + 1 + 1 := by omega
 have HC1 := hide (rok_new ((h.alloc (boxA c)).alloc (boxB d)))
 have b1 : ((tkA c.l i).kd == 1) = false := beq_eq_false_iff_ne.2 hn1
 have b3 : ((tkA c.l i).kd == 3) = false := beq_eq_false_iff_ne.2 hn3
 have b4 : ((tkA c.l i).kd == 4) = false := beq_eq_false_iff_ne.2 hn4
 have hx := rnext_any c (((w.alloc (boxA c)).alloc (boxB d)).alloc (tokO (tkA c.l i))).drew i tOpen (by decide) ((((h.alloc (boxA c)).alloc (boxB d)).alloc (tokO (tkA c.l i))).drew)
 rw [decide_eq_false hnp] at hx
 have HX := hide hx
 have HNB := hide hnb
 have HNF := hide hnf
 clear hx h hn1 hn3 hn4 hnp hnf hnb
 go_enter Tryz.func297, Tryz.ntmps297
 go_wp2_with fail
 refine cm HC1.out ?_
 rintro e w1 ⟨rfl, rfl⟩
 clear HC1
 go_wp2_with fail
 go_region
 go_wp2_with fail
 refine cm HX.out ?_
 rintro e w1 ⟨rfl, hb⟩
 have HP1 := hide (((((HPW.out.alloc (boxA c)).alloc (boxB d)).alloc (tokO (tkA c.l i))).drew).later hb)
 have HA1 := hide ((fst_ap c w d (tokO (tkA c.l i))).next (Ap.of hb))
 have HB1 := hide ((box2_new c w d (tokO (tkA c.l i)) hR).ap (Ap.of hb))
 have HT1 : Hid (w1.heap[w.heap.size + 2]? = some (tokO (tkA c.l i))) := (hb.block (w.heap.size + 2) (by simp)).trans (new_obj (by simp))
 have q0 := HB1.out.p.cell
 clear hb HX h0 h1 k0 k1 k2 k3
 have HC2 := hide (rskip_no c w1 i tFunction (by decide) HNF.out HP1.out)
 go_wp2_with fail
 refine cm HC2.out ?_
 rintro e w2 ⟨rfl, hb2⟩
 have HP2 := hide (HP1.out.later hb2)
 have HA2 := hide (HA1.out.next (Ap.of hb2))
 have HB2 := hide (HB1.out.ap (Ap.of hb2))
 have HT2 := hide ((hb2.block (w.heap.size + 2) (lt_of_heap HT1.out)).trans HT1.out)
 have q1 := HB2.out.p.cell
 have HC3 := hide (rskip_no c w2 i tLBrace (by decide) HNB.out HP2.out)
 clear hb2 HC2 HP1 HA1 HB1 q0 HT1
 go_wp2_with fail
 refine cm HC3.out ?_
 rintro e w3 ⟨rfl, hb3⟩
 have HP3 := hide (HP2.out.later hb3)
 have HA3 := hide (HA2.out.next (Ap.of hb3))
 have HB3 := hide (HB2.out.ap (Ap.of hb3))
 have ht3 := (hb3.block (w.heap.size + 2) (lt_of_heap HT2.out)).trans HT2.out
 have t0 : w3.cell? ⟨w.heap.size + 2, 0, none⟩ = some (.int .i64 (tkA c.l i).kd) := by rw [cell_of ht3]; rfl
 have t1 : w3.cell? ⟨w.heap.size + 2, 1, none⟩ = some (.string (tkA c.l i).tx) := by rw [cell_of ht3]; rfl
 have htl := lt_of_heap ht3
 have q2 := HB3.out.p.cell
 have hbl := HB3.out.p.lt
 have c1 := HP3.out.c1
 have cf := HP3.out.fz 1
 have hPl := HP3.out.rlt
 obtain ⟨m1, m2, m3, m4, e0, e1, e2, e3, e4, e5⟩ := lits_made w3
 clear hb3 HC3 HP2 HA2 HB2 q1 ht3 HT2
 have HC4 := hide (rfail_new c (w3.alloc (.map m4 4)) i 3 (by decide) (HP3.out.alloc _))
 have HA4 := hide (HA3.out.alloc HA3.out.size (.map m4 4))
 have hdone : ∀ e w4, NPost c (w3.alloc (.map m4 4)) 3 ((tkA c.l i).pl : Int) ZN e w4 → QPost c w (NV w.heap.size) ZN (badF c.l 3 i) e w4 := fun e w4 hp => npost_trans HA4.out hp
 have HD := hide hdone
 clear hdone
 generalize hX : badF (α := Tr) c.l 3 i = X at *
 clear hX
 generalize ((tkA c.l i).pl : Int) = PL at *
 generalize tkA c.l i = t at *
 by_cases hk2 : t.kd = 2
 ·
  have bk : (t.kd == 2) = true := beq_iff_eq.2 hk2; have hlk : ¬ 0 < litK t.tx := fun hh => hno ⟨hk2, hh⟩; exact zbee
 ·
  have bk : (t.kd == 2) = false := beq_eq_false_iff_ne.2 hk2; exact zbee
end
end Go.Proofs.YtoimgcjbcbhclaaGreatDoor
