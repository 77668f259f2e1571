/-
  The document's parser: parameters, functions.
-/
import Derived.Test.YtodmgaikhbmlnaaGreatDoorEc36
set_option maxRecDepth 100000
set_option maxHeartbeats 16000000
namespace Go.Proofs.YtodmgaikhbmlnaaGreatDoor
open Go.RowKit
structure BoxP (c : PC) (b : Nat) (W : World) : Prop where
 blk : W.heap[b]? = some (.cells #[pPtr c] 64 (0, 0))
 ne : b ≠ c.P
section
variable {c : PC} {b : Nat} {W : World} (h : BoxP c b W)
include c b W h
theorem BoxP.cell : W.cell? ⟨b, 0, none⟩ = some (pPtr c) := by rw [cell_of h.blk]; rfl
theorem BoxP.lt : b < W.heap.size := lt_of_heap h.blk
end
theorem BoxP.ap {c : PC} {b : Nat} {W W' : World} (h : BoxP c b W) (ha : Ap c.P W.heap.size W W') : BoxP c b W' := ⟨by rw [ha.block b h.lt h.ne]; exact h.blk, h.ne⟩
theorem BoxP.below {c : PC} {b B : Nat} {W W' : World} (h : BoxP c b W) (ha : Below B W W') (hb : b < B) : BoxP c b W' := ⟨by rw [ha.block b hb]; exact h.blk, h.ne⟩
structure BoxN (c : PC) (b : Nat) (d : Nat) (W : World) : Prop where
 blk : W.heap[b]? = some (.cells #[.int .i64 (d : Int)] 3 (0, 0))
 ne : b ≠ c.P
section
variable {c : PC} {b d : Nat} {W : World} (h : BoxN c b d W)
include c b d W h
theorem BoxN.cell : W.cell? ⟨b, 0, none⟩ = some (.int .i64 (d : Int)) := by rw [cell_of h.blk]; rfl
theorem BoxN.lt : b < W.heap.size := lt_of_heap h.blk
end
theorem BoxN.ap {c : PC} {b d : Nat} {W W' : World} (h : BoxN c b d W) (ha : Ap c.P W.heap.size W W') : BoxN c b d W' := ⟨by rw [ha.block b h.lt h.ne]; exact h.blk, h.ne⟩
theorem BoxN.below {c : PC} {b d B : Nat} {W W' : World} (h : BoxN c b d W) (ha : Below B W W') (hb : b < B) : BoxN c b d W' := ⟨by rw [ha.block b hb]; exact h.blk, h.ne⟩
theorem en142 : ∀ args W, (callFunc 148 args).run Tryz.prog W = .ok (.enter 148 args) W := fun _ _ => by kernel_rfl
theorem nv_leaf {B : Nat} {w : World} (hB : B ≤ w.heap.size) (kd : Int) (tx : ByteArray) (z : Int) : NV B (w.alloc (nodeObj kd tx z (.slice none 0 0))) (.mk kd tx z []) (nPtr w.heap.size) := (EV.new (KV.nil B w) hB kd tx z).nv
theorem rparam_does {c : PC} {b : Nat} (W : World) (i : Nat) (r : PR Tr) (hk : BoxP c b W) (hs : r = paramP c.l i) (ho : r ≠ .out) (h : Ps c W i 0 (-1)) :
  Calls Tryz.prog 148 #[.pointer (some ⟨b, 0, none⟩)] W (QPost c W (NV W.heap.size) ZN r) := by
 have k0 := hk.cell
 unfold paramP at hs
 have HC := hide (rident_any c W i h)
 have HS := hide hs
 have HO := hide ho
 clear hk h hs ho
 go_enter Tryz.func148, Tryz.ntmps148
 go_wp2_with fail
 refine cm HC.out ?_
 intro e w1 hp
 cases hr : nameP c.l i with
 | out => rw [hr] at HS; exact absurd HS.out HO.out
 | bad er pl =>
  rw [hr] at hp HS; have hq : r = .bad er pl := unhide HS; subst hq; obtain ⟨⟨v, rfl, s, rfl⟩, ⟨j, hp1⟩, he, ha⟩ := hp; have HP := hide hp1; have HA := hide ha; clear hp1 ha hr HC; go_wp2_with fail; go_ret
  exact ⟨⟨_, rfl, _, rfl⟩, ⟨j, HP.out.alloc _⟩, he, HA.out.alloc HA.out.size _⟩
 | ok x j =>
  rw [hr] at hp HS; have hq : r = .ok (.mk 23 x 0 []) j := unhide HS; subst hq; obtain ⟨⟨v, rfl, rfl⟩, hp1, ha⟩ := hp; have HP := hide hp1; have HA := hide ha; clear hp1 ha hr HC; go_wp2_with fail; go_ret
  exact ⟨⟨_, rfl, nv_leaf HA.out.size 23 x 0⟩, HP.out.alloc _, HA.out.alloc HA.out.size _⟩
theorem param_part (c : PC) (b : Nat) : PartC c (b + 1) (BoxP c b) 148 #[.pointer (some ⟨b, 0, none⟩)] (paramP c.l) where
 enters := en142
 stays := fun _ _ hk _ ha => hk.ap ha
 does := fun W i r hk hs ho h => rparam_does W i r hk hs ho h
 kept := fun _ _ _ hk ha hB => hk.below ha (by omega)
theorem rfunction_old (c : PC) (w : World) (i : Nat) (er pl kd D : Int) (s : ByteArray) (he : er ≠ 0) (h : Ps c w i er pl) :
  Calls Tryz.prog 103 #[pPtr c, .int .i64 kd, .string s, .int .i64 D] w (NPost c w er pl ZN) := by
 have HP1 := hide (h.alloc (.cells #[pPtr c] 64))
 have HC1 := hide (rmust_old c _ i er pl he tOpen HP1.out)
 have hb : (w.alloc (.cells #[pPtr c] 64)).cell? ⟨w.heap.size, 0, none⟩ = some (pPtr c) := by rw [cell_of (heap_new _ _)]; rfl
 clear h
 go_enter Tryz.func103, Tryz.ntmps103
 go_wp2_with fail
 refine cm HC1.out ?_
 rintro e w1 ⟨rfl, rfl⟩
 clear HC1
 have HC2 := hide (rlist_old c _ i er pl tShut (.func (.func 148) #[] #[.pointer (some ⟨w.heap.size, 0, none⟩)]) he HP1.out)
 go_wp2_with fail
 refine cm HC2.out ?_
 rintro e w2 ⟨rfl, rfl⟩
 clear HC2
 have HC3 := hide (rbraces_old c _ i er pl D true he (HP1.out.alloc (nodeObj 40 noText 0 (.slice none 0 0))))
 go_wp2_with fail
 refine cm HC3.out ?_
 rintro e w3 ⟨⟨v, rfl, q, rfl⟩, ⟨j, hp3⟩, _, ha3⟩
 have HP3 := hide hp3
 have HA3 := hide ((((Ap.refl c.P w.heap.size w).alloc (Nat.le_refl _) (.cells #[pPtr c] 64)).alloc (by simp) (nodeObj 40 noText 0 (.slice none 0 0))).trans (ha3.mono (by simp; omega)))
 clear hp3 ha3 HC3
 go_wp2_with fail
 go_ret
 exact ⟨⟨_, rfl, _, rfl⟩, ⟨j, (HP3.out.alloc _).alloc _⟩, he, (HA3.out.alloc HA3.out.size _).alloc (by have := HA3.out.size; simp; omega) _⟩
theorem setMap_new (W : World) (o1 o2 : Obj) : setMap (W.alloc o1) W.heap.size o2 = W.alloc o2 := by
 have h : (W.heap.push o1).setIfInBounds W.heap.size o2 = W.heap.push o2 := by
  apply Array.ext (by simp); intro k h1 h2; simp only [Array.size_setIfInBounds, Array.size_push] at h1; rw [Array.getElem_setIfInBounds (by simpa using h1)]
  by_cases hk : W.heap.size = k
  ·
   subst hk; simp
  ·
   rw [if_neg hk, Array.getElem_push_lt (by omega), Array.getElem_push_lt (by omega)]
 unfold setMap World.alloc
 simp only [h]
theorem upd_last (T E : TypeId) (W : World) (l : List (ByteArray × Value)) (s : ByteArray) (v : Value) (k : Nat) (m m' : Array MapEntry) (hk : k = l.length) (hm : m = mapOf l) (hm' : m' = mapOf (l ++ [(s, v)])) (hT : Tryz.prog.underlying T = some (.map 9 E)) (hn : l.find? (fun e => decide (s = e.1)) = none) :
  (Instr.mapUpdate T (.map (some W.heap.size)) (.string s) v).run Tryz.prog (W.alloc (.map m k)) = .ok () (W.alloc (.map m' (k + 1))) := by
 subst hk hm hm'
 rw [update_new T E W.heap.size l s v _ hT (heap_new _ _) hn, setMap_new]
theorem lookup_map1 (T E : TypeId) (m k : Nat) (l : List (ByteArray × Value)) (s : ByteArray) (z : Value) (W : World) (hT : Tryz.prog.underlying T = some (.map 9 E)) (hm : W.heap[m]? = some (.map (mapOf l) k)) (hz : (zeroValue E).run Tryz.prog W = .ok z W) :
  (Instr.lookup T (.map (some m)) (.string s) false).run Tryz.prog W = .ok (((l.find? (fun e => decide (s = e.1))).map (·.2)).getD z) W := by
 exact zbbc
def numsV (l : List (ByteArray × Int)) : List (ByteArray × Value) := l.map fun e => (e.1, .int .i64 e.2)
theorem look_nums (g k : Nat) (l : List (ByteArray × Int)) (s : ByteArray) (W : World) (hm : W.heap[g]? = some (.map (mapOf (numsV l)) k)) :
  (Instr.lookup 98 (.map (some g)) (.string s) false).run Tryz.prog W = .ok (.int .i64 ((look2 l s).getD 0)) W := by
 rw [lookup_map1 98 3 g k _ s (.int .i64 0) W Tryz.underlying98 hm (by kernel_rfl)]
 unfold numsV look2
 rw [List.find?_map]
 simp only [Function.comp_def]
 cases l.find? (fun e => decide (s = e.1)) <;> rfl
theorem lits_made (W : World) : ∃ m1 m2 m3 m4 : Array MapEntry,
  (Instr.makeMap 98 none).run Tryz.prog W = .ok (.map (some W.heap.size)) (W.alloc (.map #[] 0))
  ∧ (Instr.mapUpdate 98 (.map (some W.heap.size)) (.string tTrue) (.int .i64 19)).run Tryz.prog (W.alloc (.map #[] 0)) = .ok () (W.alloc (.map m1 1))
  ∧ (Instr.mapUpdate 98 (.map (some W.heap.size)) (.string tFalse) (.int .i64 20)).run Tryz.prog (W.alloc (.map m1 1)) = .ok () (W.alloc (.map m2 2))
  ∧ (Instr.mapUpdate 98 (.map (some W.heap.size)) (.string tNull) (.int .i64 21)).run Tryz.prog (W.alloc (.map m2 2)) = .ok () (W.alloc (.map m3 3))
  ∧ (Instr.mapUpdate 98 (.map (some W.heap.size)) (.string tUndef) (.int .i64 22)).run Tryz.prog (W.alloc (.map m3 3)) = .ok () (W.alloc (.map m4 4))
  ∧ ∀ s, (Instr.lookup 98 (.map (some W.heap.size)) (.string s) false).run Tryz.prog (W.alloc (.map m4 4)) = .ok (.int .i64 (litK s)) (W.alloc (.map m4 4)) := by
 refine ⟨mapOf (numsV (lits.take 1)), mapOf (numsV (lits.take 2)), mapOf (numsV (lits.take 3)), mapOf (numsV lits), mkMap 98 W, ?_, ?_, ?_, ?_, ?_⟩
 ·
  exact upd_last 98 3 W [] tTrue _ 0 _ _ rfl rfl rfl Tryz.underlying98 rfl
 ·
  exact upd_last 98 3 W (numsV (lits.take 1)) tFalse _ 1 _ _ rfl rfl rfl Tryz.underlying98 (by decide +kernel)
 ·
  exact upd_last 98 3 W (numsV (lits.take 2)) tNull _ 2 _ _ rfl rfl rfl Tryz.underlying98 (by decide +kernel)
 ·
  exact upd_last 98 3 W (numsV (lits.take 3)) tUndef _ 3 _ _ rfl rfl rfl Tryz.underlying98 (by decide +kernel)
 ·
  intro s; exact look_nums W.heap.size 4 lits s _ (heap_new _ _)
theorem ops_made (W : World) : ∃ m1 m2 m3 m4 m5 m6 m7 : Array MapEntry,
  (Instr.makeMap 98 none).run Tryz.prog W = .ok (.map (some W.heap.size)) (W.alloc (.map #[] 0))
  ∧ (Instr.mapUpdate 98 (.map (some W.heap.size)) (.string tOr) (.int .i64 25)).run Tryz.prog (W.alloc (.map #[] 0)) = .ok () (W.alloc (.map m1 1))
  ∧ (Instr.mapUpdate 98 (.map (some W.heap.size)) (.string tAnd) (.int .i64 26)).run Tryz.prog (W.alloc (.map m1 1)) = .ok () (W.alloc (.map m2 2))
  ∧ (Instr.mapUpdate 98 (.map (some W.heap.size)) (.string tSame) (.int .i64 27)).run Tryz.prog (W.alloc (.map m2 2)) = .ok () (W.alloc (.map m3 3))
  ∧ (Instr.mapUpdate 98 (.map (some W.heap.size)) (.string tLess) (.int .i64 28)).run Tryz.prog (W.alloc (.map m3 3)) = .ok () (W.alloc (.map m4 4))
  ∧ (Instr.mapUpdate 98 (.map (some W.heap.size)) (.string tAdd) (.int .i64 29)).run Tryz.prog (W.alloc (.map m4 4)) = .ok () (W.alloc (.map m5 5))
  ∧ (Instr.mapUpdate 98 (.map (some W.heap.size)) (.string tSub) (.int .i64 30)).run Tryz.prog (W.alloc (.map m5 5)) = .ok () (W.alloc (.map m6 6))
  ∧ (Instr.mapUpdate 98 (.map (some W.heap.size)) (.string tMul) (.int .i64 31)).run Tryz.prog (W.alloc (.map m6 6)) = .ok () (W.alloc (.map m7 7))
  ∧ ∀ s, (Instr.lookup 98 (.map (some W.heap.size)) (.string s) false).run Tryz.prog (W.alloc (.map m7 7)) = .ok (.int .i64 (opK s)) (W.alloc (.map m7 7)) := by
 refine ⟨mapOf (numsV (ops.take 1)), mapOf (numsV (ops.take 2)), mapOf (numsV (ops.take 3)), mapOf (numsV (ops.take 4)), mapOf (numsV (ops.take 5)), mapOf (numsV (ops.take 6)), mapOf (numsV ops), mkMap 98 W, ?_, ?_, ?_, ?_, ?_, ?_, ?_, ?_⟩
 ·
  exact upd_last 98 3 W [] tOr _ 0 _ _ rfl rfl rfl Tryz.underlying98 rfl
 ·
  exact upd_last 98 3 W (numsV (ops.take 1)) tAnd _ 1 _ _ rfl rfl rfl Tryz.underlying98 (by decide +kernel)
 ·
  exact upd_last 98 3 W (numsV (ops.take 2)) tSame _ 2 _ _ rfl rfl rfl Tryz.underlying98 (by decide +kernel)
 ·
  exact upd_last 98 3 W (numsV (ops.take 3)) tLess _ 3 _ _ rfl rfl rfl Tryz.underlying98 (by decide +kernel)
 ·
  exact upd_last 98 3 W (numsV (ops.take 4)) tAdd _ 4 _ _ rfl rfl rfl Tryz.underlying98 (by decide +kernel)
 ·
  exact upd_last 98 3 W (numsV (ops.take 5)) tSub _ 5 _ _ rfl rfl rfl Tryz.underlying98 (by decide +kernel)
 ·
  exact upd_last 98 3 W (numsV (ops.take 6)) tMul _ 6 _ _ rfl rfl rfl Tryz.underlying98 (by decide +kernel)
 ·
  intro s; exact look_nums W.heap.size 7 ops s _ (heap_new _ _)
theorem rfunction_any {c : PC} {F : Fns} (hF : RCt c F) (hN : ∃ k, FNx c.l k F) (hK : FOk F) (w : World) (kd : Int) (s : ByteArray) (d i : Nat) (r : PR Tr) (hd : d ≤ 30) (hs : r = rfuncTail c.l F kd s d i) (ho : r ≠ .out) (h : Ps c w i 0 (-1)) :
  Calls Tryz.prog 103 #[pPtr c, .int .i64 kd, .string s, .int .i64 (d : Int)] w (QPost c w (NV w.heap.size) ZN r) := by
 unfold rfuncTail rparamsP at hs
 have HLT := hide h.rlt
 have hne : w.heap.size ≠ c.P := by have := h.rlt; omega
 have HBX : Hid (BoxP c w.heap.size (w.alloc (.cells #[pPtr c] 64))) := ⟨heap_new _ _, hne⟩
 have HP0 := hide (h.alloc (.cells #[pPtr c] 64))
 have HA0 := hide ((Ap.refl c.P w.heap.size w).alloc (Nat.le_refl _) (.cells #[pPtr c] 64))
 have HC1 := hide (rmust_any c _ i tOpen (by decide) HP0.out)
 have hb := HBX.out.cell
 have HS := hide hs
 have HO := hide ho
 have HF := hide hF
 have HNX := hide hN
 have HKO := hide hK
 clear h hs ho hF hN hK hne
 go_enter Tryz.func103, Tryz.ntmps103
 go_wp2_with fail
 refine cm HC1.out ?_
 intro e w1 hp
 cases hr : mustP c.l tOpen i with
 | out => rw [hr] at HS; exact absurd HS.out HO.out
 | bad er pl =>
  rw [hr] at hp HS; have hq : r = .bad er pl := unhide HS; subst hq; obtain ⟨⟨v, rfl, rfl⟩, ⟨j, hp1⟩, he, ha⟩ := hp; have HP1 := hide hp1; have HA1 := hide (HA0.out.trans (ha.mono (by simp)))
  have hb1 := (HBX.out.ap ha).cell; clear hp1 ha hr HC1 HP0 HA0 hb; have HC2 := hide (rlist_old c w1 j er pl tShut (.func (.func 148) #[] #[.pointer (some ⟨w.heap.size, 0, none⟩)]) he HP1.out); go_wp2_with fail
  refine cm HC2.out ?_; rintro e w2 ⟨rfl, rfl⟩; clear HC2; have HC3 := hide (rbraces_old c _ j er pl d true he (HP1.out.alloc (nodeObj 40 noText 0 (.slice none 0 0)))); have hwl : w.heap.size < w2.heap.size := by
   rcases Nat.lt_or_ge w.heap.size w2.heap.size with h' | h'
   ·
    exact h'
   ·
    simp [World.cell?, Array.getElem?_eq_none h'] at hb1
  go_wp2_with fail; refine cm HC3.out ?_; rintro e w3 ⟨⟨v, rfl, q, rfl⟩, ⟨j3, hp3⟩, _, ha3⟩; have HP3 := hide hp3
  have HA3 := hide ((HA1.out.alloc HA1.out.size (nodeObj 40 noText 0 (.slice none 0 0))).trans (ha3.mono (by simp; omega)))
  exact zbbx
 | ok x1 j1 =>
  rw [hr] at hp HS; obtain ⟨⟨v, rfl, rfl⟩, hp1, ha⟩ := hp; have HP1 := hide hp1; have HA1 := hide (HA0.out.trans (ha.mono (by simp))); have HBX1 := hide (HBX.out.ap ha); have hb1 := HBX1.out.cell; have hwl := HBX1.out.lt
  clear hp1 ha hr HC1 HP0 HA0 hb HBX
  cases hr2 : rlistLoop c.l tShut (paramP c.l) F.fuel [] j1 with
  | out => rw [bind_ok, hr2] at HS; exact absurd HS.out HO.out
  | bad er pl =>
   have HC2 := hide (rlist_any (param_part c w.heap.size) tShut (by decide) F.fuel w1 j1 _ hr2.symm (by nofun) HBX1.out (by omega) HP1.out); rw [bind_ok, hr2] at HS; have hq : r = .bad er pl := unhide HS; subst hq
   clear hr2; go_wp2_with fail; refine cm HC2.out ?_; rintro e w2 ⟨⟨v, rfl, a, n, k, rfl⟩, ⟨j, hp2⟩, he, ha2⟩; have HP2 := hide hp2; have HA2 := hide (HA1.out.next ha2); have hb2 := (HBX1.out.ap ha2).cell
   have hwl2 := (HBX1.out.ap ha2).lt; clear hp2 ha2 HC2 HP1 HA1; have HC3 := hide (rbraces_old c _ j er pl d true he (HP2.out.alloc (nodeObj 40 noText 0 (.slice a n k)))); go_wp2_with fail; refine cm HC3.out ?_
   rintro e w3 ⟨⟨v, rfl, q, rfl⟩, ⟨j3, hp3⟩, _, ha3⟩; have HP3 := hide hp3; have HA3 := hide ((HA2.out.alloc HA2.out.size (nodeObj 40 noText 0 (.slice a n k))).trans (ha3.mono (by simp; omega)))
   exact zbbx
  | ok ts j2 =>
   have HC2 := hide (rlist_any (param_part c w.heap.size) tShut (by decide) F.fuel w1 j1 _ hr2.symm (by nofun) HBX1.out (by omega) HP1.out); rw [bind_ok, hr2] at HS
   have hq : r = (blockP c.l F d j2).bind fun b i2 => .ok (.mk kd s 0 [.mk 40 noText 0 ts, codeT b]) i2 := unhide HS; have HQ := hide hq; clear hr2 hq HS; go_wp2_with fail; refine cm HC2.out ?_
   rintro e w2 ⟨⟨v, rfl, hkv⟩, hp2, ha2⟩; obtain ⟨a, k, rfl⟩ := hkv.shape; have HP2 := hide (hp2.alloc (nodeObj 40 noText 0 (.slice a ts.length k)))
   have HA2 := hide ((HA1.out.next ha2).alloc (HA1.out.next ha2).size (nodeObj 40 noText 0 (.slice a ts.length k))); have HNP := hide (EV.new (hkv.mono HA1.out.size) (HA1.out.next ha2).size 40 noText 0).nv
   have hb2 := (HBX1.out.ap ha2).cell; have hwl2 := (HBX1.out.ap ha2).lt; clear hp2 ha2 HC2 HP1 HA1 hkv
   cases hr3 : blockP c.l F d j2 with
   | out => rw [hr3] at HQ; exact absurd HQ.out HO.out
   | bad er pl =>
    have HC3 := hide (rbraces_any HF.out HNX.out HKO.out true _ d j2 (.bad er pl) hd (by rw [hr3]; rfl) (by nofun) HP2.out)
    rw [hr3] at HQ; have hq : r = .bad er pl := unhide HQ; subst hq; clear hr3; go_wp2_with fail; refine cm HC3.out ?_; rintro e w3 ⟨⟨v, rfl, q, rfl⟩, ⟨j3, hp3⟩, he, ha3⟩; have HP3 := hide hp3
    have HA3 := hide (HA2.out.trans (ha3.mono (by simp; omega)))
    exact zbbx
   | ok b j3 =>
    have HC3 := hide (rbraces_any HF.out HNX.out HKO.out true _ d j2 (.ok (codeT b) j3) hd (by rw [hr3]; rfl) (by nofun) HP2.out)
    rw [hr3] at HQ; have hq : r = .ok (.mk kd s 0 [.mk 40 noText 0 ts, codeT b]) j3 := unhide HQ; subst hq; clear hr3; go_wp2_with fail; refine cm HC3.out ?_; rintro e w3 ⟨⟨v, rfl, q, rfl, hn3⟩, hp3, ha3⟩
    have HP3 := hide hp3; have HA3 := hide (HA2.out.trans (ha3.mono (by simp; omega)))
    have HNB : Hid (NAt (fun x => w.heap.size ≤ x) w3 (codeT b) q) := NAt.mono (fun x hx _ => Nat.le_trans HA2.out.size hx) _ _ hn3; obtain ⟨q0, he0, hq0⟩ := NV.later HNP.out ha3 HLT.out
    have hq0' : q0 = w2.heap.size := by simpa [nPtr] using he0.symm
    subst hq0'; have HNP3 := hide hq0; clear hp3 ha3 HC3 hn3 hq0 he0 HNP; go_wp2_with fail; go_ret
    refine ⟨⟨_, rfl, (nv_row (NAts.cons HNP3.out (NAts.cons HNB.out NAts.nil)) HA3.out.size (by simp [maxLen]) #[nPtr w2.heap.size, nPtr q] rfl 2 rfl kd s 0 _ rfl).nv⟩, (HP3.out.alloc _).alloc _, (HA3.out.alloc HA3.out.size _).alloc (by have := HA3.out.size; simp; omega) _⟩
structure Box2 (c : PC) (b1 b2 d : Nat) (W : World) : Prop where
 p : BoxP c b1 W
 n : BoxN c b2 d W
theorem Box2.ap {c : PC} {b1 b2 d : Nat} {W W' : World} (h : Box2 c b1 b2 d W) (ha : Ap c.P W.heap.size W W') : Box2 c b1 b2 d W' := ⟨h.p.ap ha, h.n.ap ha⟩
theorem en238 : ∀ args W, (callFunc 257 args).run Tryz.prog W = .ok (.enter 257 args) W := fun _ _ => by kernel_rfl
theorem en251 : ∀ args W, (callFunc 272 args).run Tryz.prog W = .ok (.enter 272 args) W := fun _ _ => by kernel_rfl
section
variable {c : PC} {F : Fns} (hF : RCt c F)
include c F hF
theorem rarg_does {b1 b2 d : Nat} (hd : d ≤ 30) (W : World) (i : Nat) (r : PR Tr) (hk : Box2 c b1 b2 d W) (hs : r = argP c.l F d i) (ho : r ≠ .out) (h : Ps c W i 0 (-1)) :
  Calls Tryz.prog 257 #[.pointer (some ⟨b1, 0, none⟩), .pointer (some ⟨b2, 0, none⟩)] W (QPost c W (NV W.heap.size) ZN r) := by
 have k0 := hk.p.cell
 have k1 := hk.n.cell
 have HC := hide (hF.vl W d i r hd hs ho h)
 have HO := hide ho
 clear hk h hs ho hF
 go_enter Tryz.func257, Tryz.ntmps257
 exact zbcx
theorem arg_part (b1 b2 d : Nat) (hd : d ≤ 30) : PartC c (max b1 b2 + 1) (Box2 c b1 b2 d) 257 #[.pointer (some ⟨b1, 0, none⟩), .pointer (some ⟨b2, 0, none⟩)] (argP c.l F d) where
 enters := en238
 stays := fun _ _ hk _ ha => hk.ap ha
 does := fun W i r hk hs ho h => rarg_does hF hd W i r hk hs ho h
 kept := fun _ _ _ hk ha hB => ⟨hk.p.below ha (by omega), hk.n.below ha (by omega)⟩
theorem rprop_does {b1 b2 d : Nat} (hd : d ≤ 30) (W : World) (i : Nat) (r : PR Tr) (hk : Box2 c b1 b2 d W) (hs : r = propP c.l F d i) (ho : r ≠ .out) (h : Ps c W i 0 (-1)) :
  Calls Tryz.prog 272 #[.pointer (some ⟨b1, 0, none⟩), .pointer (some ⟨b2, 0, none⟩)] W (QPost c W (NV W.heap.size) ZN r) := by
 have k0 := hk.p.cell
 have k1 := hk.n.cell
 unfold propP at hs
 have HC := hide (rident_any c W i h)
 have HLT := hide h.rlt
 have HBX := hide hk
 have HS := hide hs
 have HO := hide ho
 have HF := hide hF
 clear hk h hs ho hF
 go_enter Tryz.func272, Tryz.ntmps272
 go_wp2_with fail
 refine cm HC.out ?_
 intro e w1 hp
 clear k0 k1
 cases hr : nameP c.l i with
 | out => rw [hr] at HS; exact absurd HS.out HO.out
 | bad er pl =>
  rw [hr] at hp HS; have hq : r = .bad er pl := unhide HS; subst hq; obtain ⟨⟨v, rfl, s, rfl⟩, ⟨j, hp1⟩, he, ha⟩ := hp; have HP1 := hide hp1; have HA1 := hide ha; have k0 := (HBX.out.ap ha).p.cell
  have k1 := (HBX.out.ap ha).n.cell; have HC2 := hide (rmust_old c w1 j er pl he tColon hp1); have HC3 := hide (rvalue_old c w1 j er pl ((d : Int) + 1) he hp1); clear hp1 ha hr HC; go_wp2_with fail; refine cm HC2.out ?_
  rintro e w2 ⟨rfl, rfl⟩; clear HC2; go_wp2_with fail; refine cm HC3.out ?_; rintro e w3 ⟨⟨v, rfl, q, rfl⟩, ⟨j3, hp3⟩, _, ha3⟩; have HP3 := hide hp3; have HA3 := hide (HA1.out.next ha3); exact zbbx
 | ok x j1 =>
  rw [hr] at hp HS; obtain ⟨⟨v, rfl, rfl⟩, hp1, ha⟩ := hp; have HP1 := hide hp1; have HA1 := hide ha; have HB1 := hide (HBX.out.ap ha); have k0 := HB1.out.p.cell; have k1 := HB1.out.n.cell
  have HC2 := hide (rmust_any c w1 j1 tColon (by decide) hp1); clear hp1 ha hr HC HBX; go_wp2_with fail; refine cm HC2.out ?_; intro e w2 hp; clear k0 k1
  cases hr2 : mustP c.l tColon j1 with
  | out => rw [bind_ok, hr2] at HS; exact absurd HS.out HO.out
  | bad er pl =>
   rw [bind_ok, hr2] at HS; rw [hr2] at hp; have hq : r = .bad er pl := unhide HS; subst hq; obtain ⟨⟨v, rfl, rfl⟩, ⟨j, hp2⟩, he, ha⟩ := hp; have HA2 := hide (HA1.out.next ha); have k0 := (HB1.out.ap ha).p.cell
   have k1 := (HB1.out.ap ha).n.cell; have HC3 := hide (rvalue_old c w2 j er pl ((d : Int) + 1) he hp2); clear hp2 ha hr2 HC2; go_wp2_with fail; refine cm HC3.out ?_; rintro e w3 ⟨⟨v, rfl, q, rfl⟩, ⟨j3, hp3⟩, _, ha3⟩
   have HP3 := hide hp3; have HA3 := hide (HA2.out.next ha3); exact zbbx
  | ok x2 j2 =>
   rw [bind_ok, hr2] at HS; rw [hr2] at hp; obtain ⟨⟨v, rfl, rfl⟩, hp2, ha⟩ := hp; have HA2 := hide (HA1.out.next ha); have HP2 := hide hp2; have k0 := (HB1.out.ap ha).p.cell; have k1 := (HB1.out.ap ha).n.cell
   have hq : r = (deepP c.l F.vl d j2).bind fun t i3 => .ok (.mk 39 x 0 [t]) i3 := unhide HS; have HQ := hide hq; clear hp2 ha hr2 HC2 hq HS HA1 HP1
   cases hr3 : deepP c.l F.vl d j2 with
   | out => rw [hr3] at HQ; exact absurd HQ.out HO.out
   | bad er pl =>
    have HC3 := hide (HF.out.vl w2 d j2 _ hd hr3.symm (by nofun) HP2.out); rw [hr3] at HQ; have hq : r = .bad er pl := unhide HQ; subst hq; clear hr3; go_wp2_with fail; refine cm HC3.out ?_
    rintro e w3 ⟨⟨v, rfl, q, rfl⟩, ⟨j3, hp3⟩, he, ha3⟩; have HP3 := hide hp3; have HA3 := hide (HA2.out.next ha3); exact zbbx
   | ok t j3 =>
    have HC3 := hide (HF.out.vl w2 d j2 _ hd hr3.symm (by nofun) HP2.out); rw [hr3] at HQ; have hq : r = .ok (.mk 39 x 0 [t]) j3 := unhide HQ; subst hq; clear hr3; go_wp2_with fail; refine cm HC3.out ?_
    rintro e w3 ⟨⟨v, rfl, q, rfl, hn⟩, hp3, ha3⟩; have HP3 := hide hp3; have HA3 := hide (HA2.out.next ha3)
    have HN3 : Hid (NAt (fun b => W.heap.size ≤ b) w3 t q) := NAt.mono (fun b hb _ => Nat.le_trans HA2.out.size hb) _ _ hn; clear hp3 ha3 HC3 hn; go_wp2_with fail; go_ret
    exact ⟨⟨_, rfl, (nv_row (NAts.cons HN3.out NAts.nil) HA3.out.size (by simp [maxLen]) #[nPtr q] rfl 1 rfl 39 x 0 _ rfl).nv⟩, (HP3.out.alloc _).alloc _, (HA3.out.alloc HA3.out.size _).alloc (by have := HA3.out.size; simp; omega) _⟩
theorem prop_part (b1 b2 d : Nat) (hd : d ≤ 30) : PartC c (max b1 b2 + 1) (Box2 c b1 b2 d) 272 #[.pointer (some ⟨b1, 0, none⟩), .pointer (some ⟨b2, 0, none⟩)] (propP c.l F d) where
 enters := en251
 stays := fun _ _ hk _ ha => hk.ap ha
 does := fun W i r hk hs ho h => rprop_does hF hd W i r hk hs ho h
 kept := fun _ _ _ hk ha hB => ⟨hk.p.below ha (by omega), hk.n.below ha (by omega)⟩
end
abbrev boxA (c : PC) : Obj := .cells #[pPtr c] 64
abbrev boxB (d : Nat) : Obj := .cells #[.int .i64 (d : Int)] 3
abbrev tokO (t : Tk) : Obj := .cells #[.int .i64 t.kd, .string t.tx, .int .i64 t.n, .int .i64 (t.pl : Int)] 68
theorem new_obj {w : World} {o : Obj} {g : Nat} (hg : g = w.heap.size) : (w.alloc o).heap[g]? = some o := by subst hg; exact heap_new _ _
theorem nv_leaf2 {B : Nat} {w : World} (hB : B ≤ w.heap.size) (kd : Int) (tx : ByteArray) (z : Int) (q : Nat) (hq : q = w.heap.size) : NV B (w.alloc (nodeObj kd tx z (.slice none 0 0))) (.mk kd tx z []) (nPtr q) := by subst hq; exact nv_leaf hB kd tx z
section
variable (c : PC) (w : World) (d : Nat) (o : Obj)
include c w d o
theorem box2_new (hP : c.P < w.heap.size) : Box2 c w.heap.size (w.heap.size + 1) d (((w.alloc (boxA c)).alloc (boxB d)).alloc o).drew := by
 refine ⟨⟨?_, by omega⟩, ⟨?_, by omega⟩⟩
 ·
  show (((w.alloc (boxA c)).alloc (boxB d)).alloc o).heap[w.heap.size]? = _
  rw [Below.heap_alloc _ _ _ (by simp; omega), Below.heap_alloc _ _ _ (by simp)]
  exact heap_new _ _
 ·
  show (((w.alloc (boxA c)).alloc (boxB d)).alloc o).heap[w.heap.size + 1]? = _
  rw [Below.heap_alloc _ _ _ (by simp)]; exact new_obj (by simp)
theorem fst_ap : Ap c.P w.heap.size w (((w.alloc (boxA c)).alloc (boxB d)).alloc o).drew :=
 ((((Ap.refl c.P w.heap.size w).alloc (Nat.le_refl _) _).alloc (by simp) _).alloc (by simp; omega) _).drew
end
section
variable {c : PC} (w : World) (d i : Nat)
include c w d i
open zrqeb in
theorem rfirst_name (hk : (tkA c.l i).kd = 1) (h : Ps c w i 0 (-1)) :
  Calls Tryz.prog 256 #[pPtr c, .int .i64 (d : Int)] w (QPost c w (NV w.heap.size) ZN (.ok (.mk 23 (tkA c.l i).tx 0 []) (i + 1))) := by
 exact zeap
open zrqec in
theorem rfirst_num (hk : (tkA c.l i).kd = 3) (h : Ps c w i 0 (-1)) :
  Calls Tryz.prog 256 #[pPtr c, .int .i64 (d : Int)] w (QPost c w (NV w.heap.size) ZN (.ok (.mk 17 noText (tkA c.l i).n []) (i + 1))) := by
 exact zeap
open zrqed in
theorem rfirst_str (hk : (tkA c.l i).kd = 4) (h : Ps c w i 0 (-1)) :
  Calls Tryz.prog 256 #[pPtr c, .int .i64 (d : Int)] w (QPost c w (NV w.heap.size) ZN (.ok (.mk 18 (tkA c.l i).tx 0 []) (i + 1))) := by
 exact zeap
end
section
variable {c : PC} {F : Fns} (hF : RCt c F)
include c F hF
open zrqdw in
theorem rfirst_par (w : World) (d i : Nat) (r : PR Tr) (hd : d ≤ 30) (hn1 : (tkA c.l i).kd ≠ 1) (hn3 : (tkA c.l i).kd ≠ 3) (hn4 : (tkA c.l i).kd ≠ 4) (hf : fx c.l i = tOpen) (hs : r = inParP c.l F d i) (ho : r ≠ .out) (h : Ps c w i 0 (-1)) :
  Calls Tryz.prog 256 #[pPtr c, .int .i64 (d : Int)] w (QPost c w (NV w.heap.size) ZN r) := by
 exact zrj
open zrqdx in
theorem rfirst_fun (hN : ∃ k, FNx c.l k F) (hK : FOk F) (w : World) (d i : Nat) (r : PR Tr) (hd : d ≤ 30) (hn1 : (tkA c.l i).kd ≠ 1) (hn3 : (tkA c.l i).kd ≠ 3) (hn4 : (tkA c.l i).kd ≠ 4) (hnp : ¬ fx c.l i = tOpen) (hf : fx c.l i = tFunction) (hs : r = rlambdaP c.l F d i) (ho : r ≠ .out) (h : Ps c w i 0 (-1)) :
  Calls Tryz.prog 256 #[pPtr c, .int .i64 (d : Int)] w (QPost c w (NV w.heap.size) ZN r) := by
 have hm : mustP c.l tFunction i = .ok () (i + 1) := by unfold mustP; rw [if_pos hf]
 unfold rlambdaP at hs
 rw [hm, bind_ok] at hs
 exact zrj
open zrqdy in
theorem rfirst_obj (w : World) (d i : Nat) (r : PR Tr) (hd : d ≤ 30) (hn1 : (tkA c.l i).kd ≠ 1) (hn3 : (tkA c.l i).kd ≠ 3) (hn4 : (tkA c.l i).kd ≠ 4) (hnp : ¬ fx c.l i = tOpen) (hnf : ¬ fx c.l i = tFunction) (hf : fx c.l i = tLBrace) (hs : r = robjectP c.l F d i) (ho : r ≠ .out) (h : Ps c w i 0 (-1)) :
  Calls Tryz.prog 256 #[pPtr c, .int .i64 (d : Int)] w (QPost c w (NV w.heap.size) ZN r) := by
 have hm : mustP c.l tLBrace i = .ok () (i + 1) := by unfold mustP; rw [if_pos hf]
 unfold robjectP at hs
 rw [hm, bind_ok] at hs
 exact zrj
end
section
variable {c : PC} (w : World) (d i : Nat) (hn1 : (tkA c.l i).kd ≠ 1) (hn3 : (tkA c.l i).kd ≠ 3) (hn4 : (tkA c.l i).kd ≠ 4) (hnp : ¬ fx c.l i = tOpen) (hnf : ¬ fx c.l i = tFunction) (hnb : ¬ fx c.l i = tLBrace)
include c w d i hn1 hn3 hn4 hnp hnf hnb
open zrqdz in
theorem rfirst_lit (hk2 : (tkA c.l i).kd = 2) (hlk : 0 < litK (tkA c.l i).tx) (h : Ps c w i 0 (-1)) :
  Calls Tryz.prog 256 #[pPtr c, .int .i64 (d : Int)] w (QPost c w (NV w.heap.size) ZN (.ok (.mk (litK (tkA c.l i).tx) noText 0 []) (i + 1))) := by
 have hl : i + 1 < c.l.length := next_lt h.base.ends h.lt (by rw [hk2]; decide)
 have bk : ((tkA c.l i).kd == 2) = true := beq_iff_eq.2 hk2
 clear hk2
 exact zrj
open zrqea in
theorem rfirst_no (hno : ¬ ((tkA c.l i).kd = 2 ∧ 0 < litK (tkA c.l i).tx)) (h : Ps c w i 0 (-1)) :
  Calls Tryz.prog 256 #[pPtr c, .int .i64 (d : Int)] w (QPost c w (NV w.heap.size) ZN (badF c.l 3 i)) := by
 exact zrj
end
theorem rpairs_nil {c : PC} {F : Fns} (hF : RCt c F) (w : World) (d i g o : Nat) (r : PR Tr) (hd : d ≤ 30) (hs : r = rpairs c.l F d [] i) (ho : r ≠ .out) (h : Ps c w i 0 (-1)) :
  Calls Tryz.prog 149 #[pPtr c, .int .i64 (d : Int), .slice (some ⟨g, o, none⟩) 0 0] w (QPost c w (NV w.heap.size) ZN r) := by
 have HC := hide (hF.sg w d i r hd hs ho h)
 have HO := hide ho
 clear h hs ho hF
 go_enter Tryz.func149, Tryz.ntmps149
 exact zbcx
def PairC (c : PC) (F : Fns) (d g o : Nat) (ls : List ByteArray) : Prop := ∀ w i r, r = rpairs c.l F d ls i → r ≠ .out → Ps c w i 0 (-1) → w.heap[g]? = some (.cells lvCells 9 (0, 0)) → Calls Tryz.prog 149 #[pPtr c, .int .i64 (d : Int), .slice (some ⟨g, o, none⟩) ls.length ls.length] w (QPost c w (NV w.heap.size) ZN r)
theorem nv_at {B : Nat} {w : World} {t : Tr} {q : Nat} (h : NV B w t (nPtr q)) : NAt (fun b => B ≤ b) w t q := by
 exact zbgu
theorem ops_made2 (W : World) (N : Nat) (hN : N = W.heap.size) : ∃ m1 m2 m3 m4 m5 m6 m7 : Array MapEntry,
  (Instr.makeMap 98 none).run Tryz.prog W.drew.drew = .ok (.map (some N)) (W.alloc (.map #[] 0)).drew.drew
  ∧ (Instr.mapUpdate 98 (.map (some N)) (.string tOr) (.int .i64 25)).run Tryz.prog (W.alloc (.map #[] 0)).drew.drew = .ok () (W.alloc (.map m1 1)).drew.drew
  ∧ (Instr.mapUpdate 98 (.map (some N)) (.string tAnd) (.int .i64 26)).run Tryz.prog (W.alloc (.map m1 1)).drew.drew = .ok () (W.alloc (.map m2 2)).drew.drew
  ∧ (Instr.mapUpdate 98 (.map (some N)) (.string tSame) (.int .i64 27)).run Tryz.prog (W.alloc (.map m2 2)).drew.drew = .ok () (W.alloc (.map m3 3)).drew.drew
  ∧ (Instr.mapUpdate 98 (.map (some N)) (.string tLess) (.int .i64 28)).run Tryz.prog (W.alloc (.map m3 3)).drew.drew = .ok () (W.alloc (.map m4 4)).drew.drew
  ∧ (Instr.mapUpdate 98 (.map (some N)) (.string tAdd) (.int .i64 29)).run Tryz.prog (W.alloc (.map m4 4)).drew.drew = .ok () (W.alloc (.map m5 5)).drew.drew
  ∧ (Instr.mapUpdate 98 (.map (some N)) (.string tSub) (.int .i64 30)).run Tryz.prog (W.alloc (.map m5 5)).drew.drew = .ok () (W.alloc (.map m6 6)).drew.drew
  ∧ (Instr.mapUpdate 98 (.map (some N)) (.string tMul) (.int .i64 31)).run Tryz.prog (W.alloc (.map m6 6)).drew.drew = .ok () (W.alloc (.map m7 7)).drew.drew
  ∧ ∀ s, (Instr.lookup 98 (.map (some N)) (.string s) false).run Tryz.prog (W.alloc (.map m7 7)).drew.drew = .ok (.int .i64 (opK s)) (W.alloc (.map m7 7)).drew.drew := by
 subst hN
 exact ops_made W.drew.drew
theorem fits_ways (s x : ByteArray) :
  (fitsB s x = true ∧ (x.toList == s.toList) = true) ∨ (fitsB s x = true ∧ (x.toList == s.toList) = false ∧ (s.toList == [43, 45]) = true ∧ (x.toList == [43]) = true)
  ∨ (fitsB s x = true ∧ (x.toList == s.toList) = false ∧ (s.toList == [43, 45]) = true ∧ (x.toList == [43]) = false ∧ (x.toList == [45]) = true)
  ∨ (fitsB s x = false ∧ (x.toList == s.toList) = false ∧ (s.toList == [43, 45]) = false)
  ∨ (fitsB s x = false ∧ (x.toList == s.toList) = false ∧ (s.toList == [43, 45]) = true ∧ (x.toList == [43]) = false ∧ (x.toList == [45]) = false) := by
 unfold fitsB
 by_cases h1 : x = s
 ·
  exact Or.inl ⟨by simp [h1], tl_eq h1⟩
 ·
  by_cases h2 : s = tPM
  ·
   by_cases h3 : x = tAdd
   ·
    exact Or.inr (Or.inl ⟨by simp [h2, h3], tl_ne h1, tl_eqL (b := tPM) rfl h2, tl_eqL (b := tAdd) rfl h3⟩)
   ·
    by_cases h4 : x = tSub
    ·
     exact Or.inr (Or.inr (Or.inl ⟨by simp [h2, h4], tl_ne h1, tl_eqL (b := tPM) rfl h2, tl_neL (b := tAdd) rfl h3, tl_eqL (b := tSub) rfl h4⟩))
    ·
     exact Or.inr (Or.inr (Or.inr (Or.inr ⟨by simp [h1, h3, h4], tl_ne h1, tl_eqL (b := tPM) rfl h2, tl_neL (b := tAdd) rfl h3, tl_neL (b := tSub) rfl h4⟩)))
  ·
   exact Or.inr (Or.inr (Or.inr (Or.inl ⟨by simp [h1, h2], tl_ne h1, tl_neL (b := tPM) rfl h2⟩)))
section
variable {c : PC} {F : Fns} {d g o : Nat} {s : ByteArray} {rest : List ByteArray} (hg : g ≠ c.P) (hso : lvCells[o]? = some (.string s))
include c F d g o s rest hg hso
open zrqee in
theorem rpairs_more (hz : rest ≠ []) (hC : PairC c F d g (o + 1) rest) : PairC c F d g o (s :: rest) := by
 intro w i r hs ho h hk
 unfold rpairs at hs
 have HLT := hide h.rlt
 have HSO := hide hso
 have HO := hide ho
 have HS := hide hs
 have HK := hide hk
 have HGN := hide hg
 have HC := hide (fun r hr ho => hC w i r hr ho h hk)
 have HPC := hide hC
 clear hs ho hso
 unfold PairC at HPC
 simp only [List.length_cons]
 obtain ⟨n, hn⟩ : ∃ n, rest.length = n := ⟨_, rfl⟩
 rw [hn] at HC HPC
 rw [hn]
 have hn0 : ¬ n = 0 := by rw [← hn]; intro h0; exact hz (List.length_eq_zero_iff.1 h0)
 have b0 : (((n : Nat) : Int) + 1 == 0) = false := beq_eq_false_iff_ne.2 (by omega)
 clear hz hn
 clear h hk hC hg
 cases hr : rpairs c.l F d rest i with
 | out => rw [hr] at HS; exact absurd HS.out HO.out
 | bad er pl =>
  exact zbcs
 | ok t0 j0 =>
  have HC' := hide (HC.out _ hr.symm (by nofun)); rw [hr] at HS; have HS2 : Hid (rpairLoop c.l (rpairs c.l F d rest) s F.fuel t0 j0 = r) := HS.out.symm; exact zrdz
open zrqef in
theorem rpairs_one (hz : rest = []) (hC : PairC c F d g o rest) : PairC c F d g o (s :: rest) := by
 intro w i r hs ho h hk
 unfold rpairs at hs
 have HLT := hide h.rlt
 have HSO := hide hso
 have HO := hide ho
 have HS := hide hs
 have HK := hide hk
 have HGN := hide hg
 have HC := hide (fun r hr ho => hC w i r hr ho h hk)
 have HPC := hide hC
 clear hs ho hso
 subst hz
 simp only [List.length_cons, List.length_nil, Nat.zero_add]
 unfold PairC at HPC
 simp only [List.length_nil] at HC HPC
 clear h hk hC hg
 cases hr : rpairs c.l F d [] i with
 | out => rw [hr] at HS; exact absurd HS.out HO.out
 | bad er pl =>
  exact zbcs
 | ok t0 j0 =>
  have HC' := hide (HC.out _ hr.symm (by nofun)); rw [hr] at HS; have HS2 : Hid (rpairLoop c.l (rpairs c.l F d []) s F.fuel t0 j0 = r) := HS.out.symm; exact zrdz
end
theorem rpairs_any {c : PC} {F : Fns} (hF : RCt c F) {d g : Nat} (hd : d ≤ 30) (hg : g ≠ c.P) : ∀ (ls : List ByteArray) (o : Nat), lvls.drop o = ls → PairC c F d g o ls
 | [], o, _ => fun w i r hs ho h _ => rpairs_nil hF w d i g o r hd hs ho h
 | s :: rest, o, he => by
  have h1 : lvls[o]? = some s := by
   have : (lvls.drop o)[0]? = some s := by rw [he]; rfl
   rw [List.getElem?_drop] at this; exact this
  have h2 : lvls.drop (o + 1) = rest := by
   have : (lvls.drop o).tail = rest := by rw [he]; rfl
   rw [List.tail_drop] at this; exact this
  have h3 : lvCells[o]? = some (.string s) := by
   unfold lvCells; rw [List.getElem?_toArray, List.getElem?_map, h1]; rfl
  by_cases hz : rest = []
  ·
   exact rpairs_one hg h3 hz (by rw [hz]; exact fun w i r hs ho h _ => rpairs_nil hF w d i g o r hd hs ho h)
  ·
   exact rpairs_more hg h3 hz (rpairs_any hF hd hg rest (o + 1) h2)
theorem rpr_any {c : PC} {F : Fns} (hF : RCt c F) (w : World) (d i : Nat) (r : PR Tr) (g : Nat) (hd : d ≤ 30) (hs : r = rpr c.l F 2 d i) (ho : r ≠ .out) (h : Ps c w i 0 (-1)) (hk : w.heap[g]? = some (.cells lvCells 9 (0, 0))) (hg : g ≠ c.P) :
  Calls Tryz.prog 149 #[pPtr c, .int .i64 (d : Int), .slice (some ⟨g, 0, none⟩) 6 6] w (QPost c w (NV w.heap.size) ZN r) :=
 rpairs_any hF hd hg lvls 0 rfl w i r hs ho h hk
end Go.Proofs.YtodmgaikhbmlnaaGreatDoor
