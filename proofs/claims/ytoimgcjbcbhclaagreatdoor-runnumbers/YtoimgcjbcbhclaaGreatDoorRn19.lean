/-
  The document's parser: maps that are written out; values of one token or in signs of their own.
-/
import Derived.Test.YtoimgcjbcbhclaaGreatDoorRn18
namespace Go.Proofs.YtoimgcjbcbhclaaGreatDoor.Old
open Go.RowKit
theorem setMap_new (W : World) (o1 o2 : Obj) : zjx (W.alloc o1) W.heap.size o2 = W.alloc o2 := by
 have h : (W.heap.push o1).setIfInBounds W.heap.size o2 = W.heap.push o2 := by
  apply Array.ext (by simp); intro k h1 h2; simp only [Array.size_setIfInBounds, Array.size_push] at h1; rw [Array.getElem_setIfInBounds (by simpa using h1)]
  by_cases hk : W.heap.size = k
  ·
   subst hk; simp
  ·
   rw [if_neg hk, Array.getElem_push_lt (by omega), Array.getElem_push_lt (by omega)]
 unfold zjx World.alloc
 simp only [h]
theorem zx0 (T E : TypeId) (W : World) (l : List (ByteArray × Value)) (s : ByteArray) (v : Value) (k : Nat) (m m' : Array MapEntry) (hk : k = l.length) (hm : m = zx5 l) (hm' : m' = zx5 (l ++ [(s, v)])) (hT : Tryz.prog.underlying T = some (.map 9 E)) (hn : l.find? (fun e => decide (s = e.1)) = none) :
  (Instr.mapUpdate T (.map (some W.heap.size)) (.string s) v).run Tryz.prog (W.alloc (.map m k)) = .ok () (W.alloc (.map m' (k + 1))) := by
 subst hk hm hm'
 rw [zgq T E W.heap.size l s v _ hT (zqx _ _) hn, setMap_new]
theorem lookup_map1 (T E : TypeId) (m k : Nat) (l : List (ByteArray × Value)) (s : ByteArray) (z : Value) (W : World) (hT : Tryz.prog.underlying T = some (.map 9 E)) (hm : W.heap[m]? = some (.map (zx5 l) k)) (hz : (zeroValue E).run Tryz.prog W = .ok z W) :
  (Instr.lookup T (.map (some m)) (.string s) false).run Tryz.prog W = .ok (((l.find? (fun e => decide (s = e.1))).map (·.2)).getD z) W := by
 obtain ⟨o, h1, h2⟩ := zmx s l 0 0
 have h9 := Tryz.underlying9
 have h3 : (Instr.findKey 9 (.string s) (zx5 l).toList).run Tryz.prog W = .ok o W := by
  unfold Instr.findKey; rw [Sem.run_bind, run_underlying h9 W]; simp only [Result.andThen_ok, zx5]; rw [h1]; rfl
 unfold Instr.lookup
 rw [Sem.run_bind, run_underlying hT W]
 have hck : ∀ b, (Instr.checkKey b 10000 9 (.string s)).run Tryz.prog W = .ok () W := by
  intro b; rw [Instr.checkKey, Sem.run_bind, run_underlying h9 W]; rfl
 have hg : (getObj m).run Tryz.prog W = .ok (.map (zx5 l) k) W := by simp [getObj, Sem.run, hm]
 simp only [Result.andThen_ok, Sem.run_bind, hg, Sem.run_pure, hck, h3]
 cases o with
 | none =>
  cases hf : l.find? (fun e => decide (s = e.1)) with
  | none => simp [hz]
  | some x => rw [hf] at h2; simp at h2
 | some y =>
  cases hf : l.find? (fun e => decide (s = e.1)) with
  | none => rw [hf] at h2; simp at h2
  | some x => rw [hf] at h2; simp at h2; simp [h2]
def zj0 (l : List (ByteArray × Int)) : List (ByteArray × Value) := l.map fun e => (e.1, .int .i64 e.2)
theorem zhj (g k : Nat) (l : List (ByteArray × Int)) (s : ByteArray) (W : World) (hm : W.heap[g]? = some (.map (zx5 (zj0 l)) k)) :
  (Instr.lookup 89 (.map (some g)) (.string s) false).run Tryz.prog W = .ok (.int .i64 ((zxy l s).getD 0)) W := by
 rw [lookup_map1 89 3 g k _ s (.int .i64 0) W Tryz.underlying89 hm (by kernel_rfl)]
 unfold zj0 zxy
 rw [List.find?_map]
 simp only [Function.comp_def]
 cases l.find? (fun e => decide (s = e.1)) <;> rfl
theorem lits_made (W : World) : ∃ m1 m2 m3 m4 : Array MapEntry,
  (Instr.makeMap 89 none).run Tryz.prog W = .ok (.map (some W.heap.size)) (W.alloc (.map #[] 0))
  ∧ (Instr.mapUpdate 89 (.map (some W.heap.size)) (.string tTrue) (.int .i64 19)).run Tryz.prog (W.alloc (.map #[] 0)) = .ok () (W.alloc (.map m1 1))
  ∧ (Instr.mapUpdate 89 (.map (some W.heap.size)) (.string tFalse) (.int .i64 20)).run Tryz.prog (W.alloc (.map m1 1)) = .ok () (W.alloc (.map m2 2))
  ∧ (Instr.mapUpdate 89 (.map (some W.heap.size)) (.string tNull) (.int .i64 21)).run Tryz.prog (W.alloc (.map m2 2)) = .ok () (W.alloc (.map m3 3))
  ∧ (Instr.mapUpdate 89 (.map (some W.heap.size)) (.string tUndef) (.int .i64 22)).run Tryz.prog (W.alloc (.map m3 3)) = .ok () (W.alloc (.map m4 4))
  ∧ ∀ s, (Instr.lookup 89 (.map (some W.heap.size)) (.string s) false).run Tryz.prog (W.alloc (.map m4 4)) = .ok (.int .i64 (litK s)) (W.alloc (.map m4 4)) := by
 refine ⟨zx5 (zj0 (lits.take 1)), zx5 (zj0 (lits.take 2)), zx5 (zj0 (lits.take 3)), zx5 (zj0 lits), mkMap 89 W, ?_, ?_, ?_, ?_, ?_⟩
 ·
  exact zx0 89 3 W [] tTrue _ 0 _ _ rfl rfl rfl Tryz.underlying89 rfl
 ·
  exact zx0 89 3 W (zj0 (lits.take 1)) tFalse _ 1 _ _ rfl rfl rfl Tryz.underlying89 (by decide +kernel)
 ·
  exact zx0 89 3 W (zj0 (lits.take 2)) tNull _ 2 _ _ rfl rfl rfl Tryz.underlying89 (by decide +kernel)
 ·
  exact zx0 89 3 W (zj0 (lits.take 3)) tUndef _ 3 _ _ rfl rfl rfl Tryz.underlying89 (by decide +kernel)
 ·
  intro s; exact zhj W.heap.size 4 lits s _ (zqx _ _)
theorem ops_made (W : World) : ∃ m1 m2 m3 m4 m5 m6 m7 : Array MapEntry,
  (Instr.makeMap 89 none).run Tryz.prog W = .ok (.map (some W.heap.size)) (W.alloc (.map #[] 0))
  ∧ (Instr.mapUpdate 89 (.map (some W.heap.size)) (.string tOr) (.int .i64 25)).run Tryz.prog (W.alloc (.map #[] 0)) = .ok () (W.alloc (.map m1 1))
  ∧ (Instr.mapUpdate 89 (.map (some W.heap.size)) (.string tAnd) (.int .i64 26)).run Tryz.prog (W.alloc (.map m1 1)) = .ok () (W.alloc (.map m2 2))
  ∧ (Instr.mapUpdate 89 (.map (some W.heap.size)) (.string tSame) (.int .i64 27)).run Tryz.prog (W.alloc (.map m2 2)) = .ok () (W.alloc (.map m3 3))
  ∧ (Instr.mapUpdate 89 (.map (some W.heap.size)) (.string tLess) (.int .i64 28)).run Tryz.prog (W.alloc (.map m3 3)) = .ok () (W.alloc (.map m4 4))
  ∧ (Instr.mapUpdate 89 (.map (some W.heap.size)) (.string tAdd) (.int .i64 29)).run Tryz.prog (W.alloc (.map m4 4)) = .ok () (W.alloc (.map m5 5))
  ∧ (Instr.mapUpdate 89 (.map (some W.heap.size)) (.string tSub) (.int .i64 30)).run Tryz.prog (W.alloc (.map m5 5)) = .ok () (W.alloc (.map m6 6))
  ∧ (Instr.mapUpdate 89 (.map (some W.heap.size)) (.string tMul) (.int .i64 31)).run Tryz.prog (W.alloc (.map m6 6)) = .ok () (W.alloc (.map m7 7))
  ∧ ∀ s, (Instr.lookup 89 (.map (some W.heap.size)) (.string s) false).run Tryz.prog (W.alloc (.map m7 7)) = .ok (.int .i64 (opK s)) (W.alloc (.map m7 7)) := by
 refine ⟨zx5 (zj0 (ops.take 1)), zx5 (zj0 (ops.take 2)), zx5 (zj0 (ops.take 3)), zx5 (zj0 (ops.take 4)), zx5 (zj0 (ops.take 5)), zx5 (zj0 (ops.take 6)), zx5 (zj0 ops), mkMap 89 W, ?_, ?_, ?_, ?_, ?_, ?_, ?_, ?_⟩
 ·
  exact zx0 89 3 W [] tOr _ 0 _ _ rfl rfl rfl Tryz.underlying89 rfl
 ·
  exact zx0 89 3 W (zj0 (ops.take 1)) tAnd _ 1 _ _ rfl rfl rfl Tryz.underlying89 (by decide +kernel)
 ·
  exact zx0 89 3 W (zj0 (ops.take 2)) tSame _ 2 _ _ rfl rfl rfl Tryz.underlying89 (by decide +kernel)
 ·
  exact zx0 89 3 W (zj0 (ops.take 3)) tLess _ 3 _ _ rfl rfl rfl Tryz.underlying89 (by decide +kernel)
 ·
  exact zx0 89 3 W (zj0 (ops.take 4)) tAdd _ 4 _ _ rfl rfl rfl Tryz.underlying89 (by decide +kernel)
 ·
  exact zx0 89 3 W (zj0 (ops.take 5)) tSub _ 5 _ _ rfl rfl rfl Tryz.underlying89 (by decide +kernel)
 ·
  exact zx0 89 3 W (zj0 (ops.take 6)) tMul _ 6 _ _ rfl rfl rfl Tryz.underlying89 (by decide +kernel)
 ·
  intro s; exact zhj W.heap.size 7 ops s _ (zqx _ _)
end Go.Proofs.YtoimgcjbcbhclaaGreatDoor.Old
namespace Go.Proofs.YtoimgcjbcbhclaaGreatDoor.Old
open Go.RowKit
set_option maxRecDepth 100000 in
set_option maxHeartbeats 2000000 in
theorem zd6 {c : PC} {F : Fns} (hF : RCt c F) (hN : ∃ k, FNx c.l k F) (hK : FOk F) (w : World) (kd : Int) (s : ByteArray) (d i : Nat) (r : PR Tr) (hd : d ≤ 30) (hs : r = zvv c.l F kd s d i) (ho : r ≠ .out) (h : Ps c w i 0 (-1)) :
  Calls Tryz.prog 189 #[pPtr c, .int .i64 kd, .string s, .int .i64 (d : Int)] w (zj3 c w (NV w.heap.size) ZN r) := by
 unfold zvv zgx at hs
 have HLT := qh h.rlt
 have hne : w.heap.size ≠ c.P := by have := h.rlt; omega
 have HBX : Hid (BoxP c w.heap.size (w.alloc (.cells #[pPtr c] 164))) := ⟨zqx _ _, hne⟩
 have HP0 := qh (h.alloc (.cells #[pPtr c] 164))
 have HA0 := qh ((Ap.refl c.P w.heap.size w).alloc qv (.cells #[pPtr c] 164))
 have HC1 := qh (zx4 c _ i zxk (by decide) HP0.out)
 have hb := HBX.out.cell
 have HS := qh hs
 have HO := qh ho
 have HF := qh hF
 have HNX := qh hN
 have HKO := qh hK
 clear h hs ho hF hN hK hne
 go_enter Tryz.func189, Tryz.ntmps189
 go_wp2_with fail
 refine cm HC1.out ?_
 intro e w1 hp
 cases hr : zz0 c.l zxk i with
 | out => rw [hr] at HS; exact absurd HS.out HO.out
 | bad er pl =>
  rw [hr] at hp HS; have hq : r = .bad er pl := zzq HS; subst hq; obtain ⟨⟨v, rfl, rfl⟩, ⟨j, hp1⟩, he, ha⟩ := hp; have HP1 := qh hp1; have HA1 := qh (HA0.out.trans (ha.mono (by simp)))
  have hb1 := (HBX.out.ap ha).cell; clear hp1 ha hr HC1 HP0 HA0 hb; have HC2 := qh (rlist_old c w1 j er pl zjy (.func (.func 253) #[] #[.pointer (some ⟨w.heap.size, 0, none⟩)]) he HP1.out); go_wp2_with fail
  refine cm HC2.out ?_; rintro e w2 ⟨rfl, rfl⟩; clear HC2; have HC3 := qh (zy6 c _ j er pl d true he (HP1.out.alloc (zzk 40 zzx 0 (.slice none 0 0)))); have hwl : w.heap.size < w2.heap.size := by
   rcases Nat.lt_or_ge w.heap.size w2.heap.size with h' | h'
   ·
    exact h'
   ·
    simp [World.cell?, Array.getElem?_eq_none h'] at hb1
  go_wp2_with fail; refine cm HC3.out ?_; rintro e w3 ⟨⟨v, rfl, q, rfl⟩, ⟨j3, hp3⟩, _, ha3⟩; have HP3 := qh hp3
  have HA3 := qh ((HA1.out.alloc HA1.out.size (zzk 40 zzx 0 (.slice none 0 0))).trans (ha3.mono (by simp; omega)))
  clear hp3 ha3 HC3; go_wp2_with fail; go_ret; exact ⟨⟨_, rfl, _, rfl⟩, ⟨j3, (HP3.out.alloc _).alloc _⟩, he, (HA3.out.alloc HA3.out.size _).alloc (by have := HA3.out.size; simp; omega) _⟩
 | ok x1 j1 =>
  rw [hr] at hp HS; obtain ⟨⟨v, rfl, rfl⟩, hp1, ha⟩ := hp; have HP1 := qh hp1; have HA1 := qh (HA0.out.trans (ha.mono (by simp))); have HBX1 := qh (HBX.out.ap ha); have hb1 := HBX1.out.cell; have hwl := HBX1.out.lt
  clear hp1 ha hr HC1 HP0 HA0 hb HBX
  cases hr2 : zx1 c.l zjy (zh7 c.l) F.fuel [] j1 with
  | out => rw [zzv, hr2] at HS; exact absurd HS.out HO.out
  | bad er pl =>
   have HC2 := qh (zg5 (param_part c w.heap.size) zjy (by decide) F.fuel w1 j1 _ hr2.symm (by nofun) HBX1.out (by omega) HP1.out); rw [zzv, hr2] at HS; have hq : r = .bad er pl := zzq HS; subst hq
   clear hr2; go_wp2_with fail; refine cm HC2.out ?_; rintro e w2 ⟨⟨v, rfl, a, n, k, rfl⟩, ⟨j, hp2⟩, he, ha2⟩; have HP2 := qh hp2; have HA2 := qh (HA1.out.next ha2); have hb2 := (HBX1.out.ap ha2).cell
   have hwl2 := (HBX1.out.ap ha2).lt; clear hp2 ha2 HC2 HP1 HA1; have HC3 := qh (zy6 c _ j er pl d true he (HP2.out.alloc (zzk 40 zzx 0 (.slice a n k)))); go_wp2_with fail; refine cm HC3.out ?_
   rintro e w3 ⟨⟨v, rfl, q, rfl⟩, ⟨j3, hp3⟩, _, ha3⟩; have HP3 := qh hp3; have HA3 := qh ((HA2.out.alloc HA2.out.size (zzk 40 zzx 0 (.slice a n k))).trans (ha3.mono (by simp; omega)))
   clear hp3 ha3 HC3; go_wp2_with fail; go_ret; exact ⟨⟨_, rfl, _, rfl⟩, ⟨j3, (HP3.out.alloc _).alloc _⟩, he, (HA3.out.alloc HA3.out.size _).alloc (by have := HA3.out.size; simp; omega) _⟩
  | ok ts j2 =>
   have HC2 := qh (zg5 (param_part c w.heap.size) zjy (by decide) F.fuel w1 j1 _ hr2.symm (by nofun) HBX1.out (by omega) HP1.out); rw [zzv, hr2] at HS
   have hq : r = (zq0 c.l F d j2).bind fun b i2 => .ok (.mk kd s 0 [.mk 40 zzx 0 ts, zhk b]) i2 := zzq HS; have HQ := qh hq; clear hr2 hq HS; go_wp2_with fail; refine cm HC2.out ?_
   rintro e w2 ⟨⟨v, rfl, hkv⟩, hp2, ha2⟩; obtain ⟨a, k, rfl⟩ := hkv.shape; have HP2 := qh (hp2.alloc (zzk 40 zzx 0 (.slice a ts.length k)))
   have HA2 := qh ((HA1.out.next ha2).alloc (HA1.out.next ha2).size (zzk 40 zzx 0 (.slice a ts.length k))); have HNP := qh (EV.new (hkv.mono HA1.out.size) (HA1.out.next ha2).size 40 zzx 0).nv
   have hb2 := (HBX1.out.ap ha2).cell; have hwl2 := (HBX1.out.ap ha2).lt; clear hp2 ha2 HC2 HP1 HA1 hkv
   cases hr3 : zq0 c.l F d j2 with
   | out => rw [hr3] at HQ; exact absurd HQ.out HO.out
   | bad er pl =>
    have HC3 := qh (zx8 HF.out HNX.out HKO.out true _ d j2 (.bad er pl) hd (by rw [hr3]; rfl) (by nofun) HP2.out)
    rw [hr3] at HQ; have hq : r = .bad er pl := zzq HQ; subst hq; clear hr3; go_wp2_with fail; refine cm HC3.out ?_; rintro e w3 ⟨⟨v, rfl, q, rfl⟩, ⟨j3, hp3⟩, he, ha3⟩; have HP3 := qh hp3
    have HA3 := qh (HA2.out.trans (ha3.mono (by simp; omega)))
    clear hp3 ha3 HC3; go_wp2_with fail; go_ret; exact ⟨⟨_, rfl, _, rfl⟩, ⟨j3, (HP3.out.alloc _).alloc _⟩, he, (HA3.out.alloc HA3.out.size _).alloc (by have := HA3.out.size; simp; omega) _⟩
   | ok b j3 =>
    have HC3 := qh (zx8 HF.out HNX.out HKO.out true _ d j2 (.ok (zhk b) j3) hd (by rw [hr3]; rfl) (by nofun) HP2.out)
    rw [hr3] at HQ; have hq : r = .ok (.mk kd s 0 [.mk 40 zzx 0 ts, zhk b]) j3 := zzq HQ; subst hq; clear hr3; go_wp2_with fail; refine cm HC3.out ?_; rintro e w3 ⟨⟨v, rfl, q, rfl, hn3⟩, hp3, ha3⟩
    have HP3 := qh hp3; have HA3 := qh (HA2.out.trans (ha3.mono (by simp; omega)))
    have HNB : Hid (NAt (fun x => w.heap.size ≤ x) w3 (zhk b) q) := NAt.mono (fun x hx _ => Nat.le_trans HA2.out.size hx) _ _ hn3; obtain ⟨q0, he0, hq0⟩ := NV.later HNP.out ha3 HLT.out
    have hq0' : q0 = w2.heap.size := by simpa [nPtr] using he0.symm
    subst hq0'; have HNP3 := qh hq0; clear hp3 ha3 HC3 hn3 hq0 he0 HNP; go_wp2_with fail; go_ret
    refine ⟨⟨_, rfl, (zhx (NAts.cons HNP3.out (NAts.cons HNB.out NAts.nil)) HA3.out.size (by simp [maxLen]) #[nPtr w2.heap.size, nPtr q] rfl 2 rfl kd s 0 _ rfl).nv⟩, (HP3.out.alloc _).alloc _, (HA3.out.alloc HA3.out.size _).alloc (by have := HA3.out.size; simp; omega) _⟩
end Go.Proofs.YtoimgcjbcbhclaaGreatDoor.Old
namespace Go.Proofs.YtoimgcjbcbhclaaGreatDoor.Old
open Go.RowKit
structure Box2 (c : PC) (b1 b2 d : Nat) (W : World) : Prop where
 p : BoxP c b1 W
 n : BoxN c b2 d W
theorem Box2.ap {c : PC} {b1 b2 d : Nat} {W W' : World} (h : Box2 c b1 b2 d W) (ha : Ap c.P W.heap.size W W') : Box2 c b1 b2 d W' := ⟨h.p.ap ha, h.n.ap ha⟩
theorem en238 : ∀ args W, (callFunc 298 args).run Tryz.prog W = .ok (.enter 298 args) W := fun _ _ => by kernel_rfl
theorem en251 : ∀ args W, (callFunc 306 args).run Tryz.prog W = .ok (.enter 306 args) W := fun _ _ => by kernel_rfl
set_option maxRecDepth 100000 in
set_option maxHeartbeats 1000000 in
theorem rarg_does {c : PC} {F : Fns} (hF : RCt c F) {b1 b2 d : Nat} (hd : d ≤ 30) (W : World) (i : Nat) (r : PR Tr) (hk : Box2 c b1 b2 d W) (hs : r = argP c.l F d i) (ho : r ≠ .out) (h : Ps c W i 0 (-1)) :
  Calls Tryz.prog 298 #[.pointer (some ⟨b1, 0, none⟩), .pointer (some ⟨b2, 0, none⟩)] W (zj3 c W (NV W.heap.size) ZN r) := by
 have k0 := hk.p.cell
 have k1 := hk.n.cell
 have HC := qh (hF.vl W d i r hd hs ho h)
 have HO := qh ho
 clear hk h hs ho hF
 go_enter Tryz.func298, Tryz.ntmps298
 go_wp2_with fail
 refine cm HC.out ?_
 intro e w1 hp
 cases r with
 | out => exact absurd rfl HO.out
 | bad er pl =>
  obtain ⟨⟨v, rfl, q, rfl⟩, hp1, he, ha⟩ := hp; have HP := qh hp1; have HA := qh ha; clear hp1 ha HC; go_wp2_with fail; go_ret; exact ⟨⟨_, rfl, _, rfl⟩, HP.out, he, HA.out⟩
 | ok t j =>
  obtain ⟨⟨v, rfl, q, rfl, hn⟩, hp1, ha⟩ := hp; have HP := qh hp1; have HA := qh ha; have HN := qh hn; clear hp1 ha hn HC; go_wp2_with fail; go_ret; exact ⟨⟨_, rfl, q, rfl, HN.out⟩, HP.out, HA.out⟩
theorem arg_part {c : PC} {F : Fns} (hF : RCt c F) (b1 b2 d : Nat) (hd : d ≤ 30) : PartC c (max b1 b2 + 1) (Box2 c b1 b2 d) 298 #[.pointer (some ⟨b1, 0, none⟩), .pointer (some ⟨b2, 0, none⟩)] (argP c.l F d) where
 enters := en238
 stays := fun _ _ hk _ ha => hk.ap ha
 does := fun W i r hk hs ho h => rarg_does hF hd W i r hk hs ho h
 kept := fun _ _ _ hk ha hB => ⟨hk.p.below ha (by omega), hk.n.below ha (by omega)⟩
set_option maxRecDepth 100000 in
set_option maxHeartbeats 1000000 in
theorem rprop_does {c : PC} {F : Fns} (hF : RCt c F) {b1 b2 d : Nat} (hd : d ≤ 30) (W : World) (i : Nat) (r : PR Tr) (hk : Box2 c b1 b2 d W) (hs : r = zd8 c.l F d i) (ho : r ≠ .out) (h : Ps c W i 0 (-1)) :
  Calls Tryz.prog 306 #[.pointer (some ⟨b1, 0, none⟩), .pointer (some ⟨b2, 0, none⟩)] W (zj3 c W (NV W.heap.size) ZN r) := by
 have k0 := hk.p.cell
 have k1 := hk.n.cell
 unfold zd8 at hs
 have HC := qh (zvk c W i h)
 have HLT := qh h.rlt
 have HBX := qh hk
 have HS := qh hs
 have HO := qh ho
 have HF := qh hF
 clear hk h hs ho hF
 go_enter Tryz.func306, Tryz.ntmps306
 go_wp2_with fail
 refine cm HC.out ?_
 intro e w1 hp
 clear k0 k1
 cases hr : zjq c.l i with
 | out => rw [hr] at HS; exact absurd HS.out HO.out
 | bad er pl =>
  rw [hr] at hp HS; have hq : r = .bad er pl := zzq HS; subst hq; obtain ⟨⟨v, rfl, s, rfl⟩, ⟨j, hp1⟩, he, ha⟩ := hp; have HP1 := qh hp1; have HA1 := qh ha; have k0 := (HBX.out.ap ha).p.cell
  have k1 := (HBX.out.ap ha).n.cell; have HC2 := qh (zx9 c w1 j er pl he tColon hp1); have HC3 := qh (zm2 c w1 j er pl ((d : Int) + 1) he hp1); clear hp1 ha hr HC; go_wp2_with fail; refine cm HC2.out ?_
  rintro e w2 ⟨rfl, rfl⟩; clear HC2; go_wp2_with fail; refine cm HC3.out ?_; rintro e w3 ⟨⟨v, rfl, q, rfl⟩, ⟨j3, hp3⟩, _, ha3⟩; have HP3 := qh hp3; have HA3 := qh (HA1.out.next ha3); clear hp3 ha3 HC3; go_wp2_with fail
  go_ret; exact ⟨⟨_, rfl, _, rfl⟩, ⟨j3, (HP3.out.alloc _).alloc _⟩, he, (HA3.out.alloc HA3.out.size _).alloc (by have := HA3.out.size; simp; omega) _⟩
 | ok x j1 =>
  rw [hr] at hp HS; obtain ⟨⟨v, rfl, rfl⟩, hp1, ha⟩ := hp; have HP1 := qh hp1; have HA1 := qh ha; have HB1 := qh (HBX.out.ap ha); have k0 := HB1.out.p.cell; have k1 := HB1.out.n.cell
  have HC2 := qh (zx4 c w1 j1 tColon (by decide) hp1); clear hp1 ha hr HC HBX; go_wp2_with fail; refine cm HC2.out ?_; intro e w2 hp; clear k0 k1
  cases hr2 : zz0 c.l tColon j1 with
  | out => rw [zzv, hr2] at HS; exact absurd HS.out HO.out
  | bad er pl =>
   rw [zzv, hr2] at HS; rw [hr2] at hp; have hq : r = .bad er pl := zzq HS; subst hq; obtain ⟨⟨v, rfl, rfl⟩, ⟨j, hp2⟩, he, ha⟩ := hp; have HA2 := qh (HA1.out.next ha); have k0 := (HB1.out.ap ha).p.cell
   have k1 := (HB1.out.ap ha).n.cell; have HC3 := qh (zm2 c w2 j er pl ((d : Int) + 1) he hp2); clear hp2 ha hr2 HC2; go_wp2_with fail; refine cm HC3.out ?_; rintro e w3 ⟨⟨v, rfl, q, rfl⟩, ⟨j3, hp3⟩, _, ha3⟩
   have HP3 := qh hp3; have HA3 := qh (HA2.out.next ha3); clear hp3 ha3 HC3; go_wp2_with fail; go_ret
   exact ⟨⟨_, rfl, _, rfl⟩, ⟨j3, (HP3.out.alloc _).alloc _⟩, he, (HA3.out.alloc HA3.out.size _).alloc (by have := HA3.out.size; simp; omega) _⟩
  | ok x2 j2 =>
   rw [zzv, hr2] at HS; rw [hr2] at hp; obtain ⟨⟨v, rfl, rfl⟩, hp2, ha⟩ := hp; have HA2 := qh (HA1.out.next ha); have HP2 := qh hp2; have k0 := (HB1.out.ap ha).p.cell; have k1 := (HB1.out.ap ha).n.cell
   have hq : r = (zq2 c.l F.vl d j2).bind fun t i3 => .ok (.mk 39 x 0 [t]) i3 := zzq HS; have HQ := qh hq; clear hp2 ha hr2 HC2 hq HS HA1 HP1
   cases hr3 : zq2 c.l F.vl d j2 with
   | out => rw [hr3] at HQ; exact absurd HQ.out HO.out
   | bad er pl =>
    have HC3 := qh (HF.out.vl w2 d j2 _ hd hr3.symm (by nofun) HP2.out); rw [hr3] at HQ; have hq : r = .bad er pl := zzq HQ; subst hq; clear hr3; go_wp2_with fail; refine cm HC3.out ?_
    rintro e w3 ⟨⟨v, rfl, q, rfl⟩, ⟨j3, hp3⟩, he, ha3⟩; have HP3 := qh hp3; have HA3 := qh (HA2.out.next ha3); clear hp3 ha3 HC3; go_wp2_with fail; go_ret
    exact ⟨⟨_, rfl, _, rfl⟩, ⟨j3, (HP3.out.alloc _).alloc _⟩, he, (HA3.out.alloc HA3.out.size _).alloc (by have := HA3.out.size; simp; omega) _⟩
   | ok t j3 =>
    have HC3 := qh (HF.out.vl w2 d j2 _ hd hr3.symm (by nofun) HP2.out); rw [hr3] at HQ; have hq : r = .ok (.mk 39 x 0 [t]) j3 := zzq HQ; subst hq; clear hr3; go_wp2_with fail; refine cm HC3.out ?_
    rintro e w3 ⟨⟨v, rfl, q, rfl, hn⟩, hp3, ha3⟩; have HP3 := qh hp3; have HA3 := qh (HA2.out.next ha3)
    have HN3 : Hid (NAt (fun b => W.heap.size ≤ b) w3 t q) := NAt.mono (fun b hb _ => Nat.le_trans HA2.out.size hb) _ _ hn; clear hp3 ha3 HC3 hn; go_wp2_with fail; go_ret
    exact ⟨⟨_, rfl, (zhx (NAts.cons HN3.out NAts.nil) HA3.out.size (by simp [maxLen]) #[nPtr q] rfl 1 rfl 39 x 0 _ rfl).nv⟩, (HP3.out.alloc _).alloc _, (HA3.out.alloc HA3.out.size _).alloc (by have := HA3.out.size; simp; omega) _⟩
theorem prop_part {c : PC} {F : Fns} (hF : RCt c F) (b1 b2 d : Nat) (hd : d ≤ 30) : PartC c (max b1 b2 + 1) (Box2 c b1 b2 d) 306 #[.pointer (some ⟨b1, 0, none⟩), .pointer (some ⟨b2, 0, none⟩)] (zd8 c.l F d) where
 enters := en251
 stays := fun _ _ hk _ ha => hk.ap ha
 does := fun W i r hk hs ho h => rprop_does hF hd W i r hk hs ho h
 kept := fun _ _ _ hk ha hB => ⟨hk.p.below ha (by omega), hk.n.below ha (by omega)⟩
end Go.Proofs.YtoimgcjbcbhclaaGreatDoor.Old
