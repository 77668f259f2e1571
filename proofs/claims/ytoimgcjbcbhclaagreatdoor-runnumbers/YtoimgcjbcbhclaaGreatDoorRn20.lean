/-
  The document's parser: values of one token or in signs of their own.
-/
import Derived.Test.YtoimgcjbcbhclaaGreatDoorRn19
namespace Go.Proofs.YtoimgcjbcbhclaaGreatDoor.Old
open Go.RowKit
abbrev boxA (c : PC) : Obj := .cells #[pPtr c] 164
abbrev boxB (d : Nat) : Obj := .cells #[.int .i64 (d : Int)] 3
abbrev tokO (t : Tk) : Obj := .cells #[.int .i64 t.kd, .string t.tx, .int .i64 t.n, .int .i64 (t.pl : Int)] 167
theorem zfz {w : World} {o : Obj} {g : Nat} (hg : g = w.heap.size) : (w.alloc o).heap[g]? = some o := by subst hg; exact zqx _ _
theorem zn1 {B : Nat} {w : World} (hB : B ≤ w.heap.size) (kd : Int) (tx : ByteArray) (z : Int) (q : Nat) (hq : q = w.heap.size) : NV B (w.alloc (zzk kd tx z (.slice none 0 0))) (.mk kd tx z []) (nPtr q) := by subst hq; exact nv_leaf hB kd tx z
theorem zmk (c : PC) (w : World) (d : Nat) (o : Obj) (hP : c.P < w.heap.size) : Box2 c w.heap.size (w.heap.size + 1) d (((w.alloc (boxA c)).alloc (boxB d)).alloc o).drew := by
 refine ⟨⟨?_, by omega⟩, ⟨?_, by omega⟩⟩
 ·
  show (((w.alloc (boxA c)).alloc (boxB d)).alloc o).heap[w.heap.size]? = _
  rw [Below.heap_alloc _ _ _ (by simp; omega), Below.heap_alloc _ _ _ (by simp)]
  exact zqx _ _
 ·
  show (((w.alloc (boxA c)).alloc (boxB d)).alloc o).heap[w.heap.size + 1]? = _
  rw [Below.heap_alloc _ _ _ (by simp)]; exact zfz (by simp)
theorem fst_ap (c : PC) (w : World) (d : Nat) (o : Obj) : Ap c.P w.heap.size w (((w.alloc (boxA c)).alloc (boxB d)).alloc o).drew :=
 ((((Ap.refl c.P w.heap.size w).alloc qv _).alloc (by simp) _).alloc (by simp; omega) _).drew
set_option maxRecDepth 100000 in
set_option maxHeartbeats 2000000 in
theorem rfirst_name {c : PC} (w : World) (d i : Nat) (hk : (tkA c.l i).kd = 1) (h : Ps c w i 0 (-1)) :
  Calls Tryz.prog 297 #[pPtr c, .int .i64 (d : Int)] w (zj3 c w (NV w.heap.size) ZN (.ok (.mk 23 (tkA c.l i).tx 0 []) (i + 1))) := by
 have hl : i + 1 < c.l.length := zk4 h.base.ends h.lt (by rw [hk]; decide)
 have HPW := qh h
 have HLT := qh h.rlt
 have h0 := h.c0
 have h1 := h.c1
 have f1 := h.fz 1
 obtain ⟨k0, k1, k2, k3⟩ := h.toks
 have hlt : (i : Int) < (c.l.length : Int) := by have := h.lt; omega
 have hl3 := h.base.len
 have hR := h.rlt
 have hT := h.base.tlt
 have hR1 : c.P < w.heap.size + 1 := by omega
 have hR2 : c.P < w.heap.size + 1 + 1 := by omega
 have hT1 : c.tb < w.heap.size + 1 := by omega
 have hT2 : c.tb < w.heap.size + 1 + 1 := by omega
 have HC1 := qh (zk8 ((h.alloc (boxA c)).alloc (boxB d)))
 have b1 : ((tkA c.l i).kd == 1) = true := beq_iff_eq.2 hk
 clear h hk
 generalize tkA c.l i = t at *
 go_enter Tryz.func297, Tryz.ntmps297
 go_wp2_with fail
 refine cm HC1.out ?_
 rintro e w1 ⟨rfl, rfl⟩
 clear HC1
 go_wp2_with fail
 go_region
 go_wp2_with fail
 go_ret
 have hn : ((i : Int) + 1) = (((i + 1 : Nat)) : Int) := by omega
 rw [hn]
 refine ⟨⟨_, rfl, zn1 (by simp; omega) 23 t.tx 0 _ (by simp)⟩, ?_, ?_⟩
 ·
  exact ((((HPW.out.step hl).alloc _).alloc _).alloc _ |>.alloc _).drew
 ·
  exact ((((((Ap.refl c.P w.heap.size w).setCell (p := ⟨c.P, 1, none⟩) (Or.inr rfl) _).alloc (by simp) _).alloc (by simp <;> omega) _).alloc (by simp <;> omega) _).alloc (by simp <;> omega) _).drew
set_option maxRecDepth 100000 in
set_option maxHeartbeats 2000000 in
theorem rfirst_num {c : PC} (w : World) (d i : Nat) (hk : (tkA c.l i).kd = 3) (h : Ps c w i 0 (-1)) :
  Calls Tryz.prog 297 #[pPtr c, .int .i64 (d : Int)] w (zj3 c w (NV w.heap.size) ZN (.ok (.mk 17 zzx (tkA c.l i).n []) (i + 1))) := by
 have hl : i + 1 < c.l.length := zk4 h.base.ends h.lt (by rw [hk]; decide)
 have HPW := qh h
 have HLT := qh h.rlt
 have h0 := h.c0
 have h1 := h.c1
 have f1 := h.fz 1
 obtain ⟨k0, k1, k2, k3⟩ := h.toks
 have hlt : (i : Int) < (c.l.length : Int) := by have := h.lt; omega
 have hl3 := h.base.len
 have hR := h.rlt
 have hT := h.base.tlt
 have hR1 : c.P < w.heap.size + 1 := by omega
 have hR2 : c.P < w.heap.size + 1 + 1 := by omega
 have hT1 : c.tb < w.heap.size + 1 := by omega
 have hT2 : c.tb < w.heap.size + 1 + 1 := by omega
 have HC1 := qh (zk8 ((h.alloc (boxA c)).alloc (boxB d)))
 have b1 : ((tkA c.l i).kd == 1) = false := by rw [hk]; rfl
 have b3 : ((tkA c.l i).kd == 3) = true := beq_iff_eq.2 hk
 clear h hk
 generalize tkA c.l i = t at *
 go_enter Tryz.func297, Tryz.ntmps297
 go_wp2_with fail
 refine cm HC1.out ?_
 rintro e w1 ⟨rfl, rfl⟩
 clear HC1
 go_wp2_with fail
 go_region
 go_wp2_with fail
 go_ret
 have hn : ((i : Int) + 1) = (((i + 1 : Nat)) : Int) := by omega
 rw [hn]
 refine ⟨⟨_, rfl, zn1 (by simp; omega) 17 zzx t.n _ (by simp)⟩, ?_, ?_⟩
 ·
  exact ((((HPW.out.step hl).alloc _).alloc _).alloc _ |>.alloc _).drew
 ·
  exact ((((((Ap.refl c.P w.heap.size w).setCell (p := ⟨c.P, 1, none⟩) (Or.inr rfl) _).alloc (by simp) _).alloc (by simp <;> omega) _).alloc (by simp <;> omega) _).alloc (by simp <;> omega) _).drew
set_option maxRecDepth 100000 in
set_option maxHeartbeats 2000000 in
theorem rfirst_str {c : PC} (w : World) (d i : Nat) (hk : (tkA c.l i).kd = 4) (h : Ps c w i 0 (-1)) :
  Calls Tryz.prog 297 #[pPtr c, .int .i64 (d : Int)] w (zj3 c w (NV w.heap.size) ZN (.ok (.mk 18 (tkA c.l i).tx 0 []) (i + 1))) := by
 have hl : i + 1 < c.l.length := zk4 h.base.ends h.lt (by rw [hk]; decide)
 have HPW := qh h
 have HLT := qh h.rlt
 have h0 := h.c0
 have h1 := h.c1
 have f1 := h.fz 1
 obtain ⟨k0, k1, k2, k3⟩ := h.toks
 have hlt : (i : Int) < (c.l.length : Int) := by have := h.lt; omega
 have hl3 := h.base.len
 have hR := h.rlt
 have hT := h.base.tlt
 have hR1 : c.P < w.heap.size + 1 := by omega
 have hR2 : c.P < w.heap.size + 1 + 1 := by omega
 have hT1 : c.tb < w.heap.size + 1 := by omega
 have hT2 : c.tb < w.heap.size + 1 + 1 := by omega
 have HC1 := qh (zk8 ((h.alloc (boxA c)).alloc (boxB d)))
 have b1 : ((tkA c.l i).kd == 1) = false := by rw [hk]; rfl
 have b3 : ((tkA c.l i).kd == 3) = false := by rw [hk]; rfl
 have b4 : ((tkA c.l i).kd == 4) = true := beq_iff_eq.2 hk
 clear h hk
 generalize tkA c.l i = t at *
 go_enter Tryz.func297, Tryz.ntmps297
 go_wp2_with fail
 refine cm HC1.out ?_
 rintro e w1 ⟨rfl, rfl⟩
 clear HC1
 go_wp2_with fail
 go_region
 go_wp2_with fail
 go_ret
 have hn : ((i : Int) + 1) = (((i + 1 : Nat)) : Int) := by omega
 rw [hn]
 refine ⟨⟨_, rfl, zn1 (by simp; omega) 18 t.tx 0 _ (by simp)⟩, ?_, ?_⟩
 ·
  exact ((((HPW.out.step hl).alloc _).alloc _).alloc _ |>.alloc _).drew
 ·
  exact ((((((Ap.refl c.P w.heap.size w).setCell (p := ⟨c.P, 1, none⟩) (Or.inr rfl) _).alloc (by simp) _).alloc (by simp <;> omega) _).alloc (by simp <;> omega) _).alloc (by simp <;> omega) _).drew
set_option maxRecDepth 100000 in
set_option maxHeartbeats 2000000 in
theorem rfirst_par {c : PC} {F : Fns} (hF : RCt c F) (w : World) (d i : Nat) (r : PR Tr) (hd : d ≤ 30) (hn1 : (tkA c.l i).kd ≠ 1) (hn3 : (tkA c.l i).kd ≠ 3) (hn4 : (tkA c.l i).kd ≠ 4) (hf : fx c.l i = zxk) (hs : r = zv4 c.l F d i) (ho : r ≠ .out) (h : Ps c w i 0 (-1)) :
  Calls Tryz.prog 297 #[pPtr c, .int .i64 (d : Int)] w (zj3 c w (NV w.heap.size) ZN r) := by
 have HPW := qh h
 have HLT := qh h.rlt
 have h0 := h.c0
 have h1 := h.c1
 have f1 := h.fz 1
 obtain ⟨k0, k1, k2, k3⟩ := h.toks
 have hlt : (i : Int) < (c.l.length : Int) := by have := h.lt; omega
 have hl3 := h.base.len
 have hR := h.rlt
 have hT := h.base.tlt
 have hR1 : c.P < w.heap.size + 1 := by omega
 have hR2 : c.P < w.heap.size + 1 + 1 := by omega
 have hT1 : c.tb < w.heap.size + 1 := by omega
 have hT2 : c.tb < w.heap.size + 1 + 1 := by omega
 have HC1 := qh (zk8 ((h.alloc (boxA c)).alloc (boxB d)))
 have b1 : ((tkA c.l i).kd == 1) = false := beq_eq_false_iff_ne.2 hn1
 have b3 : ((tkA c.l i).kd == 3) = false := beq_eq_false_iff_ne.2 hn3
 have b4 : ((tkA c.l i).kd == 4) = false := beq_eq_false_iff_ne.2 hn4
 have hx := zzy c (((w.alloc (boxA c)).alloc (boxB d)).alloc (tokO (tkA c.l i))).drew i zxk (by decide) ((((h.alloc (boxA c)).alloc (boxB d)).alloc (tokO (tkA c.l i))).drew)
 rw [decide_eq_true hf] at hx
 have HX := qh hx
 have HS := qh hs
 have HO := qh ho
 have HF := qh hF
 clear hx h hf hn1 hn3 hn4 hs ho hF
 go_enter Tryz.func297, Tryz.ntmps297
 go_wp2_with fail
 refine cm HC1.out ?_
 rintro e w1 ⟨rfl, rfl⟩
 clear HC1
 go_wp2_with fail
 go_region
 go_wp2_with fail
 refine cm HX.out ?_
 rintro e w1 ⟨rfl, hb⟩
 have HP1 := qh (((((HPW.out.alloc (boxA c)).alloc (boxB d)).alloc (tokO (tkA c.l i))).drew).later hb)
 have HA1 := qh ((fst_ap c w d (tokO (tkA c.l i))).next (Ap.of hb))
 have HB1 := qh ((zmk c w d (tokO (tkA c.l i)) hR).ap (Ap.of hb))
 have q0 := HB1.out.p.cell
 have q1 := HB1.out.n.cell
 have HC2 := qh (zbv HF.out w1 d i r hd HS.out HO.out HP1.out)
 clear hb HX h0 h1 k0 k1 k2 k3
 go_wp2_with fail
 refine cm HC2.out ?_
 intro e w2 hp
 cases r with
 | out => exact absurd rfl HO.out
 | bad er pl =>
  obtain ⟨⟨v, rfl, q, rfl⟩, hp2, he, ha⟩ := hp; have H2 := qh hp2; have H3 := qh (HA1.out.next ha); clear hp2 ha HC2; go_wp2_with fail; go_ret; exact ⟨⟨_, rfl, q, rfl⟩, H2.out, he, H3.out⟩
 | ok t j =>
  obtain ⟨⟨v, rfl, q, rfl, hn⟩, hp2, ha⟩ := hp; have H1 : Hid (NAt (fun b => w.heap.size ≤ b) w2 t q) := NAt.mono (fun b hb _ => Nat.le_trans HA1.out.size hb) _ _ hn; have H2 := qh hp2; have H3 := qh (HA1.out.next ha)
  clear hn hp2 ha HC2; go_wp2_with fail; go_ret; exact ⟨⟨_, rfl, q, rfl, H1.out⟩, H2.out, H3.out⟩
set_option maxRecDepth 100000 in
set_option maxHeartbeats 2000000 in
theorem rfirst_fun {c : PC} {F : Fns} (hF : RCt c F) (hN : ∃ k, FNx c.l k F) (hK : FOk F) (w : World) (d i : Nat) (r : PR Tr) (hd : d ≤ 30) (hn1 : (tkA c.l i).kd ≠ 1) (hn3 : (tkA c.l i).kd ≠ 3) (hn4 : (tkA c.l i).kd ≠ 4) (hnp : ¬ fx c.l i = zxk) (hf : fx c.l i = zzw) (hs : r = zd5 c.l F d i) (ho : r ≠ .out) (h : Ps c w i 0 (-1)) :
  Calls Tryz.prog 297 #[pPtr c, .int .i64 (d : Int)] w (zj3 c w (NV w.heap.size) ZN r) := by
 have hm : zz0 c.l zzw i = .ok () (i + 1) := by unfold zz0; rw [if_pos hf]
 unfold zd5 at hs
 rw [hm, zzv] at hs
 have HPW := qh h
 have HLT := qh h.rlt
 have h0 := h.c0
 have h1 := h.c1
 have f1 := h.fz 1
 obtain ⟨k0, k1, k2, k3⟩ := h.toks
 have hlt : (i : Int) < (c.l.length : Int) := by have := h.lt; omega
 have hl3 := h.base.len
 have hR := h.rlt
 have hT := h.base.tlt
 have hR1 : c.P < w.heap.size + 1 := by omega
 have hR2 : c.P < w.heap.size + 1 + 1 := by omega
 have hT1 : c.tb < w.heap.size + 1 := by omega
 have hT2 : c.tb < w.heap.size + 1 + 1 := by omega
 have HC1 := qh (zk8 ((h.alloc (boxA c)).alloc (boxB d)))
 have b1 : ((tkA c.l i).kd == 1) = false := beq_eq_false_iff_ne.2 hn1
 have b3 : ((tkA c.l i).kd == 3) = false := beq_eq_false_iff_ne.2 hn3
 have b4 : ((tkA c.l i).kd == 4) = false := beq_eq_false_iff_ne.2 hn4
 have hx := zzy c (((w.alloc (boxA c)).alloc (boxB d)).alloc (tokO (tkA c.l i))).drew i zxk (by decide) ((((h.alloc (boxA c)).alloc (boxB d)).alloc (tokO (tkA c.l i))).drew)
 rw [decide_eq_false hnp] at hx
 have HX := qh hx
 have HS := qh hs
 have HO := qh ho
 have HF := qh hF
 have HNX := qh hN
 have HKO := qh hK
 have HFX := qh hf
 clear hx h hf hn1 hn3 hn4 hs ho hF hN hK hm hnp
 go_enter Tryz.func297, Tryz.ntmps297
 go_wp2_with fail
 refine cm HC1.out ?_
 rintro e w1 ⟨rfl, rfl⟩
 clear HC1
 go_wp2_with fail
 go_region
 go_wp2_with fail
 refine cm HX.out ?_
 rintro e w1 ⟨rfl, hb⟩
 have HP1 := qh (((((HPW.out.alloc (boxA c)).alloc (boxB d)).alloc (tokO (tkA c.l i))).drew).later hb)
 have HA1 := qh ((fst_ap c w d (tokO (tkA c.l i))).next (Ap.of hb))
 have HB1 := qh ((zmk c w d (tokO (tkA c.l i)) hR).ap (Ap.of hb))
 have HT1 : Hid (w1.heap[w.heap.size + 2]? = some (tokO (tkA c.l i))) := (hb.block (w.heap.size + 2) (by simp)).trans (zfz (by simp))
 have q0 := HB1.out.p.cell
 clear hb HX h0 h1 k0 k1 k2 k3
 have HC2 := qh (zxq c w1 i zzw (by decide) HFX.out HP1.out)
 go_wp2_with fail
 refine cm HC2.out ?_
 rintro e w2 ⟨rfl, hp2, ha2⟩
 have HP2 := qh hp2
 have HA2 := qh (HA1.out.next ha2)
 have HB2 := qh (HB1.out.ap ha2)
 have q0 := HB2.out.p.cell
 have h0 := hp2.c0
 have h1 := hp2.c1
 obtain ⟨k0, k1, k2, k3⟩ := hp2.toks
 have hlt2 : ((i : Int) + 1) < (c.l.length : Int) := by have := hp2.lt; omega
 have hc1 : (((i + 1 : Nat)) : Int) = (i : Int) + 1 := by omega
 rw [hc1] at h1
 have q1 := HB2.out.n.cell
 clear hp2 ha2 HC2 HP1 HA1 HB1 hc1
 by_cases hk : (tkA c.l (i + 1)).kd = 1
 ·
  have hin : zw6 c.l (i + 1) = true := by unfold zw6; rw [hk]; rfl
  have hnm : zjq c.l (i + 1) = .ok (tkA c.l (i + 1)).tx (i + 2) := by unfold zjq; rw [if_pos hk]
  rw [hin, if_pos rfl, hnm, zzv] at HS; rw [hk] at k0; have HC3 := qh (zvk c w2.drew (i + 1) HP2.out.drew); rw [hnm] at HC3; clear hk hin hnm; go_wp2_with fail
  go_region
  go_wp2_with fail; refine cm HC3.out ?_; rintro e w3 ⟨⟨v, rfl, rfl⟩, hp3, ha3⟩; have HA3 := qh (HA2.out.drew.next ha3)
  have HB3 := qh ((⟨⟨HB2.out.p.blk, HB2.out.p.ne⟩, ⟨HB2.out.n.blk, HB2.out.n.ne⟩⟩ : Box2 c w.heap.size (w.heap.size + 1) d w2.drew).ap ha3); have q2 := HB3.out.p.cell; have q3 := HB3.out.n.cell
  have HC5 := qh (zd6 HF.out HNX.out HKO.out w3 37 (tkA c.l (i + 1)).tx d (i + 2) r hd HS.out HO.out hp3); clear hp3 ha3 HC3 h0 h1 k0 k1 k2 k3 q0 q1; go_wp2_with fail; refine cm HC5.out ?_; intro e w4 hp
  cases r with
  | out => exact absurd rfl HO.out
  | bad er pl =>
   obtain ⟨⟨v, rfl, q, rfl⟩, hp2, he, ha⟩ := hp; have H2 := qh hp2; have H3 := qh (HA3.out.next ha); clear hp2 ha HC5; go_wp2_with fail; go_ret; exact ⟨⟨_, rfl, q, rfl⟩, H2.out, he, H3.out⟩
  | ok t j =>
   obtain ⟨⟨v, rfl, q, rfl, hn⟩, hp2, ha⟩ := hp; have H1 : Hid (NAt (fun b => w.heap.size ≤ b) w4 t q) := NAt.mono (fun b hb _ => Nat.le_trans HA3.out.size hb) _ _ hn; have H2 := qh hp2; have H3 := qh (HA3.out.next ha)
   clear hn hp2 ha HC5; go_wp2_with fail; go_ret; exact ⟨⟨_, rfl, q, rfl, H1.out⟩, H2.out, H3.out⟩
 ·
  have hin : zw6 c.l (i + 1) = false := by unfold zw6; exact beq_eq_false_iff_ne.2 hk
  have b1 : ((tkA c.l (i + 1)).kd == 1) = false := beq_eq_false_iff_ne.2 hk; rw [hin, if_neg (by decide)] at HS
  have HC5 := qh (zd6 HF.out HNX.out HKO.out w2.drew 37 zzx d (i + 1) r hd HS.out HO.out HP2.out.drew); have HA3 := qh (HA2.out.drew); clear hk hin; go_wp2_with fail
  go_region
  go_wp2_with fail; refine cm HC5.out ?_; intro e w4 hp
  cases r with
  | out => exact absurd rfl HO.out
  | bad er pl =>
   obtain ⟨⟨v, rfl, q, rfl⟩, hp2, he, ha⟩ := hp; have H2 := qh hp2; have H3 := qh (HA3.out.next ha); clear hp2 ha HC5; go_wp2_with fail; go_ret; exact ⟨⟨_, rfl, q, rfl⟩, H2.out, he, H3.out⟩
  | ok t j =>
   obtain ⟨⟨v, rfl, q, rfl, hn⟩, hp2, ha⟩ := hp; have H1 : Hid (NAt (fun b => w.heap.size ≤ b) w4 t q) := NAt.mono (fun b hb _ => Nat.le_trans HA3.out.size hb) _ _ hn; have H2 := qh hp2; have H3 := qh (HA3.out.next ha)
   clear hn hp2 ha HC5; go_wp2_with fail; go_ret; exact ⟨⟨_, rfl, q, rfl, H1.out⟩, H2.out, H3.out⟩
set_option maxRecDepth 100000 in
set_option maxHeartbeats 2000000 in
theorem rfirst_obj {c : PC} {F : Fns} (hF : RCt c F) (w : World) (d i : Nat) (r : PR Tr) (hd : d ≤ 30) (hn1 : (tkA c.l i).kd ≠ 1) (hn3 : (tkA c.l i).kd ≠ 3) (hn4 : (tkA c.l i).kd ≠ 4) (hnp : ¬ fx c.l i = zxk) (hnf : ¬ fx c.l i = zzw) (hf : fx c.l i = zz4) (hs : r = zd4 c.l F d i) (ho : r ≠ .out) (h : Ps c w i 0 (-1)) :
  Calls Tryz.prog 297 #[pPtr c, .int .i64 (d : Int)] w (zj3 c w (NV w.heap.size) ZN r) := by
 have hm : zz0 c.l zz4 i = .ok () (i + 1) := by unfold zz0; rw [if_pos hf]
 unfold zd4 at hs
 rw [hm, zzv] at hs
 have HPW := qh h
 have HLT := qh h.rlt
 have h0 := h.c0
 have h1 := h.c1
 have f1 := h.fz 1
 obtain ⟨k0, k1, k2, k3⟩ := h.toks
 have hlt : (i : Int) < (c.l.length : Int) := by have := h.lt; omega
 have hl3 := h.base.len
 have hR := h.rlt
 have hT := h.base.tlt
 have hR1 : c.P < w.heap.size + 1 := by omega
 have hR2 : c.P < w.heap.size + 1 + 1 := by omega
 have hT1 : c.tb < w.heap.size + 1 := by omega
 have hT2 : c.tb < w.heap.size + 1 + 1 := by omega
 have HC1 := qh (zk8 ((h.alloc (boxA c)).alloc (boxB d)))
 have b1 : ((tkA c.l i).kd == 1) = false := beq_eq_false_iff_ne.2 hn1
 have b3 : ((tkA c.l i).kd == 3) = false := beq_eq_false_iff_ne.2 hn3
 have b4 : ((tkA c.l i).kd == 4) = false := beq_eq_false_iff_ne.2 hn4
 have hx := zzy c (((w.alloc (boxA c)).alloc (boxB d)).alloc (tokO (tkA c.l i))).drew i zxk (by decide) ((((h.alloc (boxA c)).alloc (boxB d)).alloc (tokO (tkA c.l i))).drew)
 rw [decide_eq_false hnp] at hx
 have HX := qh hx
 have HS := qh hs
 have HO := qh ho
 have HF := qh hF
 have HFX := qh hf
 have HNF := qh hnf
 clear hx h hf hn1 hn3 hn4 hs ho hF hm hnp hnf
 go_enter Tryz.func297, Tryz.ntmps297
 go_wp2_with fail
 refine cm HC1.out ?_
 rintro e w1 ⟨rfl, rfl⟩
 clear HC1
 go_wp2_with fail
 go_region
 go_wp2_with fail
 refine cm HX.out ?_
 rintro e w1 ⟨rfl, hb⟩
 have HP1 := qh (((((HPW.out.alloc (boxA c)).alloc (boxB d)).alloc (tokO (tkA c.l i))).drew).later hb)
 have HA1 := qh ((fst_ap c w d (tokO (tkA c.l i))).next (Ap.of hb))
 have HB1 := qh ((zmk c w d (tokO (tkA c.l i)) hR).ap (Ap.of hb))
 have HT1 : Hid (w1.heap[w.heap.size + 2]? = some (tokO (tkA c.l i))) := (hb.block (w.heap.size + 2) (by simp)).trans (zfz (by simp))
 have q0 := HB1.out.p.cell
 clear hb HX h0 h1 k0 k1 k2 k3
 have HC2 := qh (zz1 c w1 i zzw (by decide) HNF.out HP1.out)
 go_wp2_with fail
 refine cm HC2.out ?_
 rintro e w2 ⟨rfl, hb2⟩
 have HP2 := qh (HP1.out.later hb2)
 have HA2 := qh (HA1.out.next (Ap.of hb2))
 have HB2 := qh (HB1.out.ap (Ap.of hb2))
 have q1 := HB2.out.p.cell
 have HC3 := qh (zxq c w2 i zz4 (by decide) HFX.out HP2.out)
 clear hb2 HC2 HP1 HA1 HB1 q0
 go_wp2_with fail
 refine cm HC3.out ?_
 rintro e w3 ⟨rfl, hp3, ha3⟩
 have HA3 := qh (HA2.out.next ha3)
 have HB3 := qh (HB2.out.ap ha3)
 have q2 := HB3.out.p.cell
 have hbl := HB3.out.n.lt
 have HP3 := qh hp3
 clear hp3 ha3 HC3 HP2 HA2 HB2 q1
 cases hr : zx1 c.l zvq (zd8 c.l F d) F.fuel [] (i + 1) with
 | out => rw [hr] at HS; exact absurd HS.out HO.out
 | bad er pl =>
  have HC4 := qh (zg5 (prop_part HF.out w.heap.size (w.heap.size + 1) d hd) zvq (by decide) F.fuel w3 (i + 1) _ hr.symm (by nofun) HB3.out (by omega) HP3.out); rw [hr] at HS
  have hq : r = .bad er pl := zzq HS; subst hq; clear hr; go_wp2_with fail; refine cm HC4.out ?_; rintro e w4 ⟨⟨v, rfl, a, n, k, rfl⟩, ⟨j, hp4⟩, he, ha4⟩; have H2 := qh hp4; have H3 := qh (HA3.out.next ha4)
  clear hp4 ha4 HC4; go_wp2_with fail; go_ret; exact ⟨⟨_, rfl, _, rfl⟩, ⟨j, H2.out.alloc _⟩, he, H3.out.alloc H3.out.size _⟩
 | ok ts j =>
  have HC4 := qh (zg5 (prop_part HF.out w.heap.size (w.heap.size + 1) d hd) zvq (by decide) F.fuel w3 (i + 1) _ hr.symm (by nofun) HB3.out (by omega) HP3.out); rw [hr] at HS
  have hq : r = .ok (.mk 38 zzx 0 ts) j := zzq HS; subst hq; clear hr; go_wp2_with fail; refine cm HC4.out ?_; rintro e w4 ⟨⟨v, rfl, hkv⟩, hp4, ha4⟩; obtain ⟨a, k, rfl⟩ := hkv.shape
  have H1 := qh (hkv.mono HA3.out.size); have H2 := qh hp4; have H3 := qh (HA3.out.next ha4); clear hp4 ha4 HC4 hkv; go_wp2_with fail; go_ret
  exact ⟨⟨_, rfl, (EV.new H1.out H3.out.size 38 zzx 0).nv⟩, H2.out.alloc _, H3.out.alloc H3.out.size _⟩
set_option maxRecDepth 100000 in
set_option maxHeartbeats 2000000 in
theorem rfirst_lit {c : PC} (w : World) (d i : Nat) (hn1 : (tkA c.l i).kd ≠ 1) (hn3 : (tkA c.l i).kd ≠ 3) (hn4 : (tkA c.l i).kd ≠ 4) (hnp : ¬ fx c.l i = zxk) (hnf : ¬ fx c.l i = zzw) (hnb : ¬ fx c.l i = zz4) (hk2 : (tkA c.l i).kd = 2) (hlk : 0 < litK (tkA c.l i).tx) (h : Ps c w i 0 (-1)) :
  Calls Tryz.prog 297 #[pPtr c, .int .i64 (d : Int)] w (zj3 c w (NV w.heap.size) ZN (.ok (.mk (litK (tkA c.l i).tx) zzx 0 []) (i + 1))) := by
 have hl : i + 1 < c.l.length := zk4 h.base.ends h.lt (by rw [hk2]; decide)
 have bk : ((tkA c.l i).kd == 2) = true := beq_iff_eq.2 hk2
 clear hk2
 have HPW := qh h
 have HLT := qh h.rlt
 have h0 := h.c0
 have h1 := h.c1
 have f1 := h.fz 1
 obtain ⟨k0, k1, k2, k3⟩ := h.toks
 have hlt : (i : Int) < (c.l.length : Int) := by have := h.lt; omega
 have hl3 := h.base.len
 have hR := h.rlt
 have hT := h.base.tlt
 have hR1 : c.P < w.heap.size + 1 := by omega
 have hR2 : c.P < w.heap.size + 1 + 1 := by omega
 have hT1 : c.tb < w.heap.size + 1 := by omega
 have hT2 : c.tb < w.heap.size + 1 + 1 := by omega
 have HC1 := qh (zk8 ((h.alloc (boxA c)).alloc (boxB d)))
 have b1 : ((tkA c.l i).kd == 1) = false := beq_eq_false_iff_ne.2 hn1
 have b3 : ((tkA c.l i).kd == 3) = false := beq_eq_false_iff_ne.2 hn3
 have b4 : ((tkA c.l i).kd == 4) = false := beq_eq_false_iff_ne.2 hn4
 have hx := zzy c (((w.alloc (boxA c)).alloc (boxB d)).alloc (tokO (tkA c.l i))).drew i zxk (by decide) ((((h.alloc (boxA c)).alloc (boxB d)).alloc (tokO (tkA c.l i))).drew)
 rw [decide_eq_false hnp] at hx
 have HX := qh hx
 have HNB := qh hnb
 have HNF := qh hnf
 clear hx h hn1 hn3 hn4 hnp hnf hnb
 go_enter Tryz.func297, Tryz.ntmps297
 go_wp2_with fail
 refine cm HC1.out ?_
 rintro e w1 ⟨rfl, rfl⟩
 clear HC1
 go_wp2_with fail
 go_region
 go_wp2_with fail
 refine cm HX.out ?_
 rintro e w1 ⟨rfl, hb⟩
 have HP1 := qh (((((HPW.out.alloc (boxA c)).alloc (boxB d)).alloc (tokO (tkA c.l i))).drew).later hb)
 have HA1 := qh ((fst_ap c w d (tokO (tkA c.l i))).next (Ap.of hb))
 have HB1 := qh ((zmk c w d (tokO (tkA c.l i)) hR).ap (Ap.of hb))
 have HT1 : Hid (w1.heap[w.heap.size + 2]? = some (tokO (tkA c.l i))) := (hb.block (w.heap.size + 2) (by simp)).trans (zfz (by simp))
 have q0 := HB1.out.p.cell
 clear hb HX h0 h1 k0 k1 k2 k3
 have HC2 := qh (zz1 c w1 i zzw (by decide) HNF.out HP1.out)
 go_wp2_with fail
 refine cm HC2.out ?_
 rintro e w2 ⟨rfl, hb2⟩
 have HP2 := qh (HP1.out.later hb2)
 have HA2 := qh (HA1.out.next (Ap.of hb2))
 have HB2 := qh (HB1.out.ap (Ap.of hb2))
 have HT2 := qh ((hb2.block (w.heap.size + 2) (zzz HT1.out)).trans HT1.out)
 have q1 := HB2.out.p.cell
 have HC3 := qh (zz1 c w2 i zz4 (by decide) HNB.out HP2.out)
 clear hb2 HC2 HP1 HA1 HB1 q0 HT1
 go_wp2_with fail
 refine cm HC3.out ?_
 rintro e w3 ⟨rfl, hb3⟩
 have HP3 := qh (HP2.out.later hb3)
 have HA3 := qh (HA2.out.next (Ap.of hb3))
 have HB3 := qh (HB2.out.ap (Ap.of hb3))
 have ht3 := (hb3.block (w.heap.size + 2) (zzz HT2.out)).trans HT2.out
 have t0 : w3.cell? ⟨w.heap.size + 2, 0, none⟩ = some (.int .i64 (tkA c.l i).kd) := by rw [zqy ht3]; rfl
 have t1 : w3.cell? ⟨w.heap.size + 2, 1, none⟩ = some (.string (tkA c.l i).tx) := by rw [zqy ht3]; rfl
 have htl := zzz ht3
 have q2 := HB3.out.p.cell
 have hbl := HB3.out.p.lt
 have c1 := HP3.out.c1
 have cf := HP3.out.fz 1
 have hPl := HP3.out.rlt
 obtain ⟨m1, m2, m3, m4, e0, e1, e2, e3, e4, e5⟩ := lits_made w3
 clear hb3 HC3 HP2 HA2 HB2 q1 ht3 HT2
 generalize tkA c.l i = t at *
 go_wp2_with fail
 go_ret
 have hn : ((i : Int) + 1) = (((i + 1 : Nat)) : Int) := by omega
 rw [hn]
 refine ⟨⟨_, rfl, zn1 (by have := HA3.out.size; simp; omega) _ zzx 0 _ (by simp)⟩, ?_, ?_⟩
 ·
  exact ((HP3.out.step hl).alloc _).alloc _
 ·
  exact ((HA3.out.setCell (p := ⟨c.P, 1, none⟩) (Or.inr rfl) _).alloc (by have := HA3.out.size; simp; omega) _).alloc (by have := HA3.out.size; simp; omega) _
set_option maxRecDepth 100000 in
set_option maxHeartbeats 2000000 in
theorem rfirst_no {c : PC} (w : World) (d i : Nat) (hn1 : (tkA c.l i).kd ≠ 1) (hn3 : (tkA c.l i).kd ≠ 3) (hn4 : (tkA c.l i).kd ≠ 4) (hnp : ¬ fx c.l i = zxk) (hnf : ¬ fx c.l i = zzw) (hnb : ¬ fx c.l i = zz4) (hno : ¬ ((tkA c.l i).kd = 2 ∧ 0 < litK (tkA c.l i).tx)) (h : Ps c w i 0 (-1)) :
  Calls Tryz.prog 297 #[pPtr c, .int .i64 (d : Int)] w (zj3 c w (NV w.heap.size) ZN (badF c.l 3 i)) := by
 have HPW := qh h
 have HLT := qh h.rlt
 have h0 := h.c0
 have h1 := h.c1
 have f1 := h.fz 1
 obtain ⟨k0, k1, k2, k3⟩ := h.toks
 have hlt : (i : Int) < (c.l.length : Int) := by have := h.lt; omega
 have hl3 := h.base.len
 have hR := h.rlt
 have hT := h.base.tlt
 have hR1 : c.P < w.heap.size + 1 := by omega
 have hR2 : c.P < w.heap.size + 1 + 1 := by omega
 have hT1 : c.tb < w.heap.size + 1 := by omega
 have hT2 : c.tb < w.heap.size + 1 + 1 := by omega
 have HC1 := qh (zk8 ((h.alloc (boxA c)).alloc (boxB d)))
 have b1 : ((tkA c.l i).kd == 1) = false := beq_eq_false_iff_ne.2 hn1
 have b3 : ((tkA c.l i).kd == 3) = false := beq_eq_false_iff_ne.2 hn3
 have b4 : ((tkA c.l i).kd == 4) = false := beq_eq_false_iff_ne.2 hn4
 have hx := zzy c (((w.alloc (boxA c)).alloc (boxB d)).alloc (tokO (tkA c.l i))).drew i zxk (by decide) ((((h.alloc (boxA c)).alloc (boxB d)).alloc (tokO (tkA c.l i))).drew)
 rw [decide_eq_false hnp] at hx
 have HX := qh hx
 have HNB := qh hnb
 have HNF := qh hnf
 clear hx h hn1 hn3 hn4 hnp hnf hnb
 go_enter Tryz.func297, Tryz.ntmps297
 go_wp2_with fail
 refine cm HC1.out ?_
 rintro e w1 ⟨rfl, rfl⟩
 clear HC1
 go_wp2_with fail
 go_region
 go_wp2_with fail
 refine cm HX.out ?_
 rintro e w1 ⟨rfl, hb⟩
 have HP1 := qh (((((HPW.out.alloc (boxA c)).alloc (boxB d)).alloc (tokO (tkA c.l i))).drew).later hb)
 have HA1 := qh ((fst_ap c w d (tokO (tkA c.l i))).next (Ap.of hb))
 have HB1 := qh ((zmk c w d (tokO (tkA c.l i)) hR).ap (Ap.of hb))
 have HT1 : Hid (w1.heap[w.heap.size + 2]? = some (tokO (tkA c.l i))) := (hb.block (w.heap.size + 2) (by simp)).trans (zfz (by simp))
 have q0 := HB1.out.p.cell
 clear hb HX h0 h1 k0 k1 k2 k3
 have HC2 := qh (zz1 c w1 i zzw (by decide) HNF.out HP1.out)
 go_wp2_with fail
 refine cm HC2.out ?_
 rintro e w2 ⟨rfl, hb2⟩
 have HP2 := qh (HP1.out.later hb2)
 have HA2 := qh (HA1.out.next (Ap.of hb2))
 have HB2 := qh (HB1.out.ap (Ap.of hb2))
 have HT2 := qh ((hb2.block (w.heap.size + 2) (zzz HT1.out)).trans HT1.out)
 have q1 := HB2.out.p.cell
 have HC3 := qh (zz1 c w2 i zz4 (by decide) HNB.out HP2.out)
 clear hb2 HC2 HP1 HA1 HB1 q0 HT1
 go_wp2_with fail
 refine cm HC3.out ?_
 rintro e w3 ⟨rfl, hb3⟩
 have HP3 := qh (HP2.out.later hb3)
 have HA3 := qh (HA2.out.next (Ap.of hb3))
 have HB3 := qh (HB2.out.ap (Ap.of hb3))
 have ht3 := (hb3.block (w.heap.size + 2) (zzz HT2.out)).trans HT2.out
 have t0 : w3.cell? ⟨w.heap.size + 2, 0, none⟩ = some (.int .i64 (tkA c.l i).kd) := by rw [zqy ht3]; rfl
 have t1 : w3.cell? ⟨w.heap.size + 2, 1, none⟩ = some (.string (tkA c.l i).tx) := by rw [zqy ht3]; rfl
 have htl := zzz ht3
 have q2 := HB3.out.p.cell
 have hbl := HB3.out.p.lt
 have c1 := HP3.out.c1
 have cf := HP3.out.fz 1
 have hPl := HP3.out.rlt
 obtain ⟨m1, m2, m3, m4, e0, e1, e2, e3, e4, e5⟩ := lits_made w3
 clear hb3 HC3 HP2 HA2 HB2 q1 ht3 HT2
 have HC4 := qh (zwz c (w3.alloc (.map m4 4)) i 3 (by decide) (HP3.out.alloc _))
 have HA4 := qh (HA3.out.alloc HA3.out.size (.map m4 4))
 have hdone : ∀ e w4, NPost c (w3.alloc (.map m4 4)) 3 ((tkA c.l i).pl : Int) ZN e w4 → zj3 c w (NV w.heap.size) ZN (badF c.l 3 i) e w4 := fun e w4 hp => npost_trans HA4.out hp
 have HD := qh hdone
 clear hdone
 generalize hX : badF (α := Tr) c.l 3 i = X at *
 clear hX
 generalize ((tkA c.l i).pl : Int) = PL at *
 generalize tkA c.l i = t at *
 by_cases hk2 : t.kd = 2
 ·
  have bk : (t.kd == 2) = true := beq_iff_eq.2 hk2; have hlk : ¬ 0 < litK t.tx := fun hh => hno ⟨hk2, hh⟩; clear hno hk2; go_wp2_with fail; refine cm HC4.out ?_; intro e w4 hp
  obtain ⟨⟨v, rfl, q, rfl⟩, hp4, he, ha4⟩ := id hp; have HH := qh (HD.out _ _ hp); clear hp hp4 ha4 HC4; go_wp2_with fail; go_ret; exact zzq HH
 ·
  have bk : (t.kd == 2) = false := beq_eq_false_iff_ne.2 hk2; clear hno hk2; go_wp2_with fail; refine cm HC4.out ?_; intro e w4 hp; obtain ⟨⟨v, rfl, q, rfl⟩, hp4, he, ha4⟩ := id hp; have HH := qh (HD.out _ _ hp)
  clear hp hp4 ha4 HC4; go_wp2_with fail; go_ret; exact zzq HH
end Go.Proofs.YtoimgcjbcbhclaaGreatDoor.Old
