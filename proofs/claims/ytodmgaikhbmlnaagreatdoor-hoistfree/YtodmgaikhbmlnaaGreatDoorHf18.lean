/-
  The document's parser: functions.
-/
import Derived.Test.YtodmgaikhbmlnaaGreatDoorHf17
set_option maxRecDepth 100000
set_option maxHeartbeats 16000000
namespace Go.Proofs.YtodmgaikhbmlnaaGreatDoor
open Go.RowKit
theorem rfunction_any {c : PC} {F : Fns} (hF : RCt c F) (hN : ∃ k, FNx c.l k F) (hK : FOk F) (w : World) (kd : Int) (s : ByteArray) (d i : Nat) (r : PR Tr) (hd : d ≤ 30) (hs : r = rfuncTail c.l F kd s d i) (ho : r ≠ .out) (h : Ps c w i 0 (-1)) :
  Calls Tryz.prog 103 #[pPtr c, .int .i64 kd, .string s, .int .i64 (d : Int)] w (QPost c w (NV w.heap.size) ZN r) := by
 unfold rfuncTail rparamsP at hs
 have HLT := hide h.rlt
 have hne : w.heap.size ≠ c.P := by have := h.rlt; omega
 have HBX : Hid (BoxP c w.heap.size (w.alloc (.cells #[pPtr c] 64))) := ⟨heap_new _ _, hne⟩
 have HP0 := hide (h.alloc (.cells #[pPtr c] 64))
 have HA0 := hide ((Ap.refl c.P w.heap.size w).alloc (Nat.le_refl _) (.cells #[pPtr c] 64))
 have HC1 := hide (rmust_any c _ i tOpen (by decide) HP0.out)
 have hb := HBX.out.cell
 have HS := hide hs
 have HO := hide ho
 have HF := hide hF
 have HNX := hide hN
 have HKO := hide hK
 clear h hs ho hF hN hK hne
 go_enter Tryz.func103, Tryz.ntmps103
 go_wp2_with fail
 refine cm HC1.out ?_
 intro e w1 hp
 cases hr : mustP c.l tOpen i with
 | out => rw [hr] at HS; exact absurd HS.out HO.out
 | bad er pl =>
  rw [hr] at hp HS; have hq : r = .bad er pl := unhide HS; subst hq; obtain ⟨⟨v, rfl, rfl⟩, ⟨j, hp1⟩, he, ha⟩ := hp; have HP1 := hide hp1; have HA1 := hide (HA0.out.trans (ha.mono (by simp)))
  have hb1 := (HBX.out.ap ha).cell; clear hp1 ha hr HC1 HP0 HA0 hb; have HC2 := hide (rlist_old c w1 j er pl tShut (.func (.func 148) #[] #[.pointer (some ⟨w.heap.size, 0, none⟩)]) he HP1.out); go_wp2_with fail
  refine cm HC2.out ?_; rintro e w2 ⟨rfl, rfl⟩; clear HC2; have HC3 := hide (rbraces_old c _ j er pl d true he (HP1.out.alloc (nodeObj 40 noText 0 (.slice none 0 0)))); have hwl : w.heap.size < w2.heap.size := by
   rcases Nat.lt_or_ge w.heap.size w2.heap.size with h' | h'
   ·
    exact h'
   ·
    simp [World.cell?, Array.getElem?_eq_none h'] at hb1
  go_wp2_with fail; refine cm HC3.out ?_; rintro e w3 ⟨⟨v, rfl, q, rfl⟩, ⟨j3, hp3⟩, _, ha3⟩; have HP3 := hide hp3
  have HA3 := hide ((HA1.out.alloc HA1.out.size (nodeObj 40 noText 0 (.slice none 0 0))).trans (ha3.mono (by simp; omega)))
  exact zbbr
 | ok x1 j1 =>
  rw [hr] at hp HS; obtain ⟨⟨v, rfl, rfl⟩, hp1, ha⟩ := hp; have HP1 := hide hp1; have HA1 := hide (HA0.out.trans (ha.mono (by simp))); have HBX1 := hide (HBX.out.ap ha); have hb1 := HBX1.out.cell; have hwl := HBX1.out.lt
  clear hp1 ha hr HC1 HP0 HA0 hb HBX
  cases hr2 : rlistLoop c.l tShut (paramP c.l) F.fuel [] j1 with
  | out => rw [bind_ok, hr2] at HS; exact absurd HS.out HO.out
  | bad er pl =>
   have HC2 := hide (rlist_any (param_part c w.heap.size) tShut (by decide) F.fuel w1 j1 _ hr2.symm (by nofun) HBX1.out (by omega) HP1.out); rw [bind_ok, hr2] at HS; have hq : r = .bad er pl := unhide HS; subst hq
   clear hr2; go_wp2_with fail; refine cm HC2.out ?_; rintro e w2 ⟨⟨v, rfl, a, n, k, rfl⟩, ⟨j, hp2⟩, he, ha2⟩; have HP2 := hide hp2; have HA2 := hide (HA1.out.next ha2); have hb2 := (HBX1.out.ap ha2).cell
   have hwl2 := (HBX1.out.ap ha2).lt; clear hp2 ha2 HC2 HP1 HA1; have HC3 := hide (rbraces_old c _ j er pl d true he (HP2.out.alloc (nodeObj 40 noText 0 (.slice a n k)))); go_wp2_with fail; refine cm HC3.out ?_
   rintro e w3 ⟨⟨v, rfl, q, rfl⟩, ⟨j3, hp3⟩, _, ha3⟩; have HP3 := hide hp3; have HA3 := hide ((HA2.out.alloc HA2.out.size (nodeObj 40 noText 0 (.slice a n k))).trans (ha3.mono (by simp; omega)))
   exact zbbr
  | ok ts j2 =>
   have HC2 := hide (rlist_any (param_part c w.heap.size) tShut (by decide) F.fuel w1 j1 _ hr2.symm (by nofun) HBX1.out (by omega) HP1.out); rw [bind_ok, hr2] at HS
   have hq : r = (blockP c.l F d j2).bind fun b i2 => .ok (.mk kd s 0 [.mk 40 noText 0 ts, codeT b]) i2 := unhide HS; have HQ := hide hq; clear hr2 hq HS; go_wp2_with fail; refine cm HC2.out ?_
   rintro e w2 ⟨⟨v, rfl, hkv⟩, hp2, ha2⟩; obtain ⟨a, k, rfl⟩ := hkv.shape; have HP2 := hide (hp2.alloc (nodeObj 40 noText 0 (.slice a ts.length k)))
   have HA2 := hide ((HA1.out.next ha2).alloc (HA1.out.next ha2).size (nodeObj 40 noText 0 (.slice a ts.length k))); have HNP := hide (EV.new (hkv.mono HA1.out.size) (HA1.out.next ha2).size 40 noText 0).nv
   have hb2 := (HBX1.out.ap ha2).cell; have hwl2 := (HBX1.out.ap ha2).lt; clear hp2 ha2 HC2 HP1 HA1 hkv
   cases hr3 : blockP c.l F d j2 with
   | out => rw [hr3] at HQ; exact absurd HQ.out HO.out
   | bad er pl =>
    have HC3 := hide (rbraces_any HF.out HNX.out HKO.out true _ d j2 (.bad er pl) hd (by rw [hr3]; rfl) (by nofun) HP2.out)
    rw [hr3] at HQ; have hq : r = .bad er pl := unhide HQ; subst hq; clear hr3; go_wp2_with fail; refine cm HC3.out ?_; rintro e w3 ⟨⟨v, rfl, q, rfl⟩, ⟨j3, hp3⟩, he, ha3⟩; have HP3 := hide hp3
    have HA3 := hide (HA2.out.trans (ha3.mono (by simp; omega)))
    exact zbbr
   | ok b j3 =>
    have HC3 := hide (rbraces_any HF.out HNX.out HKO.out true _ d j2 (.ok (codeT b) j3) hd (by rw [hr3]; rfl) (by nofun) HP2.out)
    rw [hr3] at HQ; have hq : r = .ok (.mk kd s 0 [.mk 40 noText 0 ts, codeT b]) j3 := unhide HQ; subst hq; clear hr3; go_wp2_with fail; refine cm HC3.out ?_; rintro e w3 ⟨⟨v, rfl, q, rfl, hn3⟩, hp3, ha3⟩
    have HP3 := hide hp3; have HA3 := hide (HA2.out.trans (ha3.mono (by simp; omega)))
    have HNB : Hid (NAt (fun x => w.heap.size ≤ x) w3 (codeT b) q) := NAt.mono (fun x hx _ => Nat.le_trans HA2.out.size hx) _ _ hn3; obtain ⟨q0, he0, hq0⟩ := NV.later HNP.out ha3 HLT.out
    have hq0' : q0 = w2.heap.size := by simpa [nPtr] using he0.symm
    subst hq0'; have HNP3 := hide hq0; clear hp3 ha3 HC3 hn3 hq0 he0 HNP; go_wp2_with fail; go_ret
    refine ⟨⟨_, rfl, (nv_row (NAts.cons HNP3.out (NAts.cons HNB.out NAts.nil)) HA3.out.size (by simp [maxLen]) #[nPtr w2.heap.size, nPtr q] rfl 2 rfl kd s 0 _ rfl).nv⟩, (HP3.out.alloc _).alloc _, (HA3.out.alloc HA3.out.size _).alloc (by have := HA3.out.size; simp; omega) _⟩
structure Box2 (c : PC) (b1 b2 d : Nat) (W : World) : Prop where
 p : BoxP c b1 W
 n : BoxN c b2 d W
theorem Box2.ap {c : PC} {b1 b2 d : Nat} {W W' : World} (h : Box2 c b1 b2 d W) (ha : Ap c.P W.heap.size W W') : Box2 c b1 b2 d W' := ⟨h.p.ap ha, h.n.ap ha⟩
theorem en238 : ∀ args W, (callFunc 257 args).run Tryz.prog W = .ok (.enter 257 args) W := fun _ _ => by kernel_rfl
theorem en251 : ∀ args W, (callFunc 272 args).run Tryz.prog W = .ok (.enter 272 args) W := fun _ _ => by kernel_rfl
section
variable {c : PC} {F : Fns} (hF : RCt c F)
include c F hF
theorem rarg_does {b1 b2 d : Nat} (hd : d ≤ 30) (W : World) (i : Nat) (r : PR Tr) (hk : Box2 c b1 b2 d W) (hs : r = argP c.l F d i) (ho : r ≠ .out) (h : Ps c W i 0 (-1)) :
  Calls Tryz.prog 257 #[.pointer (some ⟨b1, 0, none⟩), .pointer (some ⟨b2, 0, none⟩)] W (QPost c W (NV W.heap.size) ZN r) := by
 have k0 := hk.p.cell
 have k1 := hk.n.cell
 have HC := hide (hF.vl W d i r hd hs ho h)
 have HO := hide ho
 clear hk h hs ho hF
 go_enter Tryz.func257, Tryz.ntmps257
 exact zbcq
theorem arg_part (b1 b2 d : Nat) (hd : d ≤ 30) : PartC c (max b1 b2 + 1) (Box2 c b1 b2 d) 257 #[.pointer (some ⟨b1, 0, none⟩), .pointer (some ⟨b2, 0, none⟩)] (argP c.l F d) where
 enters := en238
 stays := fun _ _ hk _ ha => hk.ap ha
 does := fun W i r hk hs ho h => rarg_does hF hd W i r hk hs ho h
 kept := fun _ _ _ hk ha hB => ⟨hk.p.below ha (by omega), hk.n.below ha (by omega)⟩
theorem rprop_does {b1 b2 d : Nat} (hd : d ≤ 30) (W : World) (i : Nat) (r : PR Tr) (hk : Box2 c b1 b2 d W) (hs : r = propP c.l F d i) (ho : r ≠ .out) (h : Ps c W i 0 (-1)) :
  Calls Tryz.prog 272 #[.pointer (some ⟨b1, 0, none⟩), .pointer (some ⟨b2, 0, none⟩)] W (QPost c W (NV W.heap.size) ZN r) := by
 have k0 := hk.p.cell
 have k1 := hk.n.cell
 unfold propP at hs
 have HC := hide (rident_any c W i h)
 have HLT := hide h.rlt
 have HBX := hide hk
 have HS := hide hs
 have HO := hide ho
 have HF := hide hF
 clear hk h hs ho hF
 go_enter Tryz.func272, Tryz.ntmps272
 go_wp2_with fail
 refine cm HC.out ?_
 intro e w1 hp
 clear k0 k1
 cases hr : nameP c.l i with
 | out => rw [hr] at HS; exact absurd HS.out HO.out
 | bad er pl =>
  rw [hr] at hp HS; have hq : r = .bad er pl := unhide HS; subst hq; obtain ⟨⟨v, rfl, s, rfl⟩, ⟨j, hp1⟩, he, ha⟩ := hp; have HP1 := hide hp1; have HA1 := hide ha; have k0 := (HBX.out.ap ha).p.cell
  have k1 := (HBX.out.ap ha).n.cell; have HC2 := hide (rmust_old c w1 j er pl he tColon hp1); have HC3 := hide (rvalue_old c w1 j er pl ((d : Int) + 1) he hp1); clear hp1 ha hr HC; go_wp2_with fail; refine cm HC2.out ?_
  rintro e w2 ⟨rfl, rfl⟩; clear HC2; go_wp2_with fail; refine cm HC3.out ?_; rintro e w3 ⟨⟨v, rfl, q, rfl⟩, ⟨j3, hp3⟩, _, ha3⟩; have HP3 := hide hp3; have HA3 := hide (HA1.out.next ha3); exact zbbr
 | ok x j1 =>
  rw [hr] at hp HS; obtain ⟨⟨v, rfl, rfl⟩, hp1, ha⟩ := hp; have HP1 := hide hp1; have HA1 := hide ha; have HB1 := hide (HBX.out.ap ha); have k0 := HB1.out.p.cell; have k1 := HB1.out.n.cell
  have HC2 := hide (rmust_any c w1 j1 tColon (by decide) hp1); clear hp1 ha hr HC HBX; go_wp2_with fail; refine cm HC2.out ?_; intro e w2 hp; clear k0 k1
  cases hr2 : mustP c.l tColon j1 with
  | out => rw [bind_ok, hr2] at HS; exact absurd HS.out HO.out
  | bad er pl =>
   rw [bind_ok, hr2] at HS; rw [hr2] at hp; have hq : r = .bad er pl := unhide HS; subst hq; obtain ⟨⟨v, rfl, rfl⟩, ⟨j, hp2⟩, he, ha⟩ := hp; have HA2 := hide (HA1.out.next ha); have k0 := (HB1.out.ap ha).p.cell
   have k1 := (HB1.out.ap ha).n.cell; have HC3 := hide (rvalue_old c w2 j er pl ((d : Int) + 1) he hp2); clear hp2 ha hr2 HC2; go_wp2_with fail; refine cm HC3.out ?_; rintro e w3 ⟨⟨v, rfl, q, rfl⟩, ⟨j3, hp3⟩, _, ha3⟩
   have HP3 := hide hp3; have HA3 := hide (HA2.out.next ha3); exact zbbr
  | ok x2 j2 =>
   rw [bind_ok, hr2] at HS; rw [hr2] at hp; obtain ⟨⟨v, rfl, rfl⟩, hp2, ha⟩ := hp; have HA2 := hide (HA1.out.next ha); have HP2 := hide hp2; have k0 := (HB1.out.ap ha).p.cell; have k1 := (HB1.out.ap ha).n.cell
   have hq : r = (deepP c.l F.vl d j2).bind fun t i3 => .ok (.mk 39 x 0 [t]) i3 := unhide HS; have HQ := hide hq; clear hp2 ha hr2 HC2 hq HS HA1 HP1
   cases hr3 : deepP c.l F.vl d j2 with
   | out => rw [hr3] at HQ; exact absurd HQ.out HO.out
   | bad er pl =>
    have HC3 := hide (HF.out.vl w2 d j2 _ hd hr3.symm (by nofun) HP2.out); rw [hr3] at HQ; have hq : r = .bad er pl := unhide HQ; subst hq; clear hr3; go_wp2_with fail; refine cm HC3.out ?_
    rintro e w3 ⟨⟨v, rfl, q, rfl⟩, ⟨j3, hp3⟩, he, ha3⟩; have HP3 := hide hp3; have HA3 := hide (HA2.out.next ha3); exact zbbr
   | ok t j3 =>
    have HC3 := hide (HF.out.vl w2 d j2 _ hd hr3.symm (by nofun) HP2.out); rw [hr3] at HQ; have hq : r = .ok (.mk 39 x 0 [t]) j3 := unhide HQ; subst hq; clear hr3; go_wp2_with fail; refine cm HC3.out ?_
    rintro e w3 ⟨⟨v, rfl, q, rfl, hn⟩, hp3, ha3⟩; have HP3 := hide hp3; have HA3 := hide (HA2.out.next ha3)
    have HN3 : Hid (NAt (fun b => W.heap.size ≤ b) w3 t q) := NAt.mono (fun b hb _ => Nat.le_trans HA2.out.size hb) _ _ hn; clear hp3 ha3 HC3 hn; go_wp2_with fail; go_ret
    exact ⟨⟨_, rfl, (nv_row (NAts.cons HN3.out NAts.nil) HA3.out.size (by simp [maxLen]) #[nPtr q] rfl 1 rfl 39 x 0 _ rfl).nv⟩, (HP3.out.alloc _).alloc _, (HA3.out.alloc HA3.out.size _).alloc (by have := HA3.out.size; simp; omega) _⟩
theorem prop_part (b1 b2 d : Nat) (hd : d ≤ 30) : PartC c (max b1 b2 + 1) (Box2 c b1 b2 d) 272 #[.pointer (some ⟨b1, 0, none⟩), .pointer (some ⟨b2, 0, none⟩)] (propP c.l F d) where
 enters := en251
 stays := fun _ _ hk _ ha => hk.ap ha
 does := fun W i r hk hs ho h => rprop_does hF hd W i r hk hs ho h
 kept := fun _ _ _ hk ha hB => ⟨hk.p.below ha (by omega), hk.n.below ha (by omega)⟩
end
abbrev boxA (c : PC) : Obj := .cells #[pPtr c] 64
abbrev boxB (d : Nat) : Obj := .cells #[.int .i64 (d : Int)] 3
abbrev tokO (t : Tk) : Obj := .cells #[.int .i64 t.kd, .string t.tx, .int .i64 t.n, .int .i64 (t.pl : Int)] 68
theorem new_obj {w : World} {o : Obj} {g : Nat} (hg : g = w.heap.size) : (w.alloc o).heap[g]? = some o := by subst hg; exact heap_new _ _
theorem nv_leaf2 {B : Nat} {w : World} (hB : B ≤ w.heap.size) (kd : Int) (tx : ByteArray) (z : Int) (q : Nat) (hq : q = w.heap.size) : NV B (w.alloc (nodeObj kd tx z (.slice none 0 0))) (.mk kd tx z []) (nPtr q) := by subst hq; exact nv_leaf hB kd tx z
section
variable (c : PC) (w : World) (d : Nat) (o : Obj)
include c w d o
theorem box2_new (hP : c.P < w.heap.size) : Box2 c w.heap.size (w.heap.size + 1) d (((w.alloc (boxA c)).alloc (boxB d)).alloc o).drew := by
 refine ⟨⟨?_, by omega⟩, ⟨?_, by omega⟩⟩
 ·
  show (((w.alloc (boxA c)).alloc (boxB d)).alloc o).heap[w.heap.size]? = _
  rw [Below.heap_alloc _ _ _ (by simp; omega), Below.heap_alloc _ _ _ (by simp)]
  exact heap_new _ _
 ·
  show (((w.alloc (boxA c)).alloc (boxB d)).alloc o).heap[w.heap.size + 1]? = _
  rw [Below.heap_alloc _ _ _ (by simp)]; exact new_obj (by simp)
theorem fst_ap : Ap c.P w.heap.size w (((w.alloc (boxA c)).alloc (boxB d)).alloc o).drew :=
 ((((Ap.refl c.P w.heap.size w).alloc (Nat.le_refl _) _).alloc (by simp) _).alloc (by simp; omega) _).drew
end
section
variable {c : PC} (w : World) (d i : Nat)
include c w d i
theorem rfirst_name (hk : (tkA c.l i).kd = 1) (h : Ps c w i 0 (-1)) :
  Calls Tryz.prog 256 #[pPtr c, .int .i64 (d : Int)] w (QPost c w (NV w.heap.size) ZN (.ok (.mk 23 (tkA c.l i).tx 0 []) (i + 1))) := by
 have hl : i + 1 < c.l.length := next_lt h.base.ends h.lt (by rw [hk]; decide)
 have HPW := hide h
 have HLT := hide h.rlt
 have h0 := h.c0
 have h1 := h.c1
 have f1 := h.fz 1
 obtain ⟨k0, k1, k2, k3⟩ := h.toks
 have hlt : (i : Int) < (c.l.length : Int) := by have := h.lt; omega
 have hl3 := h.base.len
 have hR := h.rlt
 have hT := h.base.tlt
 have hR1 : c.P < w.heap.size + 1 := by omega
 have hR2 : c.P < w.heap.size + 1 + 1 := by omega
 have hT1 : c.tb < w.heap.size + 1 := by omega
 have hT2 : c.tb < w.heap.size + 1 + 1 := by omega
 have HC1 := hide (rok_new ((h.alloc (boxA c)).alloc (boxB d)))
 have b1 : ((tkA c.l i).kd == 1) = true := beq_iff_eq.2 hk
 clear h hk
 generalize tkA c.l i = t at *
 go_enter Tryz.func256, Tryz.ntmps256
 go_wp2_with fail
 refine cm HC1.out ?_
 rintro e w1 ⟨rfl, rfl⟩
 clear HC1
 go_wp2_with fail
 go_region
 go_wp2_with fail
 go_ret
 have hn : ((i : Int) + 1) = (((i + 1 : Nat)) : Int) := by omega
 rw [hn]
 refine ⟨⟨_, rfl, nv_leaf2 (by simp; omega) 23 t.tx 0 _ (by simp)⟩, ?_, ?_⟩
 ·
  exact zbfl
 ·
  exact zbdd
theorem rfirst_num (hk : (tkA c.l i).kd = 3) (h : Ps c w i 0 (-1)) :
  Calls Tryz.prog 256 #[pPtr c, .int .i64 (d : Int)] w (QPost c w (NV w.heap.size) ZN (.ok (.mk 17 noText (tkA c.l i).n []) (i + 1))) := by
 have hl : i + 1 < c.l.length := next_lt h.base.ends h.lt (by rw [hk]; decide)
 have HPW := hide h
 have HLT := hide h.rlt
 have h0 := h.c0
 have h1 := h.c1
 have f1 := h.fz 1
 obtain ⟨k0, k1, k2, k3⟩ := h.toks
 have hlt : (i : Int) < (c.l.length : Int) := by have := h.lt; omega
 have hl3 := h.base.len
 have hR := h.rlt
 have hT := h.base.tlt
 have hR1 : c.P < w.heap.size + 1 := by omega
 have hR2 : c.P < w.heap.size + 1 + 1 := by omega
 have hT1 : c.tb < w.heap.size + 1 := by omega
 have hT2 : c.tb < w.heap.size + 1 + 1 := by omega
 have HC1 := hide (rok_new ((h.alloc (boxA c)).alloc (boxB d)))
 have b1 : ((tkA c.l i).kd == 1) = false := by rw [hk]; rfl
 have b3 : ((tkA c.l i).kd == 3) = true := beq_iff_eq.2 hk
 clear h hk
 generalize tkA c.l i = t at *
 go_enter Tryz.func256, Tryz.ntmps256
 go_wp2_with fail
 refine cm HC1.out ?_
 rintro e w1 ⟨rfl, rfl⟩
 clear HC1
 go_wp2_with fail
 go_region
 go_wp2_with fail
 go_ret
 have hn : ((i : Int) + 1) = (((i + 1 : Nat)) : Int) := by omega
 rw [hn]
 refine ⟨⟨_, rfl, nv_leaf2 (by simp; omega) 17 noText t.n _ (by simp)⟩, ?_, ?_⟩
 ·
  exact zbfl
 ·
  exact zbdd
theorem rfirst_str (hk : (tkA c.l i).kd = 4) (h : Ps c w i 0 (-1)) :
  Calls Tryz.prog 256 #[pPtr c, .int .i64 (d : Int)] w (QPost c w (NV w.heap.size) ZN (.ok (.mk 18 (tkA c.l i).tx 0 []) (i + 1))) := by
 have hl : i + 1 < c.l.length := next_lt h.base.ends h.lt (by rw [hk]; decide)
 have HPW := hide h
 have HLT := hide h.rlt
 have h0 := h.c0
 have h1 := h.c1
 have f1 := h.fz 1
 obtain ⟨k0, k1, k2, k3⟩ := h.toks
 have hlt : (i : Int) < (c.l.length : Int) := by have := h.lt; omega
 have hl3 := h.base.len
 have hR := h.rlt
 have hT := h.base.tlt
 have hR1 : c.P < w.heap.size + 1 := by omega
 have hR2 : c.P < w.heap.size + 1 + 1 := by omega
 have hT1 : c.tb < w.heap.size + 1 := by omega
 have hT2 : c.tb < w.heap.size + 1 + 1 := by omega
 have HC1 := hide (rok_new ((h.alloc (boxA c)).alloc (boxB d)))
 have b1 : ((tkA c.l i).kd == 1) = false := by rw [hk]; rfl
 have b3 : ((tkA c.l i).kd == 3) = false := by rw [hk]; rfl
 have b4 : ((tkA c.l i).kd == 4) = true := beq_iff_eq.2 hk
 clear h hk
 generalize tkA c.l i = t at *
 go_enter Tryz.func256, Tryz.ntmps256
 go_wp2_with fail
 refine cm HC1.out ?_
 rintro e w1 ⟨rfl, rfl⟩
 clear HC1
 go_wp2_with fail
 go_region
 go_wp2_with fail
 go_ret
 have hn : ((i : Int) + 1) = (((i + 1 : Nat)) : Int) := by omega
 rw [hn]
 refine ⟨⟨_, rfl, nv_leaf2 (by simp; omega) 18 t.tx 0 _ (by simp)⟩, ?_, ?_⟩
 ·
  exact zbfl
 ·
  exact zbdd
end
section
variable {c : PC} {F : Fns} (hF : RCt c F)
include c F hF
theorem rfirst_par (w : World) (d i : Nat) (r : PR Tr) (hd : d ≤ 30) (hn1 : (tkA c.l i).kd ≠ 1) (hn3 : (tkA c.l i).kd ≠ 3) (hn4 : (tkA c.l i).kd ≠ 4) (hf : fx c.l i = tOpen) (hs : r = inParP c.l F d i) (ho : r ≠ .out) (h : Ps c w i 0 (-1)) :
  Calls Tryz.prog 256 #[pPtr c, .int .i64 (d : Int)] w (QPost c w (NV w.heap.size) ZN r) := by
 have HPW := hide h
 have HLT := hide h.rlt
 have h0 := h.c0
 have h1 := h.c1
 have f1 := h.fz 1
 obtain ⟨k0, k1, k2, k3⟩ := h.toks
 have hlt : (i : Int) < (c.l.length : Int) := by have := h.lt; omega
 have hl3 := h.base.len
 have hR := h.rlt
 have hT := h.base.tlt
 have hR1 : c.P < w.heap.size + 1 := by omega
 have hR2 : c.P < w.heap.size + 1 + 1 := by omega
 have hT1 : c.tb < w.heap.size + 1 := by omega
 have hT2 : c.tb < w.heap.size + 1 + 1 := by omega
 have HC1 := hide (rok_new ((h.alloc (boxA c)).alloc (boxB d)))
 have b1 : ((tkA c.l i).kd == 1) = false := beq_eq_false_iff_ne.2 hn1
 have b3 : ((tkA c.l i).kd == 3) = false := beq_eq_false_iff_ne.2 hn3
 have b4 : ((tkA c.l i).kd == 4) = false := beq_eq_false_iff_ne.2 hn4
 have hx := rnext_any c (((w.alloc (boxA c)).alloc (boxB d)).alloc (tokO (tkA c.l i))).drew i tOpen (by decide) ((((h.alloc (boxA c)).alloc (boxB d)).alloc (tokO (tkA c.l i))).drew)
 rw [decide_eq_true hf] at hx
 have HX := hide hx
 have HS := hide hs
 have HO := hide ho
 have HF := hide hF
 clear hx h hf hn1 hn3 hn4 hs ho hF
 go_enter Tryz.func256, Tryz.ntmps256
 go_wp2_with fail
 refine cm HC1.out ?_
 rintro e w1 ⟨rfl, rfl⟩
 clear HC1
 go_wp2_with fail
 go_region
 go_wp2_with fail
 refine cm HX.out ?_
 rintro e w1 ⟨rfl, hb⟩
 have HP1 := hide (((((HPW.out.alloc (boxA c)).alloc (boxB d)).alloc (tokO (tkA c.l i))).drew).later hb)
 have HA1 := hide ((fst_ap c w d (tokO (tkA c.l i))).next (Ap.of hb))
 have HB1 := hide ((box2_new c w d (tokO (tkA c.l i)) hR).ap (Ap.of hb))
 have q0 := HB1.out.p.cell
 have q1 := HB1.out.n.cell
 have HC2 := hide (rhead_any HF.out w1 d i r hd HS.out HO.out HP1.out)
 clear hb HX h0 h1 k0 k1 k2 k3
 go_wp2_with fail
 refine cm HC2.out ?_
 intro e w2 hp
 cases r with
 | out => exact absurd rfl HO.out
 | bad er pl =>
  obtain ⟨⟨v, rfl, q, rfl⟩, hp2, he, ha⟩ := hp; have H2 := hide hp2; have H3 := hide (HA1.out.next ha); clear hp2 ha HC2; exact zccd
 | ok t j =>
  obtain ⟨⟨v, rfl, q, rfl, hn⟩, hp2, ha⟩ := hp; have H1 : Hid (NAt (fun b => w.heap.size ≤ b) w2 t q) := NAt.mono (fun b hb _ => Nat.le_trans HA1.out.size hb) _ _ hn; have H2 := hide hp2; have H3 := hide (HA1.out.next ha)
  clear hn hp2 ha HC2; exact zcbz
theorem rfirst_fun (hN : ∃ k, FNx c.l k F) (hK : FOk F) (w : World) (d i : Nat) (r : PR Tr) (hd : d ≤ 30) (hn1 : (tkA c.l i).kd ≠ 1) (hn3 : (tkA c.l i).kd ≠ 3) (hn4 : (tkA c.l i).kd ≠ 4) (hnp : ¬ fx c.l i = tOpen) (hf : fx c.l i = tFunction) (hs : r = rlambdaP c.l F d i) (ho : r ≠ .out) (h : Ps c w i 0 (-1)) :
  Calls Tryz.prog 256 #[pPtr c, .int .i64 (d : Int)] w (QPost c w (NV w.heap.size) ZN r) := by
 have hm : mustP c.l tFunction i = .ok () (i + 1) := by unfold mustP; rw [if_pos hf]
 unfold rlambdaP at hs
 rw [hm, bind_ok] at hs
 have HPW := hide h
 have HLT := hide h.rlt
 have h0 := h.c0
 have h1 := h.c1
 have f1 := h.fz 1
 obtain ⟨k0, k1, k2, k3⟩ := h.toks
 have hlt : (i : Int) < (c.l.length : Int) := by have := h.lt; omega
 have hl3 := h.base.len
 have hR := h.rlt
 have hT := h.base.tlt
 have hR1 : c.P < w.heap.size + 1 := by omega
 have hR2 : c.P < w.heap.size + 1 + 1 := by omega
 have hT1 : c.tb < w.heap.size + 1 := by omega
 have hT2 : c.tb < w.heap.size + 1 + 1 := by omega
 have HC1 := hide (rok_new ((h.alloc (boxA c)).alloc (boxB d)))
 have b1 : ((tkA c.l i).kd == 1) = false := beq_eq_false_iff_ne.2 hn1
 have b3 : ((tkA c.l i).kd == 3) = false := beq_eq_false_iff_ne.2 hn3
 have b4 : ((tkA c.l i).kd == 4) = false := beq_eq_false_iff_ne.2 hn4
 have hx := rnext_any c (((w.alloc (boxA c)).alloc (boxB d)).alloc (tokO (tkA c.l i))).drew i tOpen (by decide) ((((h.alloc (boxA c)).alloc (boxB d)).alloc (tokO (tkA c.l i))).drew)
 rw [decide_eq_false hnp] at hx
 have HX := hide hx
 have HS := hide hs
 have HO := hide ho
 have HF := hide hF
 have HNX := hide hN
 have HKO := hide hK
 have HFX := hide hf
 clear hx h hf hn1 hn3 hn4 hs ho hF hN hK hm hnp
 go_enter Tryz.func256, Tryz.ntmps256
 go_wp2_with fail
 refine cm HC1.out ?_
 rintro e w1 ⟨rfl, rfl⟩
 clear HC1
 go_wp2_with fail
 go_region
 go_wp2_with fail
 refine cm HX.out ?_
 rintro e w1 ⟨rfl, hb⟩
 have HP1 := hide (((((HPW.out.alloc (boxA c)).alloc (boxB d)).alloc (tokO (tkA c.l i))).drew).later hb)
 have HA1 := hide ((fst_ap c w d (tokO (tkA c.l i))).next (Ap.of hb))
 have HB1 := hide ((box2_new c w d (tokO (tkA c.l i)) hR).ap (Ap.of hb))
 have HT1 : Hid (w1.heap[w.heap.size + 2]? = some (tokO (tkA c.l i))) := (hb.block (w.heap.size + 2) (by simp)).trans (new_obj (by simp))
 have q0 := HB1.out.p.cell
 clear hb HX h0 h1 k0 k1 k2 k3
 have HC2 := hide (rskip_yes c w1 i tFunction (by decide) HFX.out HP1.out)
 go_wp2_with fail
 refine cm HC2.out ?_
 rintro e w2 ⟨rfl, hp2, ha2⟩
 have HP2 := hide hp2
 have HA2 := hide (HA1.out.next ha2)
 have HB2 := hide (HB1.out.ap ha2)
 have q0 := HB2.out.p.cell
 have h0 := hp2.c0
 have h1 := hp2.c1
 obtain ⟨k0, k1, k2, k3⟩ := hp2.toks
 have hlt2 : ((i : Int) + 1) < (c.l.length : Int) := by have := hp2.lt; omega
 have hc1 : (((i + 1 : Nat)) : Int) = (i : Int) + 1 := by omega
 rw [hc1] at h1
 have q1 := HB2.out.n.cell
 clear hp2 ha2 HC2 HP1 HA1 HB1 hc1
 by_cases hk : (tkA c.l (i + 1)).kd = 1
 ·
  have hin : isName c.l (i + 1) = true := by unfold isName; rw [hk]; rfl
  have hnm : nameP c.l (i + 1) = .ok (tkA c.l (i + 1)).tx (i + 2) := by unfold nameP; rw [if_pos hk]
  rw [hin, if_pos rfl, hnm, bind_ok] at HS; rw [hk] at k0; have HC3 := hide (rident_any c w2.drew (i + 1) HP2.out.drew); rw [hnm] at HC3; clear hk hin hnm; go_wp2_with fail
  go_region
  go_wp2_with fail; refine cm HC3.out ?_; rintro e w3 ⟨⟨v, rfl, rfl⟩, hp3, ha3⟩; have HA3 := hide (HA2.out.drew.next ha3)
  have HB3 := hide ((⟨⟨HB2.out.p.blk, HB2.out.p.ne⟩, ⟨HB2.out.n.blk, HB2.out.n.ne⟩⟩ : Box2 c w.heap.size (w.heap.size + 1) d w2.drew).ap ha3); have q2 := HB3.out.p.cell; have q3 := HB3.out.n.cell
  have HC5 := hide (rfunction_any HF.out HNX.out HKO.out w3 37 (tkA c.l (i + 1)).tx d (i + 2) r hd HS.out HO.out hp3); clear hp3 ha3 HC3 h0 h1 k0 k1 k2 k3 q0 q1; exact zbce
 ·
  have hin : isName c.l (i + 1) = false := by unfold isName; exact beq_eq_false_iff_ne.2 hk
  have b1 : ((tkA c.l (i + 1)).kd == 1) = false := beq_eq_false_iff_ne.2 hk; rw [hin, if_neg (by decide)] at HS
  have HC5 := hide (rfunction_any HF.out HNX.out HKO.out w2.drew 37 noText d (i + 1) r hd HS.out HO.out HP2.out.drew); have HA3 := hide (HA2.out.drew); clear hk hin; go_wp2_with fail
  go_region
  exact zbce
theorem rfirst_obj (w : World) (d i : Nat) (r : PR Tr) (hd : d ≤ 30) (hn1 : (tkA c.l i).kd ≠ 1) (hn3 : (tkA c.l i).kd ≠ 3) (hn4 : (tkA c.l i).kd ≠ 4) (hnp : ¬ fx c.l i = tOpen) (hnf : ¬ fx c.l i = tFunction) (hf : fx c.l i = tLBrace) (hs : r = robjectP c.l F d i) (ho : r ≠ .out) (h : Ps c w i 0 (-1)) :
  Calls Tryz.prog 256 #[pPtr c, .int .i64 (d : Int)] w (QPost c w (NV w.heap.size) ZN r) := by
 have hm : mustP c.l tLBrace i = .ok () (i + 1) := by unfold mustP; rw [if_pos hf]
 unfold robjectP at hs
 rw [hm, bind_ok] at hs
 have HPW := hide h
 have HLT := hide h.rlt
 have h0 := h.c0
 have h1 := h.c1
 have f1 := h.fz 1
 obtain ⟨k0, k1, k2, k3⟩ := h.toks
 have hlt : (i : Int) < (c.l.length : Int) := by have := h.lt; omega
 have hl3 := h.base.len
 have hR := h.rlt
 have hT := h.base.tlt
 have hR1 : c.P < w.heap.size + 1 := by omega
 have hR2 : c.P < w.heap.size + 1 + 1 := by omega
 have hT1 : c.tb < w.heap.size + 1 := by omega
 have hT2 : c.tb < w.heap.size + 1 + 1 := by omega
 have HC1 := hide (rok_new ((h.alloc (boxA c)).alloc (boxB d)))
 have b1 : ((tkA c.l i).kd == 1) = false := beq_eq_false_iff_ne.2 hn1
 have b3 : ((tkA c.l i).kd == 3) = false := beq_eq_false_iff_ne.2 hn3
 have b4 : ((tkA c.l i).kd == 4) = false := beq_eq_false_iff_ne.2 hn4
 have hx := rnext_any c (((w.alloc (boxA c)).alloc (boxB d)).alloc (tokO (tkA c.l i))).drew i tOpen (by decide) ((((h.alloc (boxA c)).alloc (boxB d)).alloc (tokO (tkA c.l i))).drew)
 rw [decide_eq_false hnp] at hx
 have HX := hide hx
 have HS := hide hs
 have HO := hide ho
 have HF := hide hF
 have HFX := hide hf
 have HNF := hide hnf
 clear hx h hf hn1 hn3 hn4 hs ho hF hm hnp hnf
 go_enter Tryz.func256, Tryz.ntmps256
 go_wp2_with fail
 refine cm HC1.out ?_
 rintro e w1 ⟨rfl, rfl⟩
 clear HC1
 go_wp2_with fail
 go_region
 go_wp2_with fail
 refine cm HX.out ?_
 rintro e w1 ⟨rfl, hb⟩
 have HP1 := hide (((((HPW.out.alloc (boxA c)).alloc (boxB d)).alloc (tokO (tkA c.l i))).drew).later hb)
 have HA1 := hide ((fst_ap c w d (tokO (tkA c.l i))).next (Ap.of hb))
 have HB1 := hide ((box2_new c w d (tokO (tkA c.l i)) hR).ap (Ap.of hb))
 have HT1 : Hid (w1.heap[w.heap.size + 2]? = some (tokO (tkA c.l i))) := (hb.block (w.heap.size + 2) (by simp)).trans (new_obj (by simp))
 have q0 := HB1.out.p.cell
 clear hb HX h0 h1 k0 k1 k2 k3
 have HC2 := hide (rskip_no c w1 i tFunction (by decide) HNF.out HP1.out)
 go_wp2_with fail
 refine cm HC2.out ?_
 rintro e w2 ⟨rfl, hb2⟩
 have HP2 := hide (HP1.out.later hb2)
 have HA2 := hide (HA1.out.next (Ap.of hb2))
 have HB2 := hide (HB1.out.ap (Ap.of hb2))
 have q1 := HB2.out.p.cell
 have HC3 := hide (rskip_yes c w2 i tLBrace (by decide) HFX.out HP2.out)
 clear hb2 HC2 HP1 HA1 HB1 q0
 go_wp2_with fail
 refine cm HC3.out ?_
 rintro e w3 ⟨rfl, hp3, ha3⟩
 have HA3 := hide (HA2.out.next ha3)
 have HB3 := hide (HB2.out.ap ha3)
 have q2 := HB3.out.p.cell
 have hbl := HB3.out.n.lt
 have HP3 := hide hp3
 clear hp3 ha3 HC3 HP2 HA2 HB2 q1
 cases hr : rlistLoop c.l tRBrace (propP c.l F d) F.fuel [] (i + 1) with
 | out => rw [hr] at HS; exact absurd HS.out HO.out
 | bad er pl =>
  have HC4 := hide (rlist_any (prop_part HF.out w.heap.size (w.heap.size + 1) d hd) tRBrace (by decide) F.fuel w3 (i + 1) _ hr.symm (by nofun) HB3.out (by omega) HP3.out); rw [hr] at HS
  have hq : r = .bad er pl := unhide HS; subst hq; clear hr; go_wp2_with fail; refine cm HC4.out ?_; rintro e w4 ⟨⟨v, rfl, a, n, k, rfl⟩, ⟨j, hp4⟩, he, ha4⟩; have H2 := hide hp4; have H3 := hide (HA3.out.next ha4)
  clear hp4 ha4 HC4; go_wp2_with fail; go_ret; exact ⟨⟨_, rfl, _, rfl⟩, ⟨j, H2.out.alloc _⟩, he, H3.out.alloc H3.out.size _⟩
 | ok ts j =>
  have HC4 := hide (rlist_any (prop_part HF.out w.heap.size (w.heap.size + 1) d hd) tRBrace (by decide) F.fuel w3 (i + 1) _ hr.symm (by nofun) HB3.out (by omega) HP3.out); rw [hr] at HS
  have hq : r = .ok (.mk 38 noText 0 ts) j := unhide HS; subst hq; clear hr; go_wp2_with fail; refine cm HC4.out ?_; rintro e w4 ⟨⟨v, rfl, hkv⟩, hp4, ha4⟩; obtain ⟨a, k, rfl⟩ := hkv.shape
  have H1 := hide (hkv.mono HA3.out.size); have H2 := hide hp4; have H3 := hide (HA3.out.next ha4); clear hp4 ha4 HC4 hkv; go_wp2_with fail; go_ret
  exact ⟨⟨_, rfl, (EV.new H1.out H3.out.size 38 noText 0).nv⟩, H2.out.alloc _, H3.out.alloc H3.out.size _⟩
end
section
variable {c : PC} (w : World) (d i : Nat) (hn1 : (tkA c.l i).kd ≠ 1) (hn3 : (tkA c.l i).kd ≠ 3) (hn4 : (tkA c.l i).kd ≠ 4) (hnp : ¬ fx c.l i = tOpen) (hnf : ¬ fx c.l i = tFunction) (hnb : ¬ fx c.l i = tLBrace)
include c w d i hn1 hn3 hn4 hnp hnf hnb
theorem rfirst_lit (hk2 : (tkA c.l i).kd = 2) (hlk : 0 < litK (tkA c.l i).tx) (h : Ps c w i 0 (-1)) :
  Calls Tryz.prog 256 #[pPtr c, .int .i64 (d : Int)] w (QPost c w (NV w.heap.size) ZN (.ok (.mk (litK (tkA c.l i).tx) noText 0 []) (i + 1))) := by
 have hl : i + 1 < c.l.length := next_lt h.base.ends h.lt (by rw [hk2]; decide)
 have bk : ((tkA c.l i).kd == 2) = true := beq_iff_eq.2 hk2
 clear hk2
 have HPW := hide h
 have HLT := hide h.rlt
 have h0 := h.c0
 have h1 := h.c1
 have f1 := h.fz 1
 obtain ⟨k0, k1, k2, k3⟩ := h.toks
 have hlt : (i : Int) < (c.l.length : Int) := by have := h.lt; omega
 have hl3 := h.base.len
 have hR := h.rlt
 have hT := h.base.tlt
 have hR1 : c.P < w.heap.size + 1 := by omega
 have hR2 : c.P < w.heap.size + 1 + 1 := by omega
 have hT1 : c.tb < w.heap.size + 1 := by omega
 have hT2 : c.tb < w.heap.size + 1 + 1 := by omega
 have HC1 := hide (rok_new ((h.alloc (boxA c)).alloc (boxB d)))
 have b1 : ((tkA c.l i).kd == 1) = false := beq_eq_false_iff_ne.2 hn1
 have b3 : ((tkA c.l i).kd == 3) = false := beq_eq_false_iff_ne.2 hn3
 have b4 : ((tkA c.l i).kd == 4) = false := beq_eq_false_iff_ne.2 hn4
 have hx := rnext_any c (((w.alloc (boxA c)).alloc (boxB d)).alloc (tokO (tkA c.l i))).drew i tOpen (by decide) ((((h.alloc (boxA c)).alloc (boxB d)).alloc (tokO (tkA c.l i))).drew)
 rw [decide_eq_false hnp] at hx
 have HX := hide hx
 have HNB := hide hnb
 have HNF := hide hnf
 clear hx h hn1 hn3 hn4 hnp hnf hnb
 go_enter Tryz.func256, Tryz.ntmps256
 go_wp2_with fail
 refine cm HC1.out ?_
 rintro e w1 ⟨rfl, rfl⟩
 clear HC1
 go_wp2_with fail
 go_region
 go_wp2_with fail
 refine cm HX.out ?_
 rintro e w1 ⟨rfl, hb⟩
 have HP1 := hide (((((HPW.out.alloc (boxA c)).alloc (boxB d)).alloc (tokO (tkA c.l i))).drew).later hb)
 have HA1 := hide ((fst_ap c w d (tokO (tkA c.l i))).next (Ap.of hb))
 have HB1 := hide ((box2_new c w d (tokO (tkA c.l i)) hR).ap (Ap.of hb))
 have HT1 : Hid (w1.heap[w.heap.size + 2]? = some (tokO (tkA c.l i))) := (hb.block (w.heap.size + 2) (by simp)).trans (new_obj (by simp))
 have q0 := HB1.out.p.cell
 clear hb HX h0 h1 k0 k1 k2 k3
 have HC2 := hide (rskip_no c w1 i tFunction (by decide) HNF.out HP1.out)
 go_wp2_with fail
 refine cm HC2.out ?_
 rintro e w2 ⟨rfl, hb2⟩
 have HP2 := hide (HP1.out.later hb2)
 have HA2 := hide (HA1.out.next (Ap.of hb2))
 have HB2 := hide (HB1.out.ap (Ap.of hb2))
 have HT2 := hide ((hb2.block (w.heap.size + 2) (lt_of_heap HT1.out)).trans HT1.out)
 have q1 := HB2.out.p.cell
 have HC3 := hide (rskip_no c w2 i tLBrace (by decide) HNB.out HP2.out)
 clear hb2 HC2 HP1 HA1 HB1 q0 HT1
 go_wp2_with fail
 refine cm HC3.out ?_
 rintro e w3 ⟨rfl, hb3⟩
 have HP3 := hide (HP2.out.later hb3)
 have HA3 := hide (HA2.out.next (Ap.of hb3))
 have HB3 := hide (HB2.out.ap (Ap.of hb3))
 have ht3 := (hb3.block (w.heap.size + 2) (lt_of_heap HT2.out)).trans HT2.out
 have t0 : w3.cell? ⟨w.heap.size + 2, 0, none⟩ = some (.int .i64 (tkA c.l i).kd) := by rw [cell_of ht3]; rfl
 have t1 : w3.cell? ⟨w.heap.size + 2, 1, none⟩ = some (.string (tkA c.l i).tx) := by rw [cell_of ht3]; rfl
 have htl := lt_of_heap ht3
 have q2 := HB3.out.p.cell
 have hbl := HB3.out.p.lt
 have c1 := HP3.out.c1
 have cf := HP3.out.fz 1
 have hPl := HP3.out.rlt
 obtain ⟨m1, m2, m3, m4, e0, e1, e2, e3, e4, e5⟩ := lits_made w3
 clear hb3 HC3 HP2 HA2 HB2 q1 ht3 HT2
 generalize tkA c.l i = t at *
 go_wp2_with fail
 go_ret
 have hn : ((i : Int) + 1) = (((i + 1 : Nat)) : Int) := by omega
 rw [hn]
 refine ⟨⟨_, rfl, nv_leaf2 (by have := HA3.out.size; simp; omega) _ noText 0 _ (by simp)⟩, ?_, ?_⟩
 ·
  exact ((HP3.out.step hl).alloc _).alloc _
 ·
  exact ((HA3.out.setCell (p := ⟨c.P, 1, none⟩) (Or.inr rfl) _).alloc (by have := HA3.out.size; simp; omega) _).alloc (by have := HA3.out.size; simp; omega) _
theorem rfirst_no (hno : ¬ ((tkA c.l i).kd = 2 ∧ 0 < litK (tkA c.l i).tx)) (h : Ps c w i 0 (-1)) :
  Calls Tryz.prog 256 #[pPtr c, .int .i64 (d : Int)] w (QPost c w (NV w.heap.size) ZN (badF c.l 3 i)) := by
 have HPW := hide h
 have HLT := hide h.rlt
 have h0 := h.c0
 have h1 := h.c1
 have f1 := h.fz 1
 obtain ⟨k0, k1, k2, k3⟩ := h.toks
 have hlt : (i : Int) < (c.l.length : Int) := by have := h.lt; omega
 have hl3 := h.base.len
 have hR := h.rlt
 have hT := h.base.tlt
 have hR1 : c.P < w.heap.size + 1 := by omega
 have hR2 : c.P < w.heap.size + 1 + 1 := by omega
 have hT1 : c.tb < w.heap.size + 1 := by omega
 have hT2 : c.tb < w.heap.size + 1 + 1 := by omega
 have HC1 := hide (rok_new ((h.alloc (boxA c)).alloc (boxB d)))
 have b1 : ((tkA c.l i).kd == 1) = false := beq_eq_false_iff_ne.2 hn1
 have b3 : ((tkA c.l i).kd == 3) = false := beq_eq_false_iff_ne.2 hn3
 have b4 : ((tkA c.l i).kd == 4) = false := beq_eq_false_iff_ne.2 hn4
 have hx := rnext_any c (((w.alloc (boxA c)).alloc (boxB d)).alloc (tokO (tkA c.l i))).drew i tOpen (by decide) ((((h.alloc (boxA c)).alloc (boxB d)).alloc (tokO (tkA c.l i))).drew)
 rw [decide_eq_false hnp] at hx
 have HX := hide hx
 have HNB := hide hnb
 have HNF := hide hnf
 clear hx h hn1 hn3 hn4 hnp hnf hnb
 go_enter Tryz.func256, Tryz.ntmps256
 go_wp2_with fail
 refine cm HC1.out ?_
 rintro e w1 ⟨rfl, rfl⟩
 clear HC1
 go_wp2_with fail
 go_region
 go_wp2_with fail
 refine cm HX.out ?_
 rintro e w1 ⟨rfl, hb⟩
 have HP1 := hide (((((HPW.out.alloc (boxA c)).alloc (boxB d)).alloc (tokO (tkA c.l i))).drew).later hb)
 have HA1 := hide ((fst_ap c w d (tokO (tkA c.l i))).next (Ap.of hb))
 have HB1 := hide ((box2_new c w d (tokO (tkA c.l i)) hR).ap (Ap.of hb))
 have HT1 : Hid (w1.heap[w.heap.size + 2]? = some (tokO (tkA c.l i))) := (hb.block (w.heap.size + 2) (by simp)).trans (new_obj (by simp))
 have q0 := HB1.out.p.cell
 clear hb HX h0 h1 k0 k1 k2 k3
 have HC2 := hide (rskip_no c w1 i tFunction (by decide) HNF.out HP1.out)
 go_wp2_with fail
 refine cm HC2.out ?_
 rintro e w2 ⟨rfl, hb2⟩
 have HP2 := hide (HP1.out.later hb2)
 have HA2 := hide (HA1.out.next (Ap.of hb2))
 have HB2 := hide (HB1.out.ap (Ap.of hb2))
 have HT2 := hide ((hb2.block (w.heap.size + 2) (lt_of_heap HT1.out)).trans HT1.out)
 have q1 := HB2.out.p.cell
 have HC3 := hide (rskip_no c w2 i tLBrace (by decide) HNB.out HP2.out)
 clear hb2 HC2 HP1 HA1 HB1 q0 HT1
 go_wp2_with fail
 refine cm HC3.out ?_
 rintro e w3 ⟨rfl, hb3⟩
 have HP3 := hide (HP2.out.later hb3)
 have HA3 := hide (HA2.out.next (Ap.of hb3))
 have HB3 := hide (HB2.out.ap (Ap.of hb3))
 have ht3 := (hb3.block (w.heap.size + 2) (lt_of_heap HT2.out)).trans HT2.out
 have t0 : w3.cell? ⟨w.heap.size + 2, 0, none⟩ = some (.int .i64 (tkA c.l i).kd) := by rw [cell_of ht3]; rfl
 have t1 : w3.cell? ⟨w.heap.size + 2, 1, none⟩ = some (.string (tkA c.l i).tx) := by rw [cell_of ht3]; rfl
 have htl := lt_of_heap ht3
 have q2 := HB3.out.p.cell
 have hbl := HB3.out.p.lt
 have c1 := HP3.out.c1
 have cf := HP3.out.fz 1
 have hPl := HP3.out.rlt
 obtain ⟨m1, m2, m3, m4, e0, e1, e2, e3, e4, e5⟩ := lits_made w3
 clear hb3 HC3 HP2 HA2 HB2 q1 ht3 HT2
 have HC4 := hide (rfail_new c (w3.alloc (.map m4 4)) i 3 (by decide) (HP3.out.alloc _))
 have HA4 := hide (HA3.out.alloc HA3.out.size (.map m4 4))
 have hdone : ∀ e w4, NPost c (w3.alloc (.map m4 4)) 3 ((tkA c.l i).pl : Int) ZN e w4 → QPost c w (NV w.heap.size) ZN (badF c.l 3 i) e w4 := fun e w4 hp => npost_trans HA4.out hp
 have HD := hide hdone
 clear hdone
 generalize hX : badF (α := Tr) c.l 3 i = X at *
 clear hX
 generalize ((tkA c.l i).pl : Int) = PL at *
 generalize tkA c.l i = t at *
 by_cases hk2 : t.kd = 2
 ·
  have bk : (t.kd == 2) = true := beq_iff_eq.2 hk2; have hlk : ¬ 0 < litK t.tx := fun hh => hno ⟨hk2, hh⟩; exact zbef
 ·
  have bk : (t.kd == 2) = false := beq_eq_false_iff_ne.2 hk2; exact zbef
end
end Go.Proofs.YtodmgaikhbmlnaaGreatDoor
