/-
  Cut and Drop.
-/
import Derived.Test.YtomogijjkdiomaaDoorHp11
set_option maxRecDepth 100000
set_option maxHeartbeats 16000000
namespace Go.Proofs.YtomogijjkdiomaaDoor
open Go.RowKit

section
variable {H : Nat} {w w1 : World} {M : Mo} {ov sv : Value} {os ss : List Value} {K : Nat}
set_option maxRecDepth 100000
set_option maxHeartbeats 1000000
theorem name_blk {w W : World} {nm : ByteArray} (hb : Below (w.heap.size + 1) (w.alloc (.cells #[.string nm] 9)) W) : W.heap[w.heap.size]? = some (.cells #[.string nm] 9 (0, 0)) := (hb.block _ (Nat.lt_succ_self _)).trans (heap_alloc_new w _)
theorem cut_no (h : HP H w M ov sv os ss) (hs : M.Small K) (hK : K ≤ 1000) (o : Int) (nm : ByteArray) (hp : M.prop o nm = none) :
    Calls Tryd.prog 10 #[.pointer (some ⟨H, 0, none⟩), .int .i64 o, .string nm] w fun e w' => e = .returned (.bool true) ∧ Below w.heap.size w w' := by
  obtain ⟨h0, h1, hf, hf1, hl⟩ := h.c
  have hb0 : Below w.heap.size w (w.alloc (.cells #[.string nm] 9)) := (Below.refl _ _).alloc (Nat.le_refl _) _
  obtain ⟨q, r, hA, hO, hr⟩ := lookP (h.later hb0) hs hK o nm
  have hr0 : r = none := by
    rcases hr with ⟨h, _⟩ | ⟨_, _, _, _, _, _, _, _, _, _, hq, _⟩
    · exact h
    · rw [hp] at hq; cases hq
  subst hr0
  have HC := hide hA
  have HD := hide hO
  clear h hA hO hb0 hr hp
  go_enter Tryd.func10, Tryd.ntmps10
  go_wp2_with fail
  refine Calls.mono HC.out ?_
  rintro e w' ⟨rfl, rfl⟩
  go_wp2_with fail
  refine Calls.mono HD.out ?_
  rintro e w1 ⟨rfl, hb⟩
  have HB := hide (((Below.refl _ w).alloc (Nat.le_refl _) _).trans (hb.mono (by simp)))
  clear hb
  go_wp2_with fail
  go_ret
  exact ⟨rfl, HB.out⟩
theorem cut_fixed (h : HP H w M ov sv os ss) (hs : M.Small K) (hK : K ≤ 1000) (o : Int) (nm : ByteArray) {p : Pr} (hp : M.prop o nm = some p) (hfx : p.fixed = true) :
    Calls Tryd.prog 10 #[.pointer (some ⟨H, 0, none⟩), .int .i64 o, .string nm] w fun e w' => e = .returned (.bool false) ∧ Below w.heap.size w w' := by
  obtain ⟨h0, h1, hf, hf1, hl⟩ := h.c
  have hb0 : Below w.heap.size w (w.alloc (.cells #[.string nm] 9)) := (Below.refl _ _).alloc (Nat.le_refl _) _
  obtain ⟨q, r, hA, hO, hr⟩ := lookP (h.later hb0) hs hK o nm
  rcases hr with ⟨_, hq⟩ | ⟨i, x, k, c, g, cap, rfl, _, _, _, hq, rfl, _, hW⟩
  · rw [hp] at hq; cases hq
  rw [hp] at hq
  cases hq
  have HC := hide hA
  have HD := hide hO
  have HW := hide hW
  clear h hA hO hb0 hp hW
  go_enter Tryd.func10, Tryd.ntmps10
  go_wp2_with fail
  refine Calls.mono HC.out ?_
  rintro e w' ⟨rfl, rfl⟩
  go_wp2_with fail
  refine Calls.mono HD.out ?_
  rintro e w1 ⟨rfl, hb⟩
  obtain ⟨hcc, hgl, hff⟩ := HW.out w1 hb
  have d4 := hcc 4 _ rfl
  rw [hfx] at d4
  have HB := hide (((Below.refl _ w).alloc (Nat.le_refl _) _).trans (hb.mono (by simp)))
  clear hb hcc
  go_wp2_with fail
  go_ret
  exact ⟨rfl, HB.out⟩
/-- Of each name there is one. -/
def uniq {α : Type} (f : α → ByteArray) (l : List α) : Prop := ∀ (i j : Nat) a b, l[i]? = some a → l[j]? = some b → (f a).toList = (f b).toList → i = j
theorem uniq_after {α : Type} {f : α → ByteArray} {l : List α} (h : uniq f l) {nm : ByteArray} {k : Nat} (hk : l.findIdx? (fun a => isN nm (f a)) = some k) : ∀ j b, k < j → l[j]? = some b → isN nm (f b) = false := by
  intro j b hj hb
  obtain ⟨hkl, hk1, _⟩ := List.findIdx?_eq_some_iff_getElem.1 hk
  by_cases hq : isN nm (f b) = true
  · have e1 : (f b).toList = nm.toList := by simpa [isN] using hq
    have e2 : (f l[k]).toList = nm.toList := by simpa [isN] using hk1
    have := h k j l[k] b (List.getElem?_eq_getElem hkl) hb (e2.trans e1.symm)
    omega
  · simpa using hq
theorem cut_ok (h : HP H w M ov sv os ss) (hs : M.Small K) (hK : K ≤ 1000) (i : Nat) (x : Ob) (hi : M.objs[i]? = some x) (nm : ByteArray) (k : Nat) (c : Pr) (hk : fP nm x.ps = some k) (hc : x.ps[k]? = some c) (hfx : c.fixed = false) (hu : uniq Pr.name x.ps) :
    Calls Tryd.prog 10 #[.pointer (some ⟨H, 0, none⟩), .int .i64 (i : Int), .string nm] w fun e w' => e = .returned (.bool true) ∧ (∃ os', HP H w' (M.setOb i ⟨x.code, x.ps.eraseIdx k⟩) ov sv os' ss) ∧ FrT Th H w w' := by
  obtain ⟨h0, h1, hf, hf1, hl⟩ := h.c
  obtain ⟨W0, hW0⟩ : ∃ W0, W0 = w.alloc (.cells #[.string nm] 9) := ⟨_, rfl⟩
  have hz0 : W0.cell? ⟨w.heap.size, 0, none⟩ = some (.string nm) := by rw [hW0]; simp
  have hb0 : Below w.heap.size w W0 := by rw [hW0]; exact (Below.refl _ _).alloc (Nat.le_refl _) _
  have hH := h.later hb0
  obtain ⟨g, cap, v, e2, hlt, hv, hcl, hrow, hg, hB, hfz, _⟩ := hH.ob.at_ (i := i) (e := x.h) (by simp [hi])
  have HC := hide (at_inP g cap _ i hlt W0)
  rw [← e2] at HC
  have hrow' : W0.ownsRow H 88 5 v x.ps.length (x.ps.flatMap Pr.h) := hrow
  have hsm := hs.ps x (List.mem_of_getElem? hi)
  have HD := hide (of_anyP g (i * 2) v x.ps H nm W0 (hcl 1 v rfl) hrow' (by omega))
  obtain ⟨gb, capb, rfl, hkl, _, _⟩ := atP hrow' hc
  rw [hk] at HD
  simp only [pptr] at HD
  have HH := hide hH
  have HV := hide hv
  have HI := hide hi
  have HCC := hide hc
  have HROW := hide hrow'
  have HE2 := hide e2
  have HK := hide hk
  have HUQ := hide (uniq_after (f := Pr.name) hu hk)
  have HCL := hide (hcl 1 _ rfl)
  have HG := hide hg
  have HFZ := hide hfz
  have HLEN := hide hsm
  have HW0 := hide hW0
  have HB0 := hide hb0
  clear hcl hrow hrow' hk hi hc h hH hb0 hv e2 hu hsm hg hfz hW0
  go_enter Tryd.func10, Tryd.ntmps10
  go_wp2_with fail
  rw [← HW0.out]
  refine Calls.mono HC.out ?_
  rintro e w' ⟨rfl, hw⟩
  rw [hw]
  clear hw
  go_wp2_with fail
  refine Calls.mono HD.out ?_
  rintro e w1 ⟨rfl, hb⟩
  obtain ⟨g', cap', hv', _, ⟨hcc, hgl, hff⟩, _⟩ := atP (row_later HROW.out hb) HCC.out
  simp only [Value.slice.injEq, Option.some.injEq, Addr.mk.injEq, and_true, true_and] at hv'
  obtain ⟨rfl, rfl⟩ := hv'
  have d4 := hcc 4 _ rfl
  rw [hfx] at d4
  have HH1 := hide (HH.out.later hb)
  have HB := hide (HB0.out.trans (hb.mono HB0.out.size))
  have hzb : w1.heap[w.heap.size]? = some (.cells #[.string nm] 9 (0, 0)) := by
    refine name_blk (w := w) (W := w1) ?_
    rw [← HW0.out]
    exact hb.mono (by rw [HW0.out]; simp)
  have HE := hide (delf_P gb capb H x.ps nm w.heap.size w1 (row_later HROW.out hb) (by have := HLEN.out; omega) k HK.out HUQ.out hzb)
  have hg1 : g < w1.heap.size := Nat.lt_of_lt_of_le HG.out hb.size
  have hc1 : w1.cell? ⟨g, i * 2 + 1, none⟩ = some (.slice (some ⟨gb, 0, none⟩) x.ps.length capb) := (cell_below hb (a := ⟨g, i * 2 + 1, none⟩) HG.out).trans HCL.out
  have hfz1 : w1.frozen? ⟨g, i * 2 + 1, none⟩ = false := (World.frozen?_of_block (w := W0) (a := ⟨g, i * 2 + 1, none⟩) (hb.block g HG.out)).trans (HFZ.out _)
  clear hb hcc hzb hff
  go_wp2_with fail
  refine Calls.mono HE.out ?_
  rintro e w2 ⟨rfl, hgr, hown⟩
  have hz := HH1.out.growP (x' := ⟨x.code, x.ps.eraseIdx k⟩) HI.out HV.out HE2.out hgr hown (fun q hq => .inl hq) rfl
  have HZ := hide hz
  have kg : w2.cell? ⟨g, i * 2 + 1, none⟩ = some (.slice (some ⟨gb, 0, none⟩) x.ps.length capb) ∧ w2.frozen? ⟨g, i * 2 + 1, none⟩ = false := by
    have hne : some g ≠ some gb := fun e => by
      obtain ⟨_, _, hnn⟩ := HH1.out.ob.nes HV.out
      exact (hnn g e.symm).2.2.1 (by rw [HE2.out]; rfl)
    have hbk := hgr.block g hg1 hne
    exact ⟨(World.cell?_of_block (w := w1) (a := ⟨g, i * 2 + 1, none⟩) hbk).trans hc1, (World.frozen?_of_block (w := w1) (a := ⟨g, i * 2 + 1, none⟩) hbk).trans hfz1⟩
  obtain ⟨kg1, kg2⟩ := kg
  clear hz hgr hown hc1 hfz1 d4 HE
  go_wp2_with fail
  go_ret
  exact ⟨rfl, ⟨_, HZ.out.1⟩, (FrT.of HB.out (Nat.le_of_lt hl)).trans HZ.out.2⟩
theorem drop_ok (h : HP H w M ov sv os ss) (hs : M.Small K) (hK : K ≤ 1000) (i : Nat) (x : Ro) (hi : M.rooms[i]? = some x) (nm : ByteArray) (k : Nat) (c : Ce) (hk : fC nm x.cs = some k) (hc : x.cs[k]? = some c) (hfx : c.kind = 4) (hu : uniq Ce.name x.cs) :
    Calls Tryd.prog 18 #[.pointer (some ⟨H, 0, none⟩), .int .i64 (i : Int), .string nm] w fun e w' => e = .returned (.bool true) ∧ (∃ ss', HP H w' (M.setRo i ⟨x.outer, x.object, x.cs.eraseIdx k⟩) ov sv os ss') ∧ FrT Th H w w' := by
  obtain ⟨h0, h1, hf, hf1, hl⟩ := h.c
  obtain ⟨W0, hW0⟩ : ∃ W0, W0 = w.alloc (.cells #[.string nm] 9) := ⟨_, rfl⟩
  have hz0 : W0.cell? ⟨w.heap.size, 0, none⟩ = some (.string nm) := by rw [hW0]; simp
  have hb0 : Below w.heap.size w W0 := by rw [hW0]; exact (Below.refl _ _).alloc (Nat.le_refl _) _
  have hH := h.later hb0
  obtain ⟨g, cap, v, e2, hlt, hv, hcl, hrow, hg, hB, hfz, _⟩ := hH.ro.at_ (i := i) (e := x.h) (by simp [hi])
  have HC := hide (at_inC g cap _ i hlt W0)
  rw [← e2] at HC
  have hrow' : W0.ownsRow H 98 6 v x.cs.length (x.cs.flatMap Ce.h) := hrow
  have hsm := hs.cs x (List.mem_of_getElem? hi)
  have HD := hide (of_anyC g (i * 3) v x.cs H nm W0 (hcl 2 v rfl) hrow' (by omega))
  obtain ⟨gb, capb, rfl, hkl, _, _⟩ := atC hrow' hc
  rw [hk] at HD
  simp only [pptr] at HD
  have HH := hide hH
  have HV := hide hv
  have HI := hide hi
  have HCC := hide hc
  have HROW := hide hrow'
  have HE2 := hide e2
  have HK := hide hk
  have HUQ := hide (uniq_after (f := Ce.name) hu hk)
  have HCL := hide (hcl 2 _ rfl)
  have HG := hide hg
  have HFZ := hide hfz
  have HLEN := hide hsm
  have HW0 := hide hW0
  have HB0 := hide hb0
  clear hcl hrow hrow' hk hi hc h hH hb0 hv e2 hu hsm hg hfz hW0
  go_enter Tryd.func18, Tryd.ntmps18
  go_wp2_with fail
  rw [← HW0.out]
  refine Calls.mono HC.out ?_
  rintro e w' ⟨rfl, hw⟩
  rw [hw]
  clear hw
  go_wp2_with fail
  refine Calls.mono HD.out ?_
  rintro e w1 ⟨rfl, hb⟩
  obtain ⟨g', cap', hv', _, ⟨hcc, hgl, hff⟩, _⟩ := atC (row_later HROW.out hb) HCC.out
  simp only [Value.slice.injEq, Option.some.injEq, Addr.mk.injEq, and_true, true_and] at hv'
  obtain ⟨rfl, rfl⟩ := hv'
  have d4 := hcc 4 _ rfl
  rw [hfx] at d4
  have HH1 := hide (HH.out.later hb)
  have HB := hide (HB0.out.trans (hb.mono HB0.out.size))
  have hzb : w1.heap[w.heap.size]? = some (.cells #[.string nm] 9 (0, 0)) := by
    refine name_blk (w := w) (W := w1) ?_
    rw [← HW0.out]
    exact hb.mono (by rw [HW0.out]; simp)
  have HE := hide (delf_C gb capb H x.cs nm w.heap.size w1 (row_later HROW.out hb) (by have := HLEN.out; omega) k HK.out HUQ.out hzb)
  have hg1 : g < w1.heap.size := Nat.lt_of_lt_of_le HG.out hb.size
  have hc1 : w1.cell? ⟨g, i * 3 + 2, none⟩ = some (.slice (some ⟨gb, 0, none⟩) x.cs.length capb) := (cell_below hb (a := ⟨g, i * 3 + 2, none⟩) HG.out).trans HCL.out
  have hfz1 : w1.frozen? ⟨g, i * 3 + 2, none⟩ = false := (World.frozen?_of_block (w := W0) (a := ⟨g, i * 3 + 2, none⟩) (hb.block g HG.out)).trans (HFZ.out _)
  clear hb hcc hzb hff
  go_wp2_with fail
  refine Calls.mono HE.out ?_
  rintro e w2 ⟨rfl, hgr, hown⟩
  have hz := HH1.out.growC (x' := ⟨x.outer, x.object, x.cs.eraseIdx k⟩) HI.out HV.out HE2.out hgr hown (fun q hq => .inl hq) ⟨rfl, rfl⟩
  have HZ := hide hz
  have kg : w2.cell? ⟨g, i * 3 + 2, none⟩ = some (.slice (some ⟨gb, 0, none⟩) x.cs.length capb) ∧ w2.frozen? ⟨g, i * 3 + 2, none⟩ = false := by
    have hne : some g ≠ some gb := fun e => by
      obtain ⟨_, _, hnn⟩ := HH1.out.ro.nes HV.out
      exact (hnn g e.symm).2.2.1 (by rw [HE2.out]; rfl)
    have hbk := hgr.block g hg1 hne
    exact ⟨(World.cell?_of_block (w := w1) (a := ⟨g, i * 3 + 2, none⟩) hbk).trans hc1, (World.frozen?_of_block (w := w1) (a := ⟨g, i * 3 + 2, none⟩) hbk).trans hfz1⟩
  obtain ⟨kg1, kg2⟩ := kg
  clear hz hgr hown hc1 hfz1 d4 HE
  go_wp2_with fail
  go_ret
  exact ⟨rfl, ⟨_, HZ.out.1⟩, (FrT.of HB.out (Nat.le_of_lt hl)).trans HZ.out.2⟩
theorem drop_kind (h : HP H w M ov sv os ss) (hs : M.Small K) (hK : K ≤ 1000) (o : Int) (nm : ByteArray) {p : Ce} (hp : M.cel o nm = some p) (hfx : p.kind ≠ 4) :
    Calls Tryd.prog 18 #[.pointer (some ⟨H, 0, none⟩), .int .i64 o, .string nm] w fun e w' => e = .returned (.bool false) ∧ Below w.heap.size w w' := by
  obtain ⟨h0, h1, hf, hf1, hl⟩ := h.c
  have hb0 : Below w.heap.size w (w.alloc (.cells #[.string nm] 9)) := (Below.refl _ _).alloc (Nat.le_refl _) _
  obtain ⟨q, r, hA, hO, hr⟩ := lookC (h.later hb0) hs hK o nm
  rcases hr with ⟨_, hq⟩ | ⟨i, x, k, c, g, cap, rfl, _, _, _, hq, rfl, _, hW⟩
  · rw [hp] at hq; cases hq
  rw [hp] at hq
  cases hq
  have HC := hide hA
  have HD := hide hO
  have HW := hide hW
  clear h hA hO hb0 hp hW
  go_enter Tryd.func18, Tryd.ntmps18
  go_wp2_with fail
  refine Calls.mono HC.out ?_
  rintro e w' ⟨rfl, rfl⟩
  go_wp2_with fail
  refine Calls.mono HD.out ?_
  rintro e w1 ⟨rfl, hb⟩
  obtain ⟨hcc, hgl, hff⟩ := HW.out w1 hb
  have d4 := hcc 4 _ rfl
  have HB := hide (((Below.refl _ w).alloc (Nat.le_refl _) _).trans (hb.mono (by simp)))
  clear hb hcc
  go_wp2_with fail
  go_ret
  exact ⟨rfl, HB.out⟩
theorem drop_prop (h : HP H w M ov sv os ss) (hs : M.Small K) (hK : K ≤ 1000) (s : Int) (nm : ByteArray) (hp : M.cel s nm = none) (b : Bool) (M' : Mo)
    (hR : ∀ W, Below w.heap.size w W → Calls Tryd.prog 10 #[.pointer (some ⟨H, 0, none⟩), .int .i64 (M.objOf s), .string nm] W fun e w' => e = .returned (.bool b) ∧ HeapH H w' M' ∧ FrT Th H W w') :
    Calls Tryd.prog 18 #[.pointer (some ⟨H, 0, none⟩), .int .i64 s, .string nm] w fun e w' => e = .returned (.bool b) ∧ HeapH H w' M' ∧ FrT Th H w w' := by
  obtain ⟨h0, h1, hf, hf1, hl⟩ := h.c
  have hb0 : Below w.heap.size w (w.alloc (.cells #[.string nm] 9)) := (Below.refl _ _).alloc (Nat.le_refl _) _
  obtain ⟨q, r, hA, hO, hr⟩ := lookC (h.later hb0) hs hK s nm
  have hr0 : r = none := by
    rcases hr with ⟨h, _⟩ | ⟨_, _, _, _, _, _, _, _, _, _, hq, _⟩
    · exact h
    · rw [hp] at hq; cases hq
  subst hr0
  obtain ⟨oo, hoo⟩ : ∃ oo, oo = M.objOf s := ⟨_, rfl⟩
  have HO : Hid (∀ w1, Below w.heap.size w w1 → Calls Tryd.prog 35 #[.pointer (some ⟨H, 0, none⟩), .int .i64 s] w1 fun e w' => e = .returned (.int .i64 oo) ∧ w' = w1) := fun w1 hb => by rw [hoo]; exact objOf_any (h.later hb) s
  rw [← hoo] at hR
  have HR := hide hR
  have HC := hide hA
  have HD := hide hO
  clear h hA hO hb0 hr hp hR hoo
  go_enter Tryd.func18, Tryd.ntmps18
  go_wp2_with fail
  refine Calls.mono HC.out ?_
  rintro e w' ⟨rfl, rfl⟩
  go_wp2_with fail
  refine Calls.mono HD.out ?_
  rintro e w1 ⟨rfl, hb⟩
  have HB := hide (((Below.refl _ w).alloc (Nat.le_refl _) _).trans (hb.mono (by simp)))
  have hzb : w1.heap[w.heap.size]? = some (.cells #[.string nm] 9 (0, 0)) := name_blk (hb.mono (by simp))
  have n0 : w1.cell? ⟨w.heap.size, 0, none⟩ = some (.string nm) := by simp [World.cell?, hzb]
  have HZB := hide hzb
  clear hb hzb
  go_wp2_with fail
  refine wp_region_held (S := fun W => W.cell? ⟨w.heap.size, 0, none⟩ = some (.string nm)) (by kernel_rfl) ?_
  change wpAnyH _ _ _ _ _ _ _ _ (World.drew _)
  have HS2 : Hid (w1.drew.cell? ⟨w.heap.size, 0, none⟩ = some (.string nm)) := n0
  refine wh 0 (.pointer (some ⟨H, 0, none⟩)) HS2.out ?_
  refine wh 1 (.pointer (some ⟨H, 0, none⟩)) HS2.out ?_
  refine wh 2 (.int .i64 s) HS2.out ?_
  refine wg 4 (.string nm) rfl (Or.inl ⟨by kernel_rfl, fun W hW => by go_simp⟩) HS2.out ?_
  refine wq1 3 fun K hK => ?_
  go_simp
  refine Calls.mono (HO.out _ HB.out.drew) ?_
  rintro e w3 ⟨rfl, rfl⟩
  refine hK.out _ _ HS2.out (fun _ => ?_)
  clear hK K
  refine wq1 5 fun K hK => ?_
  go_simp
  refine Calls.mono (HR.out _ HB.out.drew) ?_
  rintro e w4 ⟨rfl, hh4, hf4⟩
  have HF := hide ((FrT.of HB.out.drew (Nat.le_of_lt hl)).trans hf4)
  have H4 := hide hh4
  have HS4 : Hid (w4.cell? ⟨w.heap.size, 0, none⟩ = some (.string nm)) := by
    have h4 := hf4.rest _ _ 9 HZB.out (by decide)
    simp [Hid, World.cell?, h4]
  refine hK.out _ _ HS4.out (fun _ => ?_)
  clear hK K hh4 hf4
  refine wh 6 (.bool b) HS4.out ?_
  refine wpAnyH_done (by kernel_rfl) ?_ _
  go_simp
  go_wp2_with fail
  go_ret
  exact ⟨rfl, H4.out, HF.out⟩
end
end Go.Proofs.YtomogijjkdiomaaDoor
