/-
  Put and Write.
-/
import Derived.Test.YtomogijjkdiomaaDoorHp6
set_option maxRecDepth 100000
set_option maxHeartbeats 16000000
namespace Go.Proofs.YtomogijjkdiomaaDoor
open Go.RowKit

section
variable {H : Nat} {w w1 : World} {M : Mo} {ov sv : Value} {os ss : List Value} {K : Nat}
set_option maxRecDepth 100000
set_option maxHeartbeats 1000000
theorem info88 : (Tryd.prog.info? 88).map (fun i => (i.zero, i.size, i.bytes)) = some (some (.agg #[.string ⟨#[]⟩, .int .i64 0, .int .i64 0, .string ⟨#[]⟩, .bool false]), 5, 56) := by kernel_rfl
theorem new5_cells (w : World) (H : Nat) (hH : w.heap.size = H) (x : ByteArray) (b : Int) (r : Bool) (j : Nat) (u : Value) (h : ([.string x, .int .i64 3, .int .i64 b, .string ⟨#[]⟩, .bool r] : List Value)[j]? = some u) :
    (w.alloc (.cells #[.string x, .int .i64 3, .int .i64 b, .string ⟨#[]⟩, .bool r] 88)).cell? (Addr.add ⟨H, 0, none⟩ j) = some u := by
  subst hH
  match j, h with
  | 0, h => simp at h; subst h; simp [Addr.add]
  | 1, h => simp at h; subst h; simp [Addr.add]
  | 2, h => simp at h; subst h; simp [Addr.add]
  | 3, h => simp at h; subst h; simp [Addr.add]
  | 4, h => simp at h; subst h; simp [Addr.add]
  | k + 5, h => simp at h
theorem new5_one (x : ByteArray) (b : Int) (r : Bool) : ∀ u ∈ ([.string x, .int .i64 3, .int .i64 b, .string ⟨#[]⟩, .bool r] : List Value), u.oneCell' = true := by
  intro u hu
  simp at hu
  rcases hu with rfl | rfl | rfl | rfl | rfl <;> rfl
theorem HP.growP (h : HP H w M ov sv os ss) {i : Nat} {x x' : Ob} (hi : M.objs[i]? = some x) {v v' : Value} (hv : os[i]? = some v) {g cap : Nat} (he : ov = .slice (some ⟨g, 0, none⟩) (M.objs.map Ob.h).length cap)
    (hgr : w.grownBy w1 v.ownBlock) (hown : w1.ownsRow H 88 5 v' x'.ps.length (x'.ps.flatMap Pr.h)) (hg' : ∀ q, v'.ownBlock = some q → v.ownBlock = some q ∨ w.heap.size ≤ q) (hx : x'.code = x.code) :
    HP H (w1.setCell ⟨g, i * 2 + 1, none⟩ v') (M.setOb i x') ov sv (os.set i v') ss ∧ FrT Th H w (w1.setCell ⟨g, i * 2 + 1, none⟩ v') := by
  have hi' : (M.objs.map Ob.h)[i]? = some x.h := by simp [hi]
  have hob := h.ob
  rw [he] at hob
  have hz := hob.put (Nat.le_of_lt (lt_of_block h.blk)) hi' hv hgr hown hg'
  rw [← he] at hz
  refine h.ob1 (objs := M.objs.set i x') ?_ hz.2
  rw [List.map_set]
  have := hz.1
  rw [show x'.h = ⟨x.h.hd, x'.ps.length, x'.ps.flatMap Pr.h⟩ by simp [Ob.h, hx]]
  exact this
theorem put_out (h : HP H w M ov sv os ss) (o : Int) (nm : ByteArray) (n : Int) (fx : Bool) (ho : M.ob o = none) :
    Calls Tryd.prog 8 #[.pointer (some ⟨H, 0, none⟩), .int .i64 o, .string nm, .agg #[.int .i64 3, .int .i64 n, .string ⟨#[]⟩], .bool fx] w fun e w' => e = .returned (.iface 47 (.int .i64 7)) ∧ Below w.heap.size w w' := by
  obtain ⟨h0, h1, hf, hf1, hl⟩ := h.c
  have hout : o < 0 ∨ (M.objs.length : Int) ≤ o := by
    rcases ob_cases M o with ⟨_, h⟩ | ⟨i, x, rfl, _, h⟩
    · exact h
    · rw [ho] at h; cases h
  have HC := hide (at_outP ov _ (row_form h.ob.row) o (by simpa using hout) (w.alloc (.cells #[.int .i64 3, .int .i64 n, .string ⟨#[]⟩] 36)))
  clear h hout ho
  go_enter Tryd.func8, Tryd.ntmps8
  go_wp2_with fail
  refine Calls.mono HC.out ?_
  rintro e w' ⟨rfl, rfl⟩
  go_wp2_with fail
  go_ret
  exact ⟨rfl, (Below.refl _ _).alloc (Nat.le_refl _) _⟩
theorem put_old (h : HP H w M ov sv os ss) (hs : M.Small K) (hK : K ≤ 1000) (i : Nat) (x : Ob) (hi : M.objs[i]? = some x) (nm : ByteArray) (n : Int) (fx : Bool) (k : Nat) (c : Pr) (hk : fP nm x.ps = some k) (hc : x.ps[k]? = some c) :
    Calls Tryd.prog 8 #[.pointer (some ⟨H, 0, none⟩), .int .i64 (i : Int), .string nm, .agg #[.int .i64 3, .int .i64 n, .string ⟨#[]⟩], .bool fx] w fun e w' => e = .returned .nilIface ∧ HP H w' (M.setOb i ⟨x.code, x.ps.set k ⟨c.name, n, c.fixed⟩⟩) ov sv os ss ∧ FrT Th H w w' := by
  obtain ⟨h0, h1, hf, hf1, hl⟩ := h.c
  have hb0 : Below w.heap.size w (w.alloc (vO n)) := (Below.refl _ _).alloc (Nat.le_refl _) _
  have hH := h.later hb0
  obtain ⟨g, cap, v, e2, hlt, hv, hcl, hrow, hg, hB, hfz, _⟩ := hH.ob.at_ (i := i) (e := x.h) (by simp [hi])
  have HC := hide (at_inP g cap _ i hlt (w.alloc (vO n)))
  rw [← e2] at HC
  have hrow' : (w.alloc (vO n)).ownsRow H 88 5 v x.ps.length (x.ps.flatMap Pr.h) := hrow
  have HD := hide (of_anyP g (i * 2) v x.ps H nm (w.alloc (vO n)) (hcl 1 v rfl) hrow' (by have := hs.ps x (List.mem_of_getElem? hi); omega))
  obtain ⟨gb, capb, rfl, hkl, _, _⟩ := atP hrow' hc
  rw [hk] at HD
  simp only [pptr] at HD
  unfold vO at HC HD
  obtain ⟨cg, hcg⟩ := row_tag hrow' rfl
  have hgz : gb ≠ w.heap.size := tags_ne hcg (heap_alloc_new w _) (by decide)
  have HH := hide hH
  have HV := hide hv
  have HI := hide hi
  have HCC := hide hc
  have HROW := hide hrow'
  clear hcl hrow hrow' hk hi hc h hH hcg hb0 hv e2
  go_enter Tryd.func8, Tryd.ntmps8
  go_wp2_with fail
  refine Calls.mono HC.out ?_
  rintro e w' ⟨rfl, rfl⟩
  go_wp2_with fail
  refine Calls.mono HD.out ?_
  rintro e w1 ⟨rfl, hb⟩
  obtain ⟨g', cap', hv', _, ⟨hcc, hgl, hff⟩, _⟩ := atP (row_later HROW.out hb) HCC.out
  simp only [Value.slice.injEq, Option.some.injEq, Addr.mk.injEq, and_true, true_and] at hv'
  obtain ⟨rfl, rfl⟩ := hv'
  have d1 := hcc 1 _ rfl
  have d2 := hcc 2 _ rfl
  have d3 := hcc 3 _ rfl
  obtain ⟨n0, n1, n2, nf, nl⟩ := new3 (hb.mono (by simp))
  have HZ := hide ((HH.out.later hb).setP HI.out HV.out HCC.out n)
  have HB := hide (((Below.refl _ w).alloc (Nat.le_refl _) _).trans (hb.mono (by simp)))
  clear hb hcc
  go_wp2_with fail
  go_ret
  exact ⟨rfl, HZ.out.1, (FrT.of HB.out (Nat.le_of_lt hl)).trans HZ.out.2⟩
theorem put_new (h : HP H w M ov sv os ss) (hs : M.Small K) (hK : K ≤ 1000) (i : Nat) (x : Ob) (hi : M.objs[i]? = some x) (nm : ByteArray) (n : Int) (fx : Bool) (hk : fP nm x.ps = none) :
    Calls Tryd.prog 8 #[.pointer (some ⟨H, 0, none⟩), .int .i64 (i : Int), .string nm, .agg #[.int .i64 3, .int .i64 n, .string ⟨#[]⟩], .bool fx] w fun e w' => e = .returned .nilIface ∧ (∃ os', HP H w' (M.setOb i ⟨x.code, x.ps ++ [⟨nm, n, fx⟩]⟩) ov sv os' ss) ∧ FrT Th H w w' := by
  obtain ⟨h0, h1, hf, hf1, hl⟩ := h.c
  have hb0 : Below w.heap.size w (w.alloc (vO n)) := (Below.refl _ _).alloc (Nat.le_refl _) _
  have hH := h.later hb0
  obtain ⟨g, cap, v, e2, hlt, hv, hcl, hrow, hg, hB, hfz, _⟩ := hH.ob.at_ (i := i) (e := x.h) (by simp [hi])
  have HC := hide (at_inP g cap _ i hlt (w.alloc (vO n)))
  rw [← e2] at HC
  have hrow' : (w.alloc (vO n)).ownsRow H 88 5 v x.ps.length (x.ps.flatMap Pr.h) := hrow
  have HD := hide (of_anyP g (i * 2) v x.ps H nm (w.alloc (vO n)) (hcl 1 v rfl) hrow' (by have := hs.ps x (List.mem_of_getElem? hi); omega))
  rw [hk, pptr_none] at HD
  have hsm := hs.ps x (List.mem_of_getElem? hi)
  unfold vO at HC HD
  have HH := hide hH
  have HV := hide hv
  have HI := hide hi
  have HE2 := hide e2
  have HROW := hide hrow'
  have HCL := hide (hcl 1 v rfl)
  have HLEN := hide hsm
  obtain ⟨ii, hi0, hz0, hz1, hz2⟩ := info_parts info88
  clear hcl hrow hrow' hk hi h hH hb0 hv e2 hsm
  go_enter Tryd.func8, Tryd.ntmps8
  go_wp2_with fail
  refine Calls.mono HC.out ?_
  rintro e w' ⟨rfl, rfl⟩
  go_wp2_with fail
  refine Calls.mono HD.out ?_
  rintro e w1 ⟨rfl, hb⟩
  obtain ⟨n0, n1, n2, nf, nl⟩ := new3 (hb.mono (by simp))
  have HB := hide (((Below.refl _ w).alloc (Nat.le_refl _) _).trans (hb.mono (by simp)))
  have HH1 := hide (HH.out.later hb)
  have HROW1 := hide (row_later HROW.out hb)
  have hgl : g < w1.heap.size := Nat.lt_of_lt_of_le hg hb.size
  have hc1 : w1.cell? ⟨g, i * 2 + 1, none⟩ = some v := (cell_below hb (a := ⟨g, i * 2 + 1, none⟩) hg).trans HCL.out
  have hfz1 : w1.frozen? ⟨g, i * 2 + 1, none⟩ = false := (World.frozen?_of_block (w := w.alloc (vO n)) (a := ⟨g, i * 2 + 1, none⟩) (hb.block g hg)).trans (hfz _)
  clear hb
  go_wp2_with fail
  refine wp_region_any (by kernel_rfl) ?_
  change wpAny _ _ _ _ _ _ _ (World.drew _)
  refine wt 0 (.pointer (some ⟨g, i * 2, none⟩)) ?_
  refine wt 1 (.pointer (some ⟨g, i * 2, none⟩)) ?_
  refine wt 2 (.pointer (some ⟨g, i * 2, none⟩)) ?_
  refine wt 3 (.pointer (some ⟨g, i * 2 + 1, none⟩)) ?_
  refine wt 5 (.string nm) ?_
  refine wt 7 (.bool fx) ?_
  refine wr2 4 6 (fun K hK => ?ca) fun K hK => ?cb
  case' ca =>
    go_simp
    refine hK _ _ ?_
    clear hK K
    refine wr1 6 fun K hK => ?_
    go_simp
    refine hK _ _ ?_
    clear hK K
    refine wt 8 (.agg #[.string nm, .int .i64 3, .int .i64 n, .string ⟨#[]⟩, .bool fx]) ?_
    refine wr1 9 fun K hK => ?_
    go_simp
    refine hK _ _ ?_
    clear hK K
  case' cb =>
    go_simp
    refine hK _ _ ?_
    clear hK K
    refine wt 8 (.agg #[.string nm, .int .i64 3, .int .i64 n, .string ⟨#[]⟩, .bool fx]) ?_
    refine wr2 4 9 (fun K hK => ?cc) fun K hK => ?cd
  case' cc =>
    go_simp
    refine hK _ _ ?_
    clear hK K
    refine wr1 9 fun K hK => ?_
    go_simp
    refine hK _ _ ?_
    clear hK K
  case' cd =>
    go_simp
    refine hK _ _ ?_
    clear hK K
    refine wr1 4 fun K hK => ?_
    go_simp
    refine hK _ _ ?_
    clear hK K
  all_goals
    refine wr1 10 fun K hK => ?_
    refine step_append_lies _ rfl _ _ 71 rfl H 88 ii _ 5 56 Tryd.underlying71 hi0 hz0 hz1 hz2 rfl (by decide) _ _ _ rfl (HROW1.out.drew.alloc _) ⟨w1.heap.size, 0, none⟩ 1 1 [.string nm, .int .i64 3, .int .i64 n, .string ⟨#[]⟩, .bool fx] rfl rfl (new5_cells _ _ rfl _ _ _) (new5_one _ _ _) (by decide) (by have := HLEN.out; unfold maxLen; omega) (by have := HLEN.out; omega) (by simp; omega) (w1.heap.size + 1) (by simp) ?_
    intro gn capn w3 hown3 hgr3 hg3 _
    refine hK _ _ ?_
    clear hK K
    have hgr : w1.grownBy w3 v.ownBlock := grown_trans (grown_trans (b := w1.drew) ⟨rfl, rfl, rfl, Nat.le_refl _, fun _ _ _ => rfl⟩ (World.grownBy_alloc _ _ _)) hgr3
    have hz := HH1.out.growP (x' := ⟨x.code, x.ps ++ [⟨nm, n, fx⟩]⟩) HI.out HV.out HE2.out hgr (v' := .slice (some ⟨gn, 0, none⟩) (x.ps.length + 1) capn) (by rw [List.flatMap_append]; simpa [Pr.h] using hown3) (fun q hq => by cases hq; exact hg3.imp (fun e => e) (fun e => by rw [e]; exact Nat.le_succ _)) rfl
    have HZ := hide hz
    have kg : w3.cell? ⟨g, i * 2 + 1, none⟩ = some v ∧ w3.frozen? ⟨g, i * 2 + 1, none⟩ = false := by
      have hne : some g ≠ v.ownBlock := fun e => by
        obtain ⟨_, _, hnn⟩ := HH1.out.ob.nes HV.out
        exact (hnn g e.symm).2.2.1 (by rw [HE2.out]; rfl)
      have hbk := hgr.block g hgl hne
      exact ⟨(World.cell?_of_block (w := w1) (a := ⟨g, i * 2 + 1, none⟩) hbk).trans hc1, (World.frozen?_of_block (w := w1) (a := ⟨g, i * 2 + 1, none⟩) hbk).trans hfz1⟩
    obtain ⟨kg1, kg2⟩ := kg
    clear hz hgr hown3 hgr3 hg3 hc1 hfz1 n0 n1 n2 nf
    refine wt 11 (.pointer (some ⟨g, i * 2, none⟩)) ?_
    refine wt 12 (.pointer (some ⟨g, i * 2 + 1, none⟩)) ?_
    refine wr1 13 fun K hK => ?_
    go_simp
    refine hK _ _ ?_
    clear hK K
    refine wpAny_done (by kernel_rfl) ?_ _
    go_simp
    go_wp2_with fail
    go_ret
    exact ⟨rfl, ⟨_, HZ.out.1⟩, (FrT.of HB.out (Nat.le_of_lt hl)).trans HZ.out.2⟩
end
end Go.Proofs.YtomogijjkdiomaaDoor
