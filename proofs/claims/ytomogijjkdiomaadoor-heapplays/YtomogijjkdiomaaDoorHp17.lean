/-
  The document's own heap: Put.
-/
import Derived.Test.YtomogijjkdiomaaDoorHp16
import Derived.Deep.AppendLies
set_option maxRecDepth 100000
set_option maxHeartbeats 16000000
namespace Go.Proofs.YtomogijjkdiomaaDoor
open Go.RowKit

section
variable {R : Nat} {w w1 : World} {M : Mo} {cv pv rv : Value} {ps rs : List Value} {K : Nat}
set_option maxRecDepth 100000
set_option maxHeartbeats 1000000
theorem wq2 {P : Program} {md : Region.Mode} {ops : Array Oper} {Q : Exit → Act → World → Prop} {S : World → Prop} {fuel : Nat} {listed : Array Bool} {a : Act} {w : World} {o o' : Oper} (i j : Nat)
    (h : ∀ K' : Act → World → Prop, Shut (∀ a w, S w → (S w → wpAnyH P md ops Q S fuel (listed.setIfInBounds i true) a w) → K' a w) → if Region.wanted o (yielded ops a.tmps) = true then Oper.wp P o a w K' Q else K' (a.put o.dst undef) w)
    (h' : ∀ K' : Act → World → Prop, Shut (∀ a w, S w → (S w → wpAnyH P md ops Q S fuel (listed.setIfInBounds j true) a w) → K' a w) → if Region.wanted o' (yielded ops a.tmps) = true then Oper.wp P o' a w K' Q else K' (a.put o'.dst undef) w)
    (ho : ops[i]? = some o := by rfl) (ho' : ops[j]? = some o' := by rfl) (hr : Region.ready md ops listed = [i, j] := by kernel_rfl) : wpAnyH P md ops Q S (fuel + 1) listed a w :=
  wpAnyH_ready hr (by simp) (AllReadyH.cons ho h (AllReadyH.cons ho' h' AllReadyH.nil))
theorem newp_cells (w : World) (H : Nat) (hH : w.heap.size = H) (x : ByteArray) (b : Int) (r : Bool) (j : Nat) (u : Value) (h : ([.string x, .int .i64 b, .bool r] : List Value)[j]? = some u) :
    (w.alloc (.cells #[.string x, .int .i64 b, .bool r] 92)).cell? (Addr.add ⟨H, 0, none⟩ j) = some u := by
  subst hH
  match j, h with
  | 0, h => simp at h; subst h; simp [Addr.add]
  | 1, h => simp at h; subst h; simp [Addr.add]
  | 2, h => simp at h; subst h; simp [Addr.add]
  | k + 3, h => simp at h
theorem newp_one (x : ByteArray) (b : Int) (r : Bool) : ∀ u ∈ ([.string x, .int .i64 b, .bool r] : List Value), u.oneCell' = true := by
  intro u hu
  simp at hu
  rcases hu with rfl | rfl | rfl <;> rfl
theorem info92 : (Tryd.prog.info? 92).map (fun i => (i.zero, i.size, i.bytes)) = some (some (.agg #[.string ⟨#[]⟩, .int .i64 0, .bool false]), 3, 32) := by kernel_rfl
theorem rput_out (h : WP R w M cv pv rv ps rs) (o : Int) (nm : ByteArray) (n : Int) (fx : Bool) (ho : M.ob o = none) :
    Calls Tryd.prog 9 #[.pointer (some ⟨R, 0, none⟩), .int .i64 o, .string nm, .int .i64 n, .bool fx] w fun e w' => e = .returned (.int .i64 7) ∧ Below w.heap.size w w' := by
  have HO := hide (object_any h o)
  rw [ho] at HO
  clear h ho
  go_enter Tryd.func9, Tryd.ntmps9
  go_wp2_with fail
  refine Calls.mono HO.out ?_
  rintro e w1 ⟨rfl, rfl⟩
  go_wp2_with fail
  go_ret
  exact ⟨rfl, Below.refl _ _⟩
theorem rput_old (h : WP R w M cv pv rv ps rs) (hs : M.Small K) (hK : K ≤ 1000) (i : Nat) (x : Ob) (hi : M.objs[i]? = some x) (nm : ByteArray) (n : Int) (fx : Bool) (k : Nat) (c : Pr) (hk : fP nm x.ps = some k) (hc : x.ps[k]? = some c) :
    Calls Tryd.prog 9 #[.pointer (some ⟨R, 0, none⟩), .int .i64 (i : Int), .string nm, .int .i64 n, .bool fx] w fun e w' => e = .returned (.int .i64 0) ∧ WP R w' (M.setOb i ⟨x.code, x.ps.set k ⟨c.name, n, c.fixed⟩⟩) cv pv rv ps rs ∧ FrT Tr R w w' := by
  obtain ⟨h0, h1, h2, hl⟩ := h.c
  obtain ⟨g, cap, v, rfl, hlt, hv, c0, hrow, hg, hB, hfz⟩ := robj h hi
  have HO := hide (object_any h i)
  rw [ob_nat hi] at HO
  have hsm := hs.ps x (List.mem_of_getElem? hi)
  have hkl : k < x.ps.length := (List.getElem?_eq_some_iff.1 hc).1
  rcases row_form hrow with ⟨rfl, hn⟩ | ⟨gb, capb, rfl⟩
  · omega
  have hgb := (hrow.lt gb rfl).2
  have HROW := hide hrow
  have HH := hide h
  have HV := hide hv
  have HI := hide hi
  have HCC := hide hc
  have HK := hide hk
  clear h hs hi hv hfz hrow hc hk
  go_enter Tryd.func9, Tryd.ntmps9
  go_wp2_with fail
  refine Calls.mono HO.out ?_
  rintro e w1 ⟨rfl, rfl⟩
  go_wp2_with fail
  go_loopw [24] (fun j wr => ∃ m : Nat, m ≤ k ∧ j = .int .i64 m ∧ wr = w1) (fun j _ => k + 1 - (intOf j).toNat)
  case atStart => exact ⟨0, Nat.zero_le _, rfl, rfl⟩
  case round =>
    obtain ⟨m, hmk, rfl, hw⟩ := hrel
    rw [hw]
    clear hw
    have hml : m < x.ps.length := by omega
    obtain ⟨b, hbm⟩ : ∃ b, x.ps[m]? = some b := ⟨_, List.getElem?_eq_getElem hml⟩
    have d0 : w1.cell? ⟨gb, m * 3, none⟩ = some (.string b.name) := ratP HROW.out hbm rfl 0 _ rfl
    have d1 := ratP HROW.out hbm rfl 1 _ rfl
    obtain ⟨hk0, hk1, hk2⟩ := List.findIdx?_eq_some_iff_getElem.1 HK.out
    by_cases hmk2 : m = k
    · subst hmk2
      rw [HCC.out] at hbm
      cases hbm
      have hx : (c.name.toList == nm.toList) = true := by
        have e1 := HCC.out
        rw [List.getElem?_eq_getElem hk0] at e1
        rw [Option.some.inj e1] at hk1
        exact hk1
      have hx2 : c.name.toList = nm.toList := by simpa using hx
      have hfb := HROW.out.frozenAt
      have HZ := hide (HH.out.setP HI.out HV.out HCC.out n)
      clear hk0 hk1 hk2
      go_wp2_with fail
      go_ret
      exact ⟨rfl, HZ.out.1, HZ.out.2⟩
    · have hx : (b.name.toList == nm.toList) = false := by
        have := hk2 m (by omega)
        rw [List.getElem?_eq_getElem hml] at hbm
        rw [Option.some.inj hbm] at this
        simpa [isN] using this
      have hx2 : ¬ b.name.toList = nm.toList := by simpa using hx
      clear hk0 hk1 hk2 hbm
      go_wp2_with fail
      go_roundw
      case rel => exact ⟨m + 1, by omega, by go_num, trivial⟩
      case measure => simp [intOf]; omega
theorem rput_new (h : WP R w M cv pv rv ps rs) (hs : M.Small K) (hK : K ≤ 1000) (i : Nat) (x : Ob) (hi : M.objs[i]? = some x) (nm : ByteArray) (n : Int) (fx : Bool) (hk : fP nm x.ps = none) :
    Calls Tryd.prog 9 #[.pointer (some ⟨R, 0, none⟩), .int .i64 (i : Int), .string nm, .int .i64 n, .bool fx] w fun e w' => e = .returned (.int .i64 0) ∧ (∃ ps', WP R w' (M.setOb i ⟨x.code, x.ps ++ [⟨nm, n, fx⟩]⟩) cv pv rv ps' rs) ∧ FrT Tr R w w' := by
  obtain ⟨h0, h1, h2, hl⟩ := h.c
  obtain ⟨g, cap, v, rfl, hlt, hv, c0, hrow, hg, hB, hfz⟩ := robj h hi
  have HO := hide (object_any h i)
  rw [ob_nat hi] at HO
  have hsm := hs.ps x (List.mem_of_getElem? hi)
  have HROW := hide hrow
  have HH := hide h
  have HV := hide hv
  have HI := hide hi
  have HK := hide hk
  clear h hs hi hv hrow hk
  have hform : v = .slice none 0 0 ∧ x.ps.length = 0 ∨ ∃ gb capb, v = .slice (some ⟨gb, 0, none⟩) x.ps.length capb := row_form HROW.out
  have HNO : Hid (∀ (m : Nat) b, x.ps[m]? = some b → (b.name.toList == nm.toList) = false) := fun m b hb => by
    have := List.findIdx?_eq_none_iff.1 HK.out b (List.mem_of_getElem? hb)
    simpa [isN] using this
  have HG0 := hide hg
  have HFZ := hide hfz
  have HHL := hide hl
  have HLEN := hide hsm
  obtain ⟨ii, hi0, hz0, hz1, hz2⟩ := info_parts info92
  go_enter Tryd.func9, Tryd.ntmps9
  go_wp2_with fail
  refine Calls.mono HO.out ?_
  rintro e w1 ⟨rfl, rfl⟩
  rcases hform with ⟨rfl, hn⟩ | ⟨gb, capb, rfl⟩
  · clear hn
    go_wp2_with fail
    go_loopw [24] (fun j wr => j = .int .i64 0 ∧ wr = w1) (fun j _ => 0)
    case atStart => exact ⟨rfl, rfl⟩
    case round =>
      obtain ⟨rfl, hw⟩ := hrel
      rw [hw]
      clear hw
      go_wp2_with fail
      refine wp_region_held (S := fun W => W.cell? ⟨R, 1, none⟩ = some (.slice (some ⟨g, 0, none⟩) M.objs.length cap)) (by kernel_rfl) ?_
      change wpAnyH _ _ _ _ _ _ _ _ (World.drew _)
      have HS : Hid (w1.drew.cell? ⟨R, 1, none⟩ = some (.slice (some ⟨g, 0, none⟩) M.objs.length cap)) := h1
      refine wh 0 (.pointer (some ⟨R, 0, none⟩)) HS.out ?_
      refine wh 1 (.pointer (some ⟨R, 0, none⟩)) HS.out ?_
      refine wh 2 (.pointer (some ⟨R, 1, none⟩)) HS.out ?_
      refine wg 3 (.slice (some ⟨g, 0, none⟩) M.objs.length cap) rfl (Or.inl ⟨by kernel_rfl, fun W hW => by go_simp⟩) HS.out ?_
      refine wh 4 (.int .i64 (i : Int)) HS.out ?_
      refine wh 5 (.pointer (some ⟨R, 0, none⟩)) HS.out ?_
      refine wh 6 (.pointer (some ⟨R, 0, none⟩)) HS.out ?_
      refine wh 7 (.pointer (some ⟨R, 1, none⟩)) HS.out ?_
      refine wg 8 (.slice (some ⟨g, 0, none⟩) M.objs.length cap) rfl (Or.inl ⟨by kernel_rfl, fun W hW => by go_simp⟩) HS.out ?_
      refine wh 9 (.int .i64 (i : Int)) HS.out ?_
      refine wh 10 (.pointer (some ⟨g, i, none⟩)) HS.out ?_
      refine wh 12 (.string nm) HS.out ?_
      refine wh 13 (.int .i64 n) HS.out ?_
      refine wh 14 (.bool fx) HS.out ?_
      refine wh 15 (.agg #[.string nm, .int .i64 n, .bool fx]) HS.out ?_
      refine wq2 11 16 (fun K hK => ?ca) fun K hK => ?cb
      case' ca =>
        go_simp
        refine hK.out _ _ HS.out (fun _ => ?_)
        clear hK K
        refine wq1 16 fun K hK => ?_
        go_simp
        have HSA : Hid ((w1.drew.alloc (.cells #[.string nm, .int .i64 n, .bool fx] 92)).cell? ⟨R, 1, none⟩ = some (.slice (some ⟨g, 0, none⟩) M.objs.length cap)) := by show World.cell? _ _ = _; rw [World.cell?_alloc_past _ _ _ (by exact hl)]; exact h1
        refine hK.out _ _ HSA.out (fun _ => ?_)
        clear hK K
      case' cb =>
        go_simp
        have HSA : Hid ((w1.drew.alloc (.cells #[.string nm, .int .i64 n, .bool fx] 92)).cell? ⟨R, 1, none⟩ = some (.slice (some ⟨g, 0, none⟩) M.objs.length cap)) := by show World.cell? _ _ = _; rw [World.cell?_alloc_past _ _ _ (by exact hl)]; exact h1
        refine hK.out _ _ HSA.out (fun _ => ?_)
        clear hK K
        refine wq1 11 fun K hK => ?_
        go_simp
        refine hK.out _ _ HSA.out (fun _ => ?_)
        clear hK K
      all_goals
        refine wq1 17 fun K hK => ?_
        refine step_append_lies _ rfl _ _ 90 rfl R 92 ii _ 3 32 Tryd.underlying90 hi0 hz0 hz1 hz2 rfl (by decide) _ _ _ rfl (HROW.out.drew.alloc _) ⟨w1.heap.size, 0, none⟩ 1 1 [.string nm, .int .i64 n, .bool fx] rfl rfl (newp_cells _ _ rfl _ _ _) (newp_one _ _ _) (by decide) (by have := HLEN.out; unfold maxLen; omega) (by have := HLEN.out; omega) (by simp; omega) (w1.heap.size + 1) (by simp) ?_
        intro gn capn w3 hown3 hgr3 hg3 _
        have hgr : w1.grownBy w3 (Value.slice none 0 0).ownBlock := grown_trans (grown_trans (b := w1.drew) ⟨rfl, rfl, rfl, Nat.le_refl _, fun _ _ _ => rfl⟩ (World.grownBy_alloc _ _ _)) hgr3
        have HZ := hide (HH.out.growP (x' := ⟨x.code, x.ps ++ [⟨nm, n, fx⟩]⟩) HI.out HV.out rfl hgr (v' := .slice (some ⟨gn, 0, none⟩) (x.ps.length + 1) capn) (by rw [List.flatMap_append]; simpa [Pr.r] using hown3) (fun q hq => by cases hq; exact hg3.imp (fun e => e) (fun e => by rw [e]; exact Nat.le_succ _)) rfl)
        have hneg : some g ≠ (Value.slice none 0 0).ownBlock := fun e => by
          obtain ⟨_, _, hnn⟩ := HH.out.ob.nes HV.out
          exact (hnn g e.symm).2.2.1 rfl
        have hner : some R ≠ (Value.slice none 0 0).ownBlock := fun e => by
          obtain ⟨_, _, hnn⟩ := HH.out.ob.nes HV.out
          obtain ⟨_, _, _, cc, hcc⟩ := hnn R e.symm
          exact tags_ne hcc HH.out.blk (by decide) rfl
        have hS3 : w3.cell? ⟨R, 1, none⟩ = some (.slice (some ⟨g, 0, none⟩) M.objs.length cap) := (World.cell?_of_block (w := w1) (a := ⟨R, 1, none⟩) (hgr.block R hl hner)).trans h1
        have kg1 : w3.cell? ⟨g, i, none⟩ = some (Value.slice none 0 0) := (World.cell?_of_block (w := w1) (a := ⟨g, i, none⟩) (hgr.block g hg hneg)).trans c0
        have kg2 : w3.frozen? ⟨g, i, none⟩ = false := (World.frozen?_of_block (w := w1) (a := ⟨g, i, none⟩) (hgr.block g hg hneg)).trans (HFZ.out i)
        have hRg : R ≠ g := by
          obtain ⟨cd, hcd⟩ := row_tag HH.out.ob.row (k := g) rfl
          exact tags_ne HH.out.blk hcd (by decide)
        refine hK.out _ _ hS3 (fun _ => ?_)
        clear hK K hgr hown3 hgr3 hg3 hneg hner c0
        refine wh 18 (.pointer (some ⟨g, i, none⟩)) hS3 ?_
        refine wq1 19 fun K hK => ?_
        go_simp
        refine hK.out _ _ (by show World.cell? _ _ = _; rw [World.cell?_setCell_far _ _ _ _ (by exact hRg.symm)]; exact hS3) (fun _ => ?_)
        clear hK K
        refine wpAnyH_done (by kernel_rfl) ?_ _
        go_simp
        go_wp2_with fail
        go_ret
        exact ⟨rfl, ⟨_, HZ.out.1⟩, HZ.out.2⟩
  · have hgb := (HROW.out.lt gb rfl).2
    go_wp2_with fail
    go_loopw [24] (fun j wr => ∃ m : Nat, m ≤ x.ps.length ∧ j = .int .i64 m ∧ wr = w1) (fun j _ => x.ps.length - (intOf j).toNat)
    case atStart => exact ⟨0, Nat.zero_le _, rfl, rfl⟩
    case round =>
      obtain ⟨m, hmk, rfl, hw⟩ := hrel
      rw [hw]
      clear hw
      by_cases hml : m < x.ps.length
      · obtain ⟨b, hbm⟩ : ∃ b, x.ps[m]? = some b := ⟨_, List.getElem?_eq_getElem hml⟩
        have d0 : w1.cell? ⟨gb, m * 3, none⟩ = some (.string b.name) := ratP HROW.out hbm rfl 0 _ rfl
        have hx := HNO.out m b hbm
        have hx2 : ¬ b.name.toList = nm.toList := by simpa using hx
        clear hbm
        go_wp2_with fail
        go_roundw
        case rel => exact ⟨m + 1, by omega, by go_num, trivial⟩
        case measure => simp [intOf]; omega
      · have hm2 : m = x.ps.length := by omega
        subst hm2
        go_wp2_with fail
        refine wp_region_held (S := fun W => W.cell? ⟨R, 1, none⟩ = some (.slice (some ⟨g, 0, none⟩) M.objs.length cap)) (by kernel_rfl) ?_
        change wpAnyH _ _ _ _ _ _ _ _ (World.drew _)
        have HS : Hid (w1.drew.cell? ⟨R, 1, none⟩ = some (.slice (some ⟨g, 0, none⟩) M.objs.length cap)) := h1
        refine wh 0 (.pointer (some ⟨R, 0, none⟩)) HS.out ?_
        refine wh 1 (.pointer (some ⟨R, 0, none⟩)) HS.out ?_
        refine wh 2 (.pointer (some ⟨R, 1, none⟩)) HS.out ?_
        refine wg 3 (.slice (some ⟨g, 0, none⟩) M.objs.length cap) rfl (Or.inl ⟨by kernel_rfl, fun W hW => by go_simp⟩) HS.out ?_
        refine wh 4 (.int .i64 (i : Int)) HS.out ?_
        refine wh 5 (.pointer (some ⟨R, 0, none⟩)) HS.out ?_
        refine wh 6 (.pointer (some ⟨R, 0, none⟩)) HS.out ?_
        refine wh 7 (.pointer (some ⟨R, 1, none⟩)) HS.out ?_
        refine wg 8 (.slice (some ⟨g, 0, none⟩) M.objs.length cap) rfl (Or.inl ⟨by kernel_rfl, fun W hW => by go_simp⟩) HS.out ?_
        refine wh 9 (.int .i64 (i : Int)) HS.out ?_
        refine wh 10 (.pointer (some ⟨g, i, none⟩)) HS.out ?_
        refine wh 12 (.string nm) HS.out ?_
        refine wh 13 (.int .i64 n) HS.out ?_
        refine wh 14 (.bool fx) HS.out ?_
        refine wh 15 (.agg #[.string nm, .int .i64 n, .bool fx]) HS.out ?_
        refine wq2 11 16 (fun K hK => ?cc) fun K hK => ?cd
        case' cc =>
          go_simp
          refine hK.out _ _ HS.out (fun _ => ?_)
          clear hK K
          refine wq1 16 fun K hK => ?_
          go_simp
          have HSA : Hid ((w1.drew.alloc (.cells #[.string nm, .int .i64 n, .bool fx] 92)).cell? ⟨R, 1, none⟩ = some (.slice (some ⟨g, 0, none⟩) M.objs.length cap)) := by show World.cell? _ _ = _; rw [World.cell?_alloc_past _ _ _ (by exact hl)]; exact h1
          refine hK.out _ _ HSA.out (fun _ => ?_)
          clear hK K
        case' cd =>
          go_simp
          have HSA : Hid ((w1.drew.alloc (.cells #[.string nm, .int .i64 n, .bool fx] 92)).cell? ⟨R, 1, none⟩ = some (.slice (some ⟨g, 0, none⟩) M.objs.length cap)) := by show World.cell? _ _ = _; rw [World.cell?_alloc_past _ _ _ (by exact hl)]; exact h1
          refine hK.out _ _ HSA.out (fun _ => ?_)
          clear hK K
          refine wq1 11 fun K hK => ?_
          go_simp
          refine hK.out _ _ HSA.out (fun _ => ?_)
          clear hK K
        all_goals
          refine wq1 17 fun K hK => ?_
          refine step_append_lies _ rfl _ _ 90 rfl R 92 ii _ 3 32 Tryd.underlying90 hi0 hz0 hz1 hz2 rfl (by decide) _ _ _ rfl (HROW.out.drew.alloc _) ⟨w1.heap.size, 0, none⟩ 1 1 [.string nm, .int .i64 n, .bool fx] rfl rfl (newp_cells _ _ rfl _ _ _) (newp_one _ _ _) (by decide) (by have := HLEN.out; unfold maxLen; omega) (by have := HLEN.out; omega) (by simp; omega) (w1.heap.size + 1) (by simp) ?_
          intro gn capn w3 hown3 hgr3 hg3 _
          have hgr : w1.grownBy w3 (Value.slice (some ⟨gb, 0, none⟩) x.ps.length capb).ownBlock := grown_trans (grown_trans (b := w1.drew) ⟨rfl, rfl, rfl, Nat.le_refl _, fun _ _ _ => rfl⟩ (World.grownBy_alloc _ _ _)) hgr3
          have HZ := hide (HH.out.growP (x' := ⟨x.code, x.ps ++ [⟨nm, n, fx⟩]⟩) HI.out HV.out rfl hgr (v' := .slice (some ⟨gn, 0, none⟩) (x.ps.length + 1) capn) (by rw [List.flatMap_append]; simpa [Pr.r] using hown3) (fun q hq => by cases hq; exact hg3.imp (fun e => e) (fun e => by rw [e]; exact Nat.le_succ _)) rfl)
          have hneg : some g ≠ (Value.slice (some ⟨gb, 0, none⟩) x.ps.length capb).ownBlock := fun e => by
            obtain ⟨_, _, hnn⟩ := HH.out.ob.nes HV.out
            exact (hnn g e.symm).2.2.1 rfl
          have hner : some R ≠ (Value.slice (some ⟨gb, 0, none⟩) x.ps.length capb).ownBlock := fun e => by
            obtain ⟨_, _, hnn⟩ := HH.out.ob.nes HV.out
            obtain ⟨_, _, _, cc, hcc⟩ := hnn R e.symm
            exact tags_ne hcc HH.out.blk (by decide) rfl
          have hS3 : w3.cell? ⟨R, 1, none⟩ = some (.slice (some ⟨g, 0, none⟩) M.objs.length cap) := (World.cell?_of_block (w := w1) (a := ⟨R, 1, none⟩) (hgr.block R hl hner)).trans h1
          have kg1 : w3.cell? ⟨g, i, none⟩ = some (Value.slice (some ⟨gb, 0, none⟩) x.ps.length capb) := (World.cell?_of_block (w := w1) (a := ⟨g, i, none⟩) (hgr.block g hg hneg)).trans c0
          have kg2 : w3.frozen? ⟨g, i, none⟩ = false := (World.frozen?_of_block (w := w1) (a := ⟨g, i, none⟩) (hgr.block g hg hneg)).trans (HFZ.out i)
          have hRg : R ≠ g := by
            obtain ⟨cd, hcd⟩ := row_tag HH.out.ob.row (k := g) rfl
            exact tags_ne HH.out.blk hcd (by decide)
          refine hK.out _ _ hS3 (fun _ => ?_)
          clear hK K hgr hown3 hgr3 hg3 hneg hner c0
          refine wh 18 (.pointer (some ⟨g, i, none⟩)) hS3 ?_
          refine wq1 19 fun K hK => ?_
          go_simp
          refine hK.out _ _ (by show World.cell? _ _ = _; rw [World.cell?_setCell_far _ _ _ _ (by exact hRg.symm)]; exact hS3) (fun _ => ?_)
          clear hK K
          refine wpAnyH_done (by kernel_rfl) ?_ _
          go_simp
          go_wp2_with fail
          go_ret
          exact ⟨rfl, ⟨_, HZ.out.1⟩, HZ.out.2⟩
end
end Go.Proofs.YtomogijjkdiomaaDoor
