/-
  Declare.
-/
import Derived.Test.YtomogijjkdiomaaDoorHp8
set_option maxRecDepth 100000
set_option maxHeartbeats 16000000
namespace Go.Proofs.YtomogijjkdiomaaDoor
open Go.RowKit

section
variable {H : Nat} {w w1 : World} {M : Mo} {ov sv : Value} {os ss : List Value} {K : Nat}
set_option maxRecDepth 100000
set_option maxHeartbeats 1000000
theorem info98 : (Tryd.prog.info? 98).map (fun i => (i.zero, i.size, i.bytes)) = some (some (.agg #[.string ⟨#[]⟩, .int .i64 0, .int .i64 0, .string ⟨#[]⟩, .int .i64 0, .bool false]), 6, 64) := by kernel_rfl
theorem new6_cells (w : World) (H : Nat) (hH : w.heap.size = H) (x : ByteArray) (b c : Int) (r : Bool) (j : Nat) (u : Value) (h : ([.string x, .int .i64 3, .int .i64 b, .string ⟨#[]⟩, .int .i64 c, .bool r] : List Value)[j]? = some u) :
    (w.alloc (.cells #[.string x, .int .i64 3, .int .i64 b, .string ⟨#[]⟩, .int .i64 c, .bool r] 98)).cell? (Addr.add ⟨H, 0, none⟩ j) = some u := by
  subst hH
  match j, h with
  | 0, h => simp at h; subst h; simp [Addr.add]
  | 1, h => simp at h; subst h; simp [Addr.add]
  | 2, h => simp at h; subst h; simp [Addr.add]
  | 3, h => simp at h; subst h; simp [Addr.add]
  | 4, h => simp at h; subst h; simp [Addr.add]
  | 5, h => simp at h; subst h; simp [Addr.add]
  | k + 6, h => simp at h
theorem new6_one (x : ByteArray) (b c : Int) (r : Bool) : ∀ u ∈ ([.string x, .int .i64 3, .int .i64 b, .string ⟨#[]⟩, .int .i64 c, .bool r] : List Value), u.oneCell' = true := by
  intro u hu
  simp at hu
  rcases hu with rfl | rfl | rfl | rfl | rfl | rfl <;> rfl
theorem HP.growC (h : HP H w M ov sv os ss) {i : Nat} {x x' : Ro} (hi : M.rooms[i]? = some x) {v v' : Value} (hv : ss[i]? = some v) {g cap : Nat} (he : sv = .slice (some ⟨g, 0, none⟩) (M.rooms.map Ro.h).length cap)
    (hgr : w.grownBy w1 v.ownBlock) (hown : w1.ownsRow H 98 6 v' x'.cs.length (x'.cs.flatMap Ce.h)) (hg' : ∀ q, v'.ownBlock = some q → v.ownBlock = some q ∨ w.heap.size ≤ q) (hx : x'.outer = x.outer ∧ x'.object = x.object) :
    HP H (w1.setCell ⟨g, i * 3 + 2, none⟩ v') (M.setRo i x') ov sv os (ss.set i v') ∧ FrT Th H w (w1.setCell ⟨g, i * 3 + 2, none⟩ v') := by
  have hi' : (M.rooms.map Ro.h)[i]? = some x.h := by simp [hi]
  have hob := h.ro
  rw [he] at hob
  have hz := hob.put (Nat.le_of_lt (lt_of_block h.blk)) hi' hv hgr hown hg'
  rw [← he] at hz
  refine h.ro1 (rooms := M.rooms.set i x') ?_ hz.2
  rw [List.map_set]
  have := hz.1
  rw [show x'.h = ⟨x.h.hd, x'.cs.length, x'.cs.flatMap Ce.h⟩ by simp [Ro.h, hx]]
  exact this
theorem decl_out (h : HP H w M ov sv os ss) (s : Int) (nm : ByteArray) (kd n : Int) (ho : M.ro s = none) :
    Calls Tryd.prog 12 #[.pointer (some ⟨H, 0, none⟩), .int .i64 s, .string nm, .int .i64 kd, .agg #[.int .i64 3, .int .i64 n, .string ⟨#[]⟩]] w fun e w' => e = .returned (.iface 47 (.int .i64 7)) ∧ Below w.heap.size w w' := by
  obtain ⟨h0, h1, hf, hf1, hl⟩ := h.c
  have hout : s < 0 ∨ (M.rooms.length : Int) ≤ s := by
    rcases ro_cases M s with ⟨_, h⟩ | ⟨i, x, rfl, _, h⟩
    · exact h
    · rw [ho] at h; cases h
  have HC := hide (at_outC sv _ (row_form h.ro.row) s (by simpa using hout) (w.alloc (.cells #[.int .i64 3, .int .i64 n, .string ⟨#[]⟩] 36)))
  clear h hout ho
  go_enter Tryd.func12, Tryd.ntmps12
  go_wp2_with fail
  refine Calls.mono HC.out ?_
  rintro e w' ⟨rfl, rfl⟩
  go_wp2_with fail
  go_ret
  exact ⟨rfl, (Below.refl _ _).alloc (Nat.le_refl _) _⟩
theorem decl_obj (h : HP H w M ov sv os ss) (hs : M.Small K) (hK : K ≤ 1000) (i : Nat) (x : Ro) (hi : M.rooms[i]? = some x) (nm : ByteArray) (kd n : Int) (ho : x.object ≠ -1) :
    Calls Tryd.prog 12 #[.pointer (some ⟨H, 0, none⟩), .int .i64 (i : Int), .string nm, .int .i64 kd, .agg #[.int .i64 3, .int .i64 n, .string ⟨#[]⟩]] w fun e w' => e = .returned (.iface 47 (.int .i64 1)) ∧ Below w.heap.size w w' := by
  obtain ⟨h0, h1, hf, hf1, hl⟩ := h.c
  have hb0 : Below w.heap.size w (w.alloc (vO n)) := (Below.refl _ _).alloc (Nat.le_refl _) _
  have hH := h.later hb0
  obtain ⟨g, cap, v, e2, hlt, hv, hcl, hrow, hg, hB, hfz, _⟩ := hH.ro.at_ (i := i) (e := x.h) (by simp [hi])
  have HC := hide (at_inC g cap _ i hlt (w.alloc (vO n)))
  rw [← e2] at HC
  have hrow' : (w.alloc (vO n)).ownsRow H 98 6 v x.cs.length (x.cs.flatMap Ce.h) := hrow
  have HD := hide (of_anyC g (i * 3) v x.cs H nm (w.alloc (vO n)) (hcl 2 v rfl) hrow' (by have := hs.cs x (List.mem_of_getElem? hi); omega))
  have hsm := hs.cs x (List.mem_of_getElem? hi)
  have hco : (w.alloc (vO n)).cell? ⟨g, i * 3 + 1, none⟩ = some (.int .i64 x.object) := hcl 1 _ rfl
  have HH := hide hH
  have HV := hide hv
  have HI := hide hi
  have HE2 := hide e2
  have HROW := hide hrow'
  have HCL := hide (hcl 2 v rfl)
  have HLEN := hide hsm
  have HHG := hide hg
  have HFZ := hide hfz
  have HB0 := hide hb0
  obtain ⟨ii, hi0, hz0, hz1, hz2⟩ := info_parts info98
  obtain ⟨W0, hW0⟩ : ∃ W0, W0 = w.alloc (.cells #[.int .i64 3, .int .i64 n, .string ⟨#[]⟩] 36) := ⟨_, rfl⟩
  have HW0 := hide hW0
  have hgW : g < W0.heap.size := by rw [hW0]; exact hg
  rw [show w.alloc (vO n) = W0 by rw [hW0]] at HC HD hco HH HROW HCL HHG HFZ HB0
  clear hcl hrow hrow' hi h hH hb0 hv e2 hsm hfz hg hW0
  go_enter Tryd.func12, Tryd.ntmps12
  go_wp2_with fail
  rw [← HW0.out]
  refine Calls.mono HC.out ?_
  rintro e w' ⟨rfl, hw⟩
  rw [hw]
  clear hw
  go_wp2_with fail
  go_ret
  exact ⟨rfl, HB0.out⟩
theorem decl_twice (h : HP H w M ov sv os ss) (hs : M.Small K) (hK : K ≤ 1000) (i : Nat) (x : Ro) (hi : M.rooms[i]? = some x) (nm : ByteArray) (kd n : Int) (ho : x.object = -1) (k : Nat) (c : Ce) (hk : fC nm x.cs = some k) (hc : x.cs[k]? = some c) :
    Calls Tryd.prog 12 #[.pointer (some ⟨H, 0, none⟩), .int .i64 (i : Int), .string nm, .int .i64 kd, .agg #[.int .i64 3, .int .i64 n, .string ⟨#[]⟩]] w fun e w' => e = .returned (.iface 47 (.int .i64 9)) ∧ Below w.heap.size w w' := by
  obtain ⟨h0, h1, hf, hf1, hl⟩ := h.c
  have hb0 : Below w.heap.size w (w.alloc (vO n)) := (Below.refl _ _).alloc (Nat.le_refl _) _
  have hH := h.later hb0
  obtain ⟨g, cap, v, e2, hlt, hv, hcl, hrow, hg, hB, hfz, _⟩ := hH.ro.at_ (i := i) (e := x.h) (by simp [hi])
  have HC := hide (at_inC g cap _ i hlt (w.alloc (vO n)))
  rw [← e2] at HC
  have hrow' : (w.alloc (vO n)).ownsRow H 98 6 v x.cs.length (x.cs.flatMap Ce.h) := hrow
  have HD := hide (of_anyC g (i * 3) v x.cs H nm (w.alloc (vO n)) (hcl 2 v rfl) hrow' (by have := hs.cs x (List.mem_of_getElem? hi); omega))
  have hsm := hs.cs x (List.mem_of_getElem? hi)
  have hco : (w.alloc (vO n)).cell? ⟨g, i * 3 + 1, none⟩ = some (.int .i64 x.object) := hcl 1 _ rfl
  have HH := hide hH
  have HV := hide hv
  have HI := hide hi
  have HE2 := hide e2
  have HROW := hide hrow'
  have HCL := hide (hcl 2 v rfl)
  have HLEN := hide hsm
  have HHG := hide hg
  have HFZ := hide hfz
  have HB0 := hide hb0
  obtain ⟨ii, hi0, hz0, hz1, hz2⟩ := info_parts info98
  rw [ho] at hco
  obtain ⟨gb, capb, rfl, _, _, _⟩ := atC hrow' hc
  rw [hk] at HD
  simp only [pptr] at HD
  clear hk hc
  obtain ⟨W0, hW0⟩ : ∃ W0, W0 = w.alloc (.cells #[.int .i64 3, .int .i64 n, .string ⟨#[]⟩] 36) := ⟨_, rfl⟩
  have HW0 := hide hW0
  have hgW : g < W0.heap.size := by rw [hW0]; exact hg
  rw [show w.alloc (vO n) = W0 by rw [hW0]] at HC HD hco HH HROW HCL HHG HFZ HB0
  clear hcl hrow hrow' hi h hH hb0 hv e2 hsm hfz hg hW0
  go_enter Tryd.func12, Tryd.ntmps12
  go_wp2_with fail
  rw [← HW0.out]
  refine Calls.mono HC.out ?_
  rintro e w' ⟨rfl, hw⟩
  rw [hw]
  clear hw
  go_wp2_with fail
  refine Calls.mono HD.out ?_
  rintro e w1 ⟨rfl, hb⟩
  have HB := hide (HB0.out.trans (hb.mono HB0.out.size))
  clear hb
  go_wp2_with fail
  go_ret
  exact ⟨rfl, HB.out⟩
theorem decl_late (h : HP H w M ov sv os ss) (hs : M.Small K) (hK : K ≤ 1000) (i : Nat) (x : Ro) (hi : M.rooms[i]? = some x) (nm : ByteArray) (kd n : Int) (ho : x.object = -1) (hk : fC nm x.cs = none) (q1 : kd = 1) :
    Calls Tryd.prog 12 #[.pointer (some ⟨H, 0, none⟩), .int .i64 (i : Int), .string nm, .int .i64 kd, .agg #[.int .i64 3, .int .i64 n, .string ⟨#[]⟩]] w fun e w' => e = .returned (.nilIface) ∧ (∃ ss', HP H w' (M.setRo i ⟨x.outer, x.object, x.cs ++ [⟨nm, n, kd, false⟩]⟩) ov sv os ss') ∧ FrT Th H w w' := by
  obtain ⟨h0, h1, hf, hf1, hl⟩ := h.c
  have hb0 : Below w.heap.size w (w.alloc (vO n)) := (Below.refl _ _).alloc (Nat.le_refl _) _
  have hH := h.later hb0
  obtain ⟨g, cap, v, e2, hlt, hv, hcl, hrow, hg, hB, hfz, _⟩ := hH.ro.at_ (i := i) (e := x.h) (by simp [hi])
  have HC := hide (at_inC g cap _ i hlt (w.alloc (vO n)))
  rw [← e2] at HC
  have hrow' : (w.alloc (vO n)).ownsRow H 98 6 v x.cs.length (x.cs.flatMap Ce.h) := hrow
  have HD := hide (of_anyC g (i * 3) v x.cs H nm (w.alloc (vO n)) (hcl 2 v rfl) hrow' (by have := hs.cs x (List.mem_of_getElem? hi); omega))
  have hsm := hs.cs x (List.mem_of_getElem? hi)
  have hco : (w.alloc (vO n)).cell? ⟨g, i * 3 + 1, none⟩ = some (.int .i64 x.object) := hcl 1 _ rfl
  have HH := hide hH
  have HV := hide hv
  have HI := hide hi
  have HE2 := hide e2
  have HROW := hide hrow'
  have HCL := hide (hcl 2 v rfl)
  have HLEN := hide hsm
  have HHG := hide hg
  have HFZ := hide hfz
  have HB0 := hide hb0
  obtain ⟨ii, hi0, hz0, hz1, hz2⟩ := info_parts info98
  subst q1
  rw [ho] at hco
  rw [hk, pptr_none] at HD
  clear hk
  obtain ⟨W0, hW0⟩ : ∃ W0, W0 = w.alloc (.cells #[.int .i64 3, .int .i64 n, .string ⟨#[]⟩] 36) := ⟨_, rfl⟩
  have HW0 := hide hW0
  have hgW : g < W0.heap.size := by rw [hW0]; exact hg
  rw [show w.alloc (vO n) = W0 by rw [hW0]] at HC HD hco HH HROW HCL HHG HFZ HB0
  clear hcl hrow hrow' hi h hH hb0 hv e2 hsm hfz hg hW0
  go_enter Tryd.func12, Tryd.ntmps12
  go_wp2_with fail
  rw [← HW0.out]
  refine Calls.mono HC.out ?_
  rintro e w' ⟨rfl, hw⟩
  rw [hw]
  clear hw
  go_wp2_with fail
  refine Calls.mono HD.out ?_
  rintro e w1 ⟨rfl, hb⟩
  have hbw : Below (w.heap.size + 1) (w.alloc (.cells #[.int .i64 3, .int .i64 n, .string ⟨#[]⟩] 36)) w1 := by rw [← HW0.out]; exact hb.mono (by rw [HW0.out]; simp)
  obtain ⟨n0, n1, n2, nf, nl⟩ := new3 hbw
  have HB := hide (HB0.out.trans (hb.mono HB0.out.size))
  have HH1 := hide (HH.out.later hb)
  have HROW1 := hide (row_later HROW.out hb)
  have hgl : g < w1.heap.size := Nat.lt_of_lt_of_le HHG.out hb.size
  have hc1 : w1.cell? ⟨g, i * 3 + 2, none⟩ = some v := (cell_below hb (a := ⟨g, i * 3 + 2, none⟩) HHG.out).trans HCL.out
  have hfz1 : w1.frozen? ⟨g, i * 3 + 2, none⟩ = false := (World.frozen?_of_block (w := W0) (a := ⟨g, i * 3 + 2, none⟩) (hb.block g HHG.out)).trans (HFZ.out _)
  clear hb hbw hco
  go_wp2_with fail
  refine wp_region_any (by kernel_rfl) ?_
  change wpAny _ _ _ _ _ _ _ (World.drew _)
  refine wt 0 (.pointer (some ⟨g, i * 3, none⟩)) ?_
  refine wt 1 (.pointer (some ⟨g, i * 3, none⟩)) ?_
  refine wt 2 (.pointer (some ⟨g, i * 3, none⟩)) ?_
  refine wt 3 (.pointer (some ⟨g, i * 3 + 2, none⟩)) ?_
  refine wt 5 (.string nm) ?_
  refine wt 7 (.int .i64 1) ?_
  refine wt 8 (.bool false) ?_
  refine wr2 4 6 (fun K hK => ?ca) fun K hK => ?cb
  case' ca =>
    go_simp
    refine hK _ _ ?_
    clear hK K
    refine wr1 6 fun K hK => ?_
    go_simp
    refine hK _ _ ?_
    clear hK K
    refine wt 9 (.agg #[.string nm, .int .i64 3, .int .i64 n, .string ⟨#[]⟩, .int .i64 1, .bool false]) ?_
    refine wr1 10 fun K hK => ?_
    go_simp
    refine hK _ _ ?_
    clear hK K
  case' cb =>
    go_simp
    refine hK _ _ ?_
    clear hK K
    refine wt 9 (.agg #[.string nm, .int .i64 3, .int .i64 n, .string ⟨#[]⟩, .int .i64 1, .bool false]) ?_
    refine wr2 4 10 (fun K hK => ?cc) fun K hK => ?cd
  case' cc =>
    go_simp
    refine hK _ _ ?_
    clear hK K
    refine wr1 10 fun K hK => ?_
    go_simp
    refine hK _ _ ?_
    clear hK K
  case' cd =>
    go_simp
    refine hK _ _ ?_
    clear hK K
    refine wr1 4 fun K hK => ?_
    go_simp
    refine hK _ _ ?_
    clear hK K
  all_goals
    refine wr1 11 fun K hK => ?_
    refine step_append_lies _ rfl _ _ 74 rfl H 98 ii _ 6 64 Tryd.underlying74 hi0 hz0 hz1 hz2 rfl (by decide) _ _ _ rfl (HROW1.out.drew.alloc _) ⟨w1.heap.size, 0, none⟩ 1 1 [.string nm, .int .i64 3, .int .i64 n, .string ⟨#[]⟩, .int .i64 1, .bool false] rfl rfl (new6_cells _ _ rfl _ _ _ _) (new6_one _ _ _ _) (by decide) (by have := HLEN.out; unfold maxLen; omega) (by have := HLEN.out; omega) (by simp; omega) (w1.heap.size + 1) (by simp) ?_
    intro gn capn w3 hown3 hgr3 hg3 _
    refine hK _ _ ?_
    clear hK K
    have hgr : w1.grownBy w3 v.ownBlock := grown_trans (grown_trans (b := w1.drew) ⟨rfl, rfl, rfl, Nat.le_refl _, fun _ _ _ => rfl⟩ (World.grownBy_alloc _ _ _)) hgr3
    have hz := HH1.out.growC (x' := ⟨x.outer, x.object, x.cs ++ [⟨nm, n, 1, false⟩]⟩) HI.out HV.out HE2.out hgr (v' := .slice (some ⟨gn, 0, none⟩) (x.cs.length + 1) capn) (by rw [List.flatMap_append]; simpa [Ce.h] using hown3) (fun q hq => by cases hq; exact hg3.imp (fun e => e) (fun e => by rw [e]; exact Nat.le_succ _)) ⟨rfl, rfl⟩
    have HZ := hide hz
    have kg : w3.cell? ⟨g, i * 3 + 2, none⟩ = some v ∧ w3.frozen? ⟨g, i * 3 + 2, none⟩ = false := by
      have hne : some g ≠ v.ownBlock := fun e => by
        obtain ⟨_, _, hnn⟩ := HH1.out.ro.nes HV.out
        exact (hnn g e.symm).2.2.1 (by rw [HE2.out]; rfl)
      have hbk := hgr.block g hgl hne
      exact ⟨(World.cell?_of_block (w := w1) (a := ⟨g, i * 3 + 2, none⟩) hbk).trans hc1, (World.frozen?_of_block (w := w1) (a := ⟨g, i * 3 + 2, none⟩) hbk).trans hfz1⟩
    obtain ⟨kg1, kg2⟩ := kg
    clear hz hgr hown3 hgr3 hg3 hc1 hfz1 n0 n1 n2 nf
    refine wt 12 (.pointer (some ⟨g, i * 3, none⟩)) ?_
    refine wt 13 (.pointer (some ⟨g, i * 3 + 2, none⟩)) ?_
    refine wr1 14 fun K hK => ?_
    go_simp
    refine hK _ _ ?_
    clear hK K
    refine wpAny_done (by kernel_rfl) ?_ _
    go_simp
    go_wp2_with fail
    go_ret
    exact ⟨rfl, ⟨_, HZ.out.1⟩, (FrT.of HB.out (Nat.le_of_lt hl)).trans HZ.out.2⟩
theorem decl_final (h : HP H w M ov sv os ss) (hs : M.Small K) (hK : K ≤ 1000) (i : Nat) (x : Ro) (hi : M.rooms[i]? = some x) (nm : ByteArray) (kd n : Int) (ho : x.object = -1) (hk : fC nm x.cs = none) (q2 : kd = 2) :
    Calls Tryd.prog 12 #[.pointer (some ⟨H, 0, none⟩), .int .i64 (i : Int), .string nm, .int .i64 kd, .agg #[.int .i64 3, .int .i64 n, .string ⟨#[]⟩]] w fun e w' => e = .returned (.nilIface) ∧ (∃ ss', HP H w' (M.setRo i ⟨x.outer, x.object, x.cs ++ [⟨nm, n, kd, false⟩]⟩) ov sv os ss') ∧ FrT Th H w w' := by
  obtain ⟨h0, h1, hf, hf1, hl⟩ := h.c
  have hb0 : Below w.heap.size w (w.alloc (vO n)) := (Below.refl _ _).alloc (Nat.le_refl _) _
  have hH := h.later hb0
  obtain ⟨g, cap, v, e2, hlt, hv, hcl, hrow, hg, hB, hfz, _⟩ := hH.ro.at_ (i := i) (e := x.h) (by simp [hi])
  have HC := hide (at_inC g cap _ i hlt (w.alloc (vO n)))
  rw [← e2] at HC
  have hrow' : (w.alloc (vO n)).ownsRow H 98 6 v x.cs.length (x.cs.flatMap Ce.h) := hrow
  have HD := hide (of_anyC g (i * 3) v x.cs H nm (w.alloc (vO n)) (hcl 2 v rfl) hrow' (by have := hs.cs x (List.mem_of_getElem? hi); omega))
  have hsm := hs.cs x (List.mem_of_getElem? hi)
  have hco : (w.alloc (vO n)).cell? ⟨g, i * 3 + 1, none⟩ = some (.int .i64 x.object) := hcl 1 _ rfl
  have HH := hide hH
  have HV := hide hv
  have HI := hide hi
  have HE2 := hide e2
  have HROW := hide hrow'
  have HCL := hide (hcl 2 v rfl)
  have HLEN := hide hsm
  have HHG := hide hg
  have HFZ := hide hfz
  have HB0 := hide hb0
  obtain ⟨ii, hi0, hz0, hz1, hz2⟩ := info_parts info98
  subst q2
  rw [ho] at hco
  rw [hk, pptr_none] at HD
  clear hk
  obtain ⟨W0, hW0⟩ : ∃ W0, W0 = w.alloc (.cells #[.int .i64 3, .int .i64 n, .string ⟨#[]⟩] 36) := ⟨_, rfl⟩
  have HW0 := hide hW0
  have hgW : g < W0.heap.size := by rw [hW0]; exact hg
  rw [show w.alloc (vO n) = W0 by rw [hW0]] at HC HD hco HH HROW HCL HHG HFZ HB0
  clear hcl hrow hrow' hi h hH hb0 hv e2 hsm hfz hg hW0
  go_enter Tryd.func12, Tryd.ntmps12
  go_wp2_with fail
  rw [← HW0.out]
  refine Calls.mono HC.out ?_
  rintro e w' ⟨rfl, hw⟩
  rw [hw]
  clear hw
  go_wp2_with fail
  refine Calls.mono HD.out ?_
  rintro e w1 ⟨rfl, hb⟩
  have hbw : Below (w.heap.size + 1) (w.alloc (.cells #[.int .i64 3, .int .i64 n, .string ⟨#[]⟩] 36)) w1 := by rw [← HW0.out]; exact hb.mono (by rw [HW0.out]; simp)
  obtain ⟨n0, n1, n2, nf, nl⟩ := new3 hbw
  have HB := hide (HB0.out.trans (hb.mono HB0.out.size))
  have HH1 := hide (HH.out.later hb)
  have HROW1 := hide (row_later HROW.out hb)
  have hgl : g < w1.heap.size := Nat.lt_of_lt_of_le HHG.out hb.size
  have hc1 : w1.cell? ⟨g, i * 3 + 2, none⟩ = some v := (cell_below hb (a := ⟨g, i * 3 + 2, none⟩) HHG.out).trans HCL.out
  have hfz1 : w1.frozen? ⟨g, i * 3 + 2, none⟩ = false := (World.frozen?_of_block (w := W0) (a := ⟨g, i * 3 + 2, none⟩) (hb.block g HHG.out)).trans (HFZ.out _)
  clear hb hbw hco
  go_wp2_with fail
  refine wp_region_any (by kernel_rfl) ?_
  change wpAny _ _ _ _ _ _ _ (World.drew _)
  refine wt 0 (.pointer (some ⟨g, i * 3, none⟩)) ?_
  refine wt 1 (.pointer (some ⟨g, i * 3, none⟩)) ?_
  refine wt 2 (.pointer (some ⟨g, i * 3, none⟩)) ?_
  refine wt 3 (.pointer (some ⟨g, i * 3 + 2, none⟩)) ?_
  refine wt 5 (.string nm) ?_
  refine wt 7 (.int .i64 2) ?_
  refine wt 8 (.bool false) ?_
  refine wr2 4 6 (fun K hK => ?ca) fun K hK => ?cb
  case' ca =>
    go_simp
    refine hK _ _ ?_
    clear hK K
    refine wr1 6 fun K hK => ?_
    go_simp
    refine hK _ _ ?_
    clear hK K
    refine wt 9 (.agg #[.string nm, .int .i64 3, .int .i64 n, .string ⟨#[]⟩, .int .i64 2, .bool false]) ?_
    refine wr1 10 fun K hK => ?_
    go_simp
    refine hK _ _ ?_
    clear hK K
  case' cb =>
    go_simp
    refine hK _ _ ?_
    clear hK K
    refine wt 9 (.agg #[.string nm, .int .i64 3, .int .i64 n, .string ⟨#[]⟩, .int .i64 2, .bool false]) ?_
    refine wr2 4 10 (fun K hK => ?cc) fun K hK => ?cd
  case' cc =>
    go_simp
    refine hK _ _ ?_
    clear hK K
    refine wr1 10 fun K hK => ?_
    go_simp
    refine hK _ _ ?_
    clear hK K
  case' cd =>
    go_simp
    refine hK _ _ ?_
    clear hK K
    refine wr1 4 fun K hK => ?_
    go_simp
    refine hK _ _ ?_
    clear hK K
  all_goals
    refine wr1 11 fun K hK => ?_
    refine step_append_lies _ rfl _ _ 74 rfl H 98 ii _ 6 64 Tryd.underlying74 hi0 hz0 hz1 hz2 rfl (by decide) _ _ _ rfl (HROW1.out.drew.alloc _) ⟨w1.heap.size, 0, none⟩ 1 1 [.string nm, .int .i64 3, .int .i64 n, .string ⟨#[]⟩, .int .i64 2, .bool false] rfl rfl (new6_cells _ _ rfl _ _ _ _) (new6_one _ _ _ _) (by decide) (by have := HLEN.out; unfold maxLen; omega) (by have := HLEN.out; omega) (by simp; omega) (w1.heap.size + 1) (by simp) ?_
    intro gn capn w3 hown3 hgr3 hg3 _
    refine hK _ _ ?_
    clear hK K
    have hgr : w1.grownBy w3 v.ownBlock := grown_trans (grown_trans (b := w1.drew) ⟨rfl, rfl, rfl, Nat.le_refl _, fun _ _ _ => rfl⟩ (World.grownBy_alloc _ _ _)) hgr3
    have hz := HH1.out.growC (x' := ⟨x.outer, x.object, x.cs ++ [⟨nm, n, 2, false⟩]⟩) HI.out HV.out HE2.out hgr (v' := .slice (some ⟨gn, 0, none⟩) (x.cs.length + 1) capn) (by rw [List.flatMap_append]; simpa [Ce.h] using hown3) (fun q hq => by cases hq; exact hg3.imp (fun e => e) (fun e => by rw [e]; exact Nat.le_succ _)) ⟨rfl, rfl⟩
    have HZ := hide hz
    have kg : w3.cell? ⟨g, i * 3 + 2, none⟩ = some v ∧ w3.frozen? ⟨g, i * 3 + 2, none⟩ = false := by
      have hne : some g ≠ v.ownBlock := fun e => by
        obtain ⟨_, _, hnn⟩ := HH1.out.ro.nes HV.out
        exact (hnn g e.symm).2.2.1 (by rw [HE2.out]; rfl)
      have hbk := hgr.block g hgl hne
      exact ⟨(World.cell?_of_block (w := w1) (a := ⟨g, i * 3 + 2, none⟩) hbk).trans hc1, (World.frozen?_of_block (w := w1) (a := ⟨g, i * 3 + 2, none⟩) hbk).trans hfz1⟩
    obtain ⟨kg1, kg2⟩ := kg
    clear hz hgr hown3 hgr3 hg3 hc1 hfz1 n0 n1 n2 nf
    refine wt 12 (.pointer (some ⟨g, i * 3, none⟩)) ?_
    refine wt 13 (.pointer (some ⟨g, i * 3 + 2, none⟩)) ?_
    refine wr1 14 fun K hK => ?_
    go_simp
    refine hK _ _ ?_
    clear hK K
    refine wpAny_done (by kernel_rfl) ?_ _
    go_simp
    go_wp2_with fail
    go_ret
    exact ⟨rfl, ⟨_, HZ.out.1⟩, (FrT.of HB.out (Nat.le_of_lt hl)).trans HZ.out.2⟩
theorem decl_plain (h : HP H w M ov sv os ss) (hs : M.Small K) (hK : K ≤ 1000) (i : Nat) (x : Ro) (hi : M.rooms[i]? = some x) (nm : ByteArray) (kd n : Int) (ho : x.object = -1) (hk : fC nm x.cs = none) (q1 : kd ≠ 1) (q2 : kd ≠ 2) :
    Calls Tryd.prog 12 #[.pointer (some ⟨H, 0, none⟩), .int .i64 (i : Int), .string nm, .int .i64 kd, .agg #[.int .i64 3, .int .i64 n, .string ⟨#[]⟩]] w fun e w' => e = .returned (.nilIface) ∧ (∃ ss', HP H w' (M.setRo i ⟨x.outer, x.object, x.cs ++ [⟨nm, n, kd, true⟩]⟩) ov sv os ss') ∧ FrT Th H w w' := by
  obtain ⟨h0, h1, hf, hf1, hl⟩ := h.c
  have hb0 : Below w.heap.size w (w.alloc (vO n)) := (Below.refl _ _).alloc (Nat.le_refl _) _
  have hH := h.later hb0
  obtain ⟨g, cap, v, e2, hlt, hv, hcl, hrow, hg, hB, hfz, _⟩ := hH.ro.at_ (i := i) (e := x.h) (by simp [hi])
  have HC := hide (at_inC g cap _ i hlt (w.alloc (vO n)))
  rw [← e2] at HC
  have hrow' : (w.alloc (vO n)).ownsRow H 98 6 v x.cs.length (x.cs.flatMap Ce.h) := hrow
  have HD := hide (of_anyC g (i * 3) v x.cs H nm (w.alloc (vO n)) (hcl 2 v rfl) hrow' (by have := hs.cs x (List.mem_of_getElem? hi); omega))
  have hsm := hs.cs x (List.mem_of_getElem? hi)
  have hco : (w.alloc (vO n)).cell? ⟨g, i * 3 + 1, none⟩ = some (.int .i64 x.object) := hcl 1 _ rfl
  have HH := hide hH
  have HV := hide hv
  have HI := hide hi
  have HE2 := hide e2
  have HROW := hide hrow'
  have HCL := hide (hcl 2 v rfl)
  have HLEN := hide hsm
  have HHG := hide hg
  have HFZ := hide hfz
  have HB0 := hide hb0
  obtain ⟨ii, hi0, hz0, hz1, hz2⟩ := info_parts info98
  rw [ho] at hco
  rw [hk, pptr_none] at HD
  clear hk
  obtain ⟨W0, hW0⟩ : ∃ W0, W0 = w.alloc (.cells #[.int .i64 3, .int .i64 n, .string ⟨#[]⟩] 36) := ⟨_, rfl⟩
  have HW0 := hide hW0
  have hgW : g < W0.heap.size := by rw [hW0]; exact hg
  rw [show w.alloc (vO n) = W0 by rw [hW0]] at HC HD hco HH HROW HCL HHG HFZ HB0
  clear hcl hrow hrow' hi h hH hb0 hv e2 hsm hfz hg hW0
  go_enter Tryd.func12, Tryd.ntmps12
  go_wp2_with fail
  rw [← HW0.out]
  refine Calls.mono HC.out ?_
  rintro e w' ⟨rfl, hw⟩
  rw [hw]
  clear hw
  go_wp2_with fail
  refine Calls.mono HD.out ?_
  rintro e w1 ⟨rfl, hb⟩
  have hbw : Below (w.heap.size + 1) (w.alloc (.cells #[.int .i64 3, .int .i64 n, .string ⟨#[]⟩] 36)) w1 := by rw [← HW0.out]; exact hb.mono (by rw [HW0.out]; simp)
  obtain ⟨n0, n1, n2, nf, nl⟩ := new3 hbw
  have HB := hide (HB0.out.trans (hb.mono HB0.out.size))
  have HH1 := hide (HH.out.later hb)
  have HROW1 := hide (row_later HROW.out hb)
  have hgl : g < w1.heap.size := Nat.lt_of_lt_of_le HHG.out hb.size
  have hc1 : w1.cell? ⟨g, i * 3 + 2, none⟩ = some v := (cell_below hb (a := ⟨g, i * 3 + 2, none⟩) HHG.out).trans HCL.out
  have hfz1 : w1.frozen? ⟨g, i * 3 + 2, none⟩ = false := (World.frozen?_of_block (w := W0) (a := ⟨g, i * 3 + 2, none⟩) (hb.block g HHG.out)).trans (HFZ.out _)
  clear hb hbw hco
  go_wp2_with fail
  refine wp_region_any (by kernel_rfl) ?_
  change wpAny _ _ _ _ _ _ _ (World.drew _)
  refine wt 0 (.pointer (some ⟨g, i * 3, none⟩)) ?_
  refine wt 1 (.pointer (some ⟨g, i * 3, none⟩)) ?_
  refine wt 2 (.pointer (some ⟨g, i * 3, none⟩)) ?_
  refine wt 3 (.pointer (some ⟨g, i * 3 + 2, none⟩)) ?_
  refine wt 5 (.string nm) ?_
  refine wt 7 (.int .i64 kd) ?_
  refine wt 8 (.bool true) ?_
  refine wr2 4 6 (fun K hK => ?ca) fun K hK => ?cb
  case' ca =>
    go_simp
    refine hK _ _ ?_
    clear hK K
    refine wr1 6 fun K hK => ?_
    go_simp
    refine hK _ _ ?_
    clear hK K
    refine wt 9 (.agg #[.string nm, .int .i64 3, .int .i64 n, .string ⟨#[]⟩, .int .i64 kd, .bool true]) ?_
    refine wr1 10 fun K hK => ?_
    go_simp
    refine hK _ _ ?_
    clear hK K
  case' cb =>
    go_simp
    refine hK _ _ ?_
    clear hK K
    refine wt 9 (.agg #[.string nm, .int .i64 3, .int .i64 n, .string ⟨#[]⟩, .int .i64 kd, .bool true]) ?_
    refine wr2 4 10 (fun K hK => ?cc) fun K hK => ?cd
  case' cc =>
    go_simp
    refine hK _ _ ?_
    clear hK K
    refine wr1 10 fun K hK => ?_
    go_simp
    refine hK _ _ ?_
    clear hK K
  case' cd =>
    go_simp
    refine hK _ _ ?_
    clear hK K
    refine wr1 4 fun K hK => ?_
    go_simp
    refine hK _ _ ?_
    clear hK K
  all_goals
    refine wr1 11 fun K hK => ?_
    refine step_append_lies _ rfl _ _ 74 rfl H 98 ii _ 6 64 Tryd.underlying74 hi0 hz0 hz1 hz2 rfl (by decide) _ _ _ rfl (HROW1.out.drew.alloc _) ⟨w1.heap.size, 0, none⟩ 1 1 [.string nm, .int .i64 3, .int .i64 n, .string ⟨#[]⟩, .int .i64 kd, .bool true] rfl rfl (new6_cells _ _ rfl _ _ _ _) (new6_one _ _ _ _) (by decide) (by have := HLEN.out; unfold maxLen; omega) (by have := HLEN.out; omega) (by simp; omega) (w1.heap.size + 1) (by simp) ?_
    intro gn capn w3 hown3 hgr3 hg3 _
    refine hK _ _ ?_
    clear hK K
    have hgr : w1.grownBy w3 v.ownBlock := grown_trans (grown_trans (b := w1.drew) ⟨rfl, rfl, rfl, Nat.le_refl _, fun _ _ _ => rfl⟩ (World.grownBy_alloc _ _ _)) hgr3
    have hz := HH1.out.growC (x' := ⟨x.outer, x.object, x.cs ++ [⟨nm, n, kd, true⟩]⟩) HI.out HV.out HE2.out hgr (v' := .slice (some ⟨gn, 0, none⟩) (x.cs.length + 1) capn) (by rw [List.flatMap_append]; simpa [Ce.h] using hown3) (fun q hq => by cases hq; exact hg3.imp (fun e => e) (fun e => by rw [e]; exact Nat.le_succ _)) ⟨rfl, rfl⟩
    have HZ := hide hz
    have kg : w3.cell? ⟨g, i * 3 + 2, none⟩ = some v ∧ w3.frozen? ⟨g, i * 3 + 2, none⟩ = false := by
      have hne : some g ≠ v.ownBlock := fun e => by
        obtain ⟨_, _, hnn⟩ := HH1.out.ro.nes HV.out
        exact (hnn g e.symm).2.2.1 (by rw [HE2.out]; rfl)
      have hbk := hgr.block g hgl hne
      exact ⟨(World.cell?_of_block (w := w1) (a := ⟨g, i * 3 + 2, none⟩) hbk).trans hc1, (World.frozen?_of_block (w := w1) (a := ⟨g, i * 3 + 2, none⟩) hbk).trans hfz1⟩
    obtain ⟨kg1, kg2⟩ := kg
    clear hz hgr hown3 hgr3 hg3 hc1 hfz1 n0 n1 n2 nf
    refine wt 12 (.pointer (some ⟨g, i * 3, none⟩)) ?_
    refine wt 13 (.pointer (some ⟨g, i * 3 + 2, none⟩)) ?_
    refine wr1 14 fun K hK => ?_
    go_simp
    refine hK _ _ ?_
    clear hK K
    refine wpAny_done (by kernel_rfl) ?_ _
    go_simp
    go_wp2_with fail
    go_ret
    exact ⟨rfl, ⟨_, HZ.out.1⟩, (FrT.of HB.out (Nat.le_of_lt hl)).trans HZ.out.2⟩
end
end Go.Proofs.YtomogijjkdiomaaDoor
