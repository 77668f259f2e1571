/-
  Write and Declare.
-/
import Derived.Test.YtomogijjkdiomaaDoorHp7
set_option maxRecDepth 100000
set_option maxHeartbeats 16000000
namespace Go.Proofs.YtomogijjkdiomaaDoor
open Go.RowKit

section
variable {H : Nat} {w w1 : World} {M : Mo} {ov sv : Value} {os ss : List Value} {K : Nat}
set_option maxRecDepth 100000
set_option maxHeartbeats 1000000
theorem cel_of {i : Nat} {x : Ro} (hi : M.rooms[i]? = some x) {nm : ByteArray} {k : Nat} {c : Ce} (hk : fC nm x.cs = some k) (hc : x.cs[k]? = some c) : M.cel i nm = some c := by
  rcases find_of (fun c => isN nm c.name) x.cs with ⟨f1, f2⟩ | ⟨k', c', f1, f2, f3, _⟩
  · rw [show fC nm x.cs = none from f1] at hk; cases hk
  · rw [show fC nm x.cs = some k' from f1] at hk
    cases hk
    rw [hc] at f2
    cases f2
    simp [Mo.cel, ro_nat hi, f3]
theorem prop_of {i : Nat} {x : Ob} (hi : M.objs[i]? = some x) {nm : ByteArray} {k : Nat} {c : Pr} (hk : fP nm x.ps = some k) (hc : x.ps[k]? = some c) : M.prop i nm = some c := by
  rcases find_of (fun c => isN nm c.name) x.ps with ⟨f1, f2⟩ | ⟨k', c', f1, f2, f3, _⟩
  · rw [show fP nm x.ps = none from f1] at hk; cases hk
  · rw [show fP nm x.ps = some k' from f1] at hk
    cases hk
    rw [hc] at f2
    cases f2
    simp [Mo.prop, ob_nat hi, f3]
theorem write_no (h : HP H w M ov sv os ss) (hs : M.Small K) (hK : K ≤ 1000) (s : Int) (nm : ByteArray) (n : Int) (hh : M.has s nm = false) :
    Calls Tryd.prog 14 #[.pointer (some ⟨H, 0, none⟩), .int .i64 s, .string nm, .agg #[.int .i64 3, .int .i64 n, .string ⟨#[]⟩]] w fun e w' => e = .returned (.iface 47 (.int .i64 7)) ∧ Below w.heap.size w w' := by
  have hb0 : Below w.heap.size w (w.alloc (vO n)) := (Below.refl _ _).alloc (Nat.le_refl _) _
  have HS := hide (has_any (h.later hb0) hs hK s nm)
  rw [hh] at HS
  unfold vO at HS
  clear h hh hb0
  go_enter Tryd.func14, Tryd.ntmps14
  go_wp2_with fail
  refine Calls.mono HS.out ?_
  rintro e w1 ⟨rfl, hb⟩
  have HB := hide (((Below.refl _ w).alloc (Nat.le_refl _) _).trans (hb.mono (by simp)))
  clear hb
  go_wp2_with fail
  go_ret
  exact ⟨rfl, HB.out⟩
theorem write_prop (h : HP H w M ov sv os ss) (hs : M.Small K) (hK : K ≤ 1000) (s : Int) (nm : ByteArray) (n : Int) (hc : M.cel s nm = none) (j : Nat) (x : Ob) (hj : M.objOf s = j) (hx : M.objs[j]? = some x) (k : Nat) (p : Pr) (hk : fP nm x.ps = some k) (hp : x.ps[k]? = some p) :
    Calls Tryd.prog 14 #[.pointer (some ⟨H, 0, none⟩), .int .i64 s, .string nm, .agg #[.int .i64 3, .int .i64 n, .string ⟨#[]⟩]] w fun e w' => e = .returned .nilIface ∧ HP H w' (M.setOb j ⟨x.code, x.ps.set k ⟨p.name, n, p.fixed⟩⟩) ov sv os ss ∧ FrT Th H w w' := by
  obtain ⟨h0, h1, hf, hf1, hl⟩ := h.c
  have hb0 : Below w.heap.size w (w.alloc (vO n)) := (Below.refl _ _).alloc (Nat.le_refl _) _
  have HS := hide (has_any (h.later hb0) hs hK s nm)
  rw [show M.has s nm = true by simp [Mo.has, hj, prop_of hx hk hp]] at HS
  have HO : Hid (∀ w1, Below w.heap.size w w1 → Calls Tryd.prog 35 #[.pointer (some ⟨H, 0, none⟩), .int .i64 s] w1 fun e w' => e = .returned (.int .i64 j) ∧ w' = w1) := fun w1 hb => by rw [← hj]; exact objOf_any (h.later hb) s
  have HP_ : Hid (∀ w1, Below w.heap.size w w1 → _) := fun w1 hb => put_old (h.later hb) hs hK j x hx nm n false k p hk hp
  have HL : Hid (∀ w1, Below w.heap.size w w1 → _) := fun w1 hb => lookC (h.later hb) hs hK s nm
  have HLH := hide hl
  have HCL := hide hc
  have HH := hide h
  unfold vO at HS
  clear h hs hc hj hx hk hp hb0 hf hf1
  go_enter Tryd.func14, Tryd.ntmps14
  go_wp2_with fail
  refine Calls.mono HS.out ?_
  rintro e w1 ⟨rfl, hb⟩
  have hbb := ((Below.refl _ w).alloc (Nat.le_refl _) _).trans (hb.mono (by simp))
  obtain ⟨q, r, hA, hO, hr⟩ := HL.out w1 hbb
  obtain ⟨k0, k1, _, _, _⟩ := (HH.out.later hbb).c
  have hr0 : r = none := by
    rcases hr with ⟨h, _⟩ | ⟨_, _, _, _, _, _, _, _, _, _, hp, _⟩
    · exact h
    · rw [HCL.out] at hp; cases hp
  subst hr0
  have HC := hide hA
  have HD := hide hO
  obtain ⟨n0, n1, n2, nf, nl⟩ := new3 (hb.mono (by simp))
  have HN1 : Hid (∀ w2, Below w1.heap.size w1 w2 → Below (w.heap.size + 1) (w.alloc (.cells #[.int .i64 3, .int .i64 n, .string ⟨#[]⟩] 36)) w2) := fun w2 hb2 => (hb.mono (by simp)).trans (hb2.mono (by omega))
  have HBZ : Hid (∀ w2, Below w1.heap.size w1 w2 → w2.heap[w.heap.size]? = some (.cells #[.int .i64 3, .int .i64 n, .string ⟨#[]⟩] 36 (0, 0))) := fun w2 hb2 => ((hb.mono (by simp)).trans (hb2.mono (Nat.succ_le_of_lt nl)) |>.block _ (Nat.lt_succ_self _)).trans (heap_alloc_new w _)
  have HB := hide hbb
  have hl1 := Nat.lt_of_lt_of_le hl hbb.size
  clear hb hbb hA hO hr n0 n1 n2 nf
  go_wp2_with fail
  refine Calls.mono HC.out ?_
  rintro e w' ⟨rfl, rfl⟩
  go_wp2_with fail
  refine Calls.mono HD.out ?_
  rintro e w2 ⟨rfl, hb2⟩
  have HB2 := hide (HB.out.trans (hb2.mono HB.out.size))
  obtain ⟨n0, n1, n2, nf, nl2⟩ := new3 (HN1.out w2 hb2)
  have hz2 : w2.heap[w.heap.size]? = some (.cells #[.int .i64 3, .int .i64 n, .string ⟨#[]⟩] 36 (0, 0)) := HBZ.out w2 hb2
  have HZ2 := hide hz2
  clear hb2 k0 k1 hz2
  go_wp2_with fail
  refine wp_region_held (S := fun W => W.cell? ⟨w.heap.size, 0, none⟩ = some (.int .i64 3) ∧ W.cell? ⟨w.heap.size, 1, none⟩ = some (.int .i64 n) ∧ W.cell? ⟨w.heap.size, 2, none⟩ = some (.string ⟨#[]⟩)) (by kernel_rfl) ?_
  change wpAnyH _ _ _ _ _ _ _ _ (World.drew _)
  have HS2 : Hid (w2.drew.cell? ⟨w.heap.size, 0, none⟩ = some (.int .i64 3) ∧ w2.drew.cell? ⟨w.heap.size, 1, none⟩ = some (.int .i64 n) ∧ w2.drew.cell? ⟨w.heap.size, 2, none⟩ = some (.string ⟨#[]⟩)) := ⟨n0, n1, n2⟩
  refine wh 0 (.pointer (some ⟨H, 0, none⟩)) HS2.out ?_
  refine wh 1 (.pointer (some ⟨H, 0, none⟩)) HS2.out ?_
  refine wh 2 (.int .i64 s) HS2.out ?_
  refine wh 4 (.string nm) HS2.out ?_
  refine wg 5 (.agg #[.int .i64 3, .int .i64 n, .string ⟨#[]⟩]) rfl (Or.inl ⟨by kernel_rfl, fun W hW => by obtain ⟨q0, q1, q2⟩ := hW; go_simp⟩) HS2.out ?_
  refine wq1 3 fun K hK => ?_
  go_simp
  refine Calls.mono (HO.out _ HB2.out.drew) ?_
  rintro e w3 ⟨rfl, rfl⟩
  refine hK.out _ _ HS2.out (fun _ => ?_)
  clear hK K
  refine wq1 6 fun K hK => ?_
  go_simp
  refine Calls.mono (HP_.out _ HB2.out.drew) ?_
  rintro e w4 ⟨rfl, hh4, hf4⟩
  have HF := hide ((FrT.of HB2.out.drew (Nat.le_of_lt HLH.out)).trans hf4)
  have H4 := hide hh4
  have HS4 : Hid (w4.cell? ⟨w.heap.size, 0, none⟩ = some (.int .i64 3) ∧ w4.cell? ⟨w.heap.size, 1, none⟩ = some (.int .i64 n) ∧ w4.cell? ⟨w.heap.size, 2, none⟩ = some (.string ⟨#[]⟩)) := by
    have h4 := hf4.rest _ _ 36 HZ2.out (by decide)
    refine ⟨?_, ?_, ?_⟩ <;> simp [World.cell?, h4]
  refine hK.out _ _ HS4.out (fun _ => ?_)
  clear hK K hh4 hf4
  refine wh 7 (.nilIface) HS4.out ?_
  refine wpAnyH_done (by kernel_rfl) ?_ _
  go_simp
  go_wp2_with fail
  go_ret
  exact ⟨rfl, H4.out, HF.out⟩
def wErr (c : Ce) : Int := if c.ready then (if c.kind = 2 then 1 else if c.kind = 3 then 5 else 0) else 6
theorem write_state (h : HP H w M ov sv os ss) (hs : M.Small K) (hK : K ≤ 1000) (i : Nat) (x : Ro) (hi : M.rooms[i]? = some x) (nm : ByteArray) (n : Int) (k : Nat) (c : Ce) (hk : fC nm x.cs = some k) (hc : x.cs[k]? = some c) (hr : c.ready = false) :
    Calls Tryd.prog 14 #[.pointer (some ⟨H, 0, none⟩), .int .i64 (i : Int), .string nm, .agg #[.int .i64 3, .int .i64 n, .string ⟨#[]⟩]] w fun e w' => e = .returned (.iface 47 (.int .i64 6)) ∧ Below w.heap.size w w' := by
  obtain ⟨h0, h1, hf, hf1, hl⟩ := h.c
  have hb0 : Below w.heap.size w (w.alloc (vO n)) := (Below.refl _ _).alloc (Nat.le_refl _) _
  have hcel := cel_of hi hk hc
  have HS := hide (has_any (h.later hb0) hs hK i nm)
  rw [show M.has i nm = true by simp [Mo.has, hcel]] at HS
  have HL : Hid (∀ w1, Below w.heap.size w w1 → _) := fun w1 hb => lookC (h.later hb) hs hK i nm
  have HH := hide h
  have HI := hide hi
  have HK := hide hk
  have HCC := hide hc
  have HCL := hide hcel
  have HLH := hide hl
  unfold vO at HS
  clear h hs hc hi hk hcel hb0 hf hf1
  go_enter Tryd.func14, Tryd.ntmps14
  go_wp2_with fail
  refine Calls.mono HS.out ?_
  rintro e w1 ⟨rfl, hb⟩
  have hbb := ((Below.refl _ w).alloc (Nat.le_refl _) _).trans (hb.mono (by simp))
  obtain ⟨q, r, hA, hO, hr⟩ := HL.out w1 hbb
  obtain ⟨k0, k1, _, _, _⟩ := (HH.out.later hbb).c
  rcases hr with ⟨_, hp⟩ | ⟨i', x', k', c', g, cap, e1, e2, e3, e4, hp, rfl, hv, hW⟩
  · rw [HCL.out] at hp; cases hp
  obtain rfl : i = i' := by omega
  rw [HI.out] at e2
  cases e2
  rw [HK.out] at e3
  cases e3
  rw [HCC.out] at e4
  cases e4
  have HC := hide hA
  have HD := hide hO
  have HW := hide hW
  have HV := hide hv
  have hwz : w1.heap[w.heap.size]? = some (.cells #[.int .i64 3, .int .i64 n, .string ⟨#[]⟩] 36 (0, 0)) := (hb.block _ (by simp)).trans (heap_alloc_new w _)
  obtain ⟨cg, hcg⟩ := tag98 (HH.out.later hbb) HI.out hv
  have hgz : g ≠ w.heap.size := tags_ne hcg hwz (by decide)
  have HN1 : Hid (∀ w2, Below w1.heap.size w1 w2 → Below (w.heap.size + 1) (w.alloc (.cells #[.int .i64 3, .int .i64 n, .string ⟨#[]⟩] 36)) w2) := fun w2 hb2 => (hb.mono (by simp)).trans (hb2.mono (by have := lt_of_block hwz; omega))
  have HB := hide hbb
  have hl1 := Nat.lt_of_lt_of_le hl hbb.size
  clear hb hbb hA hO hp hW hv hwz hcg e1
  go_wp2_with fail
  refine Calls.mono HC.out ?_
  rintro e w' ⟨rfl, rfl⟩
  go_wp2_with fail
  refine Calls.mono HD.out ?_
  rintro e w2 ⟨rfl, hb2⟩
  obtain ⟨hcc, hgl, hff⟩ := HW.out w2 hb2
  have d1 := hcc 1 _ rfl
  have d2 := hcc 2 _ rfl
  have d3 := hcc 3 _ rfl
  have d4 := hcc 4 _ rfl
  have d5 := hcc 5 _ rfl
  have HB2 := hide (HB.out.trans (hb2.mono HB.out.size))
  obtain ⟨n0, n1, n2, nf, nl2⟩ := new3 (HN1.out w2 hb2)
  have HZ := hide ((HH.out.later HB2.out).setC HI.out HV.out HCC.out n)
  clear hb2 k0 k1 hcc
  rw [hr] at d5
  go_wp2_with fail
  go_ret
  exact ⟨rfl, HB2.out⟩
theorem write_final (h : HP H w M ov sv os ss) (hs : M.Small K) (hK : K ≤ 1000) (i : Nat) (x : Ro) (hi : M.rooms[i]? = some x) (nm : ByteArray) (n : Int) (k : Nat) (c : Ce) (hk : fC nm x.cs = some k) (hc : x.cs[k]? = some c) (hr : c.ready = true) (h2 : c.kind = 2) :
    Calls Tryd.prog 14 #[.pointer (some ⟨H, 0, none⟩), .int .i64 (i : Int), .string nm, .agg #[.int .i64 3, .int .i64 n, .string ⟨#[]⟩]] w fun e w' => e = .returned (.iface 47 (.int .i64 1)) ∧ Below w.heap.size w w' := by
  obtain ⟨h0, h1, hf, hf1, hl⟩ := h.c
  have hb0 : Below w.heap.size w (w.alloc (vO n)) := (Below.refl _ _).alloc (Nat.le_refl _) _
  have hcel := cel_of hi hk hc
  have HS := hide (has_any (h.later hb0) hs hK i nm)
  rw [show M.has i nm = true by simp [Mo.has, hcel]] at HS
  have HL : Hid (∀ w1, Below w.heap.size w w1 → _) := fun w1 hb => lookC (h.later hb) hs hK i nm
  have HH := hide h
  have HI := hide hi
  have HK := hide hk
  have HCC := hide hc
  have HCL := hide hcel
  have HLH := hide hl
  unfold vO at HS
  clear h hs hc hi hk hcel hb0 hf hf1
  go_enter Tryd.func14, Tryd.ntmps14
  go_wp2_with fail
  refine Calls.mono HS.out ?_
  rintro e w1 ⟨rfl, hb⟩
  have hbb := ((Below.refl _ w).alloc (Nat.le_refl _) _).trans (hb.mono (by simp))
  obtain ⟨q, r, hA, hO, hr⟩ := HL.out w1 hbb
  obtain ⟨k0, k1, _, _, _⟩ := (HH.out.later hbb).c
  rcases hr with ⟨_, hp⟩ | ⟨i', x', k', c', g, cap, e1, e2, e3, e4, hp, rfl, hv, hW⟩
  · rw [HCL.out] at hp; cases hp
  obtain rfl : i = i' := by omega
  rw [HI.out] at e2
  cases e2
  rw [HK.out] at e3
  cases e3
  rw [HCC.out] at e4
  cases e4
  have HC := hide hA
  have HD := hide hO
  have HW := hide hW
  have HV := hide hv
  have hwz : w1.heap[w.heap.size]? = some (.cells #[.int .i64 3, .int .i64 n, .string ⟨#[]⟩] 36 (0, 0)) := (hb.block _ (by simp)).trans (heap_alloc_new w _)
  obtain ⟨cg, hcg⟩ := tag98 (HH.out.later hbb) HI.out hv
  have hgz : g ≠ w.heap.size := tags_ne hcg hwz (by decide)
  have HN1 : Hid (∀ w2, Below w1.heap.size w1 w2 → Below (w.heap.size + 1) (w.alloc (.cells #[.int .i64 3, .int .i64 n, .string ⟨#[]⟩] 36)) w2) := fun w2 hb2 => (hb.mono (by simp)).trans (hb2.mono (by have := lt_of_block hwz; omega))
  have HB := hide hbb
  have hl1 := Nat.lt_of_lt_of_le hl hbb.size
  clear hb hbb hA hO hp hW hv hwz hcg e1
  go_wp2_with fail
  refine Calls.mono HC.out ?_
  rintro e w' ⟨rfl, rfl⟩
  go_wp2_with fail
  refine Calls.mono HD.out ?_
  rintro e w2 ⟨rfl, hb2⟩
  obtain ⟨hcc, hgl, hff⟩ := HW.out w2 hb2
  have d1 := hcc 1 _ rfl
  have d2 := hcc 2 _ rfl
  have d3 := hcc 3 _ rfl
  have d4 := hcc 4 _ rfl
  have d5 := hcc 5 _ rfl
  have HB2 := hide (HB.out.trans (hb2.mono HB.out.size))
  obtain ⟨n0, n1, n2, nf, nl2⟩ := new3 (HN1.out w2 hb2)
  have HZ := hide ((HH.out.later HB2.out).setC HI.out HV.out HCC.out n)
  clear hb2 k0 k1 hcc
  rw [hr] at d5
  rw [h2] at d4
  go_wp2_with fail
  go_ret
  exact ⟨rfl, HB2.out⟩
theorem write_own (h : HP H w M ov sv os ss) (hs : M.Small K) (hK : K ≤ 1000) (i : Nat) (x : Ro) (hi : M.rooms[i]? = some x) (nm : ByteArray) (n : Int) (k : Nat) (c : Ce) (hk : fC nm x.cs = some k) (hc : x.cs[k]? = some c) (hr : c.ready = true) (h3 : c.kind = 3) :
    Calls Tryd.prog 14 #[.pointer (some ⟨H, 0, none⟩), .int .i64 (i : Int), .string nm, .agg #[.int .i64 3, .int .i64 n, .string ⟨#[]⟩]] w fun e w' => e = .returned (.iface 47 (.int .i64 5)) ∧ Below w.heap.size w w' := by
  obtain ⟨h0, h1, hf, hf1, hl⟩ := h.c
  have hb0 : Below w.heap.size w (w.alloc (vO n)) := (Below.refl _ _).alloc (Nat.le_refl _) _
  have hcel := cel_of hi hk hc
  have HS := hide (has_any (h.later hb0) hs hK i nm)
  rw [show M.has i nm = true by simp [Mo.has, hcel]] at HS
  have HL : Hid (∀ w1, Below w.heap.size w w1 → _) := fun w1 hb => lookC (h.later hb) hs hK i nm
  have HH := hide h
  have HI := hide hi
  have HK := hide hk
  have HCC := hide hc
  have HCL := hide hcel
  have HLH := hide hl
  unfold vO at HS
  clear h hs hc hi hk hcel hb0 hf hf1
  go_enter Tryd.func14, Tryd.ntmps14
  go_wp2_with fail
  refine Calls.mono HS.out ?_
  rintro e w1 ⟨rfl, hb⟩
  have hbb := ((Below.refl _ w).alloc (Nat.le_refl _) _).trans (hb.mono (by simp))
  obtain ⟨q, r, hA, hO, hr⟩ := HL.out w1 hbb
  obtain ⟨k0, k1, _, _, _⟩ := (HH.out.later hbb).c
  rcases hr with ⟨_, hp⟩ | ⟨i', x', k', c', g, cap, e1, e2, e3, e4, hp, rfl, hv, hW⟩
  · rw [HCL.out] at hp; cases hp
  obtain rfl : i = i' := by omega
  rw [HI.out] at e2
  cases e2
  rw [HK.out] at e3
  cases e3
  rw [HCC.out] at e4
  cases e4
  have HC := hide hA
  have HD := hide hO
  have HW := hide hW
  have HV := hide hv
  have hwz : w1.heap[w.heap.size]? = some (.cells #[.int .i64 3, .int .i64 n, .string ⟨#[]⟩] 36 (0, 0)) := (hb.block _ (by simp)).trans (heap_alloc_new w _)
  obtain ⟨cg, hcg⟩ := tag98 (HH.out.later hbb) HI.out hv
  have hgz : g ≠ w.heap.size := tags_ne hcg hwz (by decide)
  have HN1 : Hid (∀ w2, Below w1.heap.size w1 w2 → Below (w.heap.size + 1) (w.alloc (.cells #[.int .i64 3, .int .i64 n, .string ⟨#[]⟩] 36)) w2) := fun w2 hb2 => (hb.mono (by simp)).trans (hb2.mono (by have := lt_of_block hwz; omega))
  have HB := hide hbb
  have hl1 := Nat.lt_of_lt_of_le hl hbb.size
  clear hb hbb hA hO hp hW hv hwz hcg e1
  go_wp2_with fail
  refine Calls.mono HC.out ?_
  rintro e w' ⟨rfl, rfl⟩
  go_wp2_with fail
  refine Calls.mono HD.out ?_
  rintro e w2 ⟨rfl, hb2⟩
  obtain ⟨hcc, hgl, hff⟩ := HW.out w2 hb2
  have d1 := hcc 1 _ rfl
  have d2 := hcc 2 _ rfl
  have d3 := hcc 3 _ rfl
  have d4 := hcc 4 _ rfl
  have d5 := hcc 5 _ rfl
  have HB2 := hide (HB.out.trans (hb2.mono HB.out.size))
  obtain ⟨n0, n1, n2, nf, nl2⟩ := new3 (HN1.out w2 hb2)
  have HZ := hide ((HH.out.later HB2.out).setC HI.out HV.out HCC.out n)
  clear hb2 k0 k1 hcc
  rw [hr] at d5
  rw [h3] at d4
  go_wp2_with fail
  go_ret
  exact ⟨rfl, HB2.out⟩
theorem write_ok (h : HP H w M ov sv os ss) (hs : M.Small K) (hK : K ≤ 1000) (i : Nat) (x : Ro) (hi : M.rooms[i]? = some x) (nm : ByteArray) (n : Int) (k : Nat) (c : Ce) (hk : fC nm x.cs = some k) (hc : x.cs[k]? = some c) (hr : c.ready = true) (h2 : c.kind ≠ 2) (h3 : c.kind ≠ 3) :
    Calls Tryd.prog 14 #[.pointer (some ⟨H, 0, none⟩), .int .i64 (i : Int), .string nm, .agg #[.int .i64 3, .int .i64 n, .string ⟨#[]⟩]] w fun e w' => e = .returned (.nilIface) ∧ HP H w' (M.setRo i ⟨x.outer, x.object, x.cs.set k ⟨c.name, n, c.kind, c.ready⟩⟩) ov sv os ss ∧ FrT Th H w w' := by
  obtain ⟨h0, h1, hf, hf1, hl⟩ := h.c
  have hb0 : Below w.heap.size w (w.alloc (vO n)) := (Below.refl _ _).alloc (Nat.le_refl _) _
  have hcel := cel_of hi hk hc
  have HS := hide (has_any (h.later hb0) hs hK i nm)
  rw [show M.has i nm = true by simp [Mo.has, hcel]] at HS
  have HL : Hid (∀ w1, Below w.heap.size w w1 → _) := fun w1 hb => lookC (h.later hb) hs hK i nm
  have HH := hide h
  have HI := hide hi
  have HK := hide hk
  have HCC := hide hc
  have HCL := hide hcel
  have HLH := hide hl
  unfold vO at HS
  clear h hs hc hi hk hcel hb0 hf hf1
  go_enter Tryd.func14, Tryd.ntmps14
  go_wp2_with fail
  refine Calls.mono HS.out ?_
  rintro e w1 ⟨rfl, hb⟩
  have hbb := ((Below.refl _ w).alloc (Nat.le_refl _) _).trans (hb.mono (by simp))
  obtain ⟨q, r, hA, hO, hr⟩ := HL.out w1 hbb
  obtain ⟨k0, k1, _, _, _⟩ := (HH.out.later hbb).c
  rcases hr with ⟨_, hp⟩ | ⟨i', x', k', c', g, cap, e1, e2, e3, e4, hp, rfl, hv, hW⟩
  · rw [HCL.out] at hp; cases hp
  obtain rfl : i = i' := by omega
  rw [HI.out] at e2
  cases e2
  rw [HK.out] at e3
  cases e3
  rw [HCC.out] at e4
  cases e4
  have HC := hide hA
  have HD := hide hO
  have HW := hide hW
  have HV := hide hv
  have hwz : w1.heap[w.heap.size]? = some (.cells #[.int .i64 3, .int .i64 n, .string ⟨#[]⟩] 36 (0, 0)) := (hb.block _ (by simp)).trans (heap_alloc_new w _)
  obtain ⟨cg, hcg⟩ := tag98 (HH.out.later hbb) HI.out hv
  have hgz : g ≠ w.heap.size := tags_ne hcg hwz (by decide)
  have HN1 : Hid (∀ w2, Below w1.heap.size w1 w2 → Below (w.heap.size + 1) (w.alloc (.cells #[.int .i64 3, .int .i64 n, .string ⟨#[]⟩] 36)) w2) := fun w2 hb2 => (hb.mono (by simp)).trans (hb2.mono (by have := lt_of_block hwz; omega))
  have HB := hide hbb
  have hl1 := Nat.lt_of_lt_of_le hl hbb.size
  clear hb hbb hA hO hp hW hv hwz hcg e1
  go_wp2_with fail
  refine Calls.mono HC.out ?_
  rintro e w' ⟨rfl, rfl⟩
  go_wp2_with fail
  refine Calls.mono HD.out ?_
  rintro e w2 ⟨rfl, hb2⟩
  obtain ⟨hcc, hgl, hff⟩ := HW.out w2 hb2
  have d1 := hcc 1 _ rfl
  have d2 := hcc 2 _ rfl
  have d3 := hcc 3 _ rfl
  have d4 := hcc 4 _ rfl
  have d5 := hcc 5 _ rfl
  have HB2 := hide (HB.out.trans (hb2.mono HB.out.size))
  obtain ⟨n0, n1, n2, nf, nl2⟩ := new3 (HN1.out w2 hb2)
  have HZ := hide ((HH.out.later HB2.out).setC HI.out HV.out HCC.out n)
  clear hb2 k0 k1 hcc
  rw [hr] at d5
  go_wp2_with fail
  go_ret
  exact ⟨rfl, HZ.out.1, (FrT.of HB2.out (Nat.le_of_lt HLH.out)).trans HZ.out.2⟩
end
end Go.Proofs.YtomogijjkdiomaaDoor
