/-
  Where a function's statements stand: all ways.
-/
import Derived.Test.YtoimgcjbcbhclaaGreatDoorWh32
import Derived.Test.YtoimgcjbcbhclaaGreatDoorWh33
set_option maxRecDepth 100000
set_option maxHeartbeats 16000000
namespace Go.Proofs.YtoimgcjbcbhclaaGreatDoor
open Go.RowKit

theorem fn_core (w : World) (p tb mb no q0 q1 : Nat) (kd : Int) (tx : ByteArray) (st sb ev : Bool) (P N : List ByteArray) (oa : Option Addr) (hk : kd = 5 ∨ kd = 37) (h : FnK w p tb mb no kd tx q0 q1 sb ev P N) :
    Calls Tryz.prog 128 #[sPtr tb, nPtr p, plV2 (.pointer oa) st] w (FnPost w oa no kd tx (st || sb) (!(st || sb) && ev) ((P ++ [tArguments]) ++ N)) := by
  rcases hk with rfl | rfl
  · cases st with
    | true => exact fn5t w p tb mb no q0 q1 tx sb ev P N oa h
    | false =>
      cases sb with
      | true => exact fn5ft w p tb mb no q0 q1 tx ev P N oa h
      | false => exact fn5ff w p tb mb no q0 q1 tx ev P N oa h
  · cases st with
    | true => exact fn37t w p tb mb no q0 q1 tx sb ev P N oa h
    | false =>
      cases sb with
      | true => exact fn37ft w p tb mb no q0 q1 tx ev P N oa h
      | false => exact fn37ff w p tb mb no q0 q1 tx ev P N oa h

theorem names_len (t : Tr) (b : Bool) (h : t.count ≤ 20000) : (namesT t b).length ≤ 70000 := by
  unfold namesT
  have h1 := once_len ((if b then varsT t else []) ++ (fnsT t).map Tr.tx ++ (letsT t).map Tr.tx)
  have h2 := fns_len t
  have h3 := lets_len t
  have h4 := vars_len t
  have h5 := counts_len t.kids
  have h6 := count_kids t
  have h7 : (if b then varsT t else []).length ≤ Tr.counts t.kids := by
    split
    · exact h4
    · exact Nat.zero_le _
  simp only [List.length_append, List.length_map] at h1
  omega
theorem nodup_part {a : Ad} (h : a.ads.Nodup) : ∀ k ∈ a.ks, k.ads.Nodup := by
  intro k hk
  rw [ads_eq, List.nodup_cons] at h
  have key : ∀ (l : List Ad), (Ad.adss l).Nodup → k ∈ l → k.ads.Nodup := by
    intro l
    induction l with
    | nil => intro _ hm; cases hm
    | cons x l ih =>
      intro hn hm
      rw [Ad.adss, List.nodup_append] at hn
      rcases List.mem_cons.1 hm with rfl | hm
      · exact hn.1
      · exact ih hn.2.1 hm
  exact key a.ks h.2 hk
theorem TW.nodup {I : Nat → Prop} {tb mb : Nat} {A pre post : List Nat} {L : List Us} {w : World} {a : Ad} (h : TW I tb mb A L w) (hA : A = pre ++ (a.ads ++ post)) : a.ads.Nodup := by
  have h1 := h.nd
  rw [hA, List.nodup_append] at h1
  have h2 := h1.2.1
  rw [List.nodup_append] at h2
  exact h2.1

/-- function, of each node that is one. -/
theorem fn_any (a pr bl : Ad) (ks : List Ad) (hks : a.ks = pr :: bl :: ks) (hkd : a.kd = 5 ∨ a.kd = 37) (I : Nat → Prop) (tb mb : Nat) (A pre post : List Nat) (L : List Us) (v : Value) (ch : List Sc) (st : Bool) (w : World)
    (hA : A = pre ++ (a.ads ++ post)) (hW : TW I tb mb A L w) (hN : AAt I w a) (hi : a.tr.ill = 0) (hC : Chn I w v ch) (hc : a.cnt ≤ 20000) :
    Calls Tryz.prog 128 #[sPtr tb, nPtr a.p, plV2 v st] w fun e w' => (∃ v', e = .returned (plV2 v' (st || strictT bl.tr)) ∧ Chn (fun b => I b ∨ (w.heap.size ≤ b ∧ b < w'.heap.size)) w' v' (fnSc a.tr pr.tr bl.tr pre.length ch st)) ∧ Below w.heap.size w w' := by
  obtain ⟨oa, rfl⟩ := hC.ptr
  have hpm : pr ∈ a.ks := by rw [hks]; simp
  have hbm : bl ∈ a.ks := by rw [hks]; simp
  have hP := hN.parts pr hpm
  have hB := hN.parts bl hbm
  obtain ⟨_, _, c0, c1, _⟩ := hN.cells
  obtain ⟨g, cap, c3, _, d0, d1, _⟩ := hN.two hks
  obtain ⟨_, _, _, u, e3, hr⟩ := (NAt.nt hP.nat).cells
  obtain ⟨ua, uc, rfl⟩ := hr.form
  have hcp := cnts_mem a.ks pr hpm
  have hcb := cnts_mem a.ks bl hbm
  have hca := cnt_eq a
  have hct := Ad.cnt_tr pr
  have hcb2 := Ad.cnt_tr bl
  have hpk := count_kids pr.tr
  have hpl := counts_len pr.tr.kids
  have hnl := names_len bl.tr true (by omega)
  have hK : FnK w a.p tb mb pre.length a.kd a.tx pr.p bl.p (strictT bl.tr) (evalsT bl.tr) (pr.tr.kids.map Tr.tx) (namesT bl.tr true) := by
    refine ⟨c0, c1, ⟨g, _, cap, by omega, c3, d0, d1⟩, hW.word.1, fun X hX => hW.num hA (Fm.of hX), fun X hX => ?_, ⟨ua, uc, by rw [List.length_map]; exact e3, fun X hX => ?_⟩, fun X hX => ?_, fun X hX => ?_, by rw [List.length_map]; omega, hnl⟩
    · exact strictE_any bl.tr bl.p X (NTr.later (NAt.nt hB.nat) hX)
    · rw [List.length_map]; exact wtexts_any pr.tr.kids _ X (NRow.later hr hX) (by omega)
    · exact names_any bl.tr bl.p true X (NTr.later (NAt.nt hB.nat) hX) (by omega)
    · exact evals_any bl X (AAt.later (I := I) (fun b _ hl => hX.block b hl) _ hB) (nodup_part (hW.nodup hA) bl hbm) (ill_parts hi bl hbm) (by omega)
  refine (fn_core w a.p tb mb pre.length pr.p bl.p a.kd a.tx st (strictT bl.tr) (evalsT bl.tr) _ _ oa hkd hK).mono ?_
  rintro e w' ⟨⟨b, nv, v2, rfl, hb1, hb2, hb3, hlam⟩, hbw⟩
  refine ⟨⟨sPtr b, rfl, ?_⟩, hbw⟩
  have hCw : Chn (fun b => I b ∨ (w.heap.size ≤ b ∧ b < w'.heap.size)) w' (.pointer oa) ch := Chn.later (fun b _ hl => hbw.block b hl) _ _ (Chn.mono (fun b hb _ => Or.inl hb) _ _ hC)
  have hlow : ∀ b', Value.pointer oa = sPtr b' → b' < w.heap.size := by
    intro b' e
    rcases hC.form with h | ⟨b2, h, hl⟩
    · rw [h] at e; cases e
    · rw [h] at e; cases e; exact hl
  obtain ⟨t1, t2, _⟩ := a.tr_eq
  unfold fnSc
  rw [t1, t2]
  have hsz := hbw.size
  refine ⟨b, nv, v2, rfl, Or.inr ⟨hb1, lt_of_heap hb2⟩, hb2, owns_zero hb3, fun g hg => Or.inr ⟨(own_lt hb3 g hg).2, (own_lt hb3 g hg).1⟩, ?_, ?_, ?_⟩
  · show ((List.map Tr.tx pr.tr.kids ++ [tArguments]) ++ namesT bl.tr true).length ≤ 100000
    simp only [List.length_append, List.length_map, List.length_cons, List.length_nil]
    omega
  · intro b' e
    rcases hlam with ⟨_, rfl⟩ | ⟨_, b2, nv2, rfl, _, h2, _⟩
    · have := hlow b' e; omega
    · cases e; exact h2
  · rcases hlam with ⟨h1, rfl⟩ | ⟨h1, b2, nv2, rfl, h2, h3, h4, h5⟩
    · rw [h1, if_neg (by decide)]
      exact hCw
    · rw [h1, if_pos rfl]
      exact ⟨b2, nv2, .pointer oa, rfl, Or.inr ⟨h2, lt_of_heap h4⟩, h4, owns_zero h5, fun g hg => Or.inr ⟨(own_lt h5 g hg).2, (own_lt h5 g hg).1⟩, by simp, fun b' e => by have := hlow b' e; omega, hCw⟩

theorem tlD (w : World) (p tb : Nat) (oa : Option Addr) (st sb : Bool) (kd : Int) (ka : Option Addr) (kn kc : Nat) (Q : World → Prop) (c0 : w.cell? ⟨p, 0, none⟩ = some (.int .i64 kd)) (c3 : w.cell? ⟨p, 3, none⟩ = some (.slice ka kn kc))
    (n23 : (kd == 23) = false) (n1 : (kd == 1) = false) (n6 : (kd == 6) = false) (n13 : (kd == 13) = false) (n9 : (kd == 9) = false) (n5 : (kd == 5) = false) (n37 : (kd == 37) = false) (n40 : (kd == 40) = false)
    (hst : ∀ X, Below w.heap.size w X → Calls Tryz.prog 118 #[nPtr p] X fun e w' => e = .returned (.bool sb) ∧ w' = X)
    (hta : ∀ X, Below w.heap.size w X → Calls Tryz.prog 127 #[sPtr tb, .slice ka kn kc, plV2 (.pointer oa) (st || sb)] X fun e w' => e = .returned (.tuple #[]) ∧ Q w') :
    Calls Tryz.prog 68 #[sPtr tb, nPtr p, plV2 (.pointer oa) st] w fun e w' => e = .returned (.tuple #[]) ∧ Q w' := by
  have hpl := cell_lt c0
  have HC3 := hide c3
  have HST := hide hst
  have HTA := hide hta
  clear hst hta
  cases st with
  | true =>
    rw [Bool.true_or] at HTA
    have hbA : Below w.heap.size w (w.alloc (.cells #[.pointer oa, .bool true] 112)) := (Below.refl _ _).alloc (Nat.le_refl _) _
    obtain ⟨w2, hw2⟩ : ∃ w2, w2 = w.alloc (.cells #[.pointer oa, .bool true] 112) := ⟨_, rfl⟩
    have HB2 : Hid (Below w.heap.size w w2) := by show Below _ _ _; rw [hw2]; exact (Below.refl _ _).alloc (Nat.le_refl _) _
    have HP2 : Hid (w2.heap[w.heap.size]? = some (.cells #[.pointer oa, .bool true] 112 (0, 0))) := by show _ = _; rw [hw2]; exact heap_new _ _
    have HW2 := hide hw2
    clear hw2
    go_enter Tryz.func68, Tryz.ntmps68
    go_wp2_with fail
    rw [← unhide HW2]
    have HX0 : Hid (w2.cell? ⟨w.heap.size, 0, none⟩ = some (.pointer oa)) := by show _ = _; rw [cell_of (unhide HP2)]; rfl
    have HX1 : Hid (w2.cell? ⟨w.heap.size, 1, none⟩ = some (.bool true)) := by show _ = _; rw [cell_of (unhide HP2)]; rfl
    have HK3 : Hid (w2.cell? ⟨p, 3, none⟩ = some (.slice ka kn kc)) := keepC (unhide HB2) (unhide HC3)
    have hS0 : Below w2.heap.size w2 w2.drew := (Below.refl _ _).drew
    refine wp_region_U 6 (fun X => Below w2.heap.size w2 X) (by kernel_rfl) ?_
    refine uh 0 (sPtr tb) hS0 ?_
    refine uh 1 (nPtr p) hS0 ?_
    refine uh 2 (nPtr p) hS0 ?_
    refine uh 3 (.pointer (some ⟨p, 3, none⟩)) hS0 ?_
    refine ug 4 (.slice ka kn kc) rfl (Or.inl ⟨by kernel_rfl, fun X hX => by have h0 := keepC hX (unhide HK3); go_simp⟩) hS0 ?_
    refine ug 5 (plV2 (.pointer oa) true) rfl (Or.inl ⟨by kernel_rfl, fun X hX => by have h0 := keepC hX (unhide HX0); have h1 := keepC hX (unhide HX1); go_simp⟩) hS0 ?_
    refine uq1 6 fun K hK => ?_
    go_simp
    refine Calls.mono (unhide HTA _ ((unhide HB2).trans ((Below.refl _ _).drew.mono (unhide HB2).size))) ?_
    rintro e w9 ⟨rfl, hq9⟩
    refine hK.out _ _ (fun e => by cases e) ?_
    clear hK K
    refine udone (by kernel_rfl) ?_ _
    have HQ9 := hide hq9
    clear hq9 hS0
    go_simp
    go_end0
    exact ⟨rfl, unhide HQ9⟩
  | false =>
    rw [Bool.false_or] at HTA
    have hbA : Below w.heap.size w (w.alloc (.cells #[.pointer oa, .bool false] 112)) := (Below.refl _ _).alloc (Nat.le_refl _) _
    obtain ⟨w2, hw2⟩ : ∃ w2, w2 = w.alloc (.cells #[.pointer oa, .bool sb] 112) := ⟨_, rfl⟩
    have HB2 : Hid (Below w.heap.size w w2) := by show Below _ _ _; rw [hw2]; exact (Below.refl _ _).alloc (Nat.le_refl _) _
    have HP2 : Hid (w2.heap[w.heap.size]? = some (.cells #[.pointer oa, .bool sb] 112 (0, 0))) := by show _ = _; rw [hw2]; exact heap_new _ _
    have HW2 := hide hw2
    clear hw2
    go_enter Tryz.func68, Tryz.ntmps68
    go_wp2_with fail
    refine Calls.mono (unhide HST _ hbA) ?_
    rintro e wx ⟨rfl, hwx⟩
    rw [hwx]
    clear hwx wx
    go_wp2_with fail
    rw [← unhide HW2]
    have HX0 : Hid (w2.cell? ⟨w.heap.size, 0, none⟩ = some (.pointer oa)) := by show _ = _; rw [cell_of (unhide HP2)]; rfl
    have HX1 : Hid (w2.cell? ⟨w.heap.size, 1, none⟩ = some (.bool sb)) := by show _ = _; rw [cell_of (unhide HP2)]; rfl
    have HK3 : Hid (w2.cell? ⟨p, 3, none⟩ = some (.slice ka kn kc)) := keepC (unhide HB2) (unhide HC3)
    have hS0 : Below w2.heap.size w2 w2.drew := (Below.refl _ _).drew
    refine wp_region_U 6 (fun X => Below w2.heap.size w2 X) (by kernel_rfl) ?_
    refine uh 0 (sPtr tb) hS0 ?_
    refine uh 1 (nPtr p) hS0 ?_
    refine uh 2 (nPtr p) hS0 ?_
    refine uh 3 (.pointer (some ⟨p, 3, none⟩)) hS0 ?_
    refine ug 4 (.slice ka kn kc) rfl (Or.inl ⟨by kernel_rfl, fun X hX => by have h0 := keepC hX (unhide HK3); go_simp⟩) hS0 ?_
    refine ug 5 (plV2 (.pointer oa) sb) rfl (Or.inl ⟨by kernel_rfl, fun X hX => by have h0 := keepC hX (unhide HX0); have h1 := keepC hX (unhide HX1); go_simp⟩) hS0 ?_
    refine uq1 6 fun K hK => ?_
    go_simp
    refine Calls.mono (unhide HTA _ ((unhide HB2).trans ((Below.refl _ _).drew.mono (unhide HB2).size))) ?_
    rintro e w9 ⟨rfl, hq9⟩
    refine hK.out _ _ (fun e => by cases e) ?_
    clear hK K
    refine udone (by kernel_rfl) ?_ _
    have HQ9 := hide hq9
    clear hq9 hS0
    go_simp
    go_end0
    exact ⟨rfl, unhide HQ9⟩

theorem tl40 (w : World) (p tb : Nat) (oa : Option Addr) (st sb : Bool) (Q : World → Prop) (c0 : w.cell? ⟨p, 0, none⟩ = some (.int .i64 40))
    
    (hst : ∀ X, Below w.heap.size w X → Calls Tryz.prog 118 #[nPtr p] X fun e w' => e = .returned (.bool sb) ∧ w' = X)
    (hq : ∀ X, Below w.heap.size w X → Q X) :
    Calls Tryz.prog 68 #[sPtr tb, nPtr p, plV2 (.pointer oa) st] w fun e w' => e = .returned (.tuple #[]) ∧ Q w' := by
  have hpl := cell_lt c0
  have HST := hide hst
  have HQ := hide hq
  clear hst hq
  cases st with
  | true =>
    have hbA : Below w.heap.size w (w.alloc (.cells #[.pointer oa, .bool true] 112)) := (Below.refl _ _).alloc (Nat.le_refl _) _
    obtain ⟨w2, hw2⟩ : ∃ w2, w2 = w.alloc (.cells #[.pointer oa, .bool true] 112) := ⟨_, rfl⟩
    have HB2 : Hid (Below w.heap.size w w2) := by show Below _ _ _; rw [hw2]; exact (Below.refl _ _).alloc (Nat.le_refl _) _
    have HP2 : Hid (w2.heap[w.heap.size]? = some (.cells #[.pointer oa, .bool true] 112 (0, 0))) := by show _ = _; rw [hw2]; exact heap_new _ _
    have HW2 := hide hw2
    clear hw2
    go_enter Tryz.func68, Tryz.ntmps68
    go_wp2_with fail
    rw [← unhide HW2]
    exact bodyPost_ret (v := .tuple #[]) (by simp [results, Tryz.results68, go_sem]) rfl ⟨rfl, unhide HQ _ (unhide HB2)⟩
  | false =>
    have hbA : Below w.heap.size w (w.alloc (.cells #[.pointer oa, .bool false] 112)) := (Below.refl _ _).alloc (Nat.le_refl _) _
    obtain ⟨w2, hw2⟩ : ∃ w2, w2 = w.alloc (.cells #[.pointer oa, .bool sb] 112) := ⟨_, rfl⟩
    have HB2 : Hid (Below w.heap.size w w2) := by show Below _ _ _; rw [hw2]; exact (Below.refl _ _).alloc (Nat.le_refl _) _
    have HP2 : Hid (w2.heap[w.heap.size]? = some (.cells #[.pointer oa, .bool sb] 112 (0, 0))) := by show _ = _; rw [hw2]; exact heap_new _ _
    have HW2 := hide hw2
    clear hw2
    go_enter Tryz.func68, Tryz.ntmps68
    go_wp2_with fail
    refine Calls.mono (unhide HST _ hbA) ?_
    rintro e wx ⟨rfl, hwx⟩
    rw [hwx]
    clear hwx wx
    go_wp2_with fail
    rw [← unhide HW2]
    exact bodyPost_ret (v := .tuple #[]) (by simp [results, Tryz.results68, go_sem]) rfl ⟨rfl, unhide HQ _ (unhide HB2)⟩

theorem tl6 (w : World) (p tb mb no : Nat) (oa : Option Addr) (st sb : Bool) (ka : Option Addr) (kn kc : Nat) (N : List ByteArray) (Q : World → Prop) (c0 : w.cell? ⟨p, 0, none⟩ = some (.int .i64 6)) (c3 : w.cell? ⟨p, 3, none⟩ = some (.slice ka kn kc))
    (t0 : w.cell? ⟨tb, 0, none⟩ = some (.map (some mb))) (hnum : ∀ X, Below w.heap.size w X → (Instr.lookup 44 (.map (some mb)) (nPtr p) false).run Tryz.prog X = .ok (.int .i64 (no : Int)) X)
    (hnm : ∀ X, Below w.heap.size w X → Calls Tryz.prog 113 #[nPtr p, .bool false] X fun e w' => (∃ u, e = .returned u ∧ SRow X.heap.size w' u N) ∧ Below X.heap.size X w')
    (hst : ∀ X, Below w.heap.size w X → Calls Tryz.prog 118 #[nPtr p] X fun e w' => e = .returned (.bool sb) ∧ w' = X)
    (hta : ∀ X b nv, Below w.heap.size w X → w.heap.size ≤ b → X.heap[b]? = some (scObj no nv false (.pointer oa)) → SRow w.heap.size X nv N → Calls Tryz.prog 127 #[sPtr tb, .slice ka kn kc, plV2 (sPtr b) (st || sb)] X fun e w' => e = .returned (.tuple #[]) ∧ Q w') :
    Calls Tryz.prog 68 #[sPtr tb, nPtr p, plV2 (.pointer oa) st] w fun e w' => e = .returned (.tuple #[]) ∧ Q w' := by
  have hpl := cell_lt c0
  have HC3 := hide c3
  have HST := hide hst
  have HTA := hide hta
  have HNUM := hide hnum
  have HT0 := hide t0
  have htl := cell_lt t0
  have HNM := hide hnm
  clear hst hta hnum t0 hnm
  cases st with
  | true =>
    rw [Bool.true_or] at HTA
    have hbA : Below w.heap.size w (w.alloc (.cells #[.pointer oa, .bool true] 112)) := (Below.refl _ _).alloc (Nat.le_refl _) _
    obtain ⟨w2, hw2⟩ : ∃ w2, w2 = w.alloc (.cells #[.pointer oa, .bool true] 112) := ⟨_, rfl⟩
    have HB2 : Hid (Below w.heap.size w w2) := by show Below _ _ _; rw [hw2]; exact (Below.refl _ _).alloc (Nat.le_refl _) _
    have HP2 : Hid (w2.heap[w.heap.size]? = some (.cells #[.pointer oa, .bool true] 112 (0, 0))) := by show _ = _; rw [hw2]; exact heap_new _ _
    have HW2 := hide hw2
    clear hw2
    go_enter Tryz.func68, Tryz.ntmps68
    go_wp2_with fail
    rw [← unhide HW2]
    have hs2 : w2.heap.size = w.heap.size + 1 := by rw [unhide HW2]; simp
    have HX0 : Hid (w2.cell? ⟨w.heap.size, 0, none⟩ = some (.pointer oa)) := by show _ = _; rw [cell_of (unhide HP2)]; rfl
    have HX1 : Hid (w2.cell? ⟨w.heap.size, 1, none⟩ = some (.bool true)) := by show _ = _; rw [cell_of (unhide HP2)]; rfl
    have HT2 : Hid (w2.cell? ⟨tb, 0, none⟩ = some (.map (some mb))) := keepC (unhide HB2) (unhide HT0)
    obtain ⟨wd, hwd⟩ : ∃ wd, wd = w2.drew := ⟨_, rfl⟩
    have hS0 : Below w2.heap.size w2 wd := by rw [hwd]; exact (Below.refl _ _).drew
    refine wp_region_U 11 (fun X => Below w2.heap.size w2 X) (by kernel_rfl) ?_
    rw [← hwd]
    clear hwd
    refine ug 0 (plV2 (.pointer oa) true) rfl (Or.inl ⟨by kernel_rfl, fun X hX => by have h0 := keepC hX (unhide HX0); have h1 := keepC hX (unhide HX1); go_simp⟩) hS0 ?_
    refine uh 1 (sPtr tb) hS0 ?_
    refine uh 2 (sPtr tb) hS0 ?_
    refine uh 3 (.pointer (some ⟨tb, 0, none⟩)) hS0 ?_
    refine ug 4 (.map (some mb)) rfl (Or.inl ⟨by kernel_rfl, fun X hX => by have h0 := keepC hX (unhide HT2); go_simp⟩) hS0 ?_
    refine uh 5 (nPtr p) hS0 ?_
    refine ug 6 (.int .i64 (no : Int)) rfl (Or.inl ⟨by kernel_rfl, fun X hX => by have h0 := unhide HNUM X ((unhide HB2).trans (hX.mono (unhide HB2).size)); go_simp⟩) hS0 ?_
    refine uh 7 (nPtr p) hS0 ?_
    refine uq1 8 fun K hK => ?_
    go_simp
    refine Calls.mono (unhide HNM _ ((unhide HB2).trans (hS0.mono (unhide HB2).size))) ?_
    rintro e w3 ⟨⟨u3, rfl, hr3'⟩, hb3⟩
    have hS3 : Below w2.heap.size w2 w3 := hS0.trans (hb3.mono hS0.size)
    have hr3 : SRow w2.heap.size w3 u3 N := srow_mono hr3' hS0.size
    obtain ⟨a3, c3', rfl⟩ := srow_form hr3
    refine hK.out _ _ (fun _ => hS3) ?_
    clear hK K hS0 hb3 hr3'
    refine uh 9 (.agg #[.int .i64 (no : Int), .slice a3 N.length c3', .bool false, .pointer none]) hS3 ?_
    refine uq1 10 fun K hK => ?_
    go_simp
    refine Calls.mono (in_any oa true no a3 N.length c3' false none w3) ?_
    rintro e w4 ⟨⟨rfl, hk4⟩, hb4⟩
    have hS4 : Below w2.heap.size w2 w4 := hS3.trans (hb4.mono hS3.size)
    have hr4 := SRow.later hr3 hb4
    obtain ⟨b2, hb2e⟩ : ∃ b2, b2 = w3.heap.size + 1 := ⟨_, rfl⟩
    have hb2g : w2.heap.size ≤ b2 := by rw [hb2e]; have := hS3.size; omega
    rw [← hb2e] at hk4 ⊢
    have hp4 : w4.heap[w.heap.size]? = some (.cells #[.pointer oa, .bool true] 112 (0, 0)) := by rw [hS4.block _ (by omega)]; exact unhide HP2
    have q0' : w4.cell? ⟨w.heap.size, 0, none⟩ = some (.pointer oa) := by rw [cell_of hp4]; rfl
    have q1' : w4.cell? ⟨w.heap.size, 1, none⟩ = some (.bool true) := by rw [cell_of hp4]; rfl
    have qf := frozen_of hp4
    have hrl := lt_of_heap hp4
    refine hK.out _ _ (fun _ => hS4) ?_
    clear hK K hb2e
    refine uq1 11 fun K hK => ?_
    go_simp
    refine hK.out _ _ (fun e => by cases e) ?_
    clear hK K
    refine udone (by kernel_rfl) ?_ _
    go_simp
    obtain ⟨wz, hwz⟩ : ∃ wz, wz = (w4.setCell ⟨w.heap.size, 0, none⟩ (sPtr b2)).setCell ⟨w.heap.size, 1, none⟩ (.bool true) := ⟨_, rfl⟩
    rw [← hwz]
    have hset : ∀ k, k ≠ w.heap.size → wz.heap[k]? = w4.heap[k]? := fun k hk => by rw [hwz, ne_set hk, ne_set hk]
    have HPZ : Hid (wz.heap[w.heap.size]? = some (.cells #[sPtr b2, .bool true] 112 (0, 0))) := by show _ = _; rw [hwz, heap_set (heap_set hp4 _)]; rfl
    have HBZ : Hid (Below w.heap.size w wz) := by
      show Below _ _ _
      rw [hwz]
      exact (((unhide HB2).trans (hS4.mono (unhide HB2).size)).setCell (p := ⟨w.heap.size, 0, none⟩) (Nat.le_refl _) _).setCell (p := ⟨w.heap.size, 1, none⟩) (Nat.le_refl _) _
    have HLB : Hid (wz.heap[b2]? = some (scObj no (.slice a3 N.length c3') false (.pointer oa))) := (hset _ (by omega)).trans hk4
    have HLR : Hid (SRow w.heap.size wz (.slice a3 N.length c3') N) := srow_mono (owns_stay (I := fun b => w2.heap.size ≤ b) (fun b hb _ => hset b (by have h1 : w2.heap.size ≤ b := hb; omega)) (fun b hb => (own_lt hr4 b hb).2) hr4) (by omega)
    have HB2L : Hid (w.heap.size ≤ b2) := by show _ ≤ _; omega
    clear hwz hset hk4 hS4 hr4 hp4 q0' q1' qf hrl hb4 HX0 HX1 HT2 HB2 HP2 hs2 hS3 hb2g hr3 HW2
    go_wp2_with fail
    have HX0 : Hid (wz.cell? ⟨w.heap.size, 0, none⟩ = some (sPtr b2)) := by show _ = _; rw [cell_of (unhide HPZ)]; rfl
    have HX1 : Hid (wz.cell? ⟨w.heap.size, 1, none⟩ = some (.bool true)) := by show _ = _; rw [cell_of (unhide HPZ)]; rfl
    have HK3 : Hid (wz.cell? ⟨p, 3, none⟩ = some (.slice ka kn kc)) := keepC (unhide HBZ) (unhide HC3)
    have hS0 : Below wz.heap.size wz wz.drew := (Below.refl _ _).drew
    refine wp_region_U 6 (fun X => Below wz.heap.size wz X) (by kernel_rfl) ?_
    refine uh 0 (sPtr tb) hS0 ?_
    refine uh 1 (nPtr p) hS0 ?_
    refine uh 2 (nPtr p) hS0 ?_
    refine uh 3 (.pointer (some ⟨p, 3, none⟩)) hS0 ?_
    refine ug 4 (.slice ka kn kc) rfl (Or.inl ⟨by kernel_rfl, fun X hX => by have h0 := keepC hX (unhide HK3); go_simp⟩) hS0 ?_
    refine ug 5 (plV2 (sPtr b2) true) rfl (Or.inl ⟨by kernel_rfl, fun X hX => by have h0 := keepC hX (unhide HX0); have h1 := keepC hX (unhide HX1); go_simp⟩) hS0 ?_
    refine uq1 6 fun K hK => ?_
    go_simp
    refine Calls.mono (unhide HTA _ b2 _ ((unhide HBZ).trans ((Below.refl _ _).drew.mono (unhide HBZ).size)) (unhide HB2L) (unhide HLB) (unhide HLR)) ?_
    rintro e w9 ⟨rfl, hq9⟩
    refine hK.out _ _ (fun e => by cases e) ?_
    clear hK K
    refine udone (by kernel_rfl) ?_ _
    have HQ9 := hide hq9
    clear hq9 hS0
    go_simp
    go_end0
    exact ⟨rfl, unhide HQ9⟩
  | false =>
    rw [Bool.false_or] at HTA
    have hbA : Below w.heap.size w (w.alloc (.cells #[.pointer oa, .bool false] 112)) := (Below.refl _ _).alloc (Nat.le_refl _) _
    obtain ⟨w2, hw2⟩ : ∃ w2, w2 = w.alloc (.cells #[.pointer oa, .bool sb] 112) := ⟨_, rfl⟩
    have HB2 : Hid (Below w.heap.size w w2) := by show Below _ _ _; rw [hw2]; exact (Below.refl _ _).alloc (Nat.le_refl _) _
    have HP2 : Hid (w2.heap[w.heap.size]? = some (.cells #[.pointer oa, .bool sb] 112 (0, 0))) := by show _ = _; rw [hw2]; exact heap_new _ _
    have HW2 := hide hw2
    clear hw2
    go_enter Tryz.func68, Tryz.ntmps68
    go_wp2_with fail
    refine Calls.mono (unhide HST _ hbA) ?_
    rintro e wx ⟨rfl, hwx⟩
    rw [hwx]
    clear hwx wx
    go_wp2_with fail
    rw [← unhide HW2]
    have hs2 : w2.heap.size = w.heap.size + 1 := by rw [unhide HW2]; simp
    have HX0 : Hid (w2.cell? ⟨w.heap.size, 0, none⟩ = some (.pointer oa)) := by show _ = _; rw [cell_of (unhide HP2)]; rfl
    have HX1 : Hid (w2.cell? ⟨w.heap.size, 1, none⟩ = some (.bool sb)) := by show _ = _; rw [cell_of (unhide HP2)]; rfl
    have HT2 : Hid (w2.cell? ⟨tb, 0, none⟩ = some (.map (some mb))) := keepC (unhide HB2) (unhide HT0)
    obtain ⟨wd, hwd⟩ : ∃ wd, wd = w2.drew := ⟨_, rfl⟩
    have hS0 : Below w2.heap.size w2 wd := by rw [hwd]; exact (Below.refl _ _).drew
    refine wp_region_U 11 (fun X => Below w2.heap.size w2 X) (by kernel_rfl) ?_
    rw [← hwd]
    clear hwd
    refine ug 0 (plV2 (.pointer oa) sb) rfl (Or.inl ⟨by kernel_rfl, fun X hX => by have h0 := keepC hX (unhide HX0); have h1 := keepC hX (unhide HX1); go_simp⟩) hS0 ?_
    refine uh 1 (sPtr tb) hS0 ?_
    refine uh 2 (sPtr tb) hS0 ?_
    refine uh 3 (.pointer (some ⟨tb, 0, none⟩)) hS0 ?_
    refine ug 4 (.map (some mb)) rfl (Or.inl ⟨by kernel_rfl, fun X hX => by have h0 := keepC hX (unhide HT2); go_simp⟩) hS0 ?_
    refine uh 5 (nPtr p) hS0 ?_
    refine ug 6 (.int .i64 (no : Int)) rfl (Or.inl ⟨by kernel_rfl, fun X hX => by have h0 := unhide HNUM X ((unhide HB2).trans (hX.mono (unhide HB2).size)); go_simp⟩) hS0 ?_
    refine uh 7 (nPtr p) hS0 ?_
    refine uq1 8 fun K hK => ?_
    go_simp
    refine Calls.mono (unhide HNM _ ((unhide HB2).trans (hS0.mono (unhide HB2).size))) ?_
    rintro e w3 ⟨⟨u3, rfl, hr3'⟩, hb3⟩
    have hS3 : Below w2.heap.size w2 w3 := hS0.trans (hb3.mono hS0.size)
    have hr3 : SRow w2.heap.size w3 u3 N := srow_mono hr3' hS0.size
    obtain ⟨a3, c3', rfl⟩ := srow_form hr3
    refine hK.out _ _ (fun _ => hS3) ?_
    clear hK K hS0 hb3 hr3'
    refine uh 9 (.agg #[.int .i64 (no : Int), .slice a3 N.length c3', .bool false, .pointer none]) hS3 ?_
    refine uq1 10 fun K hK => ?_
    go_simp
    refine Calls.mono (in_any oa sb no a3 N.length c3' false none w3) ?_
    rintro e w4 ⟨⟨rfl, hk4⟩, hb4⟩
    have hS4 : Below w2.heap.size w2 w4 := hS3.trans (hb4.mono hS3.size)
    have hr4 := SRow.later hr3 hb4
    obtain ⟨b2, hb2e⟩ : ∃ b2, b2 = w3.heap.size + 1 := ⟨_, rfl⟩
    have hb2g : w2.heap.size ≤ b2 := by rw [hb2e]; have := hS3.size; omega
    rw [← hb2e] at hk4 ⊢
    have hp4 : w4.heap[w.heap.size]? = some (.cells #[.pointer oa, .bool sb] 112 (0, 0)) := by rw [hS4.block _ (by omega)]; exact unhide HP2
    have q0' : w4.cell? ⟨w.heap.size, 0, none⟩ = some (.pointer oa) := by rw [cell_of hp4]; rfl
    have q1' : w4.cell? ⟨w.heap.size, 1, none⟩ = some (.bool sb) := by rw [cell_of hp4]; rfl
    have qf := frozen_of hp4
    have hrl := lt_of_heap hp4
    refine hK.out _ _ (fun _ => hS4) ?_
    clear hK K hb2e
    refine uq1 11 fun K hK => ?_
    go_simp
    refine hK.out _ _ (fun e => by cases e) ?_
    clear hK K
    refine udone (by kernel_rfl) ?_ _
    go_simp
    obtain ⟨wz, hwz⟩ : ∃ wz, wz = (w4.setCell ⟨w.heap.size, 0, none⟩ (sPtr b2)).setCell ⟨w.heap.size, 1, none⟩ (.bool sb) := ⟨_, rfl⟩
    rw [← hwz]
    have hset : ∀ k, k ≠ w.heap.size → wz.heap[k]? = w4.heap[k]? := fun k hk => by rw [hwz, ne_set hk, ne_set hk]
    have HPZ : Hid (wz.heap[w.heap.size]? = some (.cells #[sPtr b2, .bool sb] 112 (0, 0))) := by show _ = _; rw [hwz, heap_set (heap_set hp4 _)]; rfl
    have HBZ : Hid (Below w.heap.size w wz) := by
      show Below _ _ _
      rw [hwz]
      exact (((unhide HB2).trans (hS4.mono (unhide HB2).size)).setCell (p := ⟨w.heap.size, 0, none⟩) (Nat.le_refl _) _).setCell (p := ⟨w.heap.size, 1, none⟩) (Nat.le_refl _) _
    have HLB : Hid (wz.heap[b2]? = some (scObj no (.slice a3 N.length c3') false (.pointer oa))) := (hset _ (by omega)).trans hk4
    have HLR : Hid (SRow w.heap.size wz (.slice a3 N.length c3') N) := srow_mono (owns_stay (I := fun b => w2.heap.size ≤ b) (fun b hb _ => hset b (by have h1 : w2.heap.size ≤ b := hb; omega)) (fun b hb => (own_lt hr4 b hb).2) hr4) (by omega)
    have HB2L : Hid (w.heap.size ≤ b2) := by show _ ≤ _; omega
    clear hwz hset hk4 hS4 hr4 hp4 q0' q1' qf hrl hb4 HX0 HX1 HT2 HB2 HP2 hs2 hS3 hb2g hr3 HW2
    go_wp2_with fail
    have HX0 : Hid (wz.cell? ⟨w.heap.size, 0, none⟩ = some (sPtr b2)) := by show _ = _; rw [cell_of (unhide HPZ)]; rfl
    have HX1 : Hid (wz.cell? ⟨w.heap.size, 1, none⟩ = some (.bool sb)) := by show _ = _; rw [cell_of (unhide HPZ)]; rfl
    have HK3 : Hid (wz.cell? ⟨p, 3, none⟩ = some (.slice ka kn kc)) := keepC (unhide HBZ) (unhide HC3)
    have hS0 : Below wz.heap.size wz wz.drew := (Below.refl _ _).drew
    refine wp_region_U 6 (fun X => Below wz.heap.size wz X) (by kernel_rfl) ?_
    refine uh 0 (sPtr tb) hS0 ?_
    refine uh 1 (nPtr p) hS0 ?_
    refine uh 2 (nPtr p) hS0 ?_
    refine uh 3 (.pointer (some ⟨p, 3, none⟩)) hS0 ?_
    refine ug 4 (.slice ka kn kc) rfl (Or.inl ⟨by kernel_rfl, fun X hX => by have h0 := keepC hX (unhide HK3); go_simp⟩) hS0 ?_
    refine ug 5 (plV2 (sPtr b2) sb) rfl (Or.inl ⟨by kernel_rfl, fun X hX => by have h0 := keepC hX (unhide HX0); have h1 := keepC hX (unhide HX1); go_simp⟩) hS0 ?_
    refine uq1 6 fun K hK => ?_
    go_simp
    refine Calls.mono (unhide HTA _ b2 _ ((unhide HBZ).trans ((Below.refl _ _).drew.mono (unhide HBZ).size)) (unhide HB2L) (unhide HLB) (unhide HLR)) ?_
    rintro e w9 ⟨rfl, hq9⟩
    refine hK.out _ _ (fun e => by cases e) ?_
    clear hK K
    refine udone (by kernel_rfl) ?_ _
    have HQ9 := hide hq9
    clear hq9 hS0
    go_simp
    go_end0
    exact ⟨rfl, unhide HQ9⟩
end Go.Proofs.YtoimgcjbcbhclaaGreatDoor
