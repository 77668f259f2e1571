/-
  tell: names.
-/
import Derived.Test.YtoimgcjbcbhclaaGreatDoorWh34
set_option maxRecDepth 100000
set_option maxHeartbeats 16000000
namespace Go.Proofs.YtoimgcjbcbhclaaGreatDoor
open Go.RowKit

theorem info56 : (Tryz.prog.info? 56).map (fun i => (i.zero, i.size, i.bytes)) = some (some (.agg #[.int .i64 0, .int .i64 0, .bool false]), 3, 24) := by kernel_rfl
/-- One use more. -/
theorem TW.push {I : Nat → Prop} {tb mb : Nat} {A : List Nat} {L : List Us} {w w3 : World} {v : Value} {g cap n : Nat} {u : Us} (h : TW I tb mb A L w) (hv : w.heap[tb]? = some (.cells #[.map (some mb), v] 108 (0, 0)))
    (hn : n = L.length + 1) (hown : w3.ownsRow 0 56 3 (.slice (some ⟨g, 0, none⟩) n cap) n (usCells (L ++ [u]))) (hgr : w.grownBy w3 v.ownBlock) (hg : v.ownBlock = some g ∨ w.heap.size ≤ g) :
    TW I tb mb A (L ++ [u]) (w3.setCell ⟨tb, 1, none⟩ (.slice (some ⟨g, 0, none⟩) n cap)) ∧ Fm (fun b => b < w.heap.size ∧ b ≠ tb ∧ v.ownBlock ≠ some b) w (w3.setCell ⟨tb, 1, none⟩ (.slice (some ⟨g, 0, none⟩) n cap)) := by
  obtain ⟨⟨v', h1, h2, h3, h4⟩, h5, h6, h7, h8, h9⟩ := h
  have hvv : v' = v := by rw [hv] at h1; simpa using h1.symm
  subst hvv
  subst hn
  have hset : ∀ k, k ≠ tb → (w3.setCell ⟨tb, 1, none⟩ (.slice (some ⟨g, 0, none⟩) (L.length + 1) cap)).heap[k]? = w3.heap[k]? := fun k hk => ne_set hk _
  have hst : ∀ k, k < w.heap.size → k ≠ tb → v'.ownBlock ≠ some k → (w3.setCell ⟨tb, 1, none⟩ (.slice (some ⟨g, 0, none⟩) (L.length + 1) cap)).heap[k]? = w.heap[k]? := fun k a b c => (hset k b).trans (hgr.block k a (fun e => c e.symm))
  have htb : w3.heap[tb]? = some (.cells #[.map (some mb), v'] 108 (0, 0)) := (hgr.block tb (lt_of_heap h1) (fun e => h4 e.symm)).trans h1
  have hsz : w.heap.size ≤ (w3.setCell ⟨tb, 1, none⟩ (.slice (some ⟨g, 0, none⟩) (L.length + 1) cap)).heap.size := by simpa using hgr.size
  have hgt : g ≠ tb := by
    rcases hg with hg | hg
    · exact fun e => h4 (by rw [hg, e])
    · have := lt_of_heap h1; omega
  have hfm : Fm (fun b => b < w.heap.size ∧ b ≠ tb ∧ v'.ownBlock ≠ some b) w (w3.setCell ⟨tb, 1, none⟩ (.slice (some ⟨g, 0, none⟩) (L.length + 1) cap)) := ⟨hgr.os, hgr.tape, hgr.output, hsz, fun b hb _ => hst b hb.1 hb.2.1 hb.2.2⟩
  have hI : ∀ b, I b → b < w.heap.size ∧ b ≠ tb ∧ v'.ownBlock ≠ some b := fun b hb => ⟨(h7 b hb).1, (h7 b hb).2, h3 b hb⟩
  refine ⟨⟨⟨.slice (some ⟨g, 0, none⟩) (L.length + 1) cap, by rw [heap_set htb]; rfl, ?_, fun b hb e => ?_, fun e => ?_⟩, ?_, h6, fun b hb => ⟨Nat.lt_of_lt_of_le (h7 b hb).1 hsz, (h7 b hb).2⟩, fun p hp => ⟨(h8 p hp).1, Cl.fm hfm (hI p (h8 p hp).1) (h8 p hp).2⟩, h9⟩, hfm⟩
  · rw [List.length_append]
    exact owns_stay (I := fun b => b = g) (fun b hb _ => hset b (by rw [hb]; exact hgt)) (fun b hb => by simpa [Value.ownBlock] using hb.symm) hown
  · have e2 : g = b := by simpa [Value.ownBlock] using e
    subst e2
    rcases hg with hg | hg
    · exact h3 g hb hg
    · have := (h7 g hb).1; omega
  · exact hgt (by simpa [Value.ownBlock] using e)
  · rw [hst mb (lt_of_heap h5) (h7 mb h6).2 (h3 mb h6)]
    exact h5
theorem us_cells (w : World) (a b : Int) (c : Bool) (t : TypeId) (H : Nat) (h : w.heap.size = H) : ∀ j u, (usC (a, b, c))[j]? = some u → (w.alloc (.cells #[.int .i64 a, .int .i64 b, .bool c] t)).cell? ((⟨H, 0, none⟩ : Addr).add j) = some u := by
  intro j u hj
  subst h
  have h0 : ∀ k, (w.alloc (.cells #[.int .i64 a, .int .i64 b, .bool c] t)).cell? ((⟨w.heap.size, 0, none⟩ : Addr).add k) = #[Value.int .i64 a, .int .i64 b, .bool c][k]? := fun k => by
    rw [Addr.add_mid, Nat.zero_add, cell_of (heap_new _ _)]
  rw [h0]
  match j, hj with
  | 0, hj => simpa [usC] using hj
  | 1, hj => simpa [usC] using hj
  | 2, hj => simpa [usC] using hj
  | _ + 3, hj => simp [usC] at hj
theorem us_one (u : Us) : ∀ x ∈ usC u, x.oneCell' = true := by
  intro x hx
  simp only [usC, List.mem_cons, List.not_mem_nil, or_false] at hx
  rcases hx with rfl | rfl | rfl <;> rfl

theorem tl23 (w : World) (p tb mb no : Nat) (oa : Option Addr) (st sb : Bool) (ka : Option Addr) (kn kc : Nat) (tx : ByteArray) (ow : Int) (su : Bool) (I : Nat → Prop) (A : List Nat) (L : List Us) (Q : World → Prop) (c0 : w.cell? ⟨p, 0, none⟩ = some (.int .i64 23)) (c1 : w.cell? ⟨p, 1, none⟩ = some (.string tx)) (c3 : w.cell? ⟨p, 3, none⟩ = some (.slice ka kn kc)) (hIp : I p) (hL : L.length ≤ 20000)
    (hW : TW I tb mb A L w) (hnum : ∀ X, Fm I w X → (Instr.lookup 44 (.map (some mb)) (nPtr p) false).run Tryz.prog X = .ok (.int .i64 (no : Int)) X)
    (hst : ∀ X, Below w.heap.size w X → Calls Tryz.prog 118 #[nPtr p] X fun e w' => e = .returned (.bool sb) ∧ w' = X)
    (hfi : ∀ X, Below w.heap.size w X → Calls Tryz.prog 123 #[.pointer oa, .string tx] X fun e w' => e = .returned (.tuple #[.int .i64 ow, .bool su]) ∧ w' = X)
    (hta : ∀ X, TW I tb mb A (L ++ [((no : Int), ow, su)]) X → Fm I w X → Calls Tryz.prog 127 #[sPtr tb, .slice ka kn kc, plV2 (.pointer oa) (st || sb)] X fun e w' => e = .returned (.tuple #[]) ∧ Q w') :
    Calls Tryz.prog 68 #[sPtr tb, nPtr p, plV2 (.pointer oa) st] w fun e w' => e = .returned (.tuple #[]) ∧ Q w' := by
  obtain ⟨i0, hi0, hz0, hz1, hz2⟩ := info_parts info56
  have hpl := cell_lt c0
  have hn3 := (hW.ne p hIp).2
  have HC3 := hide c3
  have HC1 := hide c1
  have HIP := hide hIp
  have HW := hide hW
  have HNUM := hide hnum
  have HST := hide hst
  have HFI := hide hfi
  have HTA := hide hta
  clear hst hta hfi c3 c1 hIp hW hnum
  cases st with
  | true =>
    rw [Bool.true_or] at HTA
    have hbA : Below w.heap.size w (w.alloc (.cells #[.pointer oa, .bool true] 112)) := (Below.refl _ _).alloc (Nat.le_refl _) _
    obtain ⟨w2, hw2⟩ : ∃ w2, w2 = w.alloc (.cells #[.pointer oa, .bool true] 112) := ⟨_, rfl⟩
    have HB2 : Hid (Below w.heap.size w w2) := by show Below _ _ _; rw [hw2]; exact (Below.refl _ _).alloc (Nat.le_refl _) _
    have HP2 : Hid (w2.heap[w.heap.size]? = some (.cells #[.pointer oa, .bool true] 112 (0, 0))) := by show _ = _; rw [hw2]; exact heap_new _ _
    have HW2 := hide hw2
    clear hw2
    go_enter Tryz.func68, Tryz.ntmps68
    go_wp2_with fail
    rw [← unhide HW2]
    have hs2 : w2.heap.size = w.heap.size + 1 := by rw [unhide HW2]; simp
    have HX0 : Hid (w2.cell? ⟨w.heap.size, 0, none⟩ = some (.pointer oa)) := by show _ = _; rw [cell_of (unhide HP2)]; rfl
    have HX1 : Hid (w2.cell? ⟨w.heap.size, 1, none⟩ = some (.bool true)) := by show _ = _; rw [cell_of (unhide HP2)]; rfl
    have HK3 : Hid (w2.cell? ⟨p, 3, none⟩ = some (.slice ka kn kc)) := keepC (unhide HB2) (unhide HC3)
    have HK1 : Hid (w2.cell? ⟨p, 1, none⟩ = some (.string tx)) := keepC (unhide HB2) (unhide HC1)
    obtain ⟨wd, hwd⟩ : ∃ wd, wd = w2.drew := ⟨_, rfl⟩
    have hS0 : Below w2.heap.size w2 wd := by rw [hwd]; exact (Below.refl _ _).drew
    have hsd : wd.heap.size = w2.heap.size := by rw [hwd]; rfl
    refine wp_region_held (S := fun X => X = wd) (by kernel_rfl) ?_
    change wpAnyH _ _ _ _ _ _ _ _ (World.drew _)
    rw [← hwd]
    have HSD := hide hsd
    have j0 := keepC hS0 (unhide HX0)
    have j1 := keepC hS0 (unhide HK1)
    have hl0 := cell_lt j0
    have hl1 := cell_lt j1
    clear hwd hsd
    refine wh 0 (.pointer (some ⟨w.heap.size, 0, none⟩)) rfl ?_
    refine wh 1 (.pointer oa) rfl ?_ (hy := Or.inl ⟨by kernel_rfl, fun X hX => by cases hX; go_simp⟩)
    refine wh 2 (nPtr p) rfl ?_
    refine wh 3 (nPtr p) rfl ?_
    refine wh 4 (.pointer (some ⟨p, 1, none⟩)) rfl ?_
    refine wh 5 (.string tx) rfl ?_ (hy := Or.inl ⟨by kernel_rfl, fun X hX => by cases hX; go_simp⟩)
    refine wq1 6 fun K hK => ?_
    go_simp
    refine Calls.mono (unhide HFI _ ((unhide HB2).trans (hS0.mono (unhide HB2).size))) ?_
    rintro e w3 ⟨rfl, hw3⟩
    rw [hw3]
    refine hK.out _ _ rfl (fun _ => ?_)
    clear hK K hw3 w3
    refine wh 7 (.tuple #[.int .i64 ow, .bool su]) rfl ?_
    refine wh 8 (.int .i64 ow) rfl ?_
    refine wh 9 (.bool su) rfl ?_
    refine wh 10 (.int .i64 ow) rfl ?_
    refine wh 11 (.bool su) rfl ?_
    refine wpAnyH_done (by kernel_rfl) ?_ _
    clear j0 j1 hl0 hl1
    go_simp
    go_wp2_with fail
    have HBD := hide ((unhide HB2).trans (hS0.mono (unhide HB2).size))
    have hJ : TW (fun b => I b ∨ (w.heap.size ≤ b ∧ b < wd.heap.size)) tb mb A L wd := (unhide HW).more (unhide HBD)
    have hpJ : w.heap.size ≤ w.heap.size ∧ w.heap.size < wd.heap.size := ⟨Nat.le_refl _, by have := unhide HSD; omega⟩
    obtain ⟨v, hv, hrow, _, hvt⟩ := hJ.blk
    have HX0' := hide (keepC hS0 (unhide HX0))
    have HX1' := hide (keepC hS0 (unhide HX1))
    have HK3' := hide (keepC hS0 (unhide HK3))
    have HV := hide hv
    have HROW := hide hrow
    have HVT := hide hvt
    have HJ := hide hJ
    have HPJ := hide hpJ
    obtain ⟨va, vc, rfl⟩ := srow_form hrow
    clear hJ hpJ hv hrow hvt hS0 HX0 HX1 HK3 HK1 HSD HB2 HP2 hs2 HW2 hbA
    obtain ⟨we, hwe⟩ : ∃ we, we = wd.drew := ⟨_, rfl⟩
    have hE0 : Below wd.heap.size wd we := by rw [hwe]; exact (Below.refl _ _).drew
    have hse : we.heap.size = wd.heap.size := by rw [hwe]; rfl
    refine wp_region_U 18 (fun X => Fm (fun b => (I b ∨ (w.heap.size ≤ b ∧ b < wd.heap.size)) ∨ b = tb) wd X) (by kernel_rfl) ?_
    rw [← hwe]
    have HSE := hide hse
    clear hwe hse
    have hS0 : Fm (fun b => (I b ∨ (w.heap.size ≤ b ∧ b < wd.heap.size)) ∨ b = tb) wd we := Fm.of hE0
    have htl := lt_of_heap (unhide HV)
    have HT0 : Hid (∀ X, Fm (fun b => (I b ∨ (w.heap.size ≤ b ∧ b < wd.heap.size)) ∨ b = tb) wd X → X.cell? ⟨tb, 0, none⟩ = some (.map (some mb))) := fun X hX => by rw [hX.cell (Or.inr rfl) (lt_of_heap (unhide HV)), cell_of (unhide HV)]; rfl
    have HT1 : Hid (∀ X, Fm (fun b => (I b ∨ (w.heap.size ≤ b ∧ b < wd.heap.size)) ∨ b = tb) wd X → X.cell? ⟨tb, 1, none⟩ = some (.slice va L.length vc)) := fun X hX => by rw [hX.cell (Or.inr rfl) (lt_of_heap (unhide HV)), cell_of (unhide HV)]; rfl
    have HNU : Hid (∀ X, Fm (fun b => (I b ∨ (w.heap.size ≤ b ∧ b < wd.heap.size)) ∨ b = tb) wd X → (Instr.lookup 44 (.map (some mb)) (nPtr p) false).run Tryz.prog X = .ok (.int .i64 (no : Int)) X) := fun X hX => unhide HNUM X ((Fm.of (unhide HBD)).trans (hX.less fun b hb => Or.inl (Or.inl hb)))
    refine uh 0 (sPtr tb) hS0 ?_
    refine uh 1 (sPtr tb) hS0 ?_
    refine uh 2 (sPtr tb) hS0 ?_
    refine uh 3 (.pointer (some ⟨tb, 1, none⟩)) hS0 ?_
    refine ug 4 (.slice va L.length vc) rfl (Or.inl ⟨by kernel_rfl, fun X hX => by have h0 := unhide HT1 X hX; go_simp⟩) hS0 ?_
    refine uh 5 (sPtr tb) hS0 ?_
    refine uh 6 (sPtr tb) hS0 ?_
    refine uh 7 (.pointer (some ⟨tb, 0, none⟩)) hS0 ?_
    refine ug 8 (.map (some mb)) rfl (Or.inl ⟨by kernel_rfl, fun X hX => by have h0 := unhide HT0 X hX; go_simp⟩) hS0 ?_
    refine uh 9 (nPtr p) hS0 ?_
    refine ug 10 (.int .i64 (no : Int)) rfl (Or.inl ⟨by kernel_rfl, fun X hX => by have h0 := unhide HNU X hX; go_simp⟩) hS0 ?_
    refine uh 11 (.int .i64 ow) hS0 ?_
    refine uh 12 (.bool su) hS0 ?_
    refine uh 13 (.agg #[.int .i64 (no : Int), .int .i64 ow, .bool su]) hS0 ?_
    refine uq1 14 fun K hK => ?_
    go_simp
    have hE1 : Below wd.heap.size wd (we.alloc (.cells #[.int .i64 (no : Int), .int .i64 ow, .bool su] 56)) := hE0.alloc (by have := unhide HSE; omega) _
    refine hK.out _ _ (fun _ => Fm.of hE1) ?_
    clear hK K
    refine uq1 15 fun K hK => ?_
    have hrow2 : (we.alloc (.cells #[.int .i64 (no : Int), .int .i64 ow, .bool su] 56)).ownsRow 0 56 3 (.slice va L.length vc) L.length (usCells L) := owns_stay (I := fun _ => True) (fun b _ hl => hE1.block b hl) (fun _ _ => trivial) (unhide HROW)
    refine step_append_lies _ rfl _ _ 50 rfl 0 56 i0 (.agg #[.int .i64 0, .int .i64 0, .bool false]) 3 24 Tryz.underlying50 hi0 hz0 hz1 hz2 rfl (by decide) _ _ _ rfl hrow2 ⟨we.heap.size, 0, none⟩ 1 1 (usC ((no : Int), ow, su)) rfl rfl (us_cells we no ow su 56 _ rfl) (us_one _) (by decide) (by unfold maxLen; omega) (by omega) (Nat.zero_le _) (we.heap.size + 1) (by simp) ?_
    intro g4 cap4 w4 hown4 hgr4 hg4 _
    obtain ⟨wf, hwf⟩ : ∃ wf, wf = we.alloc (.cells #[.int .i64 (no : Int), .int .i64 ow, .bool su] 56) := ⟨_, rfl⟩
    rw [← hwf] at hE1 hrow2 hgr4
    have hsf : wf.heap.size = we.heap.size + 1 := by rw [hwf]; simp
    have hTf : TW (fun b => I b ∨ (w.heap.size ≤ b ∧ b < wd.heap.size)) tb mb A L wf := (unhide HJ).later hE1
    have hvf : wf.heap[tb]? = some (.cells #[.map (some mb), .slice va L.length vc] 108 (0, 0)) := by rw [hE1.block tb htl]; exact unhide HV
    have hP := hTf.push (u := ((no : Int), ow, su)) hvf rfl (by rw [usCells_app]; exact hown4) hgr4 (hg4.imp id fun e => by omega)
    have hob : ∀ b, (I b ∨ (w.heap.size ≤ b ∧ b < wd.heap.size)) ∨ b = tb → b < wf.heap.size ∧ (Value.slice va L.length vc).ownBlock ≠ some b := by
      intro b hb
      rcases hb with hb | hb
      · obtain ⟨v8, k1, _, k3, _⟩ := hTf.blk
        have hv8 : v8 = .slice va L.length vc := by rw [hvf] at k1; simpa using k1.symm
        rw [hv8] at k3
        exact ⟨(hTf.ne b hb).1, k3 b hb⟩
      · rw [hb]; exact ⟨lt_of_heap hvf, unhide HVT⟩
    have hS4 : Fm (fun b => (I b ∨ (w.heap.size ≤ b ∧ b < wd.heap.size)) ∨ b = tb) wd w4 := (Fm.of hE1).trans ⟨hgr4.os, hgr4.tape, hgr4.output, hgr4.size, fun b hb hl => hgr4.block b hl (fun e => (hob b hb).2 e.symm)⟩
    have y1 := unhide HT1 w4 hS4
    have htb4 : w4.heap[tb]? = some (.cells #[.map (some mb), .slice va L.length vc] 108 (0, 0)) := (hS4.stay tb (Or.inr rfl) htl).trans (unhide HV)
    have yf := frozen_of htb4
    have yl := lt_of_heap htb4
    refine hK.out _ _ (fun _ => hS4) ?_
    clear hK K hown4 hg4 hrow2
    refine uh 16 (sPtr tb) hS4 ?_
    refine uh 17 (.pointer (some ⟨tb, 1, none⟩)) hS4 ?_
    refine uq1 18 fun K hK => ?_
    go_simp
    refine hK.out _ _ (fun e => by cases e) ?_
    clear hK K
    refine udone (by kernel_rfl) ?_ _
    obtain ⟨w5, hw5⟩ : ∃ w5, w5 = w4.setCell ⟨tb, 1, none⟩ (.slice (some ⟨g4, 0, none⟩) (L.length + 1) cap4) := ⟨_, rfl⟩
    rw [← hw5] at hP
    obtain ⟨hT5, hF5⟩ := hP
    have hF5d : Fm (fun b => I b ∨ (w.heap.size ≤ b ∧ b < wd.heap.size)) wd w5 := (Fm.of hE1).trans (hF5.less fun b hb => ⟨(hob b (Or.inl hb)).1, (hTf.ne b hb).2, (hob b (Or.inl hb)).2⟩)
    have HT5 := hide (hT5.less (unhide HW) (fun b hb => Or.inl hb))
    have HF5 : Hid (Fm I w w5) := (Fm.of (unhide HBD)).trans (hF5d.less fun b hb => Or.inl hb)
    have hpd := (unhide HPJ).2
    have HX0 : Hid (w5.cell? ⟨w.heap.size, 0, none⟩ = some (.pointer oa)) := (hF5d.cell (Or.inr (unhide HPJ)) hpd).trans (unhide HX0')
    have HX1 : Hid (w5.cell? ⟨w.heap.size, 1, none⟩ = some (.bool true)) := (hF5d.cell (Or.inr (unhide HPJ)) hpd).trans (unhide HX1')
    have HK3 : Hid (w5.cell? ⟨p, 3, none⟩ = some (.slice ka kn kc)) := (hF5d.cell (Or.inl (unhide HIP)) (by omega)).trans (unhide HK3')
    have HW5 := hide hw5
    clear hF5 hT5 hF5d hob hTf hvf hE1 hE0 hS0 hS4 y1 htb4 yf yl hgr4 hwf hsf htl HT0 HT1 HNU HJ HV HROW HVT hw5 hpd
    go_simp
    rw [← unhide HW5]
    go_wp2_with fail
    have hS5 : Below w5.heap.size w5 w5.drew := (Below.refl _ _).drew
    refine wp_region_U 6 (fun X => Below w5.heap.size w5 X) (by kernel_rfl) ?_
    refine uh 0 (sPtr tb) hS5 ?_
    refine uh 1 (nPtr p) hS5 ?_
    refine uh 2 (nPtr p) hS5 ?_
    refine uh 3 (.pointer (some ⟨p, 3, none⟩)) hS5 ?_
    refine ug 4 (.slice ka kn kc) rfl (Or.inl ⟨by kernel_rfl, fun X hX => by have h0 := keepC hX (unhide HK3); go_simp⟩) hS5 ?_
    refine ug 5 (plV2 (.pointer oa) true) rfl (Or.inl ⟨by kernel_rfl, fun X hX => by have h0 := keepC hX (unhide HX0); have h1 := keepC hX (unhide HX1); go_simp⟩) hS5 ?_
    refine uq1 6 fun K hK => ?_
    go_simp
    refine Calls.mono (unhide HTA _ ((unhide HT5).later hS5) ((unhide HF5).trans (Fm.of hS5))) ?_
    rintro e w9 ⟨rfl, hq9⟩
    refine hK.out _ _ (fun e => by cases e) ?_
    clear hK K
    refine udone (by kernel_rfl) ?_ _
    have HQ9 := hide hq9
    clear hq9 hS5
    go_simp
    go_end0
    exact ⟨rfl, unhide HQ9⟩
  | false =>
    rw [Bool.false_or] at HTA
    have hbA : Below w.heap.size w (w.alloc (.cells #[.pointer oa, .bool false] 112)) := (Below.refl _ _).alloc (Nat.le_refl _) _
    obtain ⟨w2, hw2⟩ : ∃ w2, w2 = w.alloc (.cells #[.pointer oa, .bool sb] 112) := ⟨_, rfl⟩
    have HB2 : Hid (Below w.heap.size w w2) := by show Below _ _ _; rw [hw2]; exact (Below.refl _ _).alloc (Nat.le_refl _) _
    have HP2 : Hid (w2.heap[w.heap.size]? = some (.cells #[.pointer oa, .bool sb] 112 (0, 0))) := by show _ = _; rw [hw2]; exact heap_new _ _
    have HW2 := hide hw2
    clear hw2
    go_enter Tryz.func68, Tryz.ntmps68
    go_wp2_with fail
    refine Calls.mono (unhide HST _ hbA) ?_
    rintro e wx ⟨rfl, hwx⟩
    rw [hwx]
    clear hwx wx
    go_wp2_with fail
    rw [← unhide HW2]
    have hs2 : w2.heap.size = w.heap.size + 1 := by rw [unhide HW2]; simp
    have HX0 : Hid (w2.cell? ⟨w.heap.size, 0, none⟩ = some (.pointer oa)) := by show _ = _; rw [cell_of (unhide HP2)]; rfl
    have HX1 : Hid (w2.cell? ⟨w.heap.size, 1, none⟩ = some (.bool sb)) := by show _ = _; rw [cell_of (unhide HP2)]; rfl
    have HK3 : Hid (w2.cell? ⟨p, 3, none⟩ = some (.slice ka kn kc)) := keepC (unhide HB2) (unhide HC3)
    have HK1 : Hid (w2.cell? ⟨p, 1, none⟩ = some (.string tx)) := keepC (unhide HB2) (unhide HC1)
    obtain ⟨wd, hwd⟩ : ∃ wd, wd = w2.drew := ⟨_, rfl⟩
    have hS0 : Below w2.heap.size w2 wd := by rw [hwd]; exact (Below.refl _ _).drew
    have hsd : wd.heap.size = w2.heap.size := by rw [hwd]; rfl
    refine wp_region_held (S := fun X => X = wd) (by kernel_rfl) ?_
    change wpAnyH _ _ _ _ _ _ _ _ (World.drew _)
    rw [← hwd]
    have HSD := hide hsd
    have j0 := keepC hS0 (unhide HX0)
    have j1 := keepC hS0 (unhide HK1)
    have hl0 := cell_lt j0
    have hl1 := cell_lt j1
    clear hwd hsd
    refine wh 0 (.pointer (some ⟨w.heap.size, 0, none⟩)) rfl ?_
    refine wh 1 (.pointer oa) rfl ?_ (hy := Or.inl ⟨by kernel_rfl, fun X hX => by cases hX; go_simp⟩)
    refine wh 2 (nPtr p) rfl ?_
    refine wh 3 (nPtr p) rfl ?_
    refine wh 4 (.pointer (some ⟨p, 1, none⟩)) rfl ?_
    refine wh 5 (.string tx) rfl ?_ (hy := Or.inl ⟨by kernel_rfl, fun X hX => by cases hX; go_simp⟩)
    refine wq1 6 fun K hK => ?_
    go_simp
    refine Calls.mono (unhide HFI _ ((unhide HB2).trans (hS0.mono (unhide HB2).size))) ?_
    rintro e w3 ⟨rfl, hw3⟩
    rw [hw3]
    refine hK.out _ _ rfl (fun _ => ?_)
    clear hK K hw3 w3
    refine wh 7 (.tuple #[.int .i64 ow, .bool su]) rfl ?_
    refine wh 8 (.int .i64 ow) rfl ?_
    refine wh 9 (.bool su) rfl ?_
    refine wh 10 (.int .i64 ow) rfl ?_
    refine wh 11 (.bool su) rfl ?_
    refine wpAnyH_done (by kernel_rfl) ?_ _
    clear j0 j1 hl0 hl1
    go_simp
    go_wp2_with fail
    have HBD := hide ((unhide HB2).trans (hS0.mono (unhide HB2).size))
    have hJ : TW (fun b => I b ∨ (w.heap.size ≤ b ∧ b < wd.heap.size)) tb mb A L wd := (unhide HW).more (unhide HBD)
    have hpJ : w.heap.size ≤ w.heap.size ∧ w.heap.size < wd.heap.size := ⟨Nat.le_refl _, by have := unhide HSD; omega⟩
    obtain ⟨v, hv, hrow, _, hvt⟩ := hJ.blk
    have HX0' := hide (keepC hS0 (unhide HX0))
    have HX1' := hide (keepC hS0 (unhide HX1))
    have HK3' := hide (keepC hS0 (unhide HK3))
    have HV := hide hv
    have HROW := hide hrow
    have HVT := hide hvt
    have HJ := hide hJ
    have HPJ := hide hpJ
    obtain ⟨va, vc, rfl⟩ := srow_form hrow
    clear hJ hpJ hv hrow hvt hS0 HX0 HX1 HK3 HK1 HSD HB2 HP2 hs2 HW2 hbA
    obtain ⟨we, hwe⟩ : ∃ we, we = wd.drew := ⟨_, rfl⟩
    have hE0 : Below wd.heap.size wd we := by rw [hwe]; exact (Below.refl _ _).drew
    have hse : we.heap.size = wd.heap.size := by rw [hwe]; rfl
    refine wp_region_U 18 (fun X => Fm (fun b => (I b ∨ (w.heap.size ≤ b ∧ b < wd.heap.size)) ∨ b = tb) wd X) (by kernel_rfl) ?_
    rw [← hwe]
    have HSE := hide hse
    clear hwe hse
    have hS0 : Fm (fun b => (I b ∨ (w.heap.size ≤ b ∧ b < wd.heap.size)) ∨ b = tb) wd we := Fm.of hE0
    have htl := lt_of_heap (unhide HV)
    have HT0 : Hid (∀ X, Fm (fun b => (I b ∨ (w.heap.size ≤ b ∧ b < wd.heap.size)) ∨ b = tb) wd X → X.cell? ⟨tb, 0, none⟩ = some (.map (some mb))) := fun X hX => by rw [hX.cell (Or.inr rfl) (lt_of_heap (unhide HV)), cell_of (unhide HV)]; rfl
    have HT1 : Hid (∀ X, Fm (fun b => (I b ∨ (w.heap.size ≤ b ∧ b < wd.heap.size)) ∨ b = tb) wd X → X.cell? ⟨tb, 1, none⟩ = some (.slice va L.length vc)) := fun X hX => by rw [hX.cell (Or.inr rfl) (lt_of_heap (unhide HV)), cell_of (unhide HV)]; rfl
    have HNU : Hid (∀ X, Fm (fun b => (I b ∨ (w.heap.size ≤ b ∧ b < wd.heap.size)) ∨ b = tb) wd X → (Instr.lookup 44 (.map (some mb)) (nPtr p) false).run Tryz.prog X = .ok (.int .i64 (no : Int)) X) := fun X hX => unhide HNUM X ((Fm.of (unhide HBD)).trans (hX.less fun b hb => Or.inl (Or.inl hb)))
    refine uh 0 (sPtr tb) hS0 ?_
    refine uh 1 (sPtr tb) hS0 ?_
    refine uh 2 (sPtr tb) hS0 ?_
    refine uh 3 (.pointer (some ⟨tb, 1, none⟩)) hS0 ?_
    refine ug 4 (.slice va L.length vc) rfl (Or.inl ⟨by kernel_rfl, fun X hX => by have h0 := unhide HT1 X hX; go_simp⟩) hS0 ?_
    refine uh 5 (sPtr tb) hS0 ?_
    refine uh 6 (sPtr tb) hS0 ?_
    refine uh 7 (.pointer (some ⟨tb, 0, none⟩)) hS0 ?_
    refine ug 8 (.map (some mb)) rfl (Or.inl ⟨by kernel_rfl, fun X hX => by have h0 := unhide HT0 X hX; go_simp⟩) hS0 ?_
    refine uh 9 (nPtr p) hS0 ?_
    refine ug 10 (.int .i64 (no : Int)) rfl (Or.inl ⟨by kernel_rfl, fun X hX => by have h0 := unhide HNU X hX; go_simp⟩) hS0 ?_
    refine uh 11 (.int .i64 ow) hS0 ?_
    refine uh 12 (.bool su) hS0 ?_
    refine uh 13 (.agg #[.int .i64 (no : Int), .int .i64 ow, .bool su]) hS0 ?_
    refine uq1 14 fun K hK => ?_
    go_simp
    have hE1 : Below wd.heap.size wd (we.alloc (.cells #[.int .i64 (no : Int), .int .i64 ow, .bool su] 56)) := hE0.alloc (by have := unhide HSE; omega) _
    refine hK.out _ _ (fun _ => Fm.of hE1) ?_
    clear hK K
    refine uq1 15 fun K hK => ?_
    have hrow2 : (we.alloc (.cells #[.int .i64 (no : Int), .int .i64 ow, .bool su] 56)).ownsRow 0 56 3 (.slice va L.length vc) L.length (usCells L) := owns_stay (I := fun _ => True) (fun b _ hl => hE1.block b hl) (fun _ _ => trivial) (unhide HROW)
    refine step_append_lies _ rfl _ _ 50 rfl 0 56 i0 (.agg #[.int .i64 0, .int .i64 0, .bool false]) 3 24 Tryz.underlying50 hi0 hz0 hz1 hz2 rfl (by decide) _ _ _ rfl hrow2 ⟨we.heap.size, 0, none⟩ 1 1 (usC ((no : Int), ow, su)) rfl rfl (us_cells we no ow su 56 _ rfl) (us_one _) (by decide) (by unfold maxLen; omega) (by omega) (Nat.zero_le _) (we.heap.size + 1) (by simp) ?_
    intro g4 cap4 w4 hown4 hgr4 hg4 _
    obtain ⟨wf, hwf⟩ : ∃ wf, wf = we.alloc (.cells #[.int .i64 (no : Int), .int .i64 ow, .bool su] 56) := ⟨_, rfl⟩
    rw [← hwf] at hE1 hrow2 hgr4
    have hsf : wf.heap.size = we.heap.size + 1 := by rw [hwf]; simp
    have hTf : TW (fun b => I b ∨ (w.heap.size ≤ b ∧ b < wd.heap.size)) tb mb A L wf := (unhide HJ).later hE1
    have hvf : wf.heap[tb]? = some (.cells #[.map (some mb), .slice va L.length vc] 108 (0, 0)) := by rw [hE1.block tb htl]; exact unhide HV
    have hP := hTf.push (u := ((no : Int), ow, su)) hvf rfl (by rw [usCells_app]; exact hown4) hgr4 (hg4.imp id fun e => by omega)
    have hob : ∀ b, (I b ∨ (w.heap.size ≤ b ∧ b < wd.heap.size)) ∨ b = tb → b < wf.heap.size ∧ (Value.slice va L.length vc).ownBlock ≠ some b := by
      intro b hb
      rcases hb with hb | hb
      · obtain ⟨v8, k1, _, k3, _⟩ := hTf.blk
        have hv8 : v8 = .slice va L.length vc := by rw [hvf] at k1; simpa using k1.symm
        rw [hv8] at k3
        exact ⟨(hTf.ne b hb).1, k3 b hb⟩
      · rw [hb]; exact ⟨lt_of_heap hvf, unhide HVT⟩
    have hS4 : Fm (fun b => (I b ∨ (w.heap.size ≤ b ∧ b < wd.heap.size)) ∨ b = tb) wd w4 := (Fm.of hE1).trans ⟨hgr4.os, hgr4.tape, hgr4.output, hgr4.size, fun b hb hl => hgr4.block b hl (fun e => (hob b hb).2 e.symm)⟩
    have y1 := unhide HT1 w4 hS4
    have htb4 : w4.heap[tb]? = some (.cells #[.map (some mb), .slice va L.length vc] 108 (0, 0)) := (hS4.stay tb (Or.inr rfl) htl).trans (unhide HV)
    have yf := frozen_of htb4
    have yl := lt_of_heap htb4
    refine hK.out _ _ (fun _ => hS4) ?_
    clear hK K hown4 hg4 hrow2
    refine uh 16 (sPtr tb) hS4 ?_
    refine uh 17 (.pointer (some ⟨tb, 1, none⟩)) hS4 ?_
    refine uq1 18 fun K hK => ?_
    go_simp
    refine hK.out _ _ (fun e => by cases e) ?_
    clear hK K
    refine udone (by kernel_rfl) ?_ _
    obtain ⟨w5, hw5⟩ : ∃ w5, w5 = w4.setCell ⟨tb, 1, none⟩ (.slice (some ⟨g4, 0, none⟩) (L.length + 1) cap4) := ⟨_, rfl⟩
    rw [← hw5] at hP
    obtain ⟨hT5, hF5⟩ := hP
    have hF5d : Fm (fun b => I b ∨ (w.heap.size ≤ b ∧ b < wd.heap.size)) wd w5 := (Fm.of hE1).trans (hF5.less fun b hb => ⟨(hob b (Or.inl hb)).1, (hTf.ne b hb).2, (hob b (Or.inl hb)).2⟩)
    have HT5 := hide (hT5.less (unhide HW) (fun b hb => Or.inl hb))
    have HF5 : Hid (Fm I w w5) := (Fm.of (unhide HBD)).trans (hF5d.less fun b hb => Or.inl hb)
    have hpd := (unhide HPJ).2
    have HX0 : Hid (w5.cell? ⟨w.heap.size, 0, none⟩ = some (.pointer oa)) := (hF5d.cell (Or.inr (unhide HPJ)) hpd).trans (unhide HX0')
    have HX1 : Hid (w5.cell? ⟨w.heap.size, 1, none⟩ = some (.bool sb)) := (hF5d.cell (Or.inr (unhide HPJ)) hpd).trans (unhide HX1')
    have HK3 : Hid (w5.cell? ⟨p, 3, none⟩ = some (.slice ka kn kc)) := (hF5d.cell (Or.inl (unhide HIP)) (by omega)).trans (unhide HK3')
    have HW5 := hide hw5
    clear hF5 hT5 hF5d hob hTf hvf hE1 hE0 hS0 hS4 y1 htb4 yf yl hgr4 hwf hsf htl HT0 HT1 HNU HJ HV HROW HVT hw5 hpd
    go_simp
    rw [← unhide HW5]
    go_wp2_with fail
    have hS5 : Below w5.heap.size w5 w5.drew := (Below.refl _ _).drew
    refine wp_region_U 6 (fun X => Below w5.heap.size w5 X) (by kernel_rfl) ?_
    refine uh 0 (sPtr tb) hS5 ?_
    refine uh 1 (nPtr p) hS5 ?_
    refine uh 2 (nPtr p) hS5 ?_
    refine uh 3 (.pointer (some ⟨p, 3, none⟩)) hS5 ?_
    refine ug 4 (.slice ka kn kc) rfl (Or.inl ⟨by kernel_rfl, fun X hX => by have h0 := keepC hX (unhide HK3); go_simp⟩) hS5 ?_
    refine ug 5 (plV2 (.pointer oa) sb) rfl (Or.inl ⟨by kernel_rfl, fun X hX => by have h0 := keepC hX (unhide HX0); have h1 := keepC hX (unhide HX1); go_simp⟩) hS5 ?_
    refine uq1 6 fun K hK => ?_
    go_simp
    refine Calls.mono (unhide HTA _ ((unhide HT5).later hS5) ((unhide HF5).trans (Fm.of hS5))) ?_
    rintro e w9 ⟨rfl, hq9⟩
    refine hK.out _ _ (fun e => by cases e) ?_
    clear hK K
    refine udone (by kernel_rfl) ?_ _
    have HQ9 := hide hq9
    clear hq9 hS5
    go_simp
    go_end0
    exact ⟨rfl, unhide HQ9⟩
end Go.Proofs.YtoimgcjbcbhclaaGreatDoor
