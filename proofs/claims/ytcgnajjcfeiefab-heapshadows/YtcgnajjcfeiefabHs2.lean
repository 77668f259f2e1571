/-
  HeapShadows, walked.
-/
import Derived.Test.YtcgnajjcfeiefabHs1
set_option maxRecDepth 100000
set_option maxHeartbeats 16000000
namespace Go.Proofs.Ytcgnajjcfeiefab
open Go.RowKit

theorem info3 : (Try.prog.info? 3).map (fun i => (i.zero, i.size, i.bytes)) = some (some (.int .i64 0), 1, 8) := by kernel_rfl
theorem one_int (w : World) (k : Int) (H : Nat) (h : w.heap.size = H) : ∀ j u, [Value.int .i64 k][j]? = some u → (w.alloc (.cells #[.int .i64 k] 3)).cell? ((⟨H, 0, none⟩ : Addr).add j) = some u := by
  subst h
  intro j u hj
  match j, hj with
  | 0, hj => simp at hj; subst hj; simp [Addr.add]
  | k + 1, hj => simp at hj
theorem one_int1 (k : Int) : ∀ u ∈ [Value.int .i64 k], u.oneCell' = true := by
  intro u hu
  simp at hu
  subst hu
  rfl
theorem shadows_any (deep at_ v x : Int) (nm : ByteArray) (w : World) :
    Calls Try.prog 3 #[.int .i64 deep, .int .i64 at_, .string nm, .int .i64 v, .int .i64 x] w fun e w' => e = .returned (.bool true) ∧ Below w.heap.size w w' := by
  have HP := hide (pick_any deep 10 (by decide) (by decide) w)
  go_enter Try.func3, Try.ntmps3
  go_wp2_with fail
  refine Calls.mono HP.out ?_
  rintro e w0 ⟨⟨dk, hdk, rfl⟩, rfl⟩
  clear HP
  have hdk' : dk < 10 := by omega
  by_cases hlen : 20 < nm.size
  · go_wp2_with fail
    go_ret
    exact ⟨rfl, Below.refl _ _⟩
  have HS0 := hide (HR.start w0)
  have HC := hide (scope_first HS0.out (by decide))
  have HF0 := hide ((Below.refl w0.heap.size w0).alloc (Nat.le_refl _) (.cells #[.slice none 0 0, .slice none 0 0] 26))
  unfold hP at HC
  go_wp2_with fail
  refine Calls.mono HC.out ?_
  rintro e w1 ⟨rfl, ⟨sv1, hh1⟩, hf1⟩
  have HF1 := hide (HF0.out.trans hf1.below)
  have HRW := hide (World.ownsRow_lit (base := w0.heap.size) (e := 3) (size := 1) w1 #[.int .i64 0] 1 (HF1.out.size) (by decide) rfl)
  have HH1 := hide (hh1.later ((Below.refl w1.heap.size w1).alloc (Nat.le_refl _) (.cells #[.int .i64 0] 3)))
  have HF2 := hide (HF1.out.alloc HF1.out.size (.cells #[.int .i64 0] 3))
  clear hh1 hf1 HC HS0 HF0 HF1
  go_wp2_with fail
  obtain ⟨W2, hW2⟩ : ∃ W2, W2 = w1.alloc (.cells #[.int .i64 0] 3) := ⟨_, rfl⟩
  rw [← hW2] at HRW HH1 HF2 ⊢
  have hc0 : W2.cell? ⟨w1.heap.size, 0, none⟩ = some (.int .i64 0) := by rw [hW2]; simp
  have HC0 := hide hc0
  have hl0 : w1.heap.size < W2.heap.size := by rw [hW2]; simp
  have HB0 := hide (heap_alloc_new w1 (.cells #[.int .i64 0] 3))
  rw [← hW2] at HB0
  clear hW2
  have HS : Hid (W2.drew.cell? ⟨w1.heap.size, 0, none⟩ = some (.int .i64 0)) := hc0
  clear hc0
  refine wp_region_held (S := fun W => W.cell? ⟨w1.heap.size, 0, none⟩ = some (.int .i64 0)) (by kernel_rfl) ?_
  change wpAnyH _ _ _ _ _ _ _ _ (World.drew _)
  refine wh 0 (.slice (some ⟨w1.heap.size, 0, none⟩) 1 1) HS.out ?_
  refine wh 1 (.pointer (some ⟨w1.heap.size, 0, none⟩)) HS.out ?_
  refine wg 2 (.int .i64 0) rfl (Or.inl ⟨by kernel_rfl, fun W hW => by go_simp⟩) HS.out ?_
  refine wh 3 (.string nm) HS.out ?_
  refine wh 4 (.int .i64 v) HS.out ?_
  refine wq1 5 fun K hK => ?_
  go_simp
  refine Calls.mono (of_any v W2.drew) ?_
  rintro e w3 ⟨rfl, hb3⟩
  have HB3 : Hid (Below W2.heap.size W2 w3) := (Below.refl W2.heap.size W2).drew.trans hb3
  have HS3 : Hid (w3.cell? ⟨w1.heap.size, 0, none⟩ = some (.int .i64 0)) := (cell_below HB3.out (a := ⟨w1.heap.size, 0, none⟩) hl0).trans HC0.out
  refine hK.out _ _ HS3.out (fun _ => ?_)
  clear hK K hb3
  have HH3 := hide (HH1.out.later HB3.out)
  have HF3 := hide (HF2.out.trans (HB3.out.mono HF2.out.size))
  have HRW3 := hide (row_later HRW.out HB3.out)
  have HD := hide (declare_0 HH3.out 0 ⟨-1, []⟩ rfl nm rfl 3 v ⟨#[]⟩ (by decide))
  unfold hP at HD
  refine wq1 6 fun K hK => ?_
  go_simp
  refine Calls.mono HD.out ?_
  rintro e w4 ⟨rfl, ⟨v4, hh4⟩, hf4⟩
  have HB4 := hide (hf4.ints w1.heap.size _ 3 ((HB3.out.block _ hl0).trans HB0.out) (by decide))
  have HS4 : Hid (w4.cell? ⟨w1.heap.size, 0, none⟩ = some (.int .i64 0)) := by
    show _ = _
    simp [World.cell?, HB4.out]
  refine hK.out _ _ HS4.out (fun _ => ?_)
  clear hK K HD
  have HH4 : Hid (HR w0.heap.size w4 (chain ⟨nm, 3, v, ⟨#[]⟩, 0, true⟩ 0) sv1 [v4]) := hh4
  have HF4 := hide (HF3.out.trans hf4.below)
  have HRW4 : Hid (w4.ownsRow w0.heap.size 3 1 (.slice (some ⟨w1.heap.size, 0, none⟩) (0 + 1) 1) (0 + 1) (nums (0 + 1))) := hf4.row HRW3.out
  refine wh 7 .nilIface HS4.out ?_
  refine wpAnyH_done (by kernel_rfl) ?_ _
  go_simp
  obtain ⟨b0, hb0⟩ : ∃ b0 : Bd, b0 = ⟨nm, 3, v, ⟨#[]⟩, 0, true⟩ := ⟨_, rfl⟩
  have HE0 := hide hb0
  rw [← hb0] at HH4
  clear hh4 hf4 HB4 HS4 HRW3 HF3 HH3 HS3 HB3 HS HB0 HC0 HF2 HH1 HRW hl0 hb0
  go_wp2_with fail
  go_loopw [12, 14] (fun s i wr => ∃ (n : Nat) (sv : Value) (vs : List Value), n < dk + 2 ∧ i = .int .i64 ((n + 1 : Nat) : Int) ∧ wr.ownsRow w0.heap.size 3 1 s (n + 1) (nums (n + 1)) ∧ HR w0.heap.size wr (chain b0 n) sv vs ∧ Below w0.heap.size w0 wr) (fun _ i _ => dk + 2 - (intOf i).toNat)
  case atStart => exact ⟨0, _, _, by omega, rfl, HRW4.out, HH4.out, HF4.out⟩
  case round =>
    obtain ⟨n, sv, vs, hn, rfl, hrw, hh, hbl⟩ := hrel
    obtain ⟨g, cap, rfl, hgl, hcs, hct⟩ := nums_row hrw
    have HRW := hide hrw
    have HH := hide hh
    have HBL := hide hbl
    have HCS := hide hcs
    clear hrw hh hbl hcs
    by_cases hlt : n + 1 < dk + 2
    · have hci := HCS.out n (Nat.le_refl _)
      have HC := hide (scope_in HH.out (by rw [chain_len]; omega) n (by rw [chain_len]; omega))
      rw [chain_len, chain_snoc] at HC
      unfold hP at HC
      have hx1 : ((n + 1 : Nat) : Int) - 1 = (n : Int) := by omega
      have hx2 : ((n + 1 : Nat) : Int) < 2 + (dk : Int) := by omega
      go_wp2_with fail
      refine Calls.mono HC.out ?_
      rintro e w5 ⟨rfl, ⟨sv5, hh5⟩, hf5⟩
      have HH5 := hide hh5
      have HF5 := hide (HBL.out.trans hf5.below)
      have HRW5 := hide (hf5.row HRW.out)
      obtain ⟨ii, hi0, hz0, hz1, hz2⟩ := info_parts info3
      obtain ⟨ct, hct5⟩ := row_tag HRW5.out (k := g) rfl
      have HCT := hide hct5
      have hw5 := HF5.out.size
      clear hh5 hf5 HC hct hct5 hci
      go_wp2_with (at_builtin; refine wpList_append_lies _ rfl _ _ 27 rfl w0.heap.size 3 ii _ 1 8 Try.underlying27 hi0 hz0 hz1 hz2 rfl (by decide) _ _ _ rfl (HRW5.out.alloc _) ⟨w5.heap.size, 0, none⟩ 1 1 [.int .i64 ((n + 1 : Nat) : Int)] rfl rfl (one_int _ _ _ rfl) (one_int1 _) (by decide) (by unfold maxLen; omega) (by omega) (by simp; omega) (w5.heap.size + 1) (by simp) ?_)
      intro gn capn w6 hown hgr hgn _
      have hb6 : Below w5.heap.size w5 (w5.alloc (.cells #[.int .i64 ((n : Int) + 1)] 3)) := (Below.refl _ _).alloc (Nat.le_refl _) _
      have HH6 := hide ((HH5.out.later hb6).apart3 hgr (fun k hk => ⟨ct, by
        cases hk
        exact (hb6.block g (lt_of_block HCT.out)).trans HCT.out⟩))
      have hfg : Fr w0.heap.size (w5.alloc (.cells #[.int .i64 ((n : Int) + 1)] 3)) w6 ∨ True := .inr trivial
      have HF6 : Hid (Below w0.heap.size w0 w6) := by
        refine (HF5.out.trans (hb6.mono hw5)).trans ⟨hgr.os, hgr.tape, hgr.output, hgr.size, fun k hk => hgr.block k (by simp; omega) (fun e => ?_)⟩
        have := (HRW5.out.lt g rfl).1
        simp [Value.ownBlock] at e
        omega
      have HO6 : Hid (w6.ownsRow w0.heap.size 3 1 (.slice (some ⟨gn, 0, none⟩) (n + 1 + 1) capn) (n + 1 + 1) (nums (n + 1 + 1))) := by
        rw [nums_snoc (n + 1)]
        exact hown
      clear hown hgr hgn hfg hb6 HCT
      go_wp2_with fail
      go_roundw
      case rel => exact ⟨n + 1, _, _, hlt, by go_num, HO6.out, HH6.out, HF6.out⟩
      case measure => simp [intOf]; omega
    · have hne : n = dk + 1 := by omega
      subst hne
      have hci := HCS.out (dk + 1) (Nat.le_refl _)
      have HHD := hide (heaped_any wr)
      have hx1 : (2 + (dk : Int)) - 1 = ((dk + 1 : Nat) : Int) := by omega
      have hx2 : ¬ ((dk + 1 + 1 : Nat) : Int) < 2 + (dk : Int) := by omega
      have HZ := hide (HCS.out 0 (Nat.zero_le _))
      have HGL := hide hgl
      have HIS : Hid (isS nm b0 = true) := by rw [HE0.out]; exact isS_self _ _ _ _ _ _
      go_wp2_with fail
      have HS := hide (Below.refl wr.heap.size wr).drew
      refine wp_region_held (S := fun W => Below wr.heap.size wr W) (by kernel_rfl) ?_
      change wpAnyH _ _ _ _ _ _ _ _ (World.drew _)
      refine wq1 0 fun K hK => ?_
      go_simp
      refine Calls.mono (heaped_any wr.drew) ?_
      rintro e w5 ⟨rfl, hb5⟩
      have HS5 : Hid (Below wr.heap.size wr w5) := HS.out.trans hb5
      refine hK.out _ _ HS5.out (fun _ => ?_)
      clear hK K hb5
      refine wh 1 (.bool false) HS5.out ?_
      refine wh 2 (.bool false) HS5.out ?_
      refine wh 3 (.nilIface) HS5.out ?_
      refine wh 4 (.bool false) HS5.out ?_
      refine wh 5 (.bool false) HS5.out ?_
      refine wh 6 (.bool false) HS5.out ?_
      refine wh 7 (.int .i64 ((dk + 1 : Nat) : Int)) HS5.out ?_
      refine wh 8 (.string nm) HS5.out ?_
      refine wh 10 (.slice (some ⟨g, 0, none⟩) (dk + 1 + 1) cap) HS5.out ?_
      refine wg 11 (.pointer (some ⟨g, 0, none⟩)) rfl (Or.inl ⟨by kernel_rfl, fun W hW => by go_simp; intro hq; omega⟩) HS5.out ?_
      refine wg 12 (.int .i64 0) rfl (Or.inl ⟨by kernel_rfl, fun W hW => by have hh := (cell_below hW (a := ⟨g, 0, none⟩) HGL.out).trans HZ.out; go_simp⟩) HS5.out ?_
      refine wq1 9 fun K hK => ?_
      go_simp
      have HA := hide (find_any (HH.out.later HS5.out) ((dk + 1 : Nat) : Int) 0 nm (finds_chain b0 (dk + 1) nm HIS.out (dk + 1) (Nat.le_refl _)))
      unfold hP at HA
      refine Calls.mono HA.out ?_
      rintro e w6 ⟨rfl, hb6⟩
      have HS6 : Hid (Below wr.heap.size wr w6) := HS5.out.trans (hb6.mono HS5.out.size)
      refine hK.out _ _ HS6.out (fun _ => ?_)
      clear hK K hb6 HA
      refine wh 13 (.bool false) HS6.out ?_
      refine wh 14 (.bool false) HS6.out ?_
      refine wpAnyH_done (by kernel_rfl) ?_ _
      go_simp
      have HP := hide (pick_any at_ ((dk : Int) + 1) (by omega) (by omega) w6)
      have hx3 : 2 + (dk : Int) - 1 = (dk : Int) + 1 := by omega
      go_wp2_with fail
      refine Calls.mono HP.out ?_
      rintro e w7 ⟨⟨m, hm, rfl⟩, hw⟩
      rw [hw]
      clear hw HP HZ
      have hm' : m < dk + 1 := by omega
      have HC6 : Hid (∀ j, j ≤ dk + 1 → w6.cell? ⟨g, j, none⟩ = some (.int .i64 (j : Int))) := fun j hj => (cell_below HS6.out (a := ⟨g, j, none⟩) HGL.out).trans (HCS.out j hj)
      have hcm := HC6.out (m + 1) (by omega)
      have hx4 : (1 : Int) + (m : Int) = ((m + 1 : Nat) : Int) := by omega
      have hx5 : ¬ ((dk + 1 + 1 : Nat) : Int) ≤ ((m + 1 : Nat) : Int) := by omega
      go_wp2_with fail
      have HH6 := hide (HH.out.later HS6.out)
      have HBL6 := hide (HBL.out.trans (HS6.out.mono HBL.out.size))
      have hgr6 := row_later HRW.out HS6.out
      have HRW6 := hide hgr6
      clear hgr6 hcm hct hci HHD HCS HC6 HH HRW HBL HS HS5 HS6 HF4 HRW4 HH4
      refine Calls.mono (of_any x w6) ?_
      rintro e w8 ⟨rfl, hb8⟩
      have HH8 := hide (HH6.out.later hb8)
      have HBL8 := hide (HBL6.out.trans (hb8.mono HBL6.out.size))
      have HRW8 := hide (row_later HRW6.out hb8)
      clear hb8
      have HD := hide (declare_4 HH8.out (m + 1) ⟨(m : Int), []⟩ (chain_succ b0 (dk + 1) m hm') nm rfl 3 x ⟨#[]⟩ (by simp))
      unfold hP at HD
      go_wp2_with fail
      refine Calls.mono HD.out ?_
      rintro e w9 ⟨rfl, ⟨v9, hh9⟩, hf9⟩
      have HH9 : Hid (HR w0.heap.size w9 ((chain b0 (dk + 1)).set (m + 1) ⟨(m : Int), [⟨nm, 3, x, ⟨#[]⟩, 4, true⟩]⟩) sv (vs.set (m + 1) v9)) := hh9
      have HBL9 := hide (HBL8.out.trans hf9.below)
      have HRW9 := hide (hf9.row HRW8.out)
      clear hh9 hf9 HD
      have HA := hide (find_any HH9.out ((dk + 1 : Nat) : Int) ((m + 1 : Nat) : Int) nm (finds_in b0 ⟨nm, 3, x, ⟨#[]⟩, 4, true⟩ (dk + 1) m nm (isS_self _ _ _ _ _ _) hm' (dk + 1) (by omega) (Nat.le_refl _)))
      unfold hP at HA
      go_wp2_with fail
      refine Calls.mono HA.out ?_
      rintro e w10 ⟨rfl, hb10⟩
      have HH10 := hide (HH9.out.later hb10)
      have HBL10 := hide (HBL9.out.trans (hb10.mono HBL9.out.size))
      have HRW10 := hide (row_later HRW9.out hb10)
      clear hb10 HA
      go_wp2_with fail
      refine Calls.mono (say_any ⟨#[120]⟩ w10) ?_
      rintro e w11 ⟨rfl, hb11⟩
      have HH11 := hide (HH10.out.later hb11)
      have HBL11 := hide (HBL10.out.trans (hb11.mono HBL10.out.size))
      have HRW11 := hide (row_later HRW10.out hb11)
      clear hb11
      have HW := hide (write_ok HH11.out (m + 1) ⟨(m : Int), [⟨nm, 3, x, ⟨#[]⟩, 4, true⟩]⟩ (List.getElem?_set_self (by rw [chain_len]; omega)) nm 0 ⟨nm, 3, x, ⟨#[]⟩, 4, true⟩ (firstS_one (isS_self _ _ _ _ _ _)) rfl rfl (by simp) (by simp) 4 0 ⟨#[120]⟩)
      unfold hP at HW
      rw [List.set_set] at HW
      go_wp2_with fail
      refine Calls.mono HW.out ?_
      rintro e w12 ⟨rfl, hh12, hf12⟩
      have HH12 : Hid (HR w0.heap.size w12 ((chain b0 (dk + 1)).set (m + 1) ⟨(m : Int), [⟨nm, 4, 0, ⟨#[120]⟩, 4, true⟩]⟩) sv (vs.set (m + 1) v9)) := hh12
      have HBL12 := hide (HBL11.out.trans hf12.below)
      have HRW12 := hide (hf12.row HRW11.out)
      clear hh12 hf12 HW
      have HQ := hide (read_ok HH12.out (m + 1) ⟨(m : Int), [⟨nm, 4, 0, ⟨#[120]⟩, 4, true⟩]⟩ (List.getElem?_set_self (by rw [chain_len]; omega)) nm 0 ⟨nm, 4, 0, ⟨#[120]⟩, 4, true⟩ (firstS_one (isS_self _ _ _ _ _ _)) rfl rfl)
      unfold hP vOf at HQ
      go_wp2_with fail
      refine Calls.mono HQ.out ?_
      rintro e w13 ⟨rfl, hb13⟩
      have HB13 := hide hb13
      clear hb13 HQ
      have hcz : w13.cell? ⟨g, 0, none⟩ = some (.int .i64 0) := by
        obtain ⟨g', cap', hv', _, hc', _⟩ := nums_row (row_later HRW12.out HB13.out)
        simp only [Value.slice.injEq, Option.some.injEq, Addr.mk.injEq, and_true, true_and] at hv'
        obtain ⟨rfl, rfl⟩ := hv'
        exact hc' 0 (Nat.zero_le _)
      have hgl13 : g < w13.heap.size := World.block_lt_of_cell? _ _ hcz
      go_wp2_with fail
      obtain ⟨W14, hW14⟩ : ∃ W14, W14 = w13.alloc (.cells #[.int .i64 4, .int .i64 0, .string ⟨#[120]⟩] 32) := ⟨_, rfl⟩
      have hb14 : Below w13.heap.size w13 W14 := by rw [hW14]; exact (Below.refl _ _).alloc (Nat.le_refl _) _
      have HB14 : Hid (Below w12.heap.size w12 W14) := HB13.out.trans (hb14.mono HB13.out.size)
      have HX14 := hide (heap_alloc_new w13 (.cells #[.int .i64 4, .int .i64 0, .string ⟨#[120]⟩] 32))
      rw [← hW14] at HX14 ⊢
      clear hW14 hb14 hcz hgl13
      have e0 := HE0.out
      subst e0
      have HQ := hide (read_ok (HH12.out.later HB14.out) 0 ⟨-1, [⟨nm, 3, v, ⟨#[]⟩, 0, true⟩]⟩ (by rw [List.getElem?_set_ne (by omega)]; rfl) nm 0 ⟨nm, 3, v, ⟨#[]⟩, 0, true⟩ (firstS_one (isS_self _ _ _ _ _ _)) rfl rfl)
      unfold hP vOf at HQ
      refine Calls.mono HQ.out ?_
      rintro e w15 ⟨rfl, hb15⟩
      have HB15 : Hid (Below w12.heap.size w12 w15) := HB14.out.trans (hb15.mono HB14.out.size)
      have HX15 := hide ((hb15.block _ (lt_of_block HX14.out)).trans HX14.out)
      clear hb15 HQ HX14 HB14
      go_wp2_with fail
      obtain ⟨W16, hW16⟩ : ∃ W16, W16 = w15.alloc (.cells #[.int .i64 3, .int .i64 v, .string ⟨#[]⟩] 32) := ⟨_, rfl⟩
      have hb16 : Below w15.heap.size w15 W16 := by rw [hW16]; exact (Below.refl _ _).alloc (Nat.le_refl _) _
      have HB16 : Hid (Below w12.heap.size w12 W16) := HB15.out.trans (hb16.mono HB15.out.size)
      have HX := hide ((hb16.block _ (lt_of_block HX15.out)).trans HX15.out)
      have HY := hide (heap_alloc_new w15 (.cells #[.int .i64 3, .int .i64 v, .string ⟨#[]⟩] 32))
      rw [← hW16] at HY ⊢
      have HH16 := hide (HH12.out.later HB16.out)
      have HRW16 := hide (row_later HRW12.out HB16.out)
      have HBL16 := hide (HBL12.out.trans (HB16.out.mono HBL12.out.size))
      have HHW : Hid (w0.heap.size ≤ W16.heap.size) := HBL16.out.size
      clear hW16 hb16 HX15 HB15 HB16 HH12 HRW12 HBL12
      have HNX : Hid (∀ W, Fr w0.heap.size W16 W → W.cell? ⟨w13.heap.size, 0, none⟩ = some (.int .i64 4) ∧ W.cell? ⟨w13.heap.size, 1, none⟩ = some (.int .i64 0) ∧ W.cell? ⟨w13.heap.size, 2, none⟩ = some (.string ⟨#[120]⟩)) := fun W hW => by
        have h := hW.ints _ _ 32 HX.out (by decide)
        refine ⟨?_, ?_, ?_⟩ <;> simp [World.cell?, h]
      have HNY : Hid (∀ W, Fr w0.heap.size W16 W → W.cell? ⟨w15.heap.size, 0, none⟩ = some (.int .i64 3) ∧ W.cell? ⟨w15.heap.size, 1, none⟩ = some (.int .i64 v) ∧ W.cell? ⟨w15.heap.size, 2, none⟩ = some (.string ⟨#[]⟩)) := fun W hW => by
        have h := hW.ints _ _ 32 HY.out (by decide)
        refine ⟨?_, ?_, ?_⟩ <;> simp [World.cell?, h]
      have HNS : Hid (∀ W, Fr w0.heap.size W16 W → W.cell? ⟨g, 0, none⟩ = some (.int .i64 0)) := fun W hW => by
        obtain ⟨g', cap', hv', _, hc', _⟩ := nums_row (hW.row HRW16.out)
        simp only [Value.slice.injEq, Option.some.injEq, Addr.mk.injEq, and_true, true_and] at hv'
        obtain ⟨rfl, rfl⟩ := hv'
        exact hc' 0 (Nat.zero_le _)
      have HS : Hid (Fr w0.heap.size W16 W16.drew) := Fr.of (Below.refl W16.heap.size W16).drew HHW.out
      refine wp_region_held (S := fun W => Fr w0.heap.size W16 W) (by kernel_rfl) ?_
      change wpAnyH _ _ _ _ _ _ _ _ (World.drew _)
      refine wh 0 (.nilIface) HS.out ?_
      refine wh 1 (.bool true) HS.out ?_
      refine wh 2 (.bool true) HS.out ?_
      refine wh 3 (.nilIface) HS.out ?_
      refine wh 4 (.bool true) HS.out ?_
      refine wh 5 (.bool true) HS.out ?_
      refine wh 6 (.bool true) HS.out ?_
      refine wg 7 (.agg #[.int .i64 4, .int .i64 0, .string ⟨#[120]⟩]) rfl (Or.inl ⟨by kernel_rfl, fun W hW => by obtain ⟨q0, q1, q2⟩ := HNX.out W hW; go_simp⟩) HS.out ?_
      refine wq1 8 fun K hK => ?_
      go_simp
      refine Calls.mono (say_any ⟨#[120]⟩ W16.drew) ?_
      rintro e w17 ⟨rfl, hb17⟩
      have HB17 : Hid (Below W16.heap.size W16 w17) := (Below.refl W16.heap.size W16).drew.trans hb17
      have HS17 : Hid (Fr w0.heap.size W16 w17) := Fr.of HB17.out HHW.out
      refine hK.out _ _ HS17.out (fun _ => ?_)
      clear hK K hb17
      refine wh 9 (.bool true) HS17.out ?_
      refine wh 10 (.bool true) HS17.out ?_
      refine wh 11 (.bool true) HS17.out ?_
      refine wg 12 (.agg #[.int .i64 3, .int .i64 v, .string ⟨#[]⟩]) rfl (Or.inl ⟨by kernel_rfl, fun W hW => by obtain ⟨q0, q1, q2⟩ := HNY.out W hW; go_simp⟩) HS17.out ?_
      refine wh 13 (.int .i64 v) HS17.out ?_
      refine wq1 14 fun K hK => ?_
      go_simp
      refine Calls.mono (of_any v w17) ?_
      rintro e w18 ⟨rfl, hb18⟩
      have HB18 : Hid (Below W16.heap.size W16 w18) := HB17.out.trans (hb18.mono HB17.out.size)
      have HS18 : Hid (Fr w0.heap.size W16 w18) := Fr.of HB18.out HHW.out
      refine hK.out _ _ HS18.out (fun _ => ?_)
      clear hK K hb18
      refine wh 15 (.bool true) HS18.out ?_
      refine wh 16 (.bool true) HS18.out ?_
      refine wh 17 (.bool true) HS18.out ?_
      refine wh 18 (.int .i64 ((m + 1 : Nat) : Int)) HS18.out ?_
      refine wh 19 (.string nm) HS18.out ?_
      have HH18 := hide (HH16.out.later HB18.out)
      have HD := hide (drop_ok HH18.out (m + 1) (m : Int) ⟨nm, 4, 0, ⟨#[120]⟩, 4, true⟩ (List.getElem?_set_self (by rw [chain_len]; omega)) nm (isS_self _ _ _ _ _ _) rfl)
      rw [List.set_set, chain_back _ _ _ hm'] at HD
      unfold hP at HD
      refine wq1 20 fun K hK => ?_
      go_simp
      refine Calls.mono HD.out ?_
      rintro e w19 ⟨rfl, ⟨v19, hh19⟩, hf19⟩
      have HS19 : Hid (Fr w0.heap.size W16 w19) := HS18.out.trans hf19
      have HH19 := hide hh19
      refine hK.out _ _ HS19.out (fun _ => ?_)
      clear hK K hh19 hf19 HD
      refine wh 21 (.bool true) HS19.out ?_
      refine wh 22 (.bool true) HS19.out ?_
      refine wh 23 (.int .i64 ((dk + 1 : Nat) : Int)) HS19.out ?_
      refine wh 24 (.string nm) HS19.out ?_
      refine wh 26 (.slice (some ⟨g, 0, none⟩) (dk + 1 + 1) cap) HS19.out ?_
      refine wg 27 (.pointer (some ⟨g, 0, none⟩)) rfl (Or.inl ⟨by kernel_rfl, fun W hW => by go_simp; intro hq; omega⟩) HS19.out ?_
      refine wg 28 (.int .i64 0) rfl (Or.inl ⟨by kernel_rfl, fun W hW => by have hh := HNS.out W hW; go_simp⟩) HS19.out ?_
      have HA := hide (find_any HH19.out ((dk + 1 : Nat) : Int) 0 nm (finds_chain _ (dk + 1) nm HIS.out (dk + 1) (Nat.le_refl _)))
      unfold hP at HA
      refine wq1 25 fun K hK => ?_
      go_simp
      refine Calls.mono HA.out ?_
      rintro e w20 ⟨rfl, hb20⟩
      have HHL : w0.heap.size ≤ w19.heap.size := Nat.le_trans HHW.out HS19.out.below.size
      have HS20 : Hid (Fr w0.heap.size W16 w20) := HS19.out.trans (Fr.of hb20 HHL)
      have HH20 := hide (HH19.out.later hb20)
      refine hK.out _ _ HS20.out (fun _ => ?_)
      clear hK K hb20 HA HHL
      refine wh 29 (.bool true) HS20.out ?_
      refine wh 30 (.bool true) HS20.out ?_
      refine wh 31 (.bool true) HS20.out ?_
      refine wh 32 (.slice (some ⟨g, 0, none⟩) (dk + 1 + 1) cap) HS20.out ?_
      refine wg 33 (.pointer (some ⟨g, 0, none⟩)) rfl (Or.inl ⟨by kernel_rfl, fun W hW => by go_simp; intro hq; omega⟩) HS20.out ?_
      refine wg 34 (.int .i64 0) rfl (Or.inl ⟨by kernel_rfl, fun W hW => by have hh := HNS.out W hW; go_simp⟩) HS20.out ?_
      refine wh 35 (.string nm) HS20.out ?_
      have HD := hide (drop_no HH20.out 0 _ rfl nm 0 ⟨nm, 3, v, ⟨#[]⟩, 0, true⟩ (firstS_one (isS_self _ _ _ _ _ _)) rfl (by simp))
      unfold hP at HD
      refine wq1 36 fun K hK => ?_
      go_simp
      refine Calls.mono HD.out ?_
      rintro e w21 ⟨rfl, hb21⟩
      have HHL : w0.heap.size ≤ w20.heap.size := Nat.le_trans HHW.out HS20.out.below.size
      have HS21 : Hid (Fr w0.heap.size W16 w21) := HS20.out.trans (Fr.of hb21 HHL)
      refine hK.out _ _ HS21.out (fun _ => ?_)
      clear hK K hb21 HD HHL
      refine wh 37 (.bool true) HS21.out ?_
      refine wh 38 (.bool true) HS21.out ?_
      refine wh 39 (.bool true) HS21.out ?_
      refine wpAnyH_done (by kernel_rfl) ?_ _
      go_simp
      go_wp2_with fail
      go_ret
      exact ⟨rfl, HBL16.out.trans HS21.out.below⟩
end Go.Proofs.Ytcgnajjcfeiefab
