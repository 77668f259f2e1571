/-
  HoistClosed of a text that is a program of at most 2000 bytes.
-/
import Derived.Test.YtodmgaikhbmlnaaGreatDoorHk23
set_option maxRecDepth 100000
set_option maxHeartbeats 16000000
namespace Go.Proofs.YtodmgaikhbmlnaaGreatDoor
open Go.RowKit
theorem nm_call {x : ByteArray} (h : nmB x = true) (W : World) (hw : ∃ t fr, W.heap[2]? = some (.cells (wordsS.map Value.string).toArray t fr)) : Calls Tryz.prog 40 #[.string x] W fun e w' => e = .returned (.bool true) ∧ Below W.heap.size W w' := by
 have hn := nm_of h
 obtain ⟨t, fr, hg⟩ := hw
 have hp := hn.pos
 have h0 : letB (x[0].toNat : Int) = true := by rw [← bt_eq x 0 hp]; exact hn.fst
 have hl : pastN lodB x 0 = x.size := by
  have h1 := take_all (fun b : UInt8 => lodB (b.toNat : Int)) x.data.toList [] hn.all; unfold pastN; rw [List.append_nil] at h1; rw [List.drop_zero, h1]; simp
 have h3 := isName_last wordsS x W (by have := hn.small; unfold maxLen; omega) hp hn.small h0 (by rw [hl]; simp) (by decide) t fr hg
 rw [hn.no] at h3
 exact h3
theorem hcl_ok (s : ByteArray) (t : Tr) (w : World) (hz : s.size ≤ 2000) (hp : parseS wordsS signsS s = .ok t) (h : HcPre s (.ok t) w)
  (hPa : ∀ X W, Below w.heap.size w W → Calls Tryz.prog 13 #[.string X] W (PaPost (parseS wordsS signsS X) W))
  (hNm : ∀ x W, nmB x = true → Below w.heap.size w W → Calls Tryz.prog 40 #[.string x] W fun e w' => e = .returned (.bool true) ∧ Below W.heap.size W w')
  (hTe : ∀ W, Below w.heap.size w W → Calls Tryz.prog 26 #[.iface 23 (.int .i64 4)] W fun e w' => e = .returned (.int .i64 4) ∧ Below W.heap.size W w') :
  Calls Tryz.prog 9 #[.string s] w fun e w' => e = .returned (.bool true) ∧ Below w.heap.size w w' := by
 have hkd := parseS_kd hp
 obtain ⟨ff1, ff2, ff3⟩ := free_facts (frF t.count t (fun _ => 0))
 have hfl := frF_len t.count t (fun _ => 0)
 obtain ⟨XS, hXS⟩ : ∃ XS, XS = freeOf (frF t.count t (fun _ => 0)) := ⟨_, rfl⟩
 rw [← hXS] at ff1 ff2 ff3
 have hXl : XS.length ≤ 1500 := by omega
 have HNMX : Hid (∀ x ∈ XS, nmB x = true) := fun x hx => free_nm _ t _ x (parse_nz hp) ((ff1 x).1 hx)
 have HLT : Hid (∀ k, (hk : k + 1 < XS.length) → Op.bytesLess (XS[k]).toList (XS[k + 1]).toList = true) := fun k hk => less_of (List.pairwise_iff_getElem.1 ff2 k (k + 1) (by omega) hk (by omega))
 have HSM : Hid (∀ k, k ≤ XS.length → (moreL (XS.take k)).size ≤ 39000) := fun k hk => by
  have h1 := more_size (XS.take k) fun x hx => (nm_of (unhide HNMX x (List.mem_of_mem_take hx))).small; rw [List.length_take] at h1
  show _ ≤ _
  omega
 have HPV : Hid (¬ 3000 < (moreL XS).size + s.size → ∃ n : Tr, n.ill = 0 ∧ n.count ≤ 1500 ∧ freeOf (frF n.count n (fun _ => 0)) = [] ∧ parseS wordsS signsS (moreL XS ++ s) = .ok n ∨ parseS wordsS signsS (moreL XS ++ s) = .bare) := fun hsz => by
  rw [more_vtext]; obtain ⟨n, n1, n2, n3⟩ := parse_vars hp XS (fun x hx => nm_of (unhide HNMX x hx)) (by rw [← more_vtext, ByteArray.size_append]; omega) (by omega)
  by_cases hc : 1500 < n.count
  ·
   rw [if_pos hc] at n3; exact ⟨n, Or.inr n3⟩
  ·
   rw [if_neg hc] at n3; refine ⟨n, Or.inl ⟨parse_ill n3, by omega, ?_, n3⟩⟩; rw [free_none hkd.1 n1 n2 fun y hy => (ff1 y).2 hy]; exact List.length_eq_zero_iff.1 (Nat.le_zero.1 (free_facts []).2.2)
 have HFR : Hid (∀ p W, NTr W t p → Calls Tryz.prog 37 #[nPtr p] W fun e w' => (∃ u, e = .returned u ∧ SRow 0 w' u XS) ∧ Below W.heap.size W w') := fun p W hW => by rw [hXS]; exact hfree_any t p W hW (parse_ill hp) hkd.2
 have HC := hide h.1
 have HK := hide h.2
 have HPA := hide hPa
 have HNM := hide hNm
 have HTE := hide hTe
 have hzi : ¬ (2000 : Int) < (s.size : Int) := by omega
 clear h hp hkd ff1 ff2 ff3 hfl hXS hPa hNm hTe
 go_enter Tryz.func9, Tryz.ntmps9
 go_wp2_with fail
 refine cm HC.out ?_
 rintro e w1 ⟨p, rfl, hn, hb⟩
 have HB := hide hb
 have HN := hide (NAt.nt hn)
 have HC1 := hide (unhide HK w1 hb)
 clear hb HC hn
 go_wp2_with fail
 refine cm HC1.out ?_
 rintro e w2 ⟨rfl, hb2⟩
 have HB2 := hide (HB.out.trans (hb2.mono HB.out.size))
 have HN2 := hide (HN.out.later hb2)
 clear hb2 HC1 HN HB
 go_wp2_with fail
 refine cm (unhide HFR p w2 HN2.out) ?_
 rintro e w3 ⟨⟨u3, rfl, hr3⟩, hb3⟩
 obtain ⟨ua, uc, rfl⟩ := srow_form hr3
 have HR := hide hr3
 have HB3 := hide (HB2.out.trans (hb3.mono HB2.out.size))
 clear hr3 hb3 HN2 HB2 HFR HK
 go_wp2_with fail
 go_loopw [6, 7] (fun m i wr => ∃ k : Nat, k ≤ XS.length ∧ i = .int .i64 k ∧ m = .string (moreL (XS.take k)) ∧ Below w3.heap.size w3 wr) (fun _ i _ => XS.length - (intOf i).toNat)
 case atStart => exact ⟨0, Nat.zero_le _, rfl, rfl, Below.refl _ _⟩
 case round =>
  obtain ⟨k, hk, rfl, rfl, hb⟩ := hrel; have HBW := hide hb; have HWW := hide (HB3.out.trans (hb.mono HB3.out.size)); clear hb
  by_cases hlt : k < XS.length
  ·
   obtain ⟨g, cap, hv, hg, _, hc⟩ := srow_cell (SRow.later HR.out HBW.out) k hlt; simp only [Value.slice.injEq] at hv; obtain ⟨rfl, _, rfl⟩ := hv; have hki : (k : Int) < (XS.length : Int) := by omega
   have HC40 : Hid (∀ W, Below wr.heap.size wr W → Calls Tryz.prog 40 #[.string XS[k]] W fun e w' => e = .returned (.bool true) ∧ Below W.heap.size W w') := fun W hW => unhide HNM _ W (unhide HNMX _ (List.getElem_mem _)) (HWW.out.trans (hW.mono HWW.out.size))
   have HMK : Hid (moreL (XS.take (k + 1)) = moreL (XS.take k) ++ ((tV4 ++ XS[k]) ++ tSC)) := by
    show _ = _
    rw [List.take_succ_eq_append_getElem hlt, more_snoc]
   have HCC := hide hc; have hS0 : Below wr.heap.size wr wr.drew := (Below.refl _ _).drew; clear hc; obtain ⟨x, hx⟩ : ∃ x, x = XS[k] := ⟨_, rfl⟩; rw [← hx] at HC40 HMK HCC
   have hxs : x.size ≤ 20 := by rw [hx]; exact (nm_of (unhide HNMX _ (List.getElem_mem _))).small
   have hmk := unhide HSM k hk; have hc1 : ¬ 9223372036854775807 < 4 + x.size := by omega
   have hc2 : ¬ 9223372036854775807 < 4 + x.size + 2 := by omega
   have hc3 : ¬ 9223372036854775807 < (moreL (XS.take k)).size + (4 + x.size + 2) := by omega
   by_cases hpos : 0 < k
   ·
    have hk0 : (0 : Int) < (k : Int) := by omega
    obtain ⟨j, hj⟩ : ∃ j, k = j + 1 := ⟨k - 1, by omega⟩; have hsub : IntKind.i64.wrap ((k : Int) - 1) = (j : Int) := by rw [show (k : Int) - 1 = (j : Int) by omega]; exact wrap_small (by omega) (by omega)
    have hji : (j : Int) < (XS.length : Int) := by omega
    have hjn : ¬ (j : Int) < 0 := by omega
    obtain ⟨g2, cap2, hv, hg2, _, hc2⟩ := srow_cell (SRow.later HR.out HBW.out) j (by omega); simp only [Value.slice.injEq, Option.some.injEq, Addr.mk.injEq] at hv; obtain ⟨⟨rfl, _, _⟩, _, rfl⟩ := hv
    have hless : Op.bytesLess (XS[j]).toList x.toList = true := by
     have := unhide HLT j (by omega); rw [hx]; simp only [hj]; exact this
    obtain ⟨y, hy⟩ : ∃ y, y = XS[j]'(by omega) := ⟨_, rfl⟩; rw [← hy] at hless hc2; have HC2 := hide hc2; clear hy hc2 hj; clear hx; go_wp2_with fail
    refine wp_region_held (S := fun X => Below wr.heap.size wr X) (by kernel_rfl) ?_; change wpAnyH _ _ _ _ _ _ _ _ (World.drew _); refine wh 0 (.int .i64 k) hS0 ?_; refine wh 1 (.bool true) hS0 ?_
    refine wh 2 (.bool true) hS0 ?_; refine wh 3 (.slice (some ⟨g, 0, none⟩) XS.length uc) hS0 ?_; refine wh 4 (.int .i64 k) hS0 ?_; refine wh 5 (.int .i64 j) hS0 ?_; refine wh 6 (.pointer (some ⟨g, j, none⟩)) hS0 ?_
    refine wh 7 (.string y) hS0 ?_ (hy := Or.inl ⟨by kernel_rfl, fun X hX => by have hh := keepR hX HC2.out; go_simp⟩)
    refine wh 8 (.slice (some ⟨g, 0, none⟩) XS.length uc) hS0 ?_; refine wh 9 (.int .i64 k) hS0 ?_; refine wh 10 (.pointer (some ⟨g, k, none⟩)) hS0 ?_
    refine wh 11 (.string x) hS0 ?_ (hy := Or.inl ⟨by kernel_rfl, fun X hX => by have hh := keepR hX HCC.out; go_simp⟩)
    refine wh 12 (.bool false) hS0 ?_; refine wh 13 (.bool false) hS0 ?_; refine wh 14 (.bool false) hS0 ?_; refine wh 15 (.slice (some ⟨g, 0, none⟩) XS.length uc) hS0 ?_; refine wh 16 (.int .i64 k) hS0 ?_
    refine wh 17 (.pointer (some ⟨g, k, none⟩)) hS0 ?_; refine wh 18 (.string x) hS0 ?_ (hy := Or.inl ⟨by kernel_rfl, fun X hX => by have hh := keepR hX HCC.out; go_simp⟩)
    refine wq1 19 fun K hK => ?_; go_simp; refine cm (unhide HC40 _ hS0) ?_; rintro e wX ⟨rfl, hbX⟩; have hSX : Below wr.heap.size wr wX := hS0.trans (hbX.mono hS0.size); refine hK.out _ _ hSX (fun _ => ?_); clear hK K
    refine wh 20 (.bool false) hSX ?_; refine wh 21 (.bool false) hSX ?_; refine wpAnyH_done (by kernel_rfl) ?_ _; go_simp; have HSX := hide hSX; clear hSX hbX
    have HBX : Hid (Below w3.heap.size w3 wX) := HBW.out.trans (HSX.out.mono HBW.out.size); have hcx := keepR HSX.out HCC.out; have hgx := cellR hcx; clear HSX HCC HC40 hS0; go_wp2_with fail
    go_roundw
    case rel => exact ⟨k + 1, by omega, by go_num, by rw [HMK.out], HBX.out⟩
    case measure => simp [intOf]; omega
   ·
    have hk0 : ¬ (0 : Int) < (k : Int) := by omega
    clear hx; go_wp2_with fail; refine wp_region_held (S := fun X => Below wr.heap.size wr X) (by kernel_rfl) ?_; change wpAnyH _ _ _ _ _ _ _ _ (World.drew _); refine wh 0 (.int .i64 k) hS0 ?_
    refine wh 1 (.bool false) hS0 ?_; refine wh 2 (.bool false) hS0 ?_; refine wh 3 undef hS0 ?_ (hy := Or.inr ⟨by kernel_rfl, rfl⟩); refine wh 4 undef hS0 ?_ (hy := Or.inr ⟨by kernel_rfl, rfl⟩)
    refine wh 5 undef hS0 ?_ (hy := Or.inr ⟨by kernel_rfl, rfl⟩); refine wh 6 undef hS0 ?_ (hy := Or.inr ⟨by kernel_rfl, rfl⟩); refine wh 7 undef hS0 ?_ (hy := Or.inr ⟨by kernel_rfl, rfl⟩)
    refine wh 8 undef hS0 ?_ (hy := Or.inr ⟨by kernel_rfl, rfl⟩); refine wh 9 undef hS0 ?_ (hy := Or.inr ⟨by kernel_rfl, rfl⟩); refine wh 10 undef hS0 ?_ (hy := Or.inr ⟨by kernel_rfl, rfl⟩)
    refine wh 11 undef hS0 ?_ (hy := Or.inr ⟨by kernel_rfl, rfl⟩); refine wh 12 undef hS0 ?_ (hy := Or.inr ⟨by kernel_rfl, rfl⟩); refine wh 13 (.bool false) hS0 ?_; refine wh 14 (.bool false) hS0 ?_
    refine wh 15 (.slice (some ⟨g, 0, none⟩) XS.length uc) hS0 ?_; refine wh 16 (.int .i64 k) hS0 ?_; refine wh 17 (.pointer (some ⟨g, k, none⟩)) hS0 ?_
    refine wh 18 (.string x) hS0 ?_ (hy := Or.inl ⟨by kernel_rfl, fun X hX => by have hh := keepR hX HCC.out; go_simp⟩)
    refine wq1 19 fun K hK => ?_; go_simp; refine cm (unhide HC40 _ hS0) ?_; rintro e wX ⟨rfl, hbX⟩; have hSX : Below wr.heap.size wr wX := hS0.trans (hbX.mono hS0.size); refine hK.out _ _ hSX (fun _ => ?_); clear hK K
    refine wh 20 (.bool false) hSX ?_; refine wh 21 (.bool false) hSX ?_; refine wpAnyH_done (by kernel_rfl) ?_ _; go_simp; have HSX := hide hSX; clear hSX hbX
    have HBX : Hid (Below w3.heap.size w3 wX) := HBW.out.trans (HSX.out.mono HBW.out.size); have hcx := keepR HSX.out HCC.out; have hgx := cellR hcx; clear HSX HCC HC40 hS0; go_wp2_with fail
    go_roundw
    case rel => exact ⟨k + 1, by omega, by go_num, by rw [HMK.out], HBX.out⟩
    case measure => simp [intOf]; omega
  ·
   have hkk : k = XS.length := by omega
   subst hkk; have hms := unhide HSM XS.length (Nat.le_refl _); rw [List.take_length] at hms; have hMM : moreL (XS.take XS.length) = moreL XS := by rw [List.take_length]
   rw [hMM]; clear hMM; have hc4 : ¬ 9223372036854775807 < (moreL XS).size + s.size := by omega
   have hwr : IntKind.i64.wrap (((moreL XS).size : Int) + (s.size : Int)) = ((moreL XS).size : Int) + (s.size : Int) := wrap_small (by omega) (by omega)
   by_cases hbig : 3000 < (moreL XS).size + s.size
   ·
    have hbi : (3000 : Int) < ((moreL XS).size : Int) + (s.size : Int) := by omega
    clear hbig; go_wp2_with fail; go_ret; exact ⟨rfl, HWW.out⟩
   ·
    have hbi : ¬ (3000 : Int) < ((moreL XS).size : Int) + (s.size : Int) := by omega
    have HCP := hide (unhide HPA (moreL XS ++ s) wr HWW.out); obtain ⟨n, hn⟩ := unhide HPV hbig; clear hbig HPV
    rcases hn with ⟨n1, n2, n3, n4⟩ | n4
    ·
     rw [n4] at HCP
     have HFN : Hid (∀ q W, NTr W n q → Calls Tryz.prog 37 #[nPtr q] W fun e w' => (∃ u, e = .returned u ∧ SRow 0 w' u []) ∧ Below W.heap.size W w') := fun q W hW => by rw [← n3]; exact hfree_any n q W hW n1 n2
     clear n4 n3 n1 n2; go_wp2_with fail; refine cm HCP.out ?_; rintro e w4 ⟨q, rfl, hn4, hb4⟩; have HN4 := hide (NAt.nt hn4); have HB4 := hide (HWW.out.trans (hb4.mono HWW.out.size)); clear hn4 hb4 HCP; go_wp2_with fail
     refine cm (unhide HFN q w4 HN4.out) ?_; rintro e w5 ⟨⟨u5, rfl, hr5⟩, hb5⟩; obtain ⟨a5, c5, rfl⟩ := srow_form hr5; have HB5 := hide (HB4.out.trans (hb5.mono HB4.out.size)); clear hr5 hb5 HFN; go_wp2_with fail; go_ret
     exact ⟨rfl, HB5.out⟩
    ·
     rw [n4] at HCP; clear n4; go_wp2_with fail; refine cm HCP.out ?_; rintro e w4 ⟨rfl, hb4⟩; have HB4 := hide (HWW.out.trans (hb4.mono HWW.out.size)); clear hb4 HCP; go_wp2_with fail; refine cm (unhide HTE w4 HB4.out) ?_
     rintro e w5 ⟨rfl, hb5⟩; have HB5 := hide (HB4.out.trans (hb5.mono HB4.out.size)); clear hb5; go_wp2_with fail; go_ret; exact ⟨rfl, HB5.out⟩
theorem hcl_any (s : ByteArray) (w : World) (hL : Lists wordsS signsS w) (hgs : ∀ g ∈ signsS, 1 ≤ g.size) (hT : Tabs w) (hE : errType w) : Calls Tryz.prog 9 #[.string s] w fun e w' => e = .returned (.bool true) ∧ Below w.heap.size w w' := by
 have hpre : HcPre s (parseS wordsS signsS s) w := ⟨read_any22 wordsS signsS s w hL hgs hT, fun W hW => hoisted_any W (hL.later hW) hgs (hT.later hW)⟩
 cases hr : parseS wordsS signsS s with
 | bare => rw [hr] at hpre; exact hcl_no s _ w (by nofun) hpre
 | «at» a b => rw [hr] at hpre; exact hcl_no s _ w (by nofun) hpre
 | ok t =>
  rw [hr] at hpre
  by_cases hz : 2000 < s.size
  ·
   exact hcl_big s t w hz hpre
  ·
   exact hcl_ok s t w (by omega) hr hpre (fun X W hW => parse_any wordsS signsS X W (hL.later hW) hgs (hT.later hW)) (fun x W hx hW => nm_call hx W (hL.later hW).hw) (fun W hW => Tell_hit 4 W (errType_later hE hW))
end Go.Proofs.YtodmgaikhbmlnaaGreatDoor
