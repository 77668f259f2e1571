/-
  WherePlain, of every text.
-/
import Derived.Test.YtoimgcjbcbhclaaGreatDoorWh40
set_option maxRecDepth 100000
set_option maxHeartbeats 16000000
namespace Go.Proofs.YtoimgcjbcbhclaaGreatDoor
open Go.RowKit

theorem en32 : ∀ args W, (callFunc 32 args).run Tryz.prog W = .ok (.enter 32 args) W := fun _ _ => by kernel_rfl
/-- The law's look at all nodes. -/
theorem look_bad {I : Nat → Prop} (t : Ad) (w : World) (ht : AAt I w t) (hd : t.ads.Nodup) (hi : t.tr.ill = 0) (hc : t.cnt ≤ 20000) :
    Calls Tryz.prog 31 #[nPtr t.p, .func (.func 32) #[] #[.pointer (some ⟨w.heap.size, 0, none⟩)]] (w.alloc (.cells #[.bool false] 4)) fun e w' => e = .returned (.tuple #[]) ∧ w'.heap[w.heap.size]? = some (.cells #[.bool (badT t.tr)] 4 (0, 0)) ∧ Below w.heap.size w w' := by
  have hb2 : Below w.heap.size w (w.alloc (.cells #[.bool false] 4)) := (Below.refl _ _).alloc (Nat.le_refl _) _
  have hA2 : AAt (fun b => b < w.heap.size + 1 ∧ b ≠ w.heap.size) (w.alloc (.cells #[.bool false] 4)) t :=
    AAt.later (I := fun b => b < w.heap.size + 1 ∧ b ≠ w.heap.size) (fun b hb hl => hb2.block b hl) _ (AAt.mono (fun b _ hl => ⟨by omega, by omega⟩) _ ht)
  have h := walkG 32 (.pointer (some ⟨w.heap.size, 0, none⟩)) (fun b => b < w.heap.size + 1 ∧ b ≠ w.heap.size) (Ap w.heap.size (w.heap.size + 1)) (fun b W => Bds w.heap.size b W ∧ w.heap.size + 1 ≤ W.heap.size) bdF (fun _ ts => ∀ x ∈ ts, x.tr.ill = 0 ∧ x.ads.Nodup ∧ x.cnt ≤ 20000) en32 (fun W => by kernel_rfl)
    (fun _ _ _ h k => h.trans k) (fun w w' h => ⟨fun b hb _ => h.block b hb.1 hb.2, h.size⟩)
    (fun b x ts h y hy => by
      rcases List.mem_append.1 hy with hy | hy
      · have h1 := h x (by simp)
        have hy' : y ∈ x.ks := by simpa [bdF] using hy
        have h2 := cnts_mem x.ks y hy'
        have h3 := cnt_eq x
        exact ⟨ill_parts h1.1 y hy', nodup_part h1.2.1 y hy', by omega⟩
      · exact h y (by simp [hy]))
    (fun b x ts W h hI hA => by
      have h1 := h x (by simp)
      refine (bad1_any hI.1 hA h1.2.1 h1.1 (by omega)).mono ?_
      rintro e W' ⟨rfl, h2, h3⟩
      exact ⟨rfl, ⟨h2, Nat.le_trans hI.2 h3.size⟩, h3.mono hI.2⟩)
    t.cnt t (Nat.le_refl _) (by omega) [] false (w.alloc (.cells #[.bool false] 4)) (fun x hx => by rw [List.mem_singleton.1 hx]; exact ⟨hi, hd, hc⟩) ⟨⟨heap_new _ _⟩, by simp⟩ hA2
  rw [bad_wk, Bool.false_or] at h
  refine h.mono ?_
  rintro e w' ⟨rfl, h1, _, h3⟩
  exact ⟨rfl, h1.1.found, hb2.trans ((h3.mono (by omega)).below (Nat.le_refl _))⟩

theorem uses_all (t : Tr) (m : Nat) : ∀ L, L = tl m t 0 [] false → (∀ k (_ : k < L.length), (L[k]).2.2 = true ∨ badT t = true) ∧ ∀ k (_ : k < L.length) (_ : k + 1 < L.length), (L[k]).1 < (L[k + 1]).1 := by
  rintro L rfl
  refine ⟨fun k hk => ?_, fun k h1 h2 => List.pairwise_iff_getElem.1 (tl_ord m t 0 [] false).1 k (k + 1) h1 h2 (by omega)⟩
  cases hb : badT t with
  | true => exact Or.inr rfl
  | false => exact Or.inl (tl_sure m t hb 0 [] false (fun _ h => absurd h (by simp)) _ (List.getElem_mem hk))

theorem wpl_ok (s : ByteArray) (t : Tr) (w : World) (hi : t.ill = 0) (hc : t.count ≤ 1500) (hr : Calls Tryz.prog 11 #[.string s] w (ReadPost (.ok t) w))
    (ht : ∀ W, Below w.heap.size w W → Calls Tryz.prog 30 #[] W fun e w' => e = .returned (.bool true) ∧ Below W.heap.size W w') :
    Calls Tryz.prog 8 #[.string s] w fun e w' => e = .returned (.bool true) ∧ Below w.heap.size w w' := by
  have HR := hide hr
  have HT := hide ht
  clear hr ht
  go_enter Tryz.func8, Tryz.ntmps8
  go_wp2_with fail
  refine Calls.mono HR.out ?_
  rintro e w1 ⟨p, rfl, hn, hb1⟩
  obtain ⟨a, ha, rfl, hA, hd, _⟩ := NAt.ad _ _ hn
  have hcn := Ad.cnt_tr a
  rw [ha] at hcn
  have HB1 := hide hb1
  have HC := hide (unhide HT w1 hb1)
  have HA1 := hide hA
  clear HR hn hb1 hA
  go_wp2_with fail
  refine Calls.mono HC.out ?_
  rintro e w2 ⟨rfl, hb2⟩
  have hA2 := AAt.later (fun b _ hl => hb2.block b hl) _ (unhide HA1)
  have hlk := look_bad a w2 hA2 hd (by rw [ha]; exact hi) (by omega)
  have HOF : Hid (∀ W, Below w2.heap.size w2 W → Calls Tryz.prog 26 #[nPtr a.p] W fun e w' => (∃ v, e = .returned v ∧ w'.ownsRow 0 56 3 v (tl a.cnt a.tr 0 [] false).length (usCells (tl a.cnt a.tr 0 [] false))) ∧ Below W.heap.size W w') := fun W hW => of_any a W (AAt.later (fun b _ hl => hW.block b hl) _ hA2) hd (by rw [ha]; exact hi) (by omega)
  have hul := tl_len a.cnt a.tr 0 [] false
  rw [Ad.cnt_tr] at hul
  have hLl : (tl a.cnt a.tr 0 [] false).length ≤ 1500 := by omega
  obtain ⟨L, hLe⟩ : ∃ L, L = tl a.cnt a.tr 0 [] false := ⟨_, rfl⟩
  obtain ⟨bd, hbd⟩ : ∃ bd, bd = badT a.tr := ⟨_, rfl⟩
  obtain ⟨q, hq⟩ : ∃ q, q = a.p := ⟨_, rfl⟩
  rw [← hLe] at HOF hLl
  obtain ⟨hu1, hu2⟩ := uses_all a.tr a.cnt L hLe
  rw [← hbd] at hlk hu1
  rw [← hq] at hlk HOF ⊢
  have HLK := hide hlk
  have HU1 := hide hu1
  have HU2 := hide hu2
  have HB2 := hide ((unhide HB1).trans (hb2.mono (unhide HB1).size))
  clear HC HT hA2 hlk hu1 hu2 hul hd ha hcn hLe hbd hq HA1 hb2 HB1 hi hc
  go_wp2_with fail
  refine Calls.mono HLK.out ?_
  rintro e w3 ⟨rfl, hf3, hb3⟩
  have HF3 := hide hf3
  have HB3 := hide ((unhide HB2).trans (hb3.mono (unhide HB2).size))
  have HC := hide (unhide HOF w3 hb3)
  clear HLK HOF hf3 hb3
  go_wp2_with fail
  refine Calls.mono HC.out ?_
  rintro e w4 ⟨⟨v, rfl, hv⟩, hb4⟩
  have f4 : w4.cell? ⟨w2.heap.size, 0, none⟩ = some (.bool bd) := by rw [hb4.cell (p := ⟨w2.heap.size, 0, none⟩) (lt_of_heap (unhide HF3)), cell_of (unhide HF3)]; rfl
  obtain ⟨va, vc, rfl⟩ := srow_form hv
  have HV0 := hide hv
  have HF4 := hide f4
  have HB4 := hide ((unhide HB3).trans (hb4.mono (unhide HB3).size))
  clear HC hv hb4 HF3 HB3 HB2 f4
  go_wp2_with fail
  go_loopw [6] (fun i wr => Below w4.heap.size w4 wr ∧ ∃ k : Nat, k ≤ L.length ∧ i = .int .i64 k) (fun i _ => L.length - (intOf i).toNat)
  case atStart => exact ⟨Below.refl _ _, 0, Nat.zero_le _, rfl⟩
  case round =>
    obtain ⟨hbw, k, hk, rfl⟩ := hrel
    have HBW := hide hbw
    have f4 := keepC hbw (unhide HF4)
    have hfl := cell_lt f4
    have HV : Hid (wr.ownsRow 0 56 3 (.slice va L.length vc) L.length (usCells L)) := owns_stay (I := fun _ => True) (Below.stay hbw) (fun _ _ => trivial) (unhide HV0)
    clear hbw
    by_cases hlt : k < L.length
    · obtain ⟨g, cap, hg, hgl, c0, c1, c2⟩ := us_row (unhide HV) k hlt
      simp only [Value.slice.injEq] at hg
      obtain ⟨rfl, hxx, rfl⟩ := hg
      clear hxx
      have hki : (k : Int) < (L.length : Int) := by omega
      have ho := unhide HU1 k hlt
      obtain ⟨y, hy⟩ : ∃ y, y = (L[k]).1 := ⟨_, rfl⟩
      obtain ⟨su, hsu⟩ : ∃ su, su = (L[k]).2.2 := ⟨_, rfl⟩
      rw [← hsu] at c2 ho
      rw [← hy] at c0
      have HY := hide hy
      clear c1 hsu hy
      by_cases hk0 : k = 0
      · have HK0 := hide hk0
        clear hk0
        cases su with
        | true =>
          clear ho
          go_wp2_with fail
          refine wp_region_held (S := fun X => X = wr.drew) (by kernel_rfl) ?_
          change wpAnyH _ _ _ _ _ _ _ _ (World.drew _)
          refine wh 0 (.slice (some ⟨g, 0, none⟩) L.length vc) rfl ?_
          refine wh 1 (.int .i64 (k : Int)) rfl ?_
          refine wh 2 (.pointer (some ⟨g, k * 3, none⟩)) rfl ?_
          refine wh 3 (.pointer (some ⟨g, k * 3 + 2, none⟩)) rfl ?_
          refine wh 4 (.bool true) rfl ?_ (hy := Or.inl ⟨by kernel_rfl, fun X hX => by cases hX; go_simp⟩)
          refine wh 5 (.bool false) rfl ?_
          refine wh 6 (.bool false) rfl ?_
          refine wh 7 undef rfl ?_ (hy := Or.inr ⟨by kernel_rfl, rfl⟩)
          refine wh 8 undef rfl ?_ (hy := Or.inr ⟨by kernel_rfl, rfl⟩)
          refine wh 9 (.bool false) rfl ?_
          refine wh 10 (.bool false) rfl ?_
          refine wh 11 (.int .i64 (k : Int)) rfl ?_
          refine wh 12 (.bool false) rfl ?_ (hy := Or.inl ⟨by kernel_rfl, fun _ _ => by have hk00 := unhide HK0; go_simp⟩)
          refine wh 13 (.bool false) rfl ?_
          refine wh 14 undef rfl ?_ (hy := Or.inr ⟨by kernel_rfl, rfl⟩)
          refine wh 15 undef rfl ?_ (hy := Or.inr ⟨by kernel_rfl, rfl⟩)
          refine wh 16 undef rfl ?_ (hy := Or.inr ⟨by kernel_rfl, rfl⟩)
          refine wh 17 undef rfl ?_ (hy := Or.inr ⟨by kernel_rfl, rfl⟩)
          refine wh 18 undef rfl ?_ (hy := Or.inr ⟨by kernel_rfl, rfl⟩)
          refine wh 19 undef rfl ?_ (hy := Or.inr ⟨by kernel_rfl, rfl⟩)
          refine wh 20 undef rfl ?_ (hy := Or.inr ⟨by kernel_rfl, rfl⟩)
          refine wh 21 undef rfl ?_ (hy := Or.inr ⟨by kernel_rfl, rfl⟩)
          refine wh 22 undef rfl ?_ (hy := Or.inr ⟨by kernel_rfl, rfl⟩)
          refine wh 23 undef rfl ?_ (hy := Or.inr ⟨by kernel_rfl, rfl⟩)
          refine wh 24 undef rfl ?_ (hy := Or.inr ⟨by kernel_rfl, rfl⟩)
          refine wh 25 undef rfl ?_ (hy := Or.inr ⟨by kernel_rfl, rfl⟩)
          refine wh 26 (.bool false) rfl ?_
          refine wh 27 (.bool false) rfl ?_
          refine wpAnyH_done (by kernel_rfl) ?_ _
          go_simp
          go_wp2_with fail
          go_roundw
          case rel => exact ⟨(unhide HBW).drew, k + 1, by omega, by go_num⟩
          case measure => simp [intOf]; omega
        | false =>
          have hbt : bd = true := ho.resolve_left (by decide)
          subst hbt
          clear ho
          go_wp2_with fail
          refine wp_region_held (S := fun X => X = wr.drew) (by kernel_rfl) ?_
          change wpAnyH _ _ _ _ _ _ _ _ (World.drew _)
          refine wh 0 (.slice (some ⟨g, 0, none⟩) L.length vc) rfl ?_
          refine wh 1 (.int .i64 (k : Int)) rfl ?_
          refine wh 2 (.pointer (some ⟨g, k * 3, none⟩)) rfl ?_
          refine wh 3 (.pointer (some ⟨g, k * 3 + 2, none⟩)) rfl ?_
          refine wh 4 (.bool false) rfl ?_ (hy := Or.inl ⟨by kernel_rfl, fun X hX => by cases hX; go_simp⟩)
          refine wh 5 (.bool true) rfl ?_
          refine wh 6 (.bool true) rfl ?_
          refine wh 7 (.bool true) rfl ?_ (hy := Or.inl ⟨by kernel_rfl, fun X hX => by cases hX; go_simp⟩)
          refine wh 8 (.bool false) rfl ?_
          refine wh 9 (.bool false) rfl ?_
          refine wh 10 (.bool false) rfl ?_
          refine wh 11 (.int .i64 (k : Int)) rfl ?_
          refine wh 12 (.bool false) rfl ?_ (hy := Or.inl ⟨by kernel_rfl, fun _ _ => by have hk00 := unhide HK0; go_simp⟩)
          refine wh 13 (.bool false) rfl ?_
          refine wh 14 undef rfl ?_ (hy := Or.inr ⟨by kernel_rfl, rfl⟩)
          refine wh 15 undef rfl ?_ (hy := Or.inr ⟨by kernel_rfl, rfl⟩)
          refine wh 16 undef rfl ?_ (hy := Or.inr ⟨by kernel_rfl, rfl⟩)
          refine wh 17 undef rfl ?_ (hy := Or.inr ⟨by kernel_rfl, rfl⟩)
          refine wh 18 undef rfl ?_ (hy := Or.inr ⟨by kernel_rfl, rfl⟩)
          refine wh 19 undef rfl ?_ (hy := Or.inr ⟨by kernel_rfl, rfl⟩)
          refine wh 20 undef rfl ?_ (hy := Or.inr ⟨by kernel_rfl, rfl⟩)
          refine wh 21 undef rfl ?_ (hy := Or.inr ⟨by kernel_rfl, rfl⟩)
          refine wh 22 undef rfl ?_ (hy := Or.inr ⟨by kernel_rfl, rfl⟩)
          refine wh 23 undef rfl ?_ (hy := Or.inr ⟨by kernel_rfl, rfl⟩)
          refine wh 24 undef rfl ?_ (hy := Or.inr ⟨by kernel_rfl, rfl⟩)
          refine wh 25 undef rfl ?_ (hy := Or.inr ⟨by kernel_rfl, rfl⟩)
          refine wh 26 (.bool false) rfl ?_
          refine wh 27 (.bool false) rfl ?_
          refine wpAnyH_done (by kernel_rfl) ?_ _
          go_simp
          go_wp2_with fail
          go_roundw
          case rel => exact ⟨(unhide HBW).drew, k + 1, by omega, by go_num⟩
          case measure => simp [intOf]; omega
      · obtain ⟨j, hj0⟩ : ∃ j, k = j + 1 := ⟨k - 1, by omega⟩
        have hj : j < L.length := by omega
        obtain ⟨g', cap', hg', _, d0, _, _⟩ := us_row (unhide HV) j hj
        simp only [Value.slice.injEq, Option.some.injEq, Addr.mk.injEq] at hg'
        obtain ⟨⟨hgg, _, _⟩, hyy, hzz⟩ := hg'
        rw [← hgg] at d0
        have hlj : (L[j]).1 < y := by
          have h1 := unhide HU2 j hj (by omega)
          have h2 := unhide HY
          subst hj0
          rw [h2]
          exact h1
        obtain ⟨x, hx⟩ : ∃ x, x = (L[j]).1 := ⟨_, rfl⟩
        rw [← hx] at d0 hlj
        have hji : (j : Int) < (L.length : Int) := by omega
        have hgz : 0 < k := by omega
        have hw : IntKind.i64.wrap ((k : Int) - 1) = (j : Int) := by rw [IntKind.wrap_i64]; omega
        have hng : ¬ y ≤ x := by omega
        clear hx hgg hyy hzz hk0 hj0 hlj
        cases su with
        | true =>
          clear ho
          go_wp2_with fail
          refine wp_region_held (S := fun X => X = wr.drew) (by kernel_rfl) ?_
          change wpAnyH _ _ _ _ _ _ _ _ (World.drew _)
          refine wh 0 (.slice (some ⟨g, 0, none⟩) L.length vc) rfl ?_
          refine wh 1 (.int .i64 (k : Int)) rfl ?_
          refine wh 2 (.pointer (some ⟨g, k * 3, none⟩)) rfl ?_
          refine wh 3 (.pointer (some ⟨g, k * 3 + 2, none⟩)) rfl ?_
          refine wh 4 (.bool true) rfl ?_ (hy := Or.inl ⟨by kernel_rfl, fun X hX => by cases hX; go_simp⟩)
          refine wh 5 (.bool false) rfl ?_
          refine wh 6 (.bool false) rfl ?_
          refine wh 7 undef rfl ?_ (hy := Or.inr ⟨by kernel_rfl, rfl⟩)
          refine wh 8 undef rfl ?_ (hy := Or.inr ⟨by kernel_rfl, rfl⟩)
          refine wh 9 (.bool false) rfl ?_
          refine wh 10 (.bool false) rfl ?_
          refine wh 11 (.int .i64 (k : Int)) rfl ?_
          refine wh 12 (.bool true) rfl ?_
          refine wh 13 (.bool true) rfl ?_
          refine wh 14 (.slice (some ⟨g, 0, none⟩) L.length vc) rfl ?_
          refine wh 15 (.int .i64 (k : Int)) rfl ?_
          refine wh 16 (.int .i64 (j : Int)) rfl ?_
          refine wh 17 (.pointer (some ⟨g, j * 3, none⟩)) rfl ?_
          refine wh 18 (.pointer (some ⟨g, j * 3, none⟩)) rfl ?_
          refine wh 19 (.int .i64 x) rfl ?_ (hy := Or.inl ⟨by kernel_rfl, fun X hX => by cases hX; go_simp⟩)
          refine wh 20 (.slice (some ⟨g, 0, none⟩) L.length vc) rfl ?_
          refine wh 21 (.int .i64 (k : Int)) rfl ?_
          refine wh 22 (.pointer (some ⟨g, k * 3, none⟩)) rfl ?_
          refine wh 23 (.pointer (some ⟨g, k * 3, none⟩)) rfl ?_
          refine wh 24 (.int .i64 y) rfl ?_ (hy := Or.inl ⟨by kernel_rfl, fun X hX => by cases hX; go_simp⟩)
          refine wh 25 (.bool false) rfl ?_
          refine wh 26 (.bool false) rfl ?_
          refine wh 27 (.bool false) rfl ?_
          refine wpAnyH_done (by kernel_rfl) ?_ _
          go_simp
          go_wp2_with fail
          go_roundw
          case rel => exact ⟨(unhide HBW).drew, k + 1, by omega, by go_num⟩
          case measure => simp [intOf]; omega
        | false =>
          have hbt : bd = true := ho.resolve_left (by decide)
          subst hbt
          clear ho
          go_wp2_with fail
          refine wp_region_held (S := fun X => X = wr.drew) (by kernel_rfl) ?_
          change wpAnyH _ _ _ _ _ _ _ _ (World.drew _)
          refine wh 0 (.slice (some ⟨g, 0, none⟩) L.length vc) rfl ?_
          refine wh 1 (.int .i64 (k : Int)) rfl ?_
          refine wh 2 (.pointer (some ⟨g, k * 3, none⟩)) rfl ?_
          refine wh 3 (.pointer (some ⟨g, k * 3 + 2, none⟩)) rfl ?_
          refine wh 4 (.bool false) rfl ?_ (hy := Or.inl ⟨by kernel_rfl, fun X hX => by cases hX; go_simp⟩)
          refine wh 5 (.bool true) rfl ?_
          refine wh 6 (.bool true) rfl ?_
          refine wh 7 (.bool true) rfl ?_ (hy := Or.inl ⟨by kernel_rfl, fun X hX => by cases hX; go_simp⟩)
          refine wh 8 (.bool false) rfl ?_
          refine wh 9 (.bool false) rfl ?_
          refine wh 10 (.bool false) rfl ?_
          refine wh 11 (.int .i64 (k : Int)) rfl ?_
          refine wh 12 (.bool true) rfl ?_
          refine wh 13 (.bool true) rfl ?_
          refine wh 14 (.slice (some ⟨g, 0, none⟩) L.length vc) rfl ?_
          refine wh 15 (.int .i64 (k : Int)) rfl ?_
          refine wh 16 (.int .i64 (j : Int)) rfl ?_
          refine wh 17 (.pointer (some ⟨g, j * 3, none⟩)) rfl ?_
          refine wh 18 (.pointer (some ⟨g, j * 3, none⟩)) rfl ?_
          refine wh 19 (.int .i64 x) rfl ?_ (hy := Or.inl ⟨by kernel_rfl, fun X hX => by cases hX; go_simp⟩)
          refine wh 20 (.slice (some ⟨g, 0, none⟩) L.length vc) rfl ?_
          refine wh 21 (.int .i64 (k : Int)) rfl ?_
          refine wh 22 (.pointer (some ⟨g, k * 3, none⟩)) rfl ?_
          refine wh 23 (.pointer (some ⟨g, k * 3, none⟩)) rfl ?_
          refine wh 24 (.int .i64 y) rfl ?_ (hy := Or.inl ⟨by kernel_rfl, fun X hX => by cases hX; go_simp⟩)
          refine wh 25 (.bool false) rfl ?_
          refine wh 26 (.bool false) rfl ?_
          refine wh 27 (.bool false) rfl ?_
          refine wpAnyH_done (by kernel_rfl) ?_ _
          go_simp
          go_wp2_with fail
          go_roundw
          case rel => exact ⟨(unhide HBW).drew, k + 1, by omega, by go_num⟩
          case measure => simp [intOf]; omega
    · have hkk : k = L.length := by omega
      subst hkk
      go_wp2_with fail
      go_ret
      exact ⟨rfl, (unhide HB4).trans ((unhide HBW).mono (unhide HB4).size)⟩

theorem wpl_no (s : ByteArray) (w : World) (hr : Calls Tryz.prog 11 #[.string s] w fun e w' => e = .returned (.tuple #[.pointer none, .bool false]) ∧ Below w.heap.size w w')
    (ht : ∀ W, Below w.heap.size w W → Calls Tryz.prog 30 #[] W fun e w' => e = .returned (.bool true) ∧ Below W.heap.size W w') :
    Calls Tryz.prog 8 #[.string s] w fun e w' => e = .returned (.bool true) ∧ Below w.heap.size w w' := by
  have HR := hide hr
  have HT := hide ht
  clear hr ht
  go_enter Tryz.func8, Tryz.ntmps8
  go_wp2_with fail
  refine Calls.mono HR.out ?_
  rintro e w1 ⟨rfl, hb1⟩
  have HB1 := hide hb1
  have HC := hide (unhide HT w1 hb1)
  clear HR hb1
  go_wp2_with fail
  refine Calls.mono HC.out ?_
  rintro e w2 ⟨rfl, hb2⟩
  have HB2 := hide ((unhide HB1).trans (hb2.mono (unhide HB1).size))
  have HC2 := hide (unhide HT w2 (unhide HB2))
  clear HC hb2 HB1
  go_wp2_with fail
  refine Calls.mono HC2.out ?_
  rintro e w3 ⟨rfl, hb3⟩
  have HB3 := hide ((unhide HB2).trans (hb3.mono (unhide HB2).size))
  clear HC2 hb3
  go_wp2_with fail
  go_ret
  exact ⟨rfl, unhide HB3⟩
theorem wpl_any (s : ByteArray) (w : World) (hL : Lists wordsS signsS w) (hgs : ∀ g ∈ signsS, 1 ≤ g.size) (hT : Tabs w) : Calls Tryz.prog 8 #[.string s] w fun e w' => e = .returned (.bool true) ∧ Below w.heap.size w w' := by
  have ht : ∀ W, Below w.heap.size w W → Calls Tryz.prog 30 #[] W fun e w' => e = .returned (.bool true) ∧ Below W.heap.size W w' := fun W hW => told_any W (hL.later hW) hgs (hT.later hW)
  have hr := read_any22 wordsS signsS s w hL hgs hT
  cases hp : parseS wordsS signsS s with
  | ok t =>
    rw [hp] at hr
    exact wpl_ok s t w (parse_ill hp) (parseS_kd hp).2 hr ht
  | «at» er pl =>
    rw [hp] at hr
    exact wpl_no s w hr ht
  | bare =>
    rw [hp] at hr
    exact wpl_no s w hr ht
end Go.Proofs.YtoimgcjbcbhclaaGreatDoor
