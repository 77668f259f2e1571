/-
  The reference's Tokens, whole: its rounds joined, and the way out of its loop.
-/
import Derived.Test.YtlpbpcdjifadiaaDoorRefN
import Derived.Test.YtlpbpcdjifadiaaDoorRefD
import Derived.Test.YtlpbpcdjifadiaaDoorRefZ
import Derived.Deep.AppendLies
import Derived.RegionTactic
namespace Go.Proofs.YtlpbpcdjifadiaaDoor
open Go.RowKit

/-- A round of the loop in which there is a byte left. -/
theorem round6 (ws : List ByteArray) (s : ByteArray) (w wr : World) (r : TR) (K : Act → World → Prop) (f : Nat → Value) (v : Value) (j : Nat) (acc : List Tk) (hs : s.size ≤ 3000) (hlt : j < s.size) (hal : acc.length ≤ j) (hL : RefLists ws w)
    (he : toksR ws signsS s (pastN gapB s j) acc = r) (hinv : RInv w acc v wr) : Code.wp Tryd.prog body6 (Q6 ws s w r K (s.size - j)) (fr s w.heap.size v (.int .i64 (j : Int)) f) wr := by
  have hbt := bt_eq s j hlt
  cases hgap : gapB (s[j].toNat : Int)
  · cases hlet : letB (s[j].toNat : Int)
    · cases hdig : digB (s[j].toNat : Int)
      · by_cases hquo : s[j] = 39
        · have hq2 : (((s[j].toNat : Nat) : Int) == 39) = true := by rw [hquo]; rfl
          have hrd0 : rdTok ws signsS s j = rdStr s j := by unfold rdTok; rw [hbt, hlet, hdig, if_neg (by simp), if_neg (by simp), if_pos hquo]
          cases hR : strR s (j + 1) [] with
          | ok l e =>
            have hb := strR_bounds s _ (j + 1) [] l e rfl hR
            by_cases h500 : 500 < l.length
            · exact way_slong ws s w wr r K f v j acc hs hlt hal hL he hinv hgap hlet hdig hq2 l e hR h500 (by rw [hrd0]; unfold rdStr; rw [hR]; simp [h500])
            · exact way_sok ws s w wr r K f v j acc hs hlt hal hL he hinv hgap hlet hdig hq2 l e hR hb.2.1 (by omega) (by omega) (by rw [hrd0]; unfold rdStr; rw [hR]; simp [h500])
          | bad p => exact way_sbad ws s w wr r K f v j acc hs hlt hal hL he hinv hgap hlet hdig hq2 p hR (by rw [hrd0]; unfold rdStr; rw [hR])
        · have hq2 : (((s[j].toNat : Nat) : Int) == 39) = false := by rw [show (39 : Int) = (((39 : UInt8).toNat : Nat) : Int) from rfl, byte_eq]; simp [hquo]
          have hrd0 : rdTok ws signsS s j = rdSign signsS s j := by unfold rdTok; rw [hbt, hlet, hdig, if_neg (by simp), if_neg (by simp), if_neg hquo]
          cases hf : signsS.find? (fun g => pfxB (s.extract j s.size) g) with
          | none =>
            refine way_znone ws s w wr r K f v j acc hs hlt hal hL he hinv hgap hlet hdig hq2 (fun k hk => ?_) (by rw [hrd0]; unfold rdSign; rw [hf])
            have hm : signsS.getD k ByteArray.empty ∈ signsS := by rw [List.getD_eq_getElem?_getD, List.getElem?_eq_getElem (by rw [signsS_len]; exact hk)]; exact List.getElem_mem _
            simpa using List.find?_eq_none.1 hf _ hm
          | some g =>
            have hc := sign_cut signsS s j g (by omega) hf
            have hgm := List.mem_of_find?_eq_some hf
            have hg1 := signs_ok.pos g hgm
            obtain ⟨hyes, m, hm, hgi, hall⟩ := List.find?_eq_some_iff_getElem.1 hf
            have hm19 : m < 19 := by rw [signsS_len] at hm; exact hm
            have hgd : signsS.getD m ByteArray.empty = g := by rw [List.getD_eq_getElem?_getD, List.getElem?_eq_getElem hm]; exact hgi
            refine way_zsome ws s w wr r K f v j acc hs hlt hal hL he hinv hgap hlet hdig hq2 m hm19 g hgd hg1 (by rw [← hgd]; exact signs_sz m hm19) (fun k hk => ?_) hyes _ rfl hc.2.1 (by rw [hrd0]; unfold rdSign; rw [hf])
            have := hall k hk
            rw [List.getD_eq_getElem?_getD, List.getElem?_eq_getElem (by omega)]
            simpa using this
      · have hge : j < pastN digB s j := by rw [← pastN_go digB s j hlt hdig]; have := pastN_ge digB s (j + 1); omega
        have hes := pastN_le digB s j (by omega)
        have hrd0 : rdTok ws signsS s j = rdNum s j := by unfold rdTok; rw [hbt, hlet, hdig, if_neg (by simp), if_pos rfl]
        have hat := at_eq s j hlt
        by_cases h10 : 10 < pastN digB s j - j
        · have hrd : rdTok ws signsS s j = .bad 3 j := by rw [hrd0]; unfold rdNum; rw [if_pos h10]
          rcases Nat.lt_or_eq_of_le hes with hx | hx
          · exact way_dlong_mid ws s w wr r K f v j acc hs hlt hal hL he hinv hgap hlet hdig _ rfl hge hes hx h10 hrd
          · exact way_dlong_end ws s w wr r K f v j acc hs hlt hal hL he hinv hgap hlet hdig _ rfl hge hes hx h10 hrd
        · by_cases h1 : 1 < pastN digB s j - j
          · by_cases h48 : ((s[j].toNat : Nat) : Int) = 48
            · have hrd : rdTok ws signsS s j = .bad 3 j := by rw [hrd0]; unfold rdNum; rw [if_neg h10, if_pos ⟨h1, by rw [hat]; exact h48⟩]
              rcases Nat.lt_or_eq_of_le hes with hx | hx
              · exact way_dzero_mid ws s w wr r K f v j acc hs hlt hal hL he hinv hgap hlet hdig _ rfl hge hes hx h10 h1 (beq_iff_eq.2 h48) hrd
              · exact way_dzero_end ws s w wr r K f v j acc hs hlt hal hL he hinv hgap hlet hdig _ rfl hge hes hx h10 h1 (beq_iff_eq.2 h48) hrd
            · have hc : ¬ (1 < pastN digB s j - j ∧ (((s.data.toList.getD j 0).toNat : Nat) : Int) = 48) := fun h => h48 (by have := h.2; rw [hat] at this; exact this)
              by_cases hb : 1000000000 < numL (s.extract j (pastN digB s j)).data.toList
              · have hrd : rdTok ws signsS s j = .bad 2 j := by rw [hrd0]; unfold rdNum; rw [if_neg h10, if_neg hc, if_pos hb]
                rcases Nat.lt_or_eq_of_le hes with hx | hx
                · exact way_dbig_mid ws s w wr r K f v j acc hs hlt hal hL he hinv hgap hlet hdig _ rfl hge hes hx _ rfl h10 h1 (beq_eq_false_iff_ne.2 h48) hb hrd
                · exact way_dbig_end ws s w wr r K f v j acc hs hlt hal hL he hinv hgap hlet hdig _ rfl hge hes hx _ rfl h10 h1 (beq_eq_false_iff_ne.2 h48) hb hrd
              · have hrd : rdTok ws signsS s j = .tok 3 ⟨#[]⟩ (numL (s.extract j (pastN digB s j)).data.toList) (pastN digB s j) := by rw [hrd0]; unfold rdNum; rw [if_neg h10, if_neg hc, if_neg hb]
                rcases Nat.lt_or_eq_of_le hes with hx | hx
                · exact way_dmany_mid ws s w wr r K f v j acc hs hlt hal hL he hinv hgap hlet hdig _ rfl hge hes hx _ rfl h10 h1 (beq_eq_false_iff_ne.2 h48) hb hrd
                · exact way_dmany_end ws s w wr r K f v j acc hs hlt hal hL he hinv hgap hlet hdig _ rfl hge hes hx _ rfl h10 h1 (beq_eq_false_iff_ne.2 h48) hb hrd
          · have hc : ¬ (1 < pastN digB s j - j ∧ (((s.data.toList.getD j 0).toNat : Nat) : Int) = 48) := fun h => h1 h.1
            have hsz := extract_size s j (pastN digB s j) (by omega) hes
            have hds : ∀ b ∈ (s.extract j (pastN digB s j)).data.toList, digB (b.toNat : Int) = true := by
              have := digit_take (s.extract j (pastN digB s j)) (fun i hi => by
                rw [extract_at s j _ i hes hi]
                exact past_in digB s (s.size - j) j (by omega) (j + i) (by omega) (by omega) (by omega)) (pastN digB s j - j)
              rw [List.take_of_length_le (by rw [data_len]; omega)] at this
              exact this
            have hb1 := (numL_bound _ hds).2
            have hl : (s.extract j (pastN digB s j)).data.toList.length = 1 := by rw [data_len]; omega
            rw [hl] at hb1
            have hb : ¬ 1000000000 < numL (s.extract j (pastN digB s j)).data.toList := by omega
            have hrd : rdTok ws signsS s j = .tok 3 ⟨#[]⟩ (numL (s.extract j (pastN digB s j)).data.toList) (pastN digB s j) := by rw [hrd0]; unfold rdNum; rw [if_neg h10, if_neg hc, if_neg hb]
            rcases Nat.lt_or_eq_of_le hes with hx | hx
            · exact way_done_mid ws s w wr r K f v j acc hs hlt hal hL he hinv hgap hlet hdig _ rfl hge hes hx _ rfl h1 hb hrd
            · exact way_done_end ws s w wr r K f v j acc hs hlt hal hL he hinv hgap hlet hdig _ rfl hge hes hx _ rfl h1 hb hrd
    · have hlod : lodB (s[j].toNat : Int) = true := by unfold lodB; rw [hlet]; rfl
      have hge : j < pastN lodB s j := by rw [← pastN_go lodB s j hlt hlod]; have := pastN_ge lodB s (j + 1); omega
      have hes := pastN_le lodB s j (by omega)
      have hrd0 : rdTok ws signsS s j = rdName ws s j := by unfold rdTok; rw [hbt, hlet, if_pos rfl]
      cases hw : isIn ws (s.extract j (pastN lodB s j))
      · by_cases h20 : 20 < pastN lodB s j - j
        · have hrd : rdTok ws signsS s j = .bad 4 j := by rw [hrd0]; unfold rdName; rw [hw]; simp [h20]
          rcases Nat.lt_or_eq_of_le hes with hx | hx
          · exact way_long_mid ws s w wr r K f v j acc hs hlt hal hL he hinv hgap hlet _ rfl hge hes hx hw h20 hrd
          · exact way_long_end ws s w wr r K f v j acc hs hlt hal hL he hinv hgap hlet _ rfl hge hes hx hw h20 hrd
        · have hrd : rdTok ws signsS s j = .tok 1 (s.extract j (pastN lodB s j)) 0 (pastN lodB s j) := by rw [hrd0]; unfold rdName; rw [hw]; simp [h20]
          rcases Nat.lt_or_eq_of_le hes with hx | hx
          · exact way_name_mid ws s w wr r K f v j acc hs hlt hal hL he hinv hgap hlet _ rfl hge hes hx hw h20 hrd
          · exact way_name_end ws s w wr r K f v j acc hs hlt hal hL he hinv hgap hlet _ rfl hge hes hx hw h20 hrd
      · have hrd : rdTok ws signsS s j = .tok 2 (s.extract j (pastN lodB s j)) 0 (pastN lodB s j) := by rw [hrd0]; unfold rdName; rw [hw]; simp
        rcases Nat.lt_or_eq_of_le hes with hx | hx
        · exact way_word_mid ws s w wr r K f v j acc hs hlt hal hL he hinv hgap hlet _ rfl hge hes hx hw hrd
        · exact way_word_end ws s w wr r K f v j acc hs hlt hal hL he hinv hgap hlet _ rfl hge hes hx hw hrd
  · have hg := hgap
    simp only [gapB, Bool.or_eq_true, beq_iff_eq] at hg
    by_cases h32 : ((s[j].toNat : Nat) : Int) = 32
    · exact way_gap1 ws s w wr r K f v j acc hs hlt hal hL he hinv hgap (beq_iff_eq.2 h32)
    · exact way_gap2 ws s w wr r K f v j acc hs hlt hal hL he hinv hgap (beq_eq_false_iff_ne.2 h32) (beq_iff_eq.2 (by omega))

/-- The row behind the way out: the result's cell lies below it. -/
theorem ref_row {w w5 : World} {acc : List Tk} {v : Value} {n : Nat} (h : RInv w acc v w5) (hn : n = acc.length) (v0 v1 : Value) :
    ((w5.setCell ⟨w.heap.size, 0, none⟩ v0).setCell ⟨w.heap.size, 1, none⟩ v1).ownsRow w.heap.size 36 4 v n (tksCells acc) := by
  subst hn
  exact own_base (by omega) (ownsRow_setCell_below (ownsRow_setCell_below h.own (by simp) _) (by simp) _)

set_option maxRecDepth 100000 in
set_option maxHeartbeats 2000000 in
theorem refTokens_any (ws : List ByteArray) (s : ByteArray) (w : World) (hs : s.size ≤ 3000) (hL : RefLists ws w) :
    Calls Tryd.prog 6 #[.string s] w (UPost (toksR ws signsS s (pastN gapB s 0) []) w) := by
  obtain ⟨i0, hi, hz0, hz1, hz2⟩ := info_parts info36
  obtain ⟨r, hr⟩ : ∃ r, toksR ws signsS s (pastN gapB s 0) [] = r := ⟨_, rfl⟩
  have HR := hide hr
  rw [hr]
  have HL := hide hL
  clear hr hL
  go_enter Tryd.func6, Tryd.ntmps6
  go_wp2_with fail
  rename_i K hK
  refine wp_loop (WI ws s w r) (mu6 s) ?_ ?_
  · exact WI_mk 0 [] (.slice none 0 0) (Nat.zero_le _) (Nat.zero_le _) (unhide HR) ⟨World.ownsRow_nil _ _ _ _, Below.refl _ _⟩ (by kernel_rfl)
  · intro a wr hI
    obtain ⟨j, acc, v, f, hj, hal, he, hinv, rfl⟩ := hI
    have hmu : mu6 s (fr s w.heap.size v (.int .i64 (j : Int)) f) wr = s.size - j := rfl
    rw [hmu]
    change Code.wp Tryd.prog body6 (Q6 ws s w r K (s.size - j)) (fr s w.heap.size v (.int .i64 (j : Int)) f) wr
    by_cases hlt : j < s.size
    · exact round6 ws s w wr r K f v j acc hs hlt hal (unhide HL) he hinv
    · have hps : pastN gapB s j = j := pastN_end gapB s j (by omega)
      have hq : r = .ok (acc ++ [Tk.mk 6 ⟨#[]⟩ 0 s.size]) := by rw [← he, hps, toksR_end ws signsS s j acc hlt]
      have HI := hide hinv
      obtain ⟨rc0, rc1, rf0, rf1⟩ := hinv.cells
      have HLR := hide (hinv.lists (unhide HL))
      clear he hinv hps HR
      subst hq
      conv => arg 2; whnf
      unfold fr Q6
      go_wp2_with fail
      refine wp_region_any (by kernel_rfl) ?_
      change wpAny _ _ _ _ _ _ _ (World.drew _)
      have HI0 := hide ((unhide HI).later ((Below.refl _ _).drew))
      obtain ⟨W0, hW0⟩ : ∃ W0, W0 = wr.drew := ⟨_, rfl⟩
      rw [← hW0] at HI0 ⊢
      have hL0 := (unhide HI0).lists (unhide HL)
      have m0 := hL0.f0
      have m1 := hL0.f1
      have hlt0 : 0 < W0.heap.size := lt_of_cell' m0
      have n0 : (W0.alloc (.cells #[.int .i64 6, .string ⟨#[]⟩, .int .i64 0, .int .i64 (s.size : Int)] 36)).cell? ⟨0, 0, none⟩ = some (.int .i64 0) := by rw [World.cell?_alloc_past _ _ _ hlt0]; exact m0
      have n1 : (W0.alloc (.cells #[.int .i64 6, .string ⟨#[]⟩, .int .i64 0, .int .i64 (s.size : Int)] 36)).cell? ⟨0, 1, none⟩ = some (.int .i64 (-1)) := by rw [World.cell?_alloc_past _ _ _ hlt0]; exact m1
      clear hW0 hL0 HI rc0 rc1 rf0 rf1
      refine wpAny_take (i := 0) (v := v) rfl (by kernel_rfl) (by kernel_rfl) (by kernel_rfl) (fun _ _ _ h => h) (Or.inl ⟨by kernel_rfl, fun w => by go_simp⟩) ?_
      refine wpAny_take (i := 1) (v := .string s) rfl (by kernel_rfl) (by kernel_rfl) (by kernel_rfl) (fun _ _ _ h => h) (Or.inl ⟨by kernel_rfl, fun w => by go_simp⟩) ?_
      refine wpAny_take (i := 2) (v := .int .i64 (s.size : Int)) rfl (by kernel_rfl) (by kernel_rfl) (by kernel_rfl) (fun _ _ _ h => h) (Or.inl ⟨by kernel_rfl, fun w => by go_simp⟩) ?_
      refine wpAny_take (i := 3) (v := .agg #[.int .i64 6, .string ⟨#[]⟩, .int .i64 0, .int .i64 (s.size : Int)]) rfl (by kernel_rfl) (by kernel_rfl) (by kernel_rfl) (fun _ _ _ h => h) (Or.inl ⟨by kernel_rfl, fun w => by go_simp⟩) ?_
      refine wpAny_ready (rs := [4, 6]) (by kernel_rfl) (by simp) ?_
      refine AllReady.cons rfl (fun K2 hK2 => ?_) (AllReady.cons rfl (fun K2 hK2 => ?_) AllReady.nil)
      · go_simp
        refine hK2 _ _ ?_
        clear hK2 K2
        refine wpAny_ready (rs := [5, 6]) (by kernel_rfl) (by simp) ?_
        refine AllReady.cons rfl (fun K2 hK2 => ?_) (AllReady.cons rfl (fun K2 hK2 => ?_) AllReady.nil)
        · refine step_append_lies _ (by rfl) _ _ 22 (by rfl) (w.heap.size + 1) 36 i0 noTok 4 40 Tryd.underlying22 hi hz0 hz1 hz2 rfl (by decide) v acc.length _ (by rfl) ((unhide HI0).own.alloc (.cells #[.int .i64 6, .string ⟨#[]⟩, .int .i64 0, .int .i64 (s.size : Int)] 36)) ⟨W0.heap.size, 0, none⟩ 1 1 [.int .i64 6, .string ⟨#[]⟩, .int .i64 0, .int .i64 (s.size : Int)] (by rfl) (by rfl) (new4_cells _ _ _ _ _) (new4_one _ _ _ _) (by omega) (by unfold maxLen; omega) (by omega) (by have := (unhide HI0).size; simp; omega) _ rfl ?_
          intro g cap w5 hown' hgrow _ _
          refine hK2 _ _ ?_
          clear hK2 K2
          have hI5 := (unhide HI0).app (t := (Tk.mk 6 ⟨#[]⟩ 0 s.size)) _ hown' hgrow
          have HI5 := hide hI5
          have hL5 := hI5.lists (unhide HL)
          obtain ⟨p0, p1, q0, q1⟩ := hI5.cells
          have l0 := hL5.f0
          have l1 := hL5.f1
          clear hown' hgrow hI5 hL5
          refine wpAny_take (i := 7) (v := .slice (some ⟨g, 0, none⟩) (acc.length + 1) cap) rfl (by kernel_rfl) (by kernel_rfl) (by kernel_rfl) (fun _ _ _ h => h) (Or.inl ⟨by kernel_rfl, fun w => by go_simp⟩) ?_
          refine wpAny_ready (rs := [6]) (by kernel_rfl) (by simp) ?_
          refine AllReady.cons rfl (fun K2 hK2 => ?_) AllReady.nil
          go_simp
          refine hK2 _ _ ?_
          clear hK2 K2
          refine wpAny_ready (rs := [8]) (by kernel_rfl) (by simp) (AllReady.cons rfl (fun K2 hK2 => ?_) AllReady.nil)
          go_simp
          refine hK2 _ _ ?_
          clear hK2 K2
          refine wpAny_done (by kernel_rfl) ?_ _
          go_simp
          go_wp2
          refine bodyPost_ret (v := .tuple #[.slice (some ⟨g, 0, none⟩) (acc.length + 1) cap, .agg #[.int .i64 0, .int .i64 (-1)]]) (by simp [results, Tryd.results6, go_sem, p0, p1]) rfl ⟨_, rfl, ?_, (unhide HI5).out _ _⟩
          exact ref_row (unhide HI5) (by simp) _ _
        · go_simp
          refine hK2 _ _ ?_
          clear hK2 K2
          refine wpAny_ready (rs := [5]) (by kernel_rfl) (by simp) ?_
          refine AllReady.cons rfl (fun K2 hK2 => ?_) AllReady.nil
          refine step_append_lies _ (by rfl) _ _ 22 (by rfl) (w.heap.size + 1) 36 i0 noTok 4 40 Tryd.underlying22 hi hz0 hz1 hz2 rfl (by decide) v acc.length _ (by rfl) ((unhide HI0).own.alloc (.cells #[.int .i64 6, .string ⟨#[]⟩, .int .i64 0, .int .i64 (s.size : Int)] 36)) ⟨W0.heap.size, 0, none⟩ 1 1 [.int .i64 6, .string ⟨#[]⟩, .int .i64 0, .int .i64 (s.size : Int)] (by rfl) (by rfl) (new4_cells _ _ _ _ _) (new4_one _ _ _ _) (by omega) (by unfold maxLen; omega) (by omega) (by have := (unhide HI0).size; simp; omega) _ rfl ?_
          intro g cap w5 hown' hgrow _ _
          refine hK2 _ _ ?_
          clear hK2 K2
          have hI5 := (unhide HI0).app (t := (Tk.mk 6 ⟨#[]⟩ 0 s.size)) _ hown' hgrow
          have HI5 := hide hI5
          have hL5 := hI5.lists (unhide HL)
          obtain ⟨p0, p1, q0, q1⟩ := hI5.cells
          have l0 := hL5.f0
          have l1 := hL5.f1
          clear hown' hgrow hI5 hL5
          refine wpAny_take (i := 7) (v := .slice (some ⟨g, 0, none⟩) (acc.length + 1) cap) rfl (by kernel_rfl) (by kernel_rfl) (by kernel_rfl) (fun _ _ _ h => h) (Or.inl ⟨by kernel_rfl, fun w => by go_simp⟩) ?_
          refine wpAny_ready (rs := [8]) (by kernel_rfl) (by simp) (AllReady.cons rfl (fun K2 hK2 => ?_) AllReady.nil)
          go_simp
          refine hK2 _ _ ?_
          clear hK2 K2
          refine wpAny_done (by kernel_rfl) ?_ _
          go_simp
          go_wp2
          refine bodyPost_ret (v := .tuple #[.slice (some ⟨g, 0, none⟩) (acc.length + 1) cap, .agg #[.int .i64 0, .int .i64 (-1)]]) (by simp [results, Tryd.results6, go_sem, p0, p1]) rfl ⟨_, rfl, ?_, (unhide HI5).out _ _⟩
          exact ref_row (unhide HI5) (by simp) _ _
      · go_simp
        refine hK2 _ _ ?_
        clear hK2 K2
        refine wpAny_ready (rs := [4]) (by kernel_rfl) (by simp) ?_
        refine AllReady.cons rfl (fun K2 hK2 => ?_) AllReady.nil
        go_simp
        refine hK2 _ _ ?_
        clear hK2 K2
        refine wpAny_ready (rs := [5]) (by kernel_rfl) (by simp) ?_
        refine AllReady.cons rfl (fun K2 hK2 => ?_) AllReady.nil
        refine step_append_lies _ (by rfl) _ _ 22 (by rfl) (w.heap.size + 1) 36 i0 noTok 4 40 Tryd.underlying22 hi hz0 hz1 hz2 rfl (by decide) v acc.length _ (by rfl) ((unhide HI0).own.alloc (.cells #[.int .i64 6, .string ⟨#[]⟩, .int .i64 0, .int .i64 (s.size : Int)] 36)) ⟨W0.heap.size, 0, none⟩ 1 1 [.int .i64 6, .string ⟨#[]⟩, .int .i64 0, .int .i64 (s.size : Int)] (by rfl) (by rfl) (new4_cells _ _ _ _ _) (new4_one _ _ _ _) (by omega) (by unfold maxLen; omega) (by omega) (by have := (unhide HI0).size; simp; omega) _ rfl ?_
        intro g cap w5 hown' hgrow _ _
        refine hK2 _ _ ?_
        clear hK2 K2
        have hI5 := (unhide HI0).app (t := (Tk.mk 6 ⟨#[]⟩ 0 s.size)) _ hown' hgrow
        have HI5 := hide hI5
        have hL5 := hI5.lists (unhide HL)
        obtain ⟨p0, p1, q0, q1⟩ := hI5.cells
        have l0 := hL5.f0
        have l1 := hL5.f1
        clear hown' hgrow hI5 hL5
        refine wpAny_take (i := 7) (v := .slice (some ⟨g, 0, none⟩) (acc.length + 1) cap) rfl (by kernel_rfl) (by kernel_rfl) (by kernel_rfl) (fun _ _ _ h => h) (Or.inl ⟨by kernel_rfl, fun w => by go_simp⟩) ?_
        refine wpAny_ready (rs := [8]) (by kernel_rfl) (by simp) (AllReady.cons rfl (fun K2 hK2 => ?_) AllReady.nil)
        go_simp
        refine hK2 _ _ ?_
        clear hK2 K2
        refine wpAny_done (by kernel_rfl) ?_ _
        go_simp
        go_wp2
        refine bodyPost_ret (v := .tuple #[.slice (some ⟨g, 0, none⟩) (acc.length + 1) cap, .agg #[.int .i64 0, .int .i64 (-1)]]) (by simp [results, Tryd.results6, go_sem, p0, p1]) rfl ⟨_, rfl, ?_, (unhide HI5).out _ _⟩
        exact ref_row (unhide HI5) (by simp) _ _

end Go.Proofs.YtlpbpcdjifadiaaDoor
