/-
  The walk of LexTokens where there are tokens: both lists are held against each other, token by token.
-/
import Derived.Test.YtlpbpcdjifadiaaDoorTokLaw
import Derived.Test.YtlpbpcdjifadiaaDoorCovWalk
import Derived.Deep.QuietTactic
import Derived.BigQuiet
namespace Go.Proofs.YtlpbpcdjifadiaaDoor
open Go.RowKit

theorem row_cellsE {E : TypeId} {w : World} {B : Nat} {v : Value} {l : List Tk} (h : w.ownsRow B E 4 v l.length (tksCells l)) (hp : 1 ≤ l.length) :
    ∃ g cap, v = .slice (some ⟨g, 0, none⟩) l.length cap ∧ g < w.heap.size ∧ ∀ (i : Nat) (t : Tk), l[i]? = some t →
      w.cell? ⟨g, i * 4, none⟩ = some (.int .i64 t.kd) ∧ w.cell? ⟨g, i * 4 + 1, none⟩ = some (.string t.tx) ∧ w.cell? ⟨g, i * 4 + 2, none⟩ = some (.int .i64 t.n) ∧ w.cell? ⟨g, i * 4 + 3, none⟩ = some (.int .i64 (t.pl : Int)) := by
  obtain ⟨hl, ⟨_, h0⟩ | ⟨g, cap, cur, rfl, hb, hh, hn, hm, hs, ht⟩⟩ := h
  · omega
  refine ⟨g, cap, rfl, (Array.getElem?_eq_some_iff.1 hh).1, fun i t hi => ?_⟩
  have hlt : i < l.length := (List.getElem?_eq_some_iff.1 hi).1
  have key : ∀ f, f < 4 → cur[i * 4 + f]? = (tkCells t)[f]? := fun f hf => by
    rw [← tks_at l i f t hi hf, ← ht, List.getElem?_take_of_lt (by omega)]
    simp
  have k0 := key 0 (by omega)
  have k1 := key 1 (by omega)
  have k2 := key 2 (by omega)
  have k3 := key 3 (by omega)
  simp only [World.cell?, hh]
  exact ⟨by simpa [tkCells] using k0, by simpa [tkCells] using k1, by simpa [tkCells] using k2, by simpa [tkCells] using k3⟩

set_option maxRecDepth 100000 in
set_option maxHeartbeats 2000000 in
theorem law_ok (s : ByteArray) (w : World) (l : List Tk) (hs : s.size ≤ 3000) (hF : Found w) (hr : toksR wordsS signsS s (pastN gapB s 0) [] = .ok l) : Calls Tryd.prog 3 #[.string s] w fun e w' => e = .returned (.bool true) ∧ Below w.heap.size w w' := by
  obtain ⟨l', hl', hlie⟩ := toks_lie wordsS signsS s signs_ok.pos _ _ [] l rfl hr
  rw [List.nil_append] at hl'
  subst hl'
  have hlen := hlie.len
  have hpos := hlie.pos
  have HR := hide hr
  have HU := hide (refTokens_any wordsS s w hs hF.rl)
  have HF := hide hF
  clear hF hr hlie
  go_enter Tryd.func3, Tryd.ntmps3
  go_wp2_with fail
  have hu := unhide HU
  rw [unhide HR] at hu
  refine Calls.mono hu ?_
  clear hu HU
  rintro e w1 ⟨v1, rfl, hown1, hb1⟩
  obtain ⟨g1, cap1, rfl, hgl1, hcell1⟩ := row_cellsE hown1 hpos
  have HC1 := hide hcell1
  have HB1 := hide hb1
  clear hb1 hcell1 hown1
  go_wp2_with fail
  have hbA : Below w.heap.size w (w1.alloc (.cells #[.int .i64 0, .int .i64 (-1)] 25)) := (unhide HB1).alloc (unhide HB1).size _
  have ht := tokens_any wordsS signsS s (w1.alloc (.cells #[.int .i64 0, .int .i64 (-1)] 25)) hs ((unhide HF).later hbA).ls signs_ok.pos
  rw [unhide HR] at ht
  refine Calls.mono ht ?_
  clear ht
  rintro e w2 ⟨v2, rfl, hown2, hb2⟩
  obtain ⟨g2, cap2, rfl, hgl2, hcell2⟩ := row_cellsE hown2 hpos
  have HC2 := hide hcell2
  obtain ⟨hc, hf⟩ := bcell hb2
  have HC3 : Hid (∀ o, w2.cell? ⟨g1, o, none⟩ = w1.cell? ⟨g1, o, none⟩) := fun o => by
    rw [hb2.cell (p := ⟨g1, o, none⟩) (by simp; omega), World.cell?_alloc_past _ _ _ hgl1]
  have HB2 := hide (hbA.trans (hb2.mono hbA.size))
  clear hb2 hbA hcell2 hown2
  obtain ⟨n, hn⟩ : ∃ n, n = l.length := ⟨_, rfl⟩
  rw [← hn] at hlen hpos ⊢
  have HN := hide hn
  clear hn
  go_wp2_with fail
  clear hc hf
  go_loopw [7] (fun i wr => ∃ k : Nat, k ≤ n ∧ i = .int .i64 k ∧ Below w2.heap.size w2 wr) (fun i _ => n - (intOf i).toNat)
  case atStart => exact ⟨0, by omega, rfl, Below.refl _ _⟩
  case round =>
    obtain ⟨k, hk, rfl, hB⟩ := hrel
    have HB := hide hB
    by_cases hlt : k < n
    · have hkl : k < l.length := by rw [← unhide HN]; omega
      obtain ⟨⟨kd, tx, m, a⟩, htk⟩ : ∃ T, l[k]? = some T := ⟨_, List.getElem?_eq_getElem hkl⟩
      have hc1 := unhide HC1 k _ htk
      have hc2 := unhide HC2 k _ htk
      simp only at hc1 hc2
      have hgl12 : g1 < w2.heap.size := by
        have h3 := hc1.1
        rw [← unhide HC3] at h3
        exact lt_of_cell' h3
      have c1 : ∀ o, wr.cell? ⟨g1, o, none⟩ = w1.cell? ⟨g1, o, none⟩ := fun o => by rw [hB.cell (p := ⟨g1, o, none⟩) hgl12, unhide HC3]
      have c2 : ∀ o, wr.cell? ⟨g2, o, none⟩ = w2.cell? ⟨g2, o, none⟩ := fun o => hB.cell (p := ⟨g2, o, none⟩) hgl2
      have a0 : wr.cell? ⟨g1, k * 4, none⟩ = some (.int .i64 kd) := by rw [c1]; exact hc1.1
      have a1 : wr.cell? ⟨g1, k * 4 + 1, none⟩ = some (.string tx) := by rw [c1]; exact hc1.2.1
      have a2 : wr.cell? ⟨g1, k * 4 + 2, none⟩ = some (.int .i64 m) := by rw [c1]; exact hc1.2.2.1
      have a3 : wr.cell? ⟨g1, k * 4 + 3, none⟩ = some (.int .i64 (a : Int)) := by rw [c1]; exact hc1.2.2.2
      have b0 : wr.cell? ⟨g2, k * 4, none⟩ = some (.int .i64 kd) := by rw [c2]; exact hc2.1
      have b1 : wr.cell? ⟨g2, k * 4 + 1, none⟩ = some (.string tx) := by rw [c2]; exact hc2.2.1
      have b2 : wr.cell? ⟨g2, k * 4 + 2, none⟩ = some (.int .i64 m) := by rw [c2]; exact hc2.2.2.1
      have b3 : wr.cell? ⟨g2, k * 4 + 3, none⟩ = some (.int .i64 (a : Int)) := by rw [c2]; exact hc2.2.2.2
      clear c1 c2 hc1 hc2 hkl htk hB hgl12
      go_wp2_with fail
      go_quiet (fail)
      go_wp2_with fail
      go_roundw
      case rel => exact ⟨k + 1, by omega, by go_num, below_drewN (unhide HB) _⟩
      case measure => simp [intOf]; omega
    · go_wp2_with fail
      go_ret
      exact ⟨rfl, (unhide HB2).trans ((unhide HB).mono (unhide HB2).size)⟩

theorem lexTokens_any (s : ByteArray) (w : World) (hF : Found w) : Calls Tryd.prog 3 #[.string s] w fun e w' => e = .returned (.bool true) ∧ Below w.heap.size w w' := by
  by_cases h4 : 4000 < s.size
  · exact law_huge s w h4
  · by_cases hs : s.size ≤ 3000
    · cases hr : toksR wordsS signsS s (pastN gapB s 0) [] with
      | ok l => exact law_ok s w l hs hF hr
      | bad er p => exact law_bad s w er p hs hF hr
    · exact law_long s w (by omega) (by omega) hF

end Go.Proofs.YtlpbpcdjifadiaaDoor
