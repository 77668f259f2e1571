/-
  The walk of LexCovers: over whatever text it returns true, and nothing that was there has turned.
-/
import Derived.Test.YtlpbpcdjifadiaaDoorLexed
import Derived.Test.YtlpbpcdjifadiaaDoorNamesWalk
import Derived.WalkSmall
import Derived.Deep.QuietTactic
import Derived.BigQuiet
namespace Go.Proofs.YtlpbpcdjifadiaaDoor
open Go.RowKit

theorem Lie.len {ws gs : List ByteArray} {s : ByteArray} {i : Nat} {l : List Tk} (h : Lie ws gs s i l) : l.length ≤ s.size - i + 1 := by
  induction h with
  | last i h => simp
  | more i e kd n tx r h hr h1 h2 hl ih =>
    have := pastN_ge gapB s e
    rw [List.length_cons]; omega

set_option maxRecDepth 100000 in
set_option maxHeartbeats 1000000 in
theorem covers_long (s : ByteArray) (w : World) (hs : 3000 < s.size) (hL : Lists wordsS signsS w) :
    Calls Tryd.prog 5 #[.string s] w fun e w' => e = .returned (.bool true) ∧ Below w.heap.size w w' := by
  have HL := hide hL
  clear hL
  go_enter Tryd.func5, Tryd.ntmps5
  go_wp2_with fail
  refine (tokens_long s w hs).mono ?_
  rintro e w1 ⟨rfl, rfl⟩
  go_wp2_with fail
  refine (lexed_any _ (unhide HL)).mono ?_
  rintro e w2 ⟨rfl, hb2⟩
  have HB2 := hide hb2
  clear hb2
  go_wp2_with fail
  refine (lexed_any w2 ((unhide HL).later (unhide HB2))).mono ?_
  rintro e w3 ⟨rfl, hb3⟩
  have HB3 := hide ((unhide HB2).trans (hb3.mono (unhide HB2).size))
  clear hb3
  go_wp2_with fail
  go_ret
  exact ⟨rfl, unhide HB3⟩

set_option maxRecDepth 100000 in
set_option maxHeartbeats 1000000 in
theorem covers_bad (s : ByteArray) (w : World) (er : Int) (p : Nat) (hs : s.size ≤ 3000) (hL : Lists wordsS signsS w) (hr : toksR wordsS signsS s (pastN gapB s 0) [] = .bad er p) :
    Calls Tryd.prog 5 #[.string s] w fun e w' => e = .returned (.bool true) ∧ Below w.heap.size w w' := by
  have HL := hide hL
  have HT := hide (tokens_any wordsS signsS s w hs hL signs_ok.pos)
  have HR := hide hr
  clear hL hr
  go_enter Tryd.func5, Tryd.ntmps5
  go_wp2_with fail
  have ht := unhide HT
  rw [unhide HR] at ht
  refine Calls.mono ht ?_
  clear ht
  rintro e w1 ⟨b, rfl, _, _, hb1⟩
  have HB1 := hide hb1
  clear hb1
  go_wp2_with fail
  refine (lexed_any w1 ((unhide HL).later (unhide HB1))).mono ?_
  rintro e w2 ⟨rfl, hb2⟩
  have HB2 := hide ((unhide HB1).trans (hb2.mono (unhide HB1).size))
  clear hb2
  go_wp2_with fail
  refine (lexed_any w2 ((unhide HL).later (unhide HB2))).mono ?_
  rintro e w3 ⟨rfl, hb3⟩
  have HB3 := hide ((unhide HB2).trans (hb3.mono (unhide HB2).size))
  clear hb3
  go_wp2_with fail
  go_ret
  exact ⟨rfl, unhide HB3⟩

set_option maxRecDepth 100000 in
set_option maxHeartbeats 2000000 in
theorem covers_ok (s : ByteArray) (w : World) (l : List Tk) (hs : s.size ≤ 3000) (hL : Lists wordsS signsS w) (hr : toksR wordsS signsS s (pastN gapB s 0) [] = .ok l) :
    Calls Tryd.prog 5 #[.string s] w fun e w' => e = .returned (.bool true) ∧ Below w.heap.size w w' := by
  obtain ⟨l', hl', hlie⟩ := toks_lie wordsS signsS s signs_ok.pos _ _ [] l rfl hr
  rw [List.nil_append] at hl'
  subst hl'
  have hlen := hlie.len
  have hpos := hlie.pos
  have hend := hlie.end'
  have HLIE := hide hlie
  have HL := hide hL
  have HT := hide (tokens_any wordsS signsS s w hs hL signs_ok.pos)
  have HR := hide hr
  clear hL hr hlie
  go_enter Tryd.func5, Tryd.ntmps5
  go_wp2_with fail
  have ht := unhide HT
  rw [unhide HR] at ht
  refine Calls.mono ht ?_
  clear ht
  rintro e w1 ⟨v, rfl, hown, hb1⟩
  obtain ⟨g, cap, rfl, _, hgl, hcell⟩ := row_cells hown hpos
  have HCELL := hide hcell
  have HB1 := hide hb1
  clear hb1 hcell hown
  go_wp2_with fail
  refine (lexed_any w1 ((unhide HL).later (unhide HB1))).mono ?_
  rintro e w2 ⟨rfl, hb2⟩
  have HB12 := hide hb2
  have HB2 := hide ((unhide HB1).trans (hb2.mono (unhide HB1).size))
  have hc := unhide HCELL _ _ hend
  have c0 : w2.cell? ⟨g, (l.length - 1) * 4, none⟩ = some (.int .i64 6) := by rw [hb2.cell (by exact hgl)]; exact hc.1
  have c3 : w2.cell? ⟨g, (l.length - 1) * 4 + 3, none⟩ = some (.int .i64 (s.size : Int)) := by rw [hb2.cell (by exact hgl)]; exact hc.2.2.2
  clear hb2 hc hend
  obtain ⟨n, hn⟩ : ∃ n, n = l.length := ⟨_, rfl⟩
  rw [← hn] at hlen hpos c0 c3 ⊢
  have HN := hide hn
  clear hn
  have hn0 : ((n : Int) == 0) = false := beq_eq_false_iff_ne.2 (by omega)
  go_wp2_with fail
  clear c0 c3
  go_loopw [5, 6, 7, 8, 9] (fun i _ _ _ _ wr => ∃ k : Nat, k + 1 ≤ n ∧ i = .int .i64 k ∧ Below w2.heap.size w2 wr) (fun i _ _ _ _ _ => n - (intOf i).toNat)
  case atStart => exact ⟨0, by omega, rfl, Below.refl _ _⟩
  case round =>
    obtain ⟨k, hk, rfl, hB⟩ := hrel
    have HB := hide hB
    by_cases hlt : k + 1 < n
    · have hkl : k < l.length := by rw [← unhide HN]; omega
      obtain ⟨⟨kd, tx, m, a⟩, htk⟩ : ∃ T, l[k]? = some T := ⟨_, List.getElem?_eq_getElem hkl⟩
      obtain ⟨e, u, hp1, hrd, hp2, hp3, hu, hup⟩ := (unhide HLIE).pair k _ (by rw [← unhide HN]; omega) htk
      simp only at hp1 hrd hp2
      have hlast := rdTok_last wordsS signsS s _ _ _ _ e hp1 signs_ok hrd
      have hfirst := rdTok_first wordsS signsS s _ _ _ _ e hp1 signs_ok hrd
      have hcut := rdTok_cut wordsS signsS s _ _ _ _ e hp1 signs_ok.pos hrd
      have hkd := rdTok_kind wordsS signsS s _ _ _ _ e hrd
      have hck := unhide HCELL k _ htk
      have hcu := unhide HCELL (k + 1) _ hu
      have hcarry : ∀ o, wr.cell? ⟨g, o, none⟩ = w1.cell? ⟨g, o, none⟩ := fun o => by
        rw [hB.cell (p := ⟨g, o, none⟩) (Nat.lt_of_lt_of_le hgl (unhide HB12).size), (unhide HB12).cell (p := ⟨g, o, none⟩) hgl]
      rw [hup] at hcu
      have hq1 := pastN_ge gapB s e
      have hq2 := pastN_le gapB s e hp3
      have HGAP := hide (fun i (h1 : e ≤ i) (h2 : i < pastN gapB s e) (hi : i < s.size) => past_in gapB s (s.size - e) e (by omega) i h1 h2 hi)
      simp only at hck
      obtain ⟨q, hq⟩ : ∃ q, q = pastN gapB s e := ⟨_, rfl⟩
      rw [← hq] at hq1 hq2 hcu HGAP
      have k0 : wr.cell? ⟨g, k * 4, none⟩ = some (.int .i64 kd) := by rw [hcarry]; exact hck.1
      have k1 : wr.cell? ⟨g, k * 4 + 1, none⟩ = some (.string tx) := by rw [hcarry]; exact hck.2.1
      have k2 : wr.cell? ⟨g, k * 4 + 2, none⟩ = some (.int .i64 m) := by rw [hcarry]; exact hck.2.2.1
      have k3 : wr.cell? ⟨g, k * 4 + 3, none⟩ = some (.int .i64 (a : Int)) := by rw [hcarry]; exact hck.2.2.2
      have u3 : wr.cell? ⟨g, (k + 1) * 4 + 3, none⟩ = some (.int .i64 (q : Int)) := by rw [hcarry]; exact hcu.2.2.2
      have HLAST := hide hlast
      have HFIRST := hide hfirst
      have HCUT := hide hcut
      have hkd2 : (kd == 6) = false := beq_eq_false_iff_ne.2 hkd
      clear hcu hck hcarry hup hu hrd hlast hfirst hcut htk hq hkl hB hkd
      go_wp2_with fail
      go_quiet (fail)
      go_wp2_with fail
      go_loop [7] (fun v => ∃ b : Nat, e ≤ b + 1 ∧ b + 1 ≤ q ∧ v = .int .i64 ((b : Int) + 1)) (fun v => (intOf v).toNat)
      case atStart => exact ⟨q - 1, by omega, by omega, by go_num⟩
      case round =>
        obtain ⟨b, hb1, hb2, rfl⟩ := hrel
        have hbs : b < s.size := by omega
        by_cases hbe : b + 1 = e
        · have hg := unhide HLAST
          rw [← hbe, Nat.add_sub_cancel, bt_eq s b hbs] at hg
          simp [gapB] at hg
          have g1 : (((s[b].toNat : Nat) : Int) == 32) = false := beq_eq_false_iff_ne.2 (by omega)
          have g2 : (((s[b].toNat : Nat) : Int) == 10) = false := beq_eq_false_iff_ne.2 (by omega)
          have HBE := hide hbe
          clear hg hbe
          go_wp2_with fail
          have hx : (s.extract a (b + 1)).size = b + 1 - a := extract_size s a (b + 1) (by omega) (by omega)
          have hcutx : rdTok wordsS signsS (s.extract a (b + 1)) 0 = .tok kd tx m (s.extract a (b + 1)).size := by
            have h := unhide HCUT
            rw [← unhide HBE] at h
            rw [hx]; exact h
          have hone := toks_one wordsS signsS (s.extract a (b + 1)) kd m tx (by omega) (by rw [bt_ext s a (b + 1) 0 (by omega)]; exact unhide HFIRST) hcutx
          have hBn : Below w2.heap.size w2 (wr.drewN nq) := below_drewN (unhide HB) nq
          have hLx : Lists wordsS signsS (wr.drewN nq) := ((unhide HL).later (unhide HB2)).later hBn
          have ht := tokens_any wordsS signsS (s.extract a (b + 1)) (wr.drewN nq) (by omega) hLx signs_ok.pos
          rw [hone] at ht
          refine Calls.mono ht ?_
          clear ht hone hcutx hLx
          rintro e5 w5 ⟨v5, rfl, hown5, hb5⟩
          obtain ⟨g5, cap5, hv5, hg5, _, hcell5⟩ := row_cells hown5 (by simp)
          obtain ⟨d0, d1, d2, _⟩ := hcell5 0 _ rfl
          simp at d0 d1 d2
          subst hv5
          simp only [List.length_cons, List.length_nil] at hown5 ⊢
          have hgw : g < (wr.drewN nq).heap.size := by
            have := lt_of_cell k0
            exact this
          have j0 : w5.cell? ⟨g, k * 4, none⟩ = some (.int .i64 kd) := by rw [hb5.cell (p := ⟨g, _, none⟩) hgw]; exact k0
          have j1 : w5.cell? ⟨g, k * 4 + 1, none⟩ = some (.string tx) := by rw [hb5.cell (p := ⟨g, _, none⟩) hgw]; exact k1
          have j2 : w5.cell? ⟨g, k * 4 + 2, none⟩ = some (.int .i64 m) := by rw [hb5.cell (p := ⟨g, _, none⟩) hgw]; exact k2
          have HB5 := hide (hBn.trans (hb5.mono hBn.size))
          clear hown5 hcell5 hb5 hBn k0 k1 k2 k3 u3 hx g1 g2 hgw
          go_wp2_with fail
          go_quiet (fail)
          go_wp2_with fail
          go_roundw
          case rel => exact ⟨k + 1, by omega, by go_num, below_drewN (unhide HB5) _⟩
          case measure => simp [intOf]; omega
        · have hg := unhide HGAP b (by omega) (by omega) hbs
          simp [gapB] at hg
          by_cases h32 : ((s[b].toNat : Nat) : Int) = 32
          · have g1 : (((s[b].toNat : Nat) : Int) == 32) = true := beq_iff_eq.2 h32
            clear hg h32
            go_wp2_with fail
            go_round
            case rel => exact ⟨b - 1, by omega, by omega, by go_num⟩
            case measure => simp [intOf]; omega
          · have g1 : (((s[b].toNat : Nat) : Int) == 32) = false := beq_eq_false_iff_ne.2 h32
            have g2 : (((s[b].toNat : Nat) : Int) == 10) = true := beq_iff_eq.2 (by omega)
            clear hg h32
            go_wp2_with fail
            go_round
            case rel => exact ⟨b - 1, by omega, by omega, by go_num⟩
            case measure => simp [intOf]; omega
    · go_wp2_with fail
      go_ret
      exact ⟨rfl, (unhide HB2).trans ((unhide HB).mono (unhide HB2).size)⟩

theorem covers_any (s : ByteArray) (w : World) (hL : Lists wordsS signsS w) :
    Calls Tryd.prog 5 #[.string s] w fun e w' => e = .returned (.bool true) ∧ Below w.heap.size w w' := by
  by_cases hs : s.size ≤ 3000
  · cases hr : toksR wordsS signsS s (pastN gapB s 0) [] with
    | ok l => exact covers_ok s w l hs hL hr
    | bad er p => exact covers_bad s w er p hs hL hr
  · exact covers_long s w (by omega) hL

end Go.Proofs.YtlpbpcdjifadiaaDoor
