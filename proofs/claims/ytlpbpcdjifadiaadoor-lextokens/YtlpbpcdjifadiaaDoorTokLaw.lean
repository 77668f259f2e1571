/-
  The walk of LexTokens: over whatever text it returns true, and nothing that was there has turned.
-/
import Derived.Test.YtlpbpcdjifadiaaDoorRefM
import Derived.Test.YtlpbpcdjifadiaaDoorTell
import Derived.Test.YtlpbpcdjifadiaaDoorLexed
namespace Go.Proofs.YtlpbpcdjifadiaaDoor
open Go.RowKit

theorem rdTok_err (ws gs : List ByteArray) (s : ByteArray) (k : Nat) (er : Int) (p : Nat) (h : rdTok ws gs s k = .bad er p) : er ≠ 0 := by
  unfold rdTok rdName rdNum rdStr rdSign at h
  repeat' split at h
  all_goals first | (cases h; decide) | cases h

theorem toks_err (ws gs : List ByteArray) (s : ByteArray) (hg : ∀ g ∈ gs, 1 ≤ g.size) : ∀ m i acc er p, s.size - i = m → toksR ws gs s i acc = .bad er p → er ≠ 0 := by
  intro m
  induction m using Nat.strongRecOn with
  | ind m ih =>
    intro i acc er p hm h
    by_cases hlt : i < s.size
    · cases hr : rdTok ws gs s i with
      | tok kd tx n e =>
        have hb := rdTok_bounds ws gs s i kd n tx e hlt hg hr
        rw [toksR_go ws gs s i acc kd n tx e hlt hr hb.1] at h
        have hge := pastN_ge gapB s e
        exact ih (s.size - pastN gapB s e) (by omega) _ _ er p rfl h
      | bad er' p' =>
        rw [toksR_bad ws gs s i acc er' p' hlt hr] at h
        cases h
        exact rdTok_err ws gs s i er p hr
    · rw [toksR_end ws gs s i acc hlt] at h; cases h

set_option maxHeartbeats 400000 in
theorem bare_any (er : Int) (w : World) : Calls Tryd.prog 14 #[.int .i64 er] w fun e w' => e = .returned (.agg #[.int .i64 er, .int .i64 (-1)]) ∧ Below w.heap.size w w' := by
  go_enter Tryd.func14, Tryd.ntmps14
  go_wp2
  exact bodyPost_ret (v := .agg #[.int .i64 er, .int .i64 (-1)]) (by simp [results, Tryd.results14, go_sem]) rfl ⟨rfl, (Below.refl _ _).alloc (Nat.le_refl _) _⟩

set_option maxRecDepth 100000 in
set_option maxHeartbeats 1000000 in
theorem refTokens_long (s : ByteArray) (w : World) (hs : 3000 < s.size) :
    Calls Tryd.prog 6 #[.string s] w fun e w' => e = .returned (.tuple #[.slice none 0 0, .agg #[.int .i64 4, .int .i64 (-1)]]) ∧ Below w.heap.size w w' := by
  go_enter Tryd.func6, Tryd.ntmps6
  go_wp2_with fail
  refine (bare_any 4 _).mono ?_
  rintro e w1 ⟨rfl, hb⟩
  obtain ⟨hc, hf⟩ := bcell hb
  have HB := hide hb
  clear hb
  go_wp2_with fail
  refine bodyPost_ret (v := .tuple #[.slice none 0 0, .agg #[.int .i64 4, .int .i64 (-1)]]) (by simp [results, Tryd.results6, go_sem, hc]) rfl ⟨rfl, ?_⟩
  exact ((((Below.refl _ _).alloc (Nat.le_refl _) _).trans ((unhide HB).mono (by simp))).setCell (p := ⟨w.heap.size, 0, none⟩) (Nat.le_refl _) _).setCell (p := ⟨w.heap.size, 1, none⟩) (Nat.le_refl _) _

/-- What the law finds in the program's variables. -/
structure Found (w : World) : Prop where
  ls : Lists wordsS signsS w
  rl : RefLists wordsS w
  et : errType w

theorem Found.later {w w' : World} (h : Found w) (hb : Below w.heap.size w w') : Found w' := ⟨h.ls.later hb, h.rl.later hb, errType_later h.et hb⟩

set_option maxRecDepth 100000 in
set_option maxHeartbeats 1000000 in
theorem law_huge (s : ByteArray) (w : World) (hs : 4000 < s.size) : Calls Tryd.prog 3 #[.string s] w fun e w' => e = .returned (.bool true) ∧ Below w.heap.size w w' := by
  go_enter Tryd.func3, Tryd.ntmps3
  go_wp2_with fail
  go_ret
  exact ⟨rfl, Below.refl _ _⟩

set_option maxRecDepth 100000 in
set_option maxHeartbeats 1000000 in
theorem law_long (s : ByteArray) (w : World) (hs : 3000 < s.size) (hs2 : s.size ≤ 4000) (hF : Found w) : Calls Tryd.prog 3 #[.string s] w fun e w' => e = .returned (.bool true) ∧ Below w.heap.size w w' := by
  have HF := hide hF
  clear hF
  go_enter Tryd.func3, Tryd.ntmps3
  go_wp2_with fail
  refine (refTokens_long s w hs).mono ?_
  rintro e w1 ⟨rfl, hb1⟩
  have HB1 := hide hb1
  clear hb1
  go_wp2_with fail
  refine (tokens_long s _ hs).mono ?_
  rintro e w2 ⟨rfl, rfl⟩
  go_wp2_with fail
  have hbA : Below w.heap.size w (w1.alloc (.cells #[.int .i64 4, .int .i64 (-1)] 25)) := (unhide HB1).alloc (unhide HB1).size _
  refine (at_hit 4 _ ((unhide HF).later hbA).et).mono ?_
  rintro e w3 ⟨rfl, hb3⟩
  have HB3 := hide (hbA.trans (hb3.mono hbA.size))
  clear hb3 hbA
  go_wp2_with fail
  go_ret
  exact ⟨rfl, unhide HB3⟩

set_option maxRecDepth 100000 in
set_option maxHeartbeats 1000000 in
theorem law_bad (s : ByteArray) (w : World) (er : Int) (p : Nat) (hs : s.size ≤ 3000) (hF : Found w) (hr : toksR wordsS signsS s (pastN gapB s 0) [] = .bad er p) : Calls Tryd.prog 3 #[.string s] w fun e w' => e = .returned (.bool true) ∧ Below w.heap.size w w' := by
  have her := toks_err wordsS signsS s signs_ok.pos _ _ [] er p rfl hr
  have her2 : (er != 0) = true := by rw [bne_iff_ne]; exact her
  have HR := hide hr
  have HU := hide (refTokens_any wordsS s w hs hF.rl)
  have HF := hide hF
  clear hF hr her
  go_enter Tryd.func3, Tryd.ntmps3
  go_wp2_with fail
  have hu := unhide HU
  rw [unhide HR] at hu
  refine Calls.mono hu ?_
  clear hu HU
  rintro e w1 ⟨rfl, hb1⟩
  have HB1 := hide hb1
  clear hb1
  go_wp2_with fail
  have hbA : Below w.heap.size w (w1.alloc (.cells #[.int .i64 er, .int .i64 (p : Int)] 25)) := (unhide HB1).alloc (unhide HB1).size _
  have ht := tokens_any wordsS signsS s (w1.alloc (.cells #[.int .i64 er, .int .i64 (p : Int)] 25)) hs ((unhide HF).later hbA).ls signs_ok.pos
  rw [unhide HR] at ht
  refine Calls.mono ht ?_
  clear ht
  rintro e w2 ⟨b, rfl, hb, _, hb2⟩
  obtain ⟨hc, hf⟩ := bcell hb2
  have hbB := hbA.trans (hb2.mono hbA.size)
  have HBB := hide hb
  have HBB2 := hide hbB
  clear hb hb2 hbB hbA
  go_wp2_with fail
  refine (at_at er p b w2 ((unhide HF).later (unhide HBB2)).et (unhide HBB)).mono ?_
  rintro e w3 ⟨rfl, hb3⟩
  have HB3 := hide ((unhide HBB2).trans (hb3.mono (unhide HBB2).size))
  clear hb3
  go_wp2_with fail
  go_ret
  exact ⟨rfl, unhide HB3⟩

end Go.Proofs.YtlpbpcdjifadiaaDoor
