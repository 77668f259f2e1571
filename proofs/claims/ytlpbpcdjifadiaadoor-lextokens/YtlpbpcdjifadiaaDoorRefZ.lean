/-
  Rounds of the reference's Tokens: signs.
-/
import Derived.Test.YtlpbpcdjifadiaaDoorRefS
namespace Go.Proofs.YtlpbpcdjifadiaaDoor
open Go.RowKit

theorem signs_cells (w : World) (k : Nat) (hk : k < 19) : (w.alloc (.cells #[.string ⟨#[61, 61, 61]⟩, .string ⟨#[38, 38]⟩, .string ⟨#[124, 124]⟩, .string ⟨#[40]⟩, .string ⟨#[41]⟩, .string ⟨#[123]⟩, .string ⟨#[125]⟩, .string ⟨#[91]⟩, .string ⟨#[93]⟩, .string ⟨#[59]⟩, .string ⟨#[58]⟩, .string ⟨#[44]⟩, .string ⟨#[46]⟩, .string ⟨#[61]⟩, .string ⟨#[43]⟩, .string ⟨#[45]⟩, .string ⟨#[42]⟩, .string ⟨#[60]⟩, .string ⟨#[33]⟩] 9)).cell? ⟨w.heap.size, k, none⟩ = some (.string (signsS.getD k ByteArray.empty)) := by
  have h1 : (w.alloc (.cells #[.string ⟨#[61, 61, 61]⟩, .string ⟨#[38, 38]⟩, .string ⟨#[124, 124]⟩, .string ⟨#[40]⟩, .string ⟨#[41]⟩, .string ⟨#[123]⟩, .string ⟨#[125]⟩, .string ⟨#[91]⟩, .string ⟨#[93]⟩, .string ⟨#[59]⟩, .string ⟨#[58]⟩, .string ⟨#[44]⟩, .string ⟨#[46]⟩, .string ⟨#[61]⟩, .string ⟨#[43]⟩, .string ⟨#[45]⟩, .string ⟨#[42]⟩, .string ⟨#[60]⟩, .string ⟨#[33]⟩] 9)).heap[w.heap.size]? = some (.cells #[.string ⟨#[61, 61, 61]⟩, .string ⟨#[38, 38]⟩, .string ⟨#[124, 124]⟩, .string ⟨#[40]⟩, .string ⟨#[41]⟩, .string ⟨#[123]⟩, .string ⟨#[125]⟩, .string ⟨#[91]⟩, .string ⟨#[93]⟩, .string ⟨#[59]⟩, .string ⟨#[58]⟩, .string ⟨#[44]⟩, .string ⟨#[46]⟩, .string ⟨#[61]⟩, .string ⟨#[43]⟩, .string ⟨#[45]⟩, .string ⟨#[42]⟩, .string ⟨#[60]⟩, .string ⟨#[33]⟩] 9) := heap_alloc_new w _
  simp only [World.cell?, h1]
  have h2 : ∀ k : Fin 19, (#[.string ⟨#[61, 61, 61]⟩, .string ⟨#[38, 38]⟩, .string ⟨#[124, 124]⟩, .string ⟨#[40]⟩, .string ⟨#[41]⟩, .string ⟨#[123]⟩, .string ⟨#[125]⟩, .string ⟨#[91]⟩, .string ⟨#[93]⟩, .string ⟨#[59]⟩, .string ⟨#[58]⟩, .string ⟨#[44]⟩, .string ⟨#[46]⟩, .string ⟨#[61]⟩, .string ⟨#[43]⟩, .string ⟨#[45]⟩, .string ⟨#[42]⟩, .string ⟨#[60]⟩, .string ⟨#[33]⟩] : Array Value)[k.val]? = some (.string (signsS.getD k.val ByteArray.empty)) := by
    intro k
    match k with
    | ⟨0, _⟩ => rfl
    | ⟨1, _⟩ => rfl
    | ⟨2, _⟩ => rfl
    | ⟨3, _⟩ => rfl
    | ⟨4, _⟩ => rfl
    | ⟨5, _⟩ => rfl
    | ⟨6, _⟩ => rfl
    | ⟨7, _⟩ => rfl
    | ⟨8, _⟩ => rfl
    | ⟨9, _⟩ => rfl
    | ⟨10, _⟩ => rfl
    | ⟨11, _⟩ => rfl
    | ⟨12, _⟩ => rfl
    | ⟨13, _⟩ => rfl
    | ⟨14, _⟩ => rfl
    | ⟨15, _⟩ => rfl
    | ⟨16, _⟩ => rfl
    | ⟨17, _⟩ => rfl
    | ⟨18, _⟩ => rfl
    | ⟨n + 19, h⟩ => exact absurd h (by omega)
  exact h2 ⟨k, hk⟩

theorem signs_sz : ∀ i, i < 19 → (signsS.getD i ByteArray.empty).size ≤ 3 := by decide +kernel


set_option maxRecDepth 100000 in
set_option maxHeartbeats 2000000 in
theorem way_znone (ws : List ByteArray) (s : ByteArray) (w wr : World) (r : TR) (K : Act → World → Prop) (f : Nat → Value) (v : Value) (j : Nat) (acc : List Tk) (hs : s.size ≤ 3000) (hlt : j < s.size) (hal : acc.length ≤ j) (hL : RefLists ws w)
    (he : toksR ws signsS s (pastN gapB s j) acc = r) (hinv : RInv w acc v wr) (hng : gapB (s[j].toNat : Int) = false)
    (hlet : letB (s[j].toNat : Int) = false) (hdig : digB (s[j].toNat : Int) = false) (hquo : (((s[j].toNat : Nat) : Int) == 39) = false) (hno : ∀ k, k < 19 → pfxB (s.extract j s.size) (signsS.getD k ByteArray.empty) = false) (hrd : rdTok ws signsS s j = .bad 3 j) :
    Code.wp Tryd.prog body6 (Q6 ws s w r K (s.size - j)) (fr s w.heap.size v (.int .i64 (j : Int)) f) wr := by
  have _h1 := hL
  have _h2 := hal
  clear _h1 _h2
  obtain ⟨i0, hi, hz0, hz1, hz2⟩ := info_parts info36
  have hps := pastN_stop gapB s j hlt hng
  rw [hps] at he
  have HE := hide he
  have hng2 := hng
  simp only [gapB, Bool.or_eq_false_iff] at hng2
  obtain ⟨g1, g2⟩ := hng2
  have HI := hide hinv
  obtain ⟨rc0, rc1, rf0, rf1⟩ := hinv.cells
  have HLR := hide (hinv.lists hL)
  clear he hinv hng hps hL
  have hq : r = .bad 3 j := by rw [← unhide HE, toksR_bad ws signsS s j acc 3 j hlt hrd]
  subst hq
  have HNO := hide hno
  have HLET := hide hlet
  have HDIG := hide hdig
  clear hlet hdig HE hrd hno
  conv => arg 2; whnf
  unfold fr Q6
  go_wp2_with fail
  refine (isLetter_any _ _).mono ?_
  rw [unhide HLET]
  rintro e1 w1 ⟨rfl, rfl⟩
  go_wp2_with fail
  refine (isDigit_any _ _).mono ?_
  rw [unhide HDIG]
  rintro e1 w1 ⟨rfl, rfl⟩
  go_wp2_with fail
  have HCE := hide (signs_cells w1)
  have HI1 := hide ((unhide HI).later ((Below.refl _ _).alloc (Nat.le_refl _) (.cells #[.string ⟨#[61, 61, 61]⟩, .string ⟨#[38, 38]⟩, .string ⟨#[124, 124]⟩, .string ⟨#[40]⟩, .string ⟨#[41]⟩, .string ⟨#[123]⟩, .string ⟨#[125]⟩, .string ⟨#[91]⟩, .string ⟨#[93]⟩, .string ⟨#[59]⟩, .string ⟨#[58]⟩, .string ⟨#[44]⟩, .string ⟨#[46]⟩, .string ⟨#[61]⟩, .string ⟨#[43]⟩, .string ⟨#[45]⟩, .string ⟨#[42]⟩, .string ⟨#[60]⟩, .string ⟨#[33]⟩] 9)))
  obtain ⟨N, hN⟩ : ∃ N, N = w1.heap.size := ⟨_, rfl⟩
  obtain ⟨W1, hW1⟩ : ∃ W1, W1 = w1.alloc (.cells #[.string ⟨#[61, 61, 61]⟩, .string ⟨#[38, 38]⟩, .string ⟨#[124, 124]⟩, .string ⟨#[40]⟩, .string ⟨#[41]⟩, .string ⟨#[123]⟩, .string ⟨#[125]⟩, .string ⟨#[91]⟩, .string ⟨#[93]⟩, .string ⟨#[59]⟩, .string ⟨#[58]⟩, .string ⟨#[44]⟩, .string ⟨#[46]⟩, .string ⟨#[61]⟩, .string ⟨#[43]⟩, .string ⟨#[45]⟩, .string ⟨#[42]⟩, .string ⟨#[60]⟩, .string ⟨#[33]⟩] 9) := ⟨_, rfl⟩
  rw [← hW1, ← hN]
  rw [← hW1, ← hN] at HCE
  rw [← hW1] at HI1
  clear hW1 hN rc0 rc1 rf0 rf1 HLR
  obtain ⟨rc0, rc1, rf0, rf1⟩ := (unhide HI1).cells
  go_loop [13, 15, 207] (fun a _ b => ∃ q : Nat, q ≤ 19 ∧ b = .int .i64 q ∧ a = .string ⟨#[]⟩) (fun _ _ b => 19 - (intOf b).toNat)
  case atStart => exact ⟨0, Nat.zero_le _, rfl, rfl⟩
  case round =>
    obtain ⟨q, hq, rfl, rfl⟩ := hrel
    by_cases hq19 : q < 19
    · have hck := unhide HCE q hq19
      have hgz := signs_sz q hq19
      have hpf := unhide HNO q hq19
      obtain ⟨g, hg⟩ : ∃ g, g = signsS.getD q ByteArray.empty := ⟨_, rfl⟩
      rw [← hg] at hck hgz hpf
      have HPF := hide hpf
      clear hpf hg
      go_wp2_with fail
      refine (hasPrefix_any _ _ _ (by unfold maxLen; simp; omega) (by unfold maxLen; omega)).mono ?_
      rw [unhide HPF]
      rintro e4 w4 ⟨rfl, rfl⟩
      go_wp2_with fail
      go_round
      case rel => exact ⟨q + 1, by omega, by go_num, rfl⟩
      case measure => simp [intOf]; omega
    · go_wp2_with fail
      exact bodyPost_ret (v := .tuple #[.slice none 0 0, .agg #[.int .i64 3, .int .i64 (j : Int)]]) (by simp [results, Tryd.results6, go_sem, rc0, rc1]) rfl ⟨rfl, (unhide HI1).out _ _⟩

set_option maxRecDepth 100000 in
set_option maxHeartbeats 2000000 in
theorem way_zsome (ws : List ByteArray) (s : ByteArray) (w wr : World) (r : TR) (K : Act → World → Prop) (f : Nat → Value) (v : Value) (j : Nat) (acc : List Tk) (hs : s.size ≤ 3000) (hlt : j < s.size) (hal : acc.length ≤ j) (hL : RefLists ws w)
    (he : toksR ws signsS s (pastN gapB s j) acc = r) (hinv : RInv w acc v wr) (hng : gapB (s[j].toNat : Int) = false)
    (hlet : letB (s[j].toNat : Int) = false) (hdig : digB (s[j].toNat : Int) = false) (hquo : (((s[j].toNat : Nat) : Int) == 39) = false) (m : Nat) (hm : m < 19) (g : ByteArray) (hgm : signsS.getD m ByteArray.empty = g) (hg1 : 1 ≤ g.size) (hg3 : g.size ≤ 3) (hno : ∀ k, k < m → pfxB (s.extract j s.size) (signsS.getD k ByteArray.empty) = false) (hyes : pfxB (s.extract j s.size) g = true) (e : Nat) (heg : j + g.size = e) (hes : e ≤ s.size) (hrd : rdTok ws signsS s j = .tok 5 g 0 e) :
    Code.wp Tryd.prog body6 (Q6 ws s w r K (s.size - j)) (fr s w.heap.size v (.int .i64 (j : Int)) f) wr := by
  have _h1 := hL
  have _h2 := hal
  clear _h1 _h2
  obtain ⟨i0, hi, hz0, hz1, hz2⟩ := info_parts info36
  have hps := pastN_stop gapB s j hlt hng
  rw [hps] at he
  have HE := hide he
  have hng2 := hng
  simp only [gapB, Bool.or_eq_false_iff] at hng2
  obtain ⟨g1, g2⟩ := hng2
  have HI := hide hinv
  obtain ⟨rc0, rc1, rf0, rf1⟩ := hinv.cells
  have HLR := hide (hinv.lists hL)
  clear he hinv hng hps hL
  have HST := hide ((toksR_go ws signsS s j acc (5) (0) (g) e hlt hrd (by omega)).symm.trans (unhide HE))
  have HYES := hide hyes
  have HGM := hide hgm
  have hemp := notEmpty g hg1
  clear hyes hgm
  have HNO := hide hno
  have HLET := hide hlet
  have HDIG := hide hdig
  clear hlet hdig HE hrd hno
  conv => arg 2; whnf
  unfold fr Q6
  go_wp2_with fail
  refine (isLetter_any _ _).mono ?_
  rw [unhide HLET]
  rintro e1 w1 ⟨rfl, rfl⟩
  go_wp2_with fail
  refine (isDigit_any _ _).mono ?_
  rw [unhide HDIG]
  rintro e1 w1 ⟨rfl, rfl⟩
  go_wp2_with fail
  have HCE := hide (signs_cells w1)
  have HI1 := hide ((unhide HI).later ((Below.refl _ _).alloc (Nat.le_refl _) (.cells #[.string ⟨#[61, 61, 61]⟩, .string ⟨#[38, 38]⟩, .string ⟨#[124, 124]⟩, .string ⟨#[40]⟩, .string ⟨#[41]⟩, .string ⟨#[123]⟩, .string ⟨#[125]⟩, .string ⟨#[91]⟩, .string ⟨#[93]⟩, .string ⟨#[59]⟩, .string ⟨#[58]⟩, .string ⟨#[44]⟩, .string ⟨#[46]⟩, .string ⟨#[61]⟩, .string ⟨#[43]⟩, .string ⟨#[45]⟩, .string ⟨#[42]⟩, .string ⟨#[60]⟩, .string ⟨#[33]⟩] 9)))
  obtain ⟨N, hN⟩ : ∃ N, N = w1.heap.size := ⟨_, rfl⟩
  obtain ⟨W1, hW1⟩ : ∃ W1, W1 = w1.alloc (.cells #[.string ⟨#[61, 61, 61]⟩, .string ⟨#[38, 38]⟩, .string ⟨#[124, 124]⟩, .string ⟨#[40]⟩, .string ⟨#[41]⟩, .string ⟨#[123]⟩, .string ⟨#[125]⟩, .string ⟨#[91]⟩, .string ⟨#[93]⟩, .string ⟨#[59]⟩, .string ⟨#[58]⟩, .string ⟨#[44]⟩, .string ⟨#[46]⟩, .string ⟨#[61]⟩, .string ⟨#[43]⟩, .string ⟨#[45]⟩, .string ⟨#[42]⟩, .string ⟨#[60]⟩, .string ⟨#[33]⟩] 9) := ⟨_, rfl⟩
  rw [← hW1, ← hN]
  rw [← hW1, ← hN] at HCE
  rw [← hW1] at HI1
  clear hW1 hN rc0 rc1 rf0 rf1 HLR
  obtain ⟨rc0, rc1, rf0, rf1⟩ := (unhide HI1).cells
  go_loop [13, 15, 207] (fun a _ b => ∃ q : Nat, q ≤ 19 ∧ b = .int .i64 q ∧ ((q ≤ m ∧ a = .string ⟨#[]⟩) ∨ (m < q ∧ a = .string g))) (fun _ _ b => 19 - (intOf b).toNat)
  case atStart => exact ⟨0, Nat.zero_le _, rfl, Or.inl ⟨Nat.zero_le _, rfl⟩⟩
  case round =>
    obtain ⟨q, hq, rfl, hrest⟩ := hrel
    by_cases hq19 : q < 19
    · have hck := unhide HCE q hq19
      have hgz := signs_sz q hq19
      rcases hrest with ⟨hqm, rfl⟩ | ⟨hqm, rfl⟩
      · by_cases hqq : q = m
        · subst hqq
          rw [unhide HGM] at hck hgz
          have HPF := hide (unhide HYES)
          go_wp2_with fail
          refine (hasPrefix_any _ _ _ (by unfold maxLen; simp; omega) (by unfold maxLen; omega)).mono ?_
          rw [unhide HPF]
          rintro e4 w4 ⟨rfl, rfl⟩
          go_wp2_with fail
          go_round
          case rel => exact ⟨q + 1, by omega, by go_num, Or.inr ⟨by omega, rfl⟩⟩
          case measure => simp [intOf]; omega
        · have hpf := unhide HNO q (by omega)
          obtain ⟨g', hg⟩ : ∃ g', g' = signsS.getD q ByteArray.empty := ⟨_, rfl⟩
          rw [← hg] at hck hgz hpf
          have HPF := hide hpf
          clear hpf hg
          go_wp2_with fail
          refine (hasPrefix_any _ _ _ (by unfold maxLen; simp; omega) (by unfold maxLen; omega)).mono ?_
          rw [unhide HPF]
          rintro e4 w4 ⟨rfl, rfl⟩
          go_wp2_with fail
          go_round
          case rel => exact ⟨q + 1, by omega, by go_num, Or.inl ⟨by omega, rfl⟩⟩
          case measure => simp [intOf]; omega
      · obtain ⟨g', hg⟩ : ∃ g', g' = signsS.getD q ByteArray.empty := ⟨_, rfl⟩
        rw [← hg] at hck hgz
        clear hg
        go_wp2_with fail
        go_round
        case rel => exact ⟨q + 1, by omega, by go_num, Or.inr ⟨by omega, rfl⟩⟩
        case measure => simp [intOf]; omega
    · rcases hrest with ⟨hqm, rfl⟩ | ⟨hqm, rfl⟩
      · exfalso; omega
      · go_wp2_with (at_builtin; refine wpList_append_own _ rfl _ _ 22 rfl (w.heap.size + 1) 36 i0 noTok 4 40 Tryd.underlying22 hi hz0 hz1 hz2 rfl (by decide) _ _ _ rfl ((unhide HI1).own.alloc _) ⟨W1.heap.size, 0, none⟩ 1 1 [.int .i64 5, .string g, .int .i64 0, .int .i64 (j : Int)] rfl rfl (new4_cells _ _ _ _ _) (new4_one _ _ _ _) (by unfold maxLen; omega) (by omega) (by have := (unhide HI1).size; simp; omega) ?_; intro v' w5 hown' hgrow _; have HI5 := hide ((unhide HI1).app (t := Tk.mk 5 g 0 j) _ hown' hgrow); clear hown' hgrow)
        exact ⟨WI_mk (j + g.size) (acc ++ [Tk.mk 5 g 0 j]) v' (by omega) (by simp; omega) (by have h := unhide HST; rw [← heg] at h; exact h) (unhide HI5) (by kernel_rfl), by simp [mu6, intOf]; omega⟩

end Go.Proofs.YtlpbpcdjifadiaaDoor
