/-
  Plain facts: a token's bytes alone are that token again; its last byte is no blank; where the tokens of a text lie.
-/
import Derived.Test.YtlpbpcdjifadiaaDoorToks
import Derived.Lib.Strings
namespace Go.Proofs.YtlpbpcdjifadiaaDoor
open Go.RowKit

theorem len_data (x : ByteArray) : x.data.toList.length = x.size := by simp
theorem ext_list (s : ByteArray) (a b : Nat) : (s.extract a b).data.toList = (s.data.toList.drop a).take (b - a) := Lib.extract_data s a b
theorem bytes_ext {x y : ByteArray} (h : x.data.toList = y.data.toList) : x = y := WideShapes.bytes_inj h

theorem ext_all (x : ByteArray) : x.extract 0 x.size = x := by
  apply bytes_ext
  rw [ext_list, List.drop_zero, Nat.sub_zero, ← len_data, List.take_length]

theorem bt_ext (s : ByteArray) (a b i : Nat) (h2 : a + i < b) : bt (s.extract a b) i = bt s (a + i) := by
  unfold bt
  rw [ext_list, List.getD_eq_getElem?_getD, List.getD_eq_getElem?_getD, List.getElem?_take_of_lt (by omega), List.getElem?_drop]

theorem pfx_iff (x p : ByteArray) : pfxB x p = true ↔ p.data.toList <+: x.data.toList := by
  unfold pfxB
  rw [Bool.and_eq_true, decide_eq_true_eq, beq_iff_eq, ByteArray.toList_eq, ByteArray.toList_eq, ext_list, List.drop_zero, Nat.sub_zero, List.prefix_iff_eq_take, len_data]
  constructor
  · rintro ⟨_, h⟩; exact h.symm
  · intro h
    refine ⟨?_, h.symm⟩
    have := congrArg List.length h
    rw [List.length_take, len_data, len_data] at this
    omega

/-- What the signs are like. -/
structure Signs (gs : List ByteArray) : Prop where
  pos : ∀ g ∈ gs, 1 ≤ g.size
  gap : ∀ g ∈ gs, ∀ b ∈ g.data.toList, gapB (b.toNat : Int) = false

theorem lod_gap (c : Int) (h : lodB c = true) : gapB c = false := by
  simp [lodB, letB, digB, btwB] at h
  simp [gapB]; omega
theorem dig_gap (c : Int) (h : digB c = true) : gapB c = false := lod_gap c (by unfold lodB; rw [h]; simp)

theorem strR_last (s : ByteArray) : ∀ n i said l e, s.size - i = n → strR s i said = .ok l e → bt s (e - 1) = 39 := by
  intro n
  induction n using Nat.strongRecOn with
  | ind n ih =>
    intro i said l e hn h
    by_cases hlt : i < s.size
    · by_cases c1 : bt s i = 39
      · rw [strR_quote s i said hlt c1] at h
        cases h
        exact c1
      · by_cases c2 : bt s i = 10
        · rw [strR_lf s i said hlt c2] at h; cases h
        · by_cases c3 : bt s i = 92
          · by_cases h1 : i + 1 < s.size
            · cases hm : esc (bt s (i + 1)) with
              | none => rw [strR_noesc s i said hlt c3 (fun _ => hm)] at h; cases h
              | some m =>
                rw [strR_esc s i said m hlt c3 h1 hm] at h
                exact ih (s.size - (i + 2)) (by omega) (i + 2) _ l e rfl h
            · rw [strR_noesc s i said hlt c3 (fun hh => absurd hh h1)] at h; cases h
          · rw [strR_plain s i said hlt c1 c2 c3] at h
            exact ih (s.size - (i + 1)) (by omega) (i + 1) _ l e rfl h
    · rw [strR_end s i said hlt] at h; cases h

theorem strR_cut (s : ByteArray) (a : Nat) : ∀ n i said l e, s.size - i = n → a ≤ i → strR s i said = .ok l e → strR (s.extract a e) (i - a) said = .ok l (e - a) := by
  intro n
  induction n using Nat.strongRecOn with
  | ind n ih =>
    intro i said l e hn hai h
    have hbd := strR_bounds s _ i said l e rfl h
    have hxs : (s.extract a e).size = e - a := extract_size s a e (by omega) hbd.2.1
    have hb0 : bt (s.extract a e) (i - a) = bt s i := by rw [bt_ext s a e (i - a) (by omega)]; congr 1; omega
    have hlx : i - a < (s.extract a e).size := by omega
    by_cases hlt : i < s.size
    · by_cases c1 : bt s i = 39
      · rw [strR_quote s i said hlt c1] at h
        rw [strR_quote _ _ said hlx (by rw [hb0]; exact c1)]
        cases h
        congr 1; omega
      · by_cases c2 : bt s i = 10
        · rw [strR_lf s i said hlt c2] at h; cases h
        · by_cases c3 : bt s i = 92
          · by_cases h1 : i + 1 < s.size
            · cases hm : esc (bt s (i + 1)) with
              | none => rw [strR_noesc s i said hlt c3 (fun _ => hm)] at h; cases h
              | some m =>
                rw [strR_esc s i said m hlt c3 h1 hm] at h
                have hbd2 := strR_bounds s _ (i + 2) _ l e rfl h
                have hb1 : bt (s.extract a e) (i - a + 1) = bt s (i + 1) := by rw [bt_ext s a e (i - a + 1) (by omega)]; congr 1; omega
                rw [strR_esc _ _ said m hlx (by rw [hb0]; exact c3) (by omega) (by rw [hb1]; exact hm)]
                have := ih (s.size - (i + 2)) (by omega) (i + 2) _ l e rfl (by omega) h
                rw [show i + 2 - a = i - a + 2 from by omega] at this
                exact this
            · rw [strR_noesc s i said hlt c3 (fun hh => absurd hh h1)] at h; cases h
          · rw [strR_plain s i said hlt c1 c2 c3] at h
            have hbd2 := strR_bounds s _ (i + 1) _ l e rfl h
            rw [strR_plain _ _ said hlx (by rw [hb0]; exact c1) (by rw [hb0]; exact c2) (by rw [hb0]; exact c3), hb0]
            have := ih (s.size - (i + 1)) (by omega) (i + 1) _ l e rfl (by omega) h
            rw [show i + 1 - a = i - a + 1 from by omega] at this
            exact this
    · rw [strR_end s i said hlt] at h; cases h

theorem sign_cut (gs : List ByteArray) (s : ByteArray) (k : Nat) (g : ByteArray) (hk : k ≤ s.size) (hf : gs.find? (fun g => pfxB (s.extract k s.size) g) = some g) :
    gs.find? (fun g' => pfxB (s.extract k (k + g.size)) g') = some g ∧ k + g.size ≤ s.size ∧ s.extract k (k + g.size) = g := by
  have hp := List.find?_some hf
  have hp2 := (pfx_iff _ _).1 hp
  have hfull : (s.extract k s.size).data.toList = s.data.toList.drop k := by
    rw [ext_list, List.take_of_length_le (by rw [List.length_drop, len_data]; omega)]
  rw [hfull] at hp2
  have hlen := hp2.length_le
  rw [List.length_drop, len_data, len_data] at hlen
  have hx : s.extract k (k + g.size) = g := by
    apply bytes_ext
    rw [ext_list, Nat.add_sub_cancel_left, ← len_data g]
    exact (List.prefix_iff_eq_take.1 hp2).symm
  refine ⟨?_, by by_cases h0 : g.size = 0 <;> omega, hx⟩
  rw [hx]
  rw [List.find?_eq_some_iff_getElem] at hf ⊢
  obtain ⟨_, i, hi, hgi, hall⟩ := hf
  refine ⟨(pfx_iff _ _).2 (List.prefix_refl _), i, hi, hgi, fun j hj => ?_⟩
  have hn := hall j hj
  cases hc : pfxB g gs[j]
  · rfl
  · have h1 := (pfx_iff _ _).1 hc
    have h2 : pfxB (s.extract k s.size) gs[j] = true := (pfx_iff _ _).2 (by rw [hfull]; exact h1.trans hp2)
    rw [h2] at hn; simp at hn

/-- A token's bytes alone are that token again. -/
theorem rdTok_cut (ws gs : List ByteArray) (s : ByteArray) (k : Nat) (kd n : Int) (tx : ByteArray) (e : Nat) (hk : k < s.size) (hg : ∀ g ∈ gs, 1 ≤ g.size)
    (h : rdTok ws gs s k = .tok kd tx n e) : rdTok ws gs (s.extract k e) 0 = .tok kd tx n (e - k) := by
  have hbd := rdTok_bounds ws gs s k kd n tx e hk hg h
  have hxs : (s.extract k e).size = e - k := extract_size s k e (by omega) hbd.2
  have hb0 : bt (s.extract k e) 0 = bt s k := by rw [bt_ext s k e 0 (by omega)]; rfl
  have hbt := bt_eq s k hk
  unfold rdTok at h ⊢
  rw [hb0]
  split at h
  · rename_i hl
    rw [if_pos hl]
    have hee : e = pastN lodB s k := by
      unfold rdName at h
      split at h
      · cases h; rfl
      · split at h
        · cases h
        · cases h; rfl
    have hall : pastN lodB (s.extract k e) 0 = (s.extract k e).size := past_all lodB _ (fun i hi => by
      rw [extract_at s k e i hbd.2 hi]
      exact past_in lodB s (s.size - k) k (by omega) (k + i) (by omega) (by omega) (by omega)) _ 0 rfl
    unfold rdName at h ⊢
    rw [hall, ext_all, hxs, Nat.sub_zero]
    rw [← hee] at h
    split at h
    · rename_i hw
      rw [if_pos hw]; cases h; rfl
    · rename_i hw
      rw [if_neg hw]
      split at h
      · cases h
      · rename_i h20
        rw [if_neg h20]; cases h; rfl
  · rename_i hl
    rw [if_neg hl]
    split at h
    · rename_i hd
      rw [if_pos hd]
      have hee : e = pastN digB s k := by
        unfold rdNum at h
        split at h
        · cases h
        · split at h
          · cases h
          · split at h
            · cases h
            · cases h; rfl
      have hall : pastN digB (s.extract k e) 0 = (s.extract k e).size := past_all digB _ (fun i hi => by
        rw [extract_at s k e i hbd.2 hi]
        exact past_in digB s (s.size - k) k (by omega) (k + i) (by omega) (by omega) (by omega)) _ 0 rfl
      unfold rdNum at h ⊢
      have hb1 : ((s.extract k e).data.toList.getD 0 0) = s.data.toList.getD k 0 := hb0
      rw [hall, ext_all, hxs, Nat.sub_zero, hb1]
      rw [← hee] at h
      split at h
      · cases h
      · rename_i h10
        rw [if_neg h10]
        split at h
        · cases h
        · rename_i h48
          rw [if_neg h48]
          split at h
          · cases h
          · rename_i hbig
            rw [if_neg hbig]; cases h; rfl
    · rename_i hd
      rw [if_neg hd]
      split at h
      · rename_i hq
        rw [if_pos hq]
        unfold rdStr at h ⊢
        cases hr : strR s (k + 1) [] with
        | ok said e' =>
          rw [hr] at h
          simp only at h
          split at h
          · cases h
          · rename_i h500
            cases h
            have := strR_cut s k _ (k + 1) [] said e rfl (by omega) hr
            rw [show k + 1 - k = 0 + 1 from by omega] at this
            rw [this]
            simp only
            rw [if_neg h500]
        | bad p => rw [hr] at h; cases h
      · rename_i hq
        rw [if_neg hq]
        unfold rdSign at h ⊢
        cases hf : gs.find? (fun g => pfxB (s.extract k s.size) g) with
        | none => rw [hf] at h; cases h
        | some g =>
          rw [hf] at h
          obtain ⟨rfl, rfl, rfl, rfl⟩ := Rd.tok.inj h
          obtain ⟨h1, h2, h3⟩ := sign_cut gs s k g (by omega) hf
          rw [ext_all, h1]
          simp only
          congr 1; omega

theorem rdTok_last (ws gs : List ByteArray) (s : ByteArray) (k : Nat) (kd n : Int) (tx : ByteArray) (e : Nat) (hk : k < s.size) (hg : Signs gs)
    (h : rdTok ws gs s k = .tok kd tx n e) : gapB ((bt s (e - 1)).toNat : Int) = false := by
  have hbd := rdTok_bounds ws gs s k kd n tx e hk hg.pos h
  have hbt := bt_eq s (e - 1) (by omega)
  unfold rdTok at h
  split at h
  · have hee : e = pastN lodB s k := by
      unfold rdName at h
      split at h
      · cases h; rfl
      · split at h
        · cases h
        · cases h; rfl
    rw [hbt]
    exact lod_gap _ (past_in lodB s (s.size - k) k (by omega) (e - 1) (by omega) (by omega) (by omega))
  · split at h
    · have hee : e = pastN digB s k := by
        unfold rdNum at h
        split at h
        · cases h
        · split at h
          · cases h
          · split at h
            · cases h
            · cases h; rfl
      rw [hbt]
      exact dig_gap _ (past_in digB s (s.size - k) k (by omega) (e - 1) (by omega) (by omega) (by omega))
    · split at h
      · unfold rdStr at h
        cases hr : strR s (k + 1) [] with
        | ok said e' =>
          rw [hr] at h
          simp only at h
          split at h
          · cases h
          · cases h
            rw [strR_last s _ (k + 1) [] said e rfl hr]; rfl
        | bad p => rw [hr] at h; cases h
      · unfold rdSign at h
        cases hf : gs.find? (fun g => pfxB (s.extract k s.size) g) with
        | none => rw [hf] at h; cases h
        | some g =>
          rw [hf] at h
          obtain ⟨rfl, rfl, rfl, rfl⟩ := Rd.tok.inj h
          obtain ⟨_, h2, h3⟩ := sign_cut gs s k g (by omega) hf
          have hm := List.mem_of_find?_eq_some hf
          have h1 := hg.pos g hm
          have hb : bt g (g.size - 1) = bt s (k + g.size - 1) := by
            rw [← h3, bt_ext s k (k + g.size) _ (by rw [h3]; omega), h3]
            congr 1; omega
          rw [← hb]
          refine hg.gap g hm _ ?_
          unfold bt
          rw [List.getD_eq_getElem?_getD, List.getElem?_eq_getElem (by rw [len_data]; omega)]
          exact List.getElem_mem _

theorem rdTok_kind (ws gs : List ByteArray) (s : ByteArray) (k : Nat) (kd n : Int) (tx : ByteArray) (e : Nat) (h : rdTok ws gs s k = .tok kd tx n e) : kd ≠ 6 := by
  unfold rdTok rdName rdNum rdStr rdSign at h
  repeat' split at h
  all_goals first | (cases h; decide) | cases h

end Go.Proofs.YtlpbpcdjifadiaaDoor
