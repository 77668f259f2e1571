/-
  Plain facts: where the tokens of a text lie, one behind the other; the tokens of the text 'a 1'.
-/
import Derived.Test.YtlpbpcdjifadiaaDoorCov
namespace Go.Proofs.YtlpbpcdjifadiaaDoor
open Go.RowKit

/-- Tokens from a place on, one behind the other. -/
inductive Lie (ws gs : List ByteArray) (s : ByteArray) : Nat → List Tk → Prop
  | last (i : Nat) (h : ¬ i < s.size) : Lie ws gs s i [Tk.mk 6 ⟨#[]⟩ 0 s.size]
  | more (i e : Nat) (kd n : Int) (tx : ByteArray) (r : List Tk) (h : i < s.size) (hr : rdTok ws gs s i = .tok kd tx n e) (h1 : i < e) (h2 : e ≤ s.size) (hl : Lie ws gs s (pastN gapB s e) r) : Lie ws gs s i (Tk.mk kd tx n i :: r)

theorem toks_lie (ws gs : List ByteArray) (s : ByteArray) (hg : ∀ g ∈ gs, 1 ≤ g.size) : ∀ m i acc l, s.size - i = m → toksR ws gs s i acc = .ok l → ∃ r, l = acc ++ r ∧ Lie ws gs s i r := by
  intro m
  induction m using Nat.strongRecOn with
  | ind m ih =>
    intro i acc l hm h
    by_cases hlt : i < s.size
    · cases hr : rdTok ws gs s i with
      | tok kd tx n e =>
        have hb := rdTok_bounds ws gs s i kd n tx e hlt hg hr
        rw [toksR_go ws gs s i acc kd n tx e hlt hr hb.1] at h
        have hge := pastN_ge gapB s e
        obtain ⟨r, hl, hlie⟩ := ih (s.size - pastN gapB s e) (by omega) _ _ l rfl h
        exact ⟨Tk.mk kd tx n i :: r, by rw [hl]; simp, .more i e kd n tx r hlt hr hb.1 hb.2 hlie⟩
      | bad er p => rw [toksR_bad ws gs s i acc er p hlt hr] at h; cases h
    · rw [toksR_end ws gs s i acc hlt] at h
      cases h
      exact ⟨_, rfl, .last i hlt⟩

theorem Lie.pos {ws gs : List ByteArray} {s : ByteArray} {i : Nat} {l : List Tk} (h : Lie ws gs s i l) : 1 ≤ l.length := by
  cases h <;> simp

theorem Lie.first {ws gs : List ByteArray} {s : ByteArray} {i : Nat} {l : List Tk} (h : Lie ws gs s i l) (hi : i ≤ s.size) (t : Tk) (ht : l[0]? = some t) : t.pl = i := by
  cases h with
  | last h => simp at ht; rw [← ht]; simp; omega
  | more e kd n tx r h hr h1 h2 hl => simp at ht; rw [← ht]

theorem Lie.end' {ws gs : List ByteArray} {s : ByteArray} {i : Nat} {l : List Tk} (h : Lie ws gs s i l) : l[l.length - 1]? = some (Tk.mk 6 ⟨#[]⟩ 0 s.size) := by
  induction h with
  | last i h => rfl
  | more i e kd n tx r h hr h1 h2 hl ih =>
    have hp := hl.pos
    rw [List.length_cons, Nat.add_sub_cancel]
    have : r.length = (r.length - 1) + 1 := by omega
    rw [this, List.getElem?_cons_succ]
    exact ih

theorem Lie.pair {ws gs : List ByteArray} {s : ByteArray} {i : Nat} {l : List Tk} (h : Lie ws gs s i l) : ∀ j t, j + 1 < l.length → l[j]? = some t →
    ∃ e u, t.pl < s.size ∧ rdTok ws gs s t.pl = .tok t.kd t.tx t.n e ∧ t.pl < e ∧ e ≤ s.size ∧ l[j + 1]? = some u ∧ u.pl = pastN gapB s e := by
  induction h with
  | last i h => intro j t hj _; simp at hj
  | more i e kd n tx r h hr h1 h2 hl ih =>
    intro j t hj ht
    cases j with
    | zero =>
      simp at ht
      subst ht
      have hp := hl.pos
      have hu : r[0]? = some r[0] := List.getElem?_eq_getElem (by omega)
      exact ⟨e, r[0], h, hr, h1, h2, by rw [List.getElem?_cons_succ]; exact hu, hl.first (pastN_le gapB s e h2) _ hu⟩
    | succ j =>
      rw [List.length_cons] at hj
      rw [List.getElem?_cons_succ] at ht
      obtain ⟨e', u, a1, a2, a3, a4, a5, a6⟩ := ih j t (by omega) ht
      exact ⟨e', u, a1, a2, a3, a4, by rw [List.getElem?_cons_succ]; exact a5, a6⟩

/-- The tokens of a token's bytes. -/
theorem toks_one (ws gs : List ByteArray) (x : ByteArray) (kd n : Int) (tx : ByteArray) (hp : 0 < x.size) (hg : gapB ((bt x 0).toNat : Int) = false) (h : rdTok ws gs x 0 = .tok kd tx n x.size) :
    toksR ws gs x (pastN gapB x 0) [] = .ok [Tk.mk kd tx n 0, Tk.mk 6 ⟨#[]⟩ 0 x.size] := by
  rw [pastN_stop gapB x 0 hp (by rw [← bt_eq x 0 hp]; exact hg), toksR_go ws gs x 0 [] kd n tx x.size hp h hp, pastN_end gapB x x.size (Nat.le_refl _), toksR_end ws gs x x.size _ (Nat.lt_irrefl _)]
  rfl

theorem rdTok_first (ws gs : List ByteArray) (s : ByteArray) (k : Nat) (kd n : Int) (tx : ByteArray) (e : Nat) (hk : k < s.size) (hg : Signs gs)
    (h : rdTok ws gs s k = .tok kd tx n e) : gapB ((bt s k).toNat : Int) = false := by
  unfold rdTok at h
  split at h
  · rename_i hl
    exact lod_gap _ (by unfold lodB; rw [hl]; rfl)
  · split at h
    · rename_i hd
      exact dig_gap _ hd
    · split at h
      · rename_i hq
        rw [hq]; rfl
      · unfold rdSign at h
        cases hf : gs.find? (fun g => pfxB (s.extract k s.size) g) with
        | none => rw [hf] at h; cases h
        | some g =>
          obtain ⟨_, h2, h3⟩ := sign_cut gs s k g (by omega) hf
          have hm := List.mem_of_find?_eq_some hf
          have h1 := hg.pos g hm
          have hb : bt g 0 = bt s k := by
            rw [← h3, bt_ext s k (k + g.size) _ (by omega)]
            rfl
          rw [← hb]
          refine hg.gap g hm _ ?_
          unfold bt
          rw [List.getD_eq_getElem?_getD, List.getElem?_eq_getElem (by rw [len_data]; omega)]
          exact List.getElem_mem _

theorem isIn_eq (ws : List ByteArray) (s : ByteArray) : isIn ws s = ws.any (fun x => x.data.toList == s.data.toList) := by
  unfold isIn; congr 1; funext x; rw [ByteArray.toList_eq, ByteArray.toList_eq]

theorem signs_ok : Signs signsS := by
  refine ⟨?_, ?_⟩
  · intro g hg
    have : signsS.all (fun g => decide (1 ≤ g.size)) = true := by decide +kernel
    simpa using List.all_eq_true.1 this g hg
  · intro g hg b hb
    have : signsS.all (fun g => g.data.toList.all (fun b => gapB (b.toNat : Int) == false)) = true := by decide +kernel
    simpa using List.all_eq_true.1 (List.all_eq_true.1 this g hg) b hb

abbrev sA1 : ByteArray := ⟨#[97, 32, 49]⟩
theorem toks_a1 : toksR wordsS signsS sA1 (pastN gapB sA1 0) [] = .ok [Tk.mk 1 ⟨#[97]⟩ 0 0, Tk.mk 3 ⟨#[]⟩ 1 2, Tk.mk 6 ⟨#[]⟩ 0 3] := by
  have p0 : pastN gapB sA1 0 = 0 := by decide +kernel
  have p1 : pastN gapB sA1 1 = 2 := by decide +kernel
  have p3 : pastN gapB sA1 3 = 3 := by decide +kernel
  have l0 : pastN lodB sA1 0 = 1 := by decide +kernel
  have d2 : pastN digB sA1 2 = 3 := by decide +kernel
  have x0 : sA1.extract 0 1 = ⟨#[97]⟩ := by apply bytes_ext; rw [ext_list]; rfl
  have x2 : (sA1.extract 2 3).data.toList = [49] := by rw [ext_list]; rfl
  have r0 : rdTok wordsS signsS sA1 0 = .tok 1 ⟨#[97]⟩ 0 1 := by
    unfold rdTok
    rw [if_pos (by decide +kernel)]
    unfold rdName
    rw [l0, x0, isIn_eq, if_neg (by decide +kernel), if_neg (by decide)]
  have r2 : rdTok wordsS signsS sA1 2 = .tok 3 ⟨#[]⟩ 1 3 := by
    unfold rdTok
    rw [if_neg (by decide +kernel), if_pos (by decide +kernel)]
    unfold rdNum
    rw [d2, if_neg (by decide), if_neg (by decide), x2, if_neg (by decide +kernel)]
    rfl
  rw [p0, toksR_go wordsS signsS sA1 0 [] 1 0 _ 1 (by decide) r0 (by decide), p1, toksR_go wordsS signsS sA1 2 _ 3 1 _ 3 (by decide) r2 (by decide), p3, toksR_end wordsS signsS sA1 3 _ (by decide)]
  rfl

end Go.Proofs.YtlpbpcdjifadiaaDoor
