/-
  What a text's tokens are (a recursion over the text), and that each token ends behind its place and within the text.
-/
import Derived.Test.YtlpbpcdjifadiaaDoorReadT
namespace Go.Proofs.YtlpbpcdjifadiaaDoor
open Go.RowKit

structure Tk where
  kd : Int
  tx : ByteArray
  n : Int
  pl : Nat

inductive TR where
  | ok (l : List Tk)
  | bad (er : Int) (p : Nat)

def toksR (ws gs : List ByteArray) (s : ByteArray) (i : Nat) (acc : List Tk) : TR :=
  if h : i < s.size then
    match rdTok ws gs s i with
    | .tok kd tx n e => if h2 : i < e then toksR ws gs s (pastN gapB s e) (acc ++ [⟨kd, tx, n, i⟩]) else .bad 0 0
    | .bad er p => .bad er p
  else .ok (acc ++ [⟨6, ⟨#[]⟩, 0, s.size⟩])
termination_by s.size - i
decreasing_by
  have := pastN_ge gapB s e
  omega

theorem toksR_end (ws gs : List ByteArray) (s : ByteArray) (i : Nat) (acc : List Tk) (h : ¬ i < s.size) : toksR ws gs s i acc = .ok (acc ++ [⟨6, ⟨#[]⟩, 0, s.size⟩]) := by rw [toksR, dif_neg h]
theorem toksR_bad (ws gs : List ByteArray) (s : ByteArray) (i : Nat) (acc : List Tk) (er : Int) (p : Nat) (h : i < s.size) (hr : rdTok ws gs s i = .bad er p) : toksR ws gs s i acc = .bad er p := by rw [toksR, dif_pos h, hr]
theorem toksR_go (ws gs : List ByteArray) (s : ByteArray) (i : Nat) (acc : List Tk) (kd n : Int) (tx : ByteArray) (e : Nat) (h : i < s.size) (hr : rdTok ws gs s i = .tok kd tx n e) (he : i < e) : toksR ws gs s i acc = toksR ws gs s (pastN gapB s e) (acc ++ [⟨kd, tx, n, i⟩]) := by
  conv => lhs; rw [toksR]
  rw [dif_pos h, hr]
  simp only
  rw [dif_pos he]

theorem strR_bounds (s : ByteArray) : ∀ n i said l e, s.size - i = n → strR s i said = .ok l e → i < e ∧ e ≤ s.size ∧ l.length ≤ said.length + (s.size - i) := by
  intro n
  induction n using Nat.strongRecOn with
  | ind n ih =>
    intro i said l e hn h
    by_cases hlt : i < s.size
    · by_cases c1 : bt s i = 39
      · rw [strR_quote s i said hlt c1] at h
        cases h
        exact ⟨by omega, by omega, by omega⟩
      · by_cases c2 : bt s i = 10
        · rw [strR_lf s i said hlt c2] at h; cases h
        · by_cases c3 : bt s i = 92
          · by_cases h1 : i + 1 < s.size
            · cases hm : esc (bt s (i + 1)) with
              | none => rw [strR_noesc s i said hlt c3 (fun _ => hm)] at h; cases h
              | some m =>
                rw [strR_esc s i said m hlt c3 h1 hm] at h
                have := ih (s.size - (i + 2)) (by omega) (i + 2) _ l e rfl h
                rw [List.length_append, List.length_singleton] at this
                omega
            · rw [strR_noesc s i said hlt c3 (fun hh => absurd hh h1)] at h; cases h
          · rw [strR_plain s i said hlt c1 c2 c3] at h
            have := ih (s.size - (i + 1)) (by omega) (i + 1) _ l e rfl h
            rw [List.length_append, List.length_singleton] at this
            omega
    · rw [strR_end s i said hlt] at h; cases h

theorem rdTok_bounds (ws gs : List ByteArray) (s : ByteArray) (k : Nat) (kd n : Int) (tx : ByteArray) (e : Nat) (hk : k < s.size) (hg : ∀ g ∈ gs, 1 ≤ g.size)
    (h : rdTok ws gs s k = .tok kd tx n e) : k < e ∧ e ≤ s.size := by
  have hbt := bt_eq s k hk
  unfold rdTok at h
  rw [hbt] at h
  split at h
  · rename_i hl
    have hlod : lodB (s[k].toNat : Int) = true := by unfold lodB; rw [hl]; rfl
    have h1 := pastN_go lodB s k hk hlod
    have h2 := pastN_ge lodB s (k + 1)
    have h3 := pastN_le lodB s k (by omega)
    unfold rdName at h
    split at h
    · cases h; omega
    · split at h
      · cases h
      · cases h; omega
  · split at h
    · rename_i hd
      have h1 := pastN_go digB s k hk hd
      have h2 := pastN_ge digB s (k + 1)
      have h3 := pastN_le digB s k (by omega)
      unfold rdNum at h
      split at h
      · cases h
      · split at h
        · cases h
        · split at h
          · cases h
          · cases h; omega
    · split at h
      · unfold rdStr at h
        cases hr : strR s (k + 1) [] with
        | ok said e' =>
          rw [hr] at h
          simp only at h
          have hb := strR_bounds s _ (k + 1) [] said e' rfl hr
          split at h
          · cases h
          · cases h; omega
        | bad p => rw [hr] at h; cases h
      · unfold rdSign at h
        cases hf : gs.find? (fun g => pfxB (s.extract k s.size) g) with
        | none => rw [hf] at h; cases h
        | some g =>
          rw [hf] at h
          obtain ⟨_, _, _, he⟩ := Rd.tok.inj h
          have hm := List.mem_of_find?_eq_some hf
          have hp := List.find?_some hf
          have h1 := hg g hm
          simp only [pfxB, Bool.and_eq_true, decide_eq_true_eq] at hp
          have hz := extract_size s k s.size (by omega) (Nat.le_refl _)
          omega

end Go.Proofs.YtlpbpcdjifadiaaDoor
