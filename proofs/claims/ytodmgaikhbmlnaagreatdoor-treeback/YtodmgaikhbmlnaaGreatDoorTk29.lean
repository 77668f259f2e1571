/-
  The tokens of two texts with a line feed between are those of the first and, moved, those of the second.
-/
import Derived.Test.YtodmgaikhbmlnaaGreatDoorTk2
import Derived.Test.YtodmgaikhbmlnaaGreatDoorTk28
namespace Go.Proofs.YtodmgaikhbmlnaaGreatDoor
open Go.ChangeShapes Go.WideShapes Go.ChangeAt Go.WideMaps Go.WideElems Go.RowKit

def jn (a b : ByteArray) : ByteArray := ⟨(a.data.toList ++ 10 :: b.data.toList).toArray⟩
theorem jn_list (a b : ByteArray) : (jn a b).data.toList = a.data.toList ++ 10 :: b.data.toList := by simp [jn]
theorem len_list (a : ByteArray) : a.data.toList.length = a.size := by simp
theorem jn_size (a b : ByteArray) : (jn a b).size = a.size + 1 + b.size := by
  rw [← len_list, jn_list]; simp; omega

theorem jn_bt_lt (a b : ByteArray) (i : Nat) (h : i < a.size) : bt (jn a b) i = bt a i := by
  unfold bt
  rw [jn_list, List.getD_eq_getElem?_getD, List.getD_eq_getElem?_getD, List.getElem?_append_left (by rw [len_list]; exact h)]
theorem jn_bt_sh (a b : ByteArray) (i : Nat) : bt (jn a b) (a.size + 1 + i) = bt b i := by
  unfold bt
  rw [jn_list, List.getD_eq_getElem?_getD, List.getD_eq_getElem?_getD, List.getElem?_append_right (by rw [len_list]; omega), len_list]
  rw [show a.size + 1 + i - a.size = i + 1 by omega, List.getElem?_cons_succ]

theorem jn_drop_le (a b : ByteArray) (k : Nat) (h : k ≤ a.size) : (jn a b).data.toList.drop k = a.data.toList.drop k ++ 10 :: b.data.toList := by
  rw [jn_list, List.drop_append_of_le_length (by rw [len_list]; exact h)]
theorem jn_drop_sh (a b : ByteArray) (k : Nat) : (jn a b).data.toList.drop (a.size + 1 + k) = b.data.toList.drop k := by
  rw [jn_list, List.drop_append, List.drop_of_length_le (by rw [len_list]; omega), len_list, show a.size + 1 + k - a.size = k + 1 by omega]
  rfl

theorem jn_past (p : Int → Bool) (a b : ByteArray) (k : Nat) (h : k ≤ a.size) (hp : p 10 = false) : pastN p (jn a b) k = pastN p a k := by
  unfold pastN
  rw [jn_drop_le a b k h, List.takeWhile_append, List.takeWhile_cons]
  have : p (((10 : UInt8).toNat : Nat) : Int) = false := hp
  rw [this]
  simp only [Bool.false_eq_true, if_false, List.append_nil]
  split
  · rename_i h1
    rw [h1]
  · rfl
theorem jn_past_sh (p : Int → Bool) (a b : ByteArray) (k : Nat) : pastN p (jn a b) (a.size + 1 + k) = a.size + 1 + pastN p b k := by
  unfold pastN
  rw [jn_drop_sh]; omega
theorem jn_past_gap (p : Int → Bool) (a b : ByteArray) (k : Nat) (h : k ≤ a.size) (hp : p 10 = true) :
    pastN p (jn a b) k = if pastN p a k < a.size then pastN p a k else a.size + 1 + pastN p b 0 := by
  have hle := pastN_le p a k h
  unfold pastN at hle ⊢
  rw [jn_drop_le a b k h, List.takeWhile_append, List.takeWhile_cons]
  have : p (((10 : UInt8).toNat : Nat) : Int) = true := hp
  rw [this]
  have hd : (a.data.toList.drop k).length = a.size - k := by rw [List.length_drop, len_list]
  simp only [if_true, List.drop_zero]
  split
  · rename_i h1
    rw [if_neg (by omega)]
    simp only [List.length_append, List.length_cons]
    omega
  · rename_i h1
    rw [if_pos (by omega)]

theorem jn_extract (a b : ByteArray) (k e : Nat) (h : e ≤ a.size) : (jn a b).extract k e = a.extract k e := by
  apply bytes_inj
  rw [ByteArray.data_extract, ByteArray.data_extract, Array.toList_extract, Array.toList_extract, jn_list]
  simp only [List.extract_eq_take_drop]
  by_cases hk : k ≤ a.size
  · rw [List.drop_append_of_le_length (by rw [len_list]; exact hk), List.take_append_of_le_length (by rw [List.length_drop, len_list]; omega)]
  · rw [show e - k = 0 by omega]; simp
theorem jn_extract_sh (a b : ByteArray) (k e : Nat) : (jn a b).extract (a.size + 1 + k) (a.size + 1 + e) = b.extract k e := by
  apply bytes_inj
  rw [ByteArray.data_extract, ByteArray.data_extract, Array.toList_extract, Array.toList_extract]
  simp only [List.extract_eq_take_drop]
  rw [jn_drop_sh, show a.size + 1 + e - (a.size + 1 + k) = e - k by omega]

theorem lod10 : lodB 10 = false := by decide
theorem dig10 : digB 10 = false := by decide
theorem gap10 : gapB 10 = true := by decide

theorem jn_name (ws : List ByteArray) (a b : ByteArray) (k : Nat) (h : k ≤ a.size) : rdName ws (jn a b) k = rdName ws a k := by
  unfold rdName
  rw [jn_past lodB a b k h lod10, jn_extract a b k _ (pastN_le lodB a k h)]
theorem jn_num (a b : ByteArray) (k : Nat) (h : k < a.size) : rdNum (jn a b) k = rdNum a k := by
  unfold rdNum
  rw [jn_past digB a b k (by omega) dig10, jn_extract a b k _ (pastN_le digB a k (by omega))]
  have := jn_bt_lt a b k h
  unfold bt at this
  rw [this]

theorem jn_str (a b : ByteArray) : ∀ n i said l e, a.size - i = n → strR a i said = .ok l e → strR (jn a b) i said = .ok l e := by
  intro n
  induction n using Nat.strongRecOn with
  | ind n ih =>
    intro i said l e hn h
    have hj := jn_size a b
    by_cases hlt : i < a.size
    · have hb := jn_bt_lt a b i hlt
      by_cases c1 : bt a i = 39
      · rw [strR_quote a i said hlt c1] at h
        rw [strR_quote (jn a b) i said (by omega) (by rw [hb]; exact c1)]
        exact h
      · by_cases c2 : bt a i = 10
        · rw [strR_lf a i said hlt c2] at h; cases h
        · by_cases c3 : bt a i = 92
          · by_cases h1 : i + 1 < a.size
            · cases hm : esc (bt a (i + 1)) with
              | none => rw [strR_noesc a i said hlt c3 (fun _ => hm)] at h; cases h
              | some m =>
                rw [strR_esc a i said m hlt c3 h1 hm] at h
                rw [strR_esc (jn a b) i said m (by omega) (by rw [hb]; exact c3) (by omega) (by rw [jn_bt_lt a b _ h1]; exact hm)]
                exact ih (a.size - (i + 2)) (by omega) (i + 2) _ l e rfl h
            · rw [strR_noesc a i said hlt c3 (fun hh => absurd hh h1)] at h; cases h
          · rw [strR_plain a i said hlt c1 c2 c3] at h
            rw [strR_plain (jn a b) i said (by omega) (by rw [hb]; exact c1) (by rw [hb]; exact c2) (by rw [hb]; exact c3), hb]
            exact ih (a.size - (i + 1)) (by omega) (i + 1) _ l e rfl h
    · rw [strR_end a i said hlt] at h; cases h

theorem jn_str_sh (a b : ByteArray) : ∀ n i said l e, b.size - i = n → strR b i said = .ok l e → strR (jn a b) (a.size + 1 + i) said = .ok l (a.size + 1 + e) := by
  intro n
  induction n using Nat.strongRecOn with
  | ind n ih =>
    intro i said l e hn h
    have hj := jn_size a b
    by_cases hlt : i < b.size
    · have hb := jn_bt_sh a b i
      by_cases c1 : bt b i = 39
      · rw [strR_quote b i said hlt c1] at h
        rw [strR_quote (jn a b) _ said (by omega) (by rw [hb]; exact c1)]
        cases h
        rfl
      · by_cases c2 : bt b i = 10
        · rw [strR_lf b i said hlt c2] at h; cases h
        · by_cases c3 : bt b i = 92
          · by_cases h1 : i + 1 < b.size
            · cases hm : esc (bt b (i + 1)) with
              | none => rw [strR_noesc b i said hlt c3 (fun _ => hm)] at h; cases h
              | some m =>
                rw [strR_esc b i said m hlt c3 h1 hm] at h
                rw [strR_esc (jn a b) _ said m (by omega) (by rw [hb]; exact c3) (by omega) (by rw [show a.size + 1 + i + 1 = a.size + 1 + (i + 1) by omega, jn_bt_sh a b _]; exact hm)]
                exact ih (b.size - (i + 2)) (by omega) (i + 2) _ l e rfl h
            · rw [strR_noesc b i said hlt c3 (fun hh => absurd hh h1)] at h; cases h
          · rw [strR_plain b i said hlt c1 c2 c3] at h
            rw [strR_plain (jn a b) _ said (by omega) (by rw [hb]; exact c1) (by rw [hb]; exact c2) (by rw [hb]; exact c3), hb]
            exact ih (b.size - (i + 1)) (by omega) (i + 1) _ l e rfl h
    · rw [strR_end b i said hlt] at h; cases h

theorem pfx_iff (x p : ByteArray) : pfxB x p = true ↔ p.data.toList <+: x.data.toList := by
  unfold pfxB
  rw [Bool.and_eq_true, decide_eq_true_eq, beq_iff_eq]
  have e1 : (x.extract 0 p.size).data.toList = x.data.toList.take p.size := by
    rw [ByteArray.data_extract, Array.toList_extract]; simp [List.extract_eq_take_drop]
  have e2 : ∀ y : ByteArray, y.toList = y.data.toList := fun y => ByteArray.toList_eq y
  rw [e2, e2, e1, List.prefix_iff_eq_take, len_list]
  constructor
  · exact fun h => h.2.symm
  · intro h
    refine ⟨?_, h.symm⟩
    have := congrArg List.length h
    rw [List.length_take, len_list, len_list] at this
    omega

theorem prefix_10 (g l1 l2 : List UInt8) (hg : (10 : UInt8) ∉ g) : g <+: l1 ++ 10 :: l2 ↔ g <+: l1 := by
  constructor
  · intro h
    induction l1 generalizing g with
    | nil =>
      cases g with
      | nil => exact List.nil_prefix
      | cons x g =>
        rw [List.nil_append, List.cons_prefix_cons] at h
        exact absurd (by simp [h.1]) hg
    | cons y l1 ih =>
      cases g with
      | nil => exact List.nil_prefix
      | cons x g =>
        rw [List.cons_append, List.cons_prefix_cons] at h
        rw [List.cons_prefix_cons]
        exact ⟨h.1, ih g (fun hh => hg (by simp [hh])) h.2⟩
  · exact fun h => h.trans (List.prefix_append _ _)

theorem rest_list (s : ByteArray) (k : Nat) : (s.extract k s.size).data.toList = s.data.toList.drop k := by
  rw [ByteArray.data_extract, Array.toList_extract, List.extract_eq_take_drop, List.take_of_length_le (by rw [List.length_drop, len_list]; omega)]

theorem jn_pfx (a b g : ByteArray) (k : Nat) (h : k ≤ a.size) (hg : (10 : UInt8) ∉ g.data.toList) : pfxB ((jn a b).extract k (jn a b).size) g = pfxB (a.extract k a.size) g := by
  have : pfxB ((jn a b).extract k (jn a b).size) g = true ↔ pfxB (a.extract k a.size) g = true := by
    rw [pfx_iff, pfx_iff, rest_list, rest_list, jn_drop_le a b k h, prefix_10 _ _ _ hg]
  cases h1 : pfxB ((jn a b).extract k (jn a b).size) g <;> cases h2 : pfxB (a.extract k a.size) g <;> simp_all

theorem find_congr (gs : List ByteArray) (f f' : ByteArray → Bool) (h : ∀ g ∈ gs, f g = f' g) : gs.find? f = gs.find? f' := by
  induction gs with
  | nil => rfl
  | cons g gs ih =>
    rw [List.find?_cons, List.find?_cons, h g (by simp), ih (fun x hx => h x (by simp [hx]))]

theorem jn_sign (gs : List ByteArray) (a b : ByteArray) (k : Nat) (h : k ≤ a.size) (hg : ∀ g ∈ gs, (10 : UInt8) ∉ g.data.toList) : rdSign gs (jn a b) k = rdSign gs a k := by
  unfold rdSign
  rw [find_congr gs _ _ (fun g hm => jn_pfx a b g k h (hg g hm))]

theorem jn_tok (ws gs : List ByteArray) (a b : ByteArray) (k : Nat) (kd n : Int) (tx : ByteArray) (e : Nat) (h : k < a.size) (hg : ∀ g ∈ gs, (10 : UInt8) ∉ g.data.toList)
    (hr : rdTok ws gs a k = .tok kd tx n e) : rdTok ws gs (jn a b) k = .tok kd tx n e := by
  rw [← hr]
  unfold rdTok at hr ⊢
  rw [jn_bt_lt a b k h, jn_name ws a b k (by omega), jn_num a b k h, jn_sign gs a b k (by omega) hg]
  split
  · rfl
  · split
    · rfl
    · split
      · rename_i h1 h2 h3
        rw [if_neg h1, if_neg h2, if_pos h3] at hr
        unfold rdStr at hr ⊢
        cases hs : strR a (k + 1) [] with
        | ok l e' => rw [jn_str a b _ _ _ l e' rfl hs]
        | bad p => rw [hs] at hr; cases hr
      · rfl

def shRd (D : Nat) : Rd → Rd
  | .tok kd tx n e => .tok kd tx n (D + e)
  | .bad er p => .bad er (D + p)

theorem jn_tok_sh (ws gs : List ByteArray) (a b : ByteArray) (k : Nat) (kd n : Int) (tx : ByteArray) (e : Nat)
    (hr : rdTok ws gs b k = .tok kd tx n e) : rdTok ws gs (jn a b) (a.size + 1 + k) = .tok kd tx n (a.size + 1 + e) := by
  have key : rdTok ws gs (jn a b) (a.size + 1 + k) = shRd (a.size + 1) (rdTok ws gs b k) := by
    unfold rdTok at hr ⊢
    rw [jn_bt_sh a b k]
    split
    · unfold rdName
      rw [jn_past_sh, jn_extract_sh, show a.size + 1 + pastN lodB b k - (a.size + 1 + k) = pastN lodB b k - k by omega]
      split
      · rfl
      · split <;> rfl
    · split
      · unfold rdNum
        have := jn_bt_sh a b k
        unfold bt at this
        rw [jn_past_sh, jn_extract_sh, this, show a.size + 1 + pastN digB b k - (a.size + 1 + k) = pastN digB b k - k by omega]
        split
        · rfl
        · split
          · rfl
          · split <;> rfl
      · split
        · rename_i h1 h2 h3
          rw [if_neg h1, if_neg h2, if_pos h3] at hr
          unfold rdStr at hr ⊢
          cases hs : strR b (k + 1) [] with
          | ok l e' =>
            rw [show a.size + 1 + k + 1 = a.size + 1 + (k + 1) by omega, jn_str_sh a b _ _ _ l e' rfl hs]
            simp only
            split <;> rfl
          | bad p => rw [hs] at hr; cases hr
        · unfold rdSign
          rw [jn_size, show a.size + 1 + b.size = a.size + 1 + b.size from rfl, jn_extract_sh]
          split
          · simp only [shRd]; rw [Nat.add_assoc]
          · rfl
  rw [key, hr]
  rfl

def shTk (D : Nat) (t : Tk) : Tk := ⟨t.kd, t.tx, t.n, D + t.pl⟩

theorem toks_sh (ws gs : List ByteArray) (a b : ByteArray) (hgs : ∀ g ∈ gs, 1 ≤ g.size) : ∀ m i acc accJ l, b.size - i = m → i ≤ b.size → toksR ws gs b i acc = .ok l →
    ∃ l', l = acc ++ l' ∧ toksR ws gs (jn a b) (a.size + 1 + i) accJ = .ok (accJ ++ l'.map (shTk (a.size + 1))) := by
  intro m
  induction m using Nat.strongRecOn with
  | ind m ih =>
    intro i acc accJ l hm hi h
    have hj := jn_size a b
    by_cases hlt : i < b.size
    · cases hr : rdTok ws gs b i with
      | bad er p => rw [toksR_bad ws gs b i acc er p hlt hr] at h; cases h
      | tok kd tx n e =>
        have hb := rdTok_bounds ws gs b i kd n tx e hlt hgs hr
        rw [toksR_go ws gs b i acc kd n tx e hlt hr hb.1] at h
        have hge := pastN_ge gapB b e
        have hle := pastN_le gapB b e hb.2
        obtain ⟨l', h1, h2⟩ := ih (b.size - pastN gapB b e) (by omega) (pastN gapB b e) _ (accJ ++ [⟨kd, tx, n, a.size + 1 + i⟩]) l rfl hle h
        refine ⟨⟨kd, tx, n, i⟩ :: l', by rw [h1]; simp, ?_⟩
        rw [toksR_go ws gs (jn a b) _ accJ kd n tx (a.size + 1 + e) (by omega) (jn_tok_sh ws gs a b i kd n tx e hr) (by omega), jn_past_sh, h2]
        simp [shTk]
    · rw [toksR_end ws gs b i acc hlt] at h
      refine ⟨[⟨6, ⟨#[]⟩, 0, b.size⟩], by cases h; rfl, ?_⟩
      rw [toksR_end ws gs (jn a b) _ accJ (by omega), hj]
      simp [shTk]

theorem toks_jn (ws gs : List ByteArray) (a b : ByteArray) (hgs : ∀ g ∈ gs, 1 ≤ g.size) (hg : ∀ g ∈ gs, (10 : UInt8) ∉ g.data.toList) : ∀ m i acc l, a.size - i = m → i ≤ a.size → toksR ws gs a i acc = .ok l →
    ∃ l', l = l' ++ [⟨6, ⟨#[]⟩, 0, a.size⟩] ∧ toksR ws gs (jn a b) (if i < a.size then i else a.size + 1 + pastN gapB b 0) acc = toksR ws gs (jn a b) (a.size + 1 + pastN gapB b 0) l' := by
  intro m
  induction m using Nat.strongRecOn with
  | ind m ih =>
    intro i acc l hm hi h
    have hj := jn_size a b
    by_cases hlt : i < a.size
    · cases hr : rdTok ws gs a i with
      | bad er p => rw [toksR_bad ws gs a i acc er p hlt hr] at h; cases h
      | tok kd tx n e =>
        have hb := rdTok_bounds ws gs a i kd n tx e hlt hgs hr
        rw [toksR_go ws gs a i acc kd n tx e hlt hr hb.1] at h
        have hge := pastN_ge gapB a e
        have hle := pastN_le gapB a e hb.2
        obtain ⟨l', h1, h2⟩ := ih (a.size - pastN gapB a e) (by omega) (pastN gapB a e) _ l rfl hle h
        refine ⟨l', h1, ?_⟩
        rw [if_pos hlt, toksR_go ws gs (jn a b) _ acc kd n tx e (by omega) (jn_tok ws gs a b i kd n tx e hlt hg hr) (by omega), jn_past_gap gapB a b e hb.2 gap10]
        exact h2
    · rw [toksR_end ws gs a i acc hlt] at h
      refine ⟨acc, by cases h; rfl, ?_⟩
      rw [if_neg hlt]

/-- THE JOIN: the first text's tokens but for its end, then the second's, moved. -/
theorem toks_join (ws gs : List ByteArray) (a b : ByteArray) (la lb : List Tk) (hgs : ∀ g ∈ gs, 1 ≤ g.size) (hg : ∀ g ∈ gs, (10 : UInt8) ∉ g.data.toList)
    (ha : toksR ws gs a (pastN gapB a 0) [] = .ok la) (hb : toksR ws gs b (pastN gapB b 0) [] = .ok lb) :
    ∃ l', la = l' ++ [⟨6, ⟨#[]⟩, 0, a.size⟩] ∧ toksR ws gs (jn a b) (pastN gapB (jn a b) 0) [] = .ok (l' ++ lb.map (shTk (a.size + 1))) := by
  obtain ⟨l', h1, h2⟩ := toks_jn ws gs a b hgs hg _ (pastN gapB a 0) [] la rfl (pastN_le gapB a 0 (Nat.zero_le _)) ha
  refine ⟨l', h1, ?_⟩
  rw [jn_past_gap gapB a b 0 (Nat.zero_le _) gap10, h2]
  obtain ⟨l2, h3, h4⟩ := toks_sh ws gs a b hgs _ (pastN gapB b 0) [] l' lb rfl (pastN_le gapB b 0 (Nat.zero_le _)) hb
  rw [h4, h3]
  simp
end Go.Proofs.YtodmgaikhbmlnaaGreatDoor
set_option maxRecDepth 100000
set_option maxHeartbeats 16000000
namespace Go.Proofs.YtodmgaikhbmlnaaGreatDoor
open Go.RowKit

theorem pfx_bool (x g : ByteArray) : pfxB x g = g.data.toList.isPrefixOf x.data.toList := by
  rw [Bool.eq_iff_iff, pfx_iff, List.isPrefixOf_iff_prefix]
theorem mkB_bt (out rest : List UInt8) (b : UInt8) : bt (mkB (out ++ b :: rest)) out.length = b := by
  unfold bt
  rw [mkB_list]
  simp
theorem sign_find (t rest : List UInt8) (ht : t ∈ signsL) (hok : nextOk (mkB t) rest) : signsL.find? (fun g => g.isPrefixOf (t ++ rest)) = some t := by
  have h1 : ∀ b r, t = [61] → rest = b :: r → b ≠ 61 := by
    intro b r e er
    rcases hok with h | h
    · subst e; exact absurd h (by decide +kernel)
    · intro hb
      have := h b r er
      rw [hb] at this
      exact absurd this (by decide)
  simp only [signsL, List.mem_cons, List.not_mem_nil, or_false] at ht
  rcases ht with rfl | rfl | rfl | rfl | rfl | rfl | rfl | rfl | rfl | rfl | rfl | rfl | rfl | rfl | rfl | rfl | rfl | rfl | rfl
  case inr.inr.inr.inr.inr.inr.inr.inr.inr.inr.inr.inr.inr.inl =>
    cases rest with
    | nil => simp [signsL, List.find?, List.isPrefixOf]
    | cons b r =>
      have := h1 b r rfl rfl
      have h2 : ((61 : UInt8) == b) = false := by simpa using fun e => this e.symm
      simp [signsL, List.find?, List.isPrefixOf, h2]
  all_goals simp [signsL, List.find?, List.isPrefixOf]
theorem mkB_drop (out rest : List UInt8) : ((mkB (out ++ rest)).extract out.length (mkB (out ++ rest)).size).data.toList = rest := by
  rw [rest_list, mkB_list, List.drop_left]
theorem mkB_mid (out t rest : List UInt8) : (mkB (out ++ (t ++ rest))).extract out.length (out.length + t.length) = mkB t := by
  apply ofBytes_eq
  rw [ByteArray.data_extract, Array.toList_extract, List.extract_eq_take_drop, mkB_list, List.drop_left]
  simp
theorem tok_sign {t : List UInt8} (ht : t ∈ signsL) : Tok (mkB t) (5, mkB t, 0) := by
  have h0 : ∀ t ∈ signsL, t ≠ [] ∧ gapB ((t.headD 0).toNat : Int) = false ∧ letB ((t.headD 0).toNat : Int) = false ∧ digB ((t.headD 0).toNat : Int) = false ∧ t.headD 0 ≠ 39 := by decide +kernel
  obtain ⟨h1, h2, h3, h4, h5⟩ := h0 t ht
  obtain ⟨b, r, rfl⟩ : ∃ b r, t = b :: r := by cases t with | nil => exact absurd rfl h1 | cons b r => exact ⟨b, r, rfl⟩
  refine ⟨?_, ⟨b, r, mkB_list _, h2⟩⟩
  intro out rest hok
  rw [mkB_list]
  unfold rdTok
  rw [List.cons_append, mkB_bt, if_neg (by rw [show letB (b.toNat : Int) = false from h3]; decide), if_neg (by rw [show digB (b.toNat : Int) = false from h4]; decide), if_neg (show ¬ b = 39 from h5)]
  unfold rdSign
  have e : signsS.find? (fun g => pfxB ((mkB (out ++ b :: (r ++ rest))).extract out.length (mkB (out ++ b :: (r ++ rest))).size) g) = some (mkB (b :: r)) := by
    unfold signsS
    rw [List.find?_map]
    have e2 : ((fun g => pfxB ((mkB (out ++ b :: (r ++ rest))).extract out.length (mkB (out ++ b :: (r ++ rest))).size) g) ∘ ofBytes) = fun g => g.isPrefixOf ((b :: r) ++ rest) := by
      funext g
      show pfxB _ (ofBytes g) = _
      rw [pfx_bool, mkB_drop]
      show List.isPrefixOf (mkB g).data.toList _ = _
      rw [mkB_list]; rfl
    rw [e2, sign_find (b :: r) rest ht hok]
    rfl
  rw [e]
  show Rd.tok 5 (mkB (b :: r)) 0 (out.length + (mkB (b :: r)).size) = _
  rw [mkB_size]
theorem take_lod (p : UInt8 → Bool) : ∀ (t rest : List UInt8), (∀ b ∈ t, p b = true) → (∀ b r, rest = b :: r → p b = false) → (t ++ rest).takeWhile p = t
  | [], [], _, _ => rfl
  | [], b :: r, _, h => by rw [List.nil_append, List.takeWhile_cons, if_neg (by rw [h b r rfl]; decide)]
  | a :: t, rest, h1, h2 => by
    rw [List.cons_append, List.takeWhile_cons, if_pos (h1 a (by simp)), take_lod p t rest (fun b hb => h1 b (by simp [hb])) h2]
theorem sep_lod : ∀ b ∈ sepL, lodB (b.toNat : Int) = false ∧ digB (b.toNat : Int) = false := by decide +kernel
/-- A name's or a word's bytes. -/
theorem lod_reads {t : List UInt8} (hl : letB ((t.headD 0).toNat : Int) = true) (ha : ∀ b ∈ t, lodB (b.toNat : Int) = true) (hn : t ≠ []) (ho : openedB (mkB t) = false) {v : TS} (hv : ∀ s k, s.extract k (pastN lodB s k) = mkB t → pastN lodB s k = k + t.length → rdName wordsS s k = .tok v.1 v.2.1 v.2.2 (k + t.length)) : Tok (mkB t) v := by
  obtain ⟨b, r, rfl⟩ : ∃ b r, t = b :: r := by cases t with | nil => exact absurd rfl hn | cons b r => exact ⟨b, r, rfl⟩
  have hg : ∀ m : Fin 256, letB ((m.val : Nat) : Int) = true → gapB ((m.val : Nat) : Int) = false := by decide +kernel
  refine ⟨?_, ⟨b, r, mkB_list _, hg ⟨b.toNat, b.toNat_lt⟩ hl⟩⟩
  intro out rest hok
  rw [mkB_list]
  unfold rdTok
  rw [List.cons_append, mkB_bt, if_pos (show letB (b.toNat : Int) = true from hl)]
  have e : pastN lodB (mkB (out ++ ((b :: r) ++ rest))) out.length = out.length + (b :: r).length := by
    rw [past_at, take_lod _ _ _ ha fun b' r' e => ?_]
    rcases hok with h | h
    · rw [ho] at h; cases h
    · exact (sep_lod b' (h b' r' e)).1
  exact hv _ _ (by rw [← List.cons_append, e]; exact mkB_mid out (b :: r) rest) e
theorem tok_word {t : List UInt8} (ht : t ∈ wordsL) : Tok (mkB t) (2, mkB t, 0) := by
  have h0 : ∀ t ∈ wordsL, t ≠ [] ∧ letB ((t.headD 0).toNat : Int) = true ∧ (∀ b ∈ t, lodB (b.toNat : Int) = true) ∧ openedB (mkB t) = false ∧ isIn wordsS (mkB t) = true := by decide +kernel
  obtain ⟨h1, h2, h3, h4, h5⟩ := h0 t ht
  refine lod_reads h2 h3 h1 h4 fun s k e1 e2 => ?_
  unfold rdName
  rw [e1, if_pos h5, e2]

structure NmW (x : ByteArray) : Prop where
  pos : x.data.toList ≠ []
  small : x.data.toList.length ≤ 20
  fst : letB ((x.data.toList.headD 0).toNat : Int) = true
  all : ∀ b ∈ x.data.toList, lodB (b.toNat : Int) = true
  no : isIn wordsS x = false
theorem mkB_of (x : ByteArray) : mkB x.data.toList = x := (ofBytes_eq (s := x) rfl).symm
theorem let_open {b : UInt8} (h : letB (b.toNat : Int) = true) : b ≠ 40 ∧ b ≠ 33 ∧ b ≠ 46 ∧ b ≠ 123 := by
  refine ⟨?_, ?_, ?_, ?_⟩ <;> (intro e; subst e; exact absurd h (by decide))
theorem tok_name {x : ByteArray} (h : NmW x) : Tok x (1, x, 0) := by
  have ho : openedB (mkB x.data.toList) = false := by
    have h1 := h.fst
    have h2 := h.pos
    unfold openedB
    rw [mkB_list]
    cases hx : x.data.toList with
    | nil => exact absurd hx h2
    | cons b r =>
      rw [hx] at h1
      obtain ⟨a1, a2, a3, a4⟩ := let_open (b := b) h1
      simp [a1, a2, a3, a4]
  have := lod_reads (v := (1, x, 0)) h.fst h.all h.pos ho fun s k e1 e2 => by
    unfold rdName
    rw [e1, mkB_of, h.no, if_neg (by decide), e2, if_neg (by have := h.small; omega)]
  rw [mkB_of] at this
  exact this
theorem quote_one (c : UInt8) : (c = 10 ∧ quoteC c = [92, 110]) ∨ ((c = 39 ∨ c = 92) ∧ quoteC c = [92, c]) ∨ (c ≠ 10 ∧ c ≠ 39 ∧ c ≠ 92 ∧ quoteC c = [c]) := by
  unfold quoteC
  by_cases h1 : c = 10
  · exact Or.inl ⟨h1, if_pos h1⟩
  · rw [if_neg h1]
    by_cases h2 : c = 39 ∨ c = 92
    · exact Or.inr (Or.inl ⟨h2, if_pos h2⟩)
    · exact Or.inr (Or.inr ⟨h1, fun e => h2 (Or.inl e), fun e => h2 (Or.inr e), if_neg h2⟩)
theorem mkB_bt1 (out rest : List UInt8) (a b : UInt8) : bt (mkB (out ++ a :: b :: rest)) (out.length + 1) = b := by
  have e : out ++ a :: b :: rest = (out ++ [a]) ++ b :: rest := by simp
  have := mkB_bt (out ++ [a]) rest b
  rw [e]
  simpa using this
theorem str_go : ∀ (cs pre rest said : List UInt8), strR (mkB (pre ++ (cs.flatMap quoteC ++ 39 :: rest))) pre.length said = .ok (said ++ cs) (pre.length + (cs.flatMap quoteC).length + 1)
  | [], pre, rest, said => by
    show strR (mkB (pre ++ 39 :: rest)) pre.length said = _
    rw [strR_quote _ _ _ (by rw [mkB_size]; simp) (mkB_bt pre rest 39)]
    simp
  | c :: cs, pre, rest, said => by
    have hlt : pre.length < (mkB (pre ++ ((c :: cs).flatMap quoteC ++ 39 :: rest))).size := by rw [mkB_size]; simp; omega
    rw [List.flatMap_cons] at hlt ⊢
    rcases quote_one c with ⟨hc, e⟩ | ⟨hc, e⟩ | ⟨h1, h2, h3, e⟩
    · rw [e] at hlt ⊢
      have ih := str_go cs (pre ++ [92, 110]) rest (said ++ [c])
      have et : pre ++ [92, 110] ++ (cs.flatMap quoteC ++ 39 :: rest) = pre ++ ([92, 110] ++ cs.flatMap quoteC ++ 39 :: rest) := by simp
      rw [et] at ih
      rw [strR_esc _ _ _ c hlt (mkB_bt pre _ 92) (by rw [mkB_size]; simp) (by rw [show pre ++ ([92, 110] ++ cs.flatMap quoteC ++ 39 :: rest) = pre ++ 92 :: 110 :: (cs.flatMap quoteC ++ 39 :: rest) by simp, mkB_bt1, hc]; decide)]
      have el : (pre ++ [92, 110]).length = pre.length + 2 := by simp
      rw [el] at ih
      rw [ih]
      simp; omega
    · rw [e] at hlt ⊢
      have ih := str_go cs (pre ++ [92, c]) rest (said ++ [c])
      have et : pre ++ [92, c] ++ (cs.flatMap quoteC ++ 39 :: rest) = pre ++ ([92, c] ++ cs.flatMap quoteC ++ 39 :: rest) := by simp
      rw [et] at ih
      rw [strR_esc _ _ _ c hlt (mkB_bt pre _ 92) (by rw [mkB_size]; simp) (by rw [show pre ++ ([92, c] ++ cs.flatMap quoteC ++ 39 :: rest) = pre ++ 92 :: c :: (cs.flatMap quoteC ++ 39 :: rest) by simp, mkB_bt1]; rcases hc with rfl | rfl <;> decide)]
      have el : (pre ++ [92, c]).length = pre.length + 2 := by simp
      rw [el] at ih
      rw [ih]
      simp; omega
    · rw [e] at hlt ⊢
      have ih := str_go cs (pre ++ [c]) rest (said ++ [c])
      have et : pre ++ [c] ++ (cs.flatMap quoteC ++ 39 :: rest) = pre ++ ([c] ++ cs.flatMap quoteC ++ 39 :: rest) := by simp
      rw [et] at ih
      have hb : bt (mkB (pre ++ ([c] ++ cs.flatMap quoteC ++ 39 :: rest))) pre.length = c := mkB_bt pre _ c
      rw [strR_plain _ _ _ hlt (by rw [hb]; exact h2) (by rw [hb]; exact h1) (by rw [hb]; exact h3), hb]
      have el : (pre ++ [c]).length = pre.length + 1 := by simp
      rw [el] at ih
      rw [ih]
      simp; omega
theorem tok_str {s : ByteArray} (h : s.data.toList.length ≤ 500) : Tok (quoteB s) (4, s, 0) := by
  have hl : (quoteB s).data.toList = 39 :: (s.data.toList.flatMap quoteC ++ [39]) := by
    show (mkB (quoteL s.data.toList)).data.toList = _
    rw [mkB_list]; simp [quoteL]
  refine ⟨?_, ⟨39, _, hl, by decide⟩⟩
  intro out rest _
  rw [hl]
  unfold rdTok
  rw [List.cons_append, mkB_bt, if_neg (by decide), if_neg (by decide), if_pos rfl]
  unfold rdStr
  have h1 := str_go s.data.toList (out ++ [39]) rest []
  have e : out ++ [39] ++ (s.data.toList.flatMap quoteC ++ 39 :: rest) = out ++ 39 :: (s.data.toList.flatMap quoteC ++ [39] ++ rest) := by simp
  rw [e] at h1
  have el : (out ++ [39]).length = out.length + 1 := by simp
  rw [el] at h1
  rw [h1, List.nil_append]
  show (if 500 < s.data.toList.length then _ else _) = _
  rw [if_neg (by omega)]
  show Rd.tok 4 (mkB s.data.toList) 0 _ = _
  rw [mkB_of]
  show Rd.tok 4 s 0 _ = Rd.tok 4 s 0 _
  congr 1
  simp; omega

theorem dig_byte {m : Nat} (h : m < 10) : (UInt8.ofNat (48 + m)).toNat = 48 + m ∧ digB (((UInt8.ofNat (48 + m)).toNat : Nat) : Int) = true := by
  have h0 : ∀ m : Fin 10, (UInt8.ofNat (48 + m.val)).toNat = 48 + m.val ∧ digB (((UInt8.ofNat (48 + m.val)).toNat : Nat) : Int) = true := by decide +kernel
  exact h0 ⟨m, h⟩
theorem dec_facts (u : Nat) : Lib.decDigits u ≠ [] ∧ (∀ b ∈ Lib.decDigits u, digB (b.toNat : Int) = true) ∧ numL (Lib.decDigits u) = (u : Int) ∧ (1 ≤ u → ((Lib.decDigits u).headD 0) ≠ 48) := by
  induction u using Nat.strongRecOn with
  | ind u ih =>
    by_cases h : u < 10
    · rw [Lib.decDigits_one h]
      have hd := dig_byte h
      refine ⟨by simp, fun b hb => ?_, ?_, fun h1 e => ?_⟩
      · rw [List.mem_singleton.1 hb]; exact hd.2
      · have : numL [UInt8.ofNat (48 + u)] = 0 * 10 + (((UInt8.ofNat (48 + u)).toNat : Int) - 48) := rfl
        rw [this, hd.1]; omega
      · have e' : UInt8.ofNat (48 + u) = 48 := e
        have : (UInt8.ofNat (48 + u)).toNat = 48 := by rw [e']; rfl
        omega
    · have hd := dig_byte (m := u % 10) (by omega)
      obtain ⟨h1, h2, h3, h4⟩ := ih (u / 10) (by omega)
      have e : Lib.decDigits u = Lib.decDigits (u / 10) ++ [UInt8.ofNat (48 + u % 10)] := by
        conv => lhs; rw [Lib.decDigits]
        rw [dif_neg h]
      rw [e]
      refine ⟨by simp, fun b hb => ?_, ?_, fun _ => ?_⟩
      · rcases List.mem_append.1 hb with hb | hb
        · exact h2 b hb
        · rw [List.mem_singleton.1 hb]; exact hd.2
      · rw [numL_snoc, h3, hd.1]; omega
      · have h5 := h4 (by omega)
        cases hx : Lib.decDigits (u / 10) with
        | nil => exact absurd hx h1
        | cons a r => rw [hx] at h5; exact h5
theorem dec_len : ∀ (k u : Nat), u < 10 ^ (k + 1) → (Lib.decDigits u).length ≤ k + 1
  | 0, u, h => by rw [Lib.decDigits_one (by omega)]; simp
  | k + 1, u, h => by
    by_cases hu : u < 10
    · rw [Lib.decDigits_one hu]; simp
    · have e : Lib.decDigits u = Lib.decDigits (u / 10) ++ [UInt8.ofNat (48 + u % 10)] := by
        conv => lhs; rw [Lib.decDigits]
        rw [dif_neg hu]
      rw [e]
      have := dec_len k (u / 10) (by rw [Nat.pow_succ] at h; omega)
      simp; omega
theorem tok_num {n : Int} (h0 : 0 ≤ n) (h1 : n ≤ 1000000000) : Tok (itoaB n) (3, noText, n) := by
  obtain ⟨f1, f2, f3, f4⟩ := dec_facts n.toNat
  have hlen : (Lib.decDigits n.toNat).length ≤ 10 := dec_len 9 n.toNat (by have : (10 : Nat) ^ (9 + 1) = 10000000000 := by decide
                                                                           omega)
  have hl : (itoaB n).data.toList = Lib.decDigits n.toNat := by
    show (mkB (Lib.itoa n)).data.toList = _
    rw [mkB_list]; unfold Lib.itoa; rw [if_neg (by omega)]
  have hbig : 1 < (Lib.decDigits n.toNat).length → 1 ≤ n.toNat := by
    intro hh
    by_cases h : n.toNat < 10
    · rw [Lib.decDigits_one h] at hh; simp at hh
    · omega
  have hn : (n.toNat : Int) = n := by omega
  have ho : openedB (itoaB n) = false := by
    unfold openedB
    rw [hl]
    cases hx : Lib.decDigits n.toNat with
    | nil => exact absurd hx f1
    | cons b r =>
      rw [hx] at f2
      have hb := f2 b (by simp)
      have : b ≠ 40 ∧ b ≠ 33 ∧ b ≠ 46 ∧ b ≠ 123 := by
        refine ⟨?_, ?_, ?_, ?_⟩ <;> (intro e; subst e; exact absurd hb (by decide))
      obtain ⟨a1, a2, a3, a4⟩ := this
      simp [a1, a2, a3, a4]
  obtain ⟨b, r, hx⟩ : ∃ b r, Lib.decDigits n.toNat = b :: r := by cases hx : Lib.decDigits n.toNat with | nil => exact absurd hx f1 | cons b r => exact ⟨b, r, rfl⟩
  have hg : ∀ m : Fin 256, digB ((m.val : Nat) : Int) = true → gapB ((m.val : Nat) : Int) = false ∧ letB ((m.val : Nat) : Int) = false := by decide +kernel
  have hb := f2 b (by rw [hx]; simp)
  have hb2 := hg ⟨b.toNat, b.toNat_lt⟩ hb
  refine ⟨?_, ⟨b, r, by rw [hl, hx], hb2.1⟩⟩
  intro out rest hok
  rw [hl]
  have e : pastN digB (mkB (out ++ (Lib.decDigits n.toNat ++ rest))) out.length = out.length + (Lib.decDigits n.toNat).length := by
    rw [past_at, take_lod _ _ _ f2 fun b' r' e => ?_]
    rcases hok with h | h
    · rw [ho] at h; cases h
    · exact (sep_lod b' (h b' r' e)).2
  have ebt : bt (mkB (out ++ (Lib.decDigits n.toNat ++ rest))) out.length = b := by rw [hx, List.cons_append]; exact mkB_bt _ _ _
  have eg : (mkB (out ++ (Lib.decDigits n.toNat ++ rest))).data.toList.getD out.length 0 = b := ebt
  unfold rdTok
  rw [ebt, if_neg (by rw [show letB (b.toNat : Int) = false from hb2.2]; decide), if_pos hb]
  unfold rdNum
  rw [e, mkB_mid, eg, mkB_list, f3, hn]
  rw [if_neg (by omega), if_neg (fun hh => ?_), if_neg (by omega)]
  · have h5 := f4 (hbig (by omega))
    rw [hx] at h5
    apply h5
    show b = 48
    have : b.toNat = 48 := by omega
    exact UInt8.toNat_inj.1 this

def atomOk (kd : Int) (tx : ByteArray) (n : Int) : Prop := (kd = 18 → tx.data.toList.length ≤ 500) ∧ (kd = 17 → 0 ≤ n ∧ n ≤ 1000000000)
mutual
def Tr.lt : Tr → Prop
  | .mk kd tx n ks => atomOk kd tx n ∧ Tr.lts ks
def Tr.lts : List Tr → Prop
  | [] => True
  | t :: ts => t.lt ∧ Tr.lts ts
end
theorem lt_mk (kd : Int) (tx : ByteArray) (n : Int) (ks : List Tr) : (Tr.mk kd tx n ks).lt = (atomOk kd tx n ∧ Tr.lts ks) := by rw [Tr.lt]
theorem lts_mem : ∀ {ts : List Tr}, Tr.lts ts → ∀ t ∈ ts, t.lt
  | [], _, t, h => by cases h
  | a :: ts, h, t, ht => by
    rw [Tr.lts] at h
    rcases List.mem_cons.1 ht with rfl | ht
    · exact h.1
    · exact lts_mem h.2 t ht
theorem lt_kids {kd : Int} {tx : ByteArray} {n : Int} {ks : List Tr} (h : (Tr.mk kd tx n ks).lt) : ∀ t ∈ ks, t.lt := by
  rw [lt_mk] at h
  exact lts_mem h.2
theorem count_mem : ∀ {ks : List Tr} {t : Tr}, t ∈ ks → t.count ≤ Tr.counts ks
  | [], _, h => by cases h
  | a :: ks, t, h => by
    rw [counts_cons]
    rcases List.mem_cons.1 h with rfl | h
    · omega
    · have := count_mem h; omega
theorem kid_lt {kd : Int} {tx : ByteArray} {n : Int} {ks : List Tr} {k : Nat} (h : 2 * (Tr.mk kd tx n ks).count ≤ k + 2) : ∀ t ∈ ks, 2 * t.count ≤ k := fun t ht => by
  have := count_mem ht
  rw [count_mk] at h; omega

theorem tokW {x : ByteArray} (h : x.data.toList ∈ wordsL) : Tok x (wdT x) := by
  have := tok_word h
  rw [mkB_of] at this
  exact this
theorem tokS {x : ByteArray} (h : x.data.toList ∈ signsL) : Tok x (sgT x) := by
  have := tok_sign h
  rw [mkB_of] at this
  exact this
theorem tok_si {g : Sg} (h : g ∈ sgs) : Tok g.tx (siT g.tx) := by
  have h0 : ∀ g ∈ sgs, if (wordL.any (fun y => decide (g.tx = y))) = true then g.tx.data.toList ∈ wordsL else g.tx.data.toList ∈ signsL := by decide +kernel
  have h1 := h0 g h
  unfold siT
  split
  · rename_i hh; rw [if_pos hh] at h1; exact tokW h1
  · rename_i hh; rw [if_neg hh] at h1; exact tokS h1
theorem tok_hd {kd : Int} (h : kd = 2 ∨ kd = 3 ∨ kd = 4 ∨ kd = 7 ∨ kd = 8 ∨ kd = 9 ∨ kd = 10 ∨ kd = 11) : Tok (hdText kd) (wdT (hdText kd)) := by
  apply tokW
  rcases h with rfl | rfl | rfl | rfl | rfl | rfl | rfl | rfl <;> decide +kernel
theorem sgK_mem {kd : Int} {g : Sg} (h : sgK kd = some g) : g ∈ sgs := List.mem_of_find?_eq_some h
theorem comma_flat (a : List TS) : ∀ r : List (List TS), commaT (a :: r) = a ++ (r.map fun x => sgT tComma :: x).flatten
  | [] => by simp [commaT]
  | b :: r => by
    rw [commaT_cons _ _ (by simp), comma_flat b r]; simp

theorem Lx.puts1 {s : WS} {ts : List TS} {a : ByteArray} {v : TS} (h : Lx s ts) (ha : Tok a v) : Lx (putsS [a] s) (ts ++ [v]) := h.put ha
theorem Lx.puts2 {s : WS} {ts : List TS} {a b : ByteArray} {v u : TS} (h : Lx s ts) (ha : Tok a v) (hb : Tok b u) : Lx (putsS [a, b] s) (ts ++ [v, u]) := by
  have := (h.put ha).put hb
  rw [List.append_assoc] at this
  exact this
theorem Lx.cast {s : WS} {a b : List TS} (h : Lx s a) (e : a = b) : Lx s b := e ▸ h

structure WX (k : Nat) (F : WF) : Prop where
  vl : ∀ c t least s ts, c = 0 ∨ c = 2 ∨ c = 6 → 2 * t.count ≤ k → Shp NmW c t → t.lt → Lx s ts → Lx (F.vl t least s) (ts ++ t.at least)
  v1 : ∀ c t s ts, c = 0 ∨ c = 2 ∨ c = 6 → 2 * t.count ≤ k + 1 → Shp NmW c t → t.lt → Lx s ts → Lx (F.vl t 1 s) (ts ++ t.at 1)
  st : ∀ t s ts, 2 * t.count ≤ k → Shp NmW 1 t → t.lt → Lx s ts → Lx (F.st t s) (ts ++ t.toks)
section
variable {k : Nat} {F : WF} (hF : WX k F)
include hF
theorem commas_rest {c : Nat} (hc : c = 0 ∨ c = 2 ∨ c = 6) : ∀ (ks : List Tr) (s : WS) (ts : List TS), (∀ t ∈ ks, 2 * t.count ≤ k ∧ Shp NmW c t ∧ t.lt) → Lx s ts → Lx (commasW F false ks s) (ts ++ (ks.map fun t => sgT tComma :: t.at 1).flatten)
  | [], s, ts, _, h => by simpa [commasW] using h
  | t :: ks, s, ts, hk, h => by
    obtain ⟨h1, h2, h3⟩ := hk t (by simp)
    have h4 := commas_rest hc ks _ _ (fun u hu => hk u (by simp [hu])) (hF.vl c t 1 _ _ hc h1 h2 h3 (h.puts1 (tokS (x := tComma) (by decide))))
    unfold commasW
    rw [if_neg (by decide)]
    exact h4.cast (by simp)
theorem commas_lx {c : Nat} (hc : c = 0 ∨ c = 2 ∨ c = 6) (ks : List Tr) (s : WS) (ts : List TS) (hk : ∀ t ∈ ks, 2 * t.count ≤ k ∧ Shp NmW c t ∧ t.lt) (h : Lx s ts) : Lx (commasW F true ks s) (ts ++ commaT (ks.map fun t => t.at 1)) := by
  cases ks with
  | nil => simpa [commasW, commaT] using h
  | cons t ks =>
    obtain ⟨h1, h2, h3⟩ := hk t (by simp)
    have h4 := commas_rest hF hc ks _ _ (fun u hu => hk u (by simp [hu])) (hF.vl c t 1 _ _ hc h1 h2 h3 h)
    unfold commasW
    rw [if_pos rfl, List.map_cons, comma_flat]
    refine h4.cast ?_
    rw [List.append_assoc, List.map_map]; rfl
theorem sts_lx : ∀ (ks : List Tr) (s : WS) (ts : List TS), (∀ t ∈ ks, 2 * t.count ≤ k ∧ Shp NmW 1 t ∧ t.lt) → Lx s ts → Lx (stsW F ks s) (ts ++ (ks.map Tr.toks).flatten)
  | [], s, ts, _, h => by simpa [stsW] using h
  | t :: ks, s, ts, hk, h => by
    obtain ⟨h1, h2, h3⟩ := hk t (by simp)
    have h4 := sts_lx ks _ _ (fun u hu => hk u (by simp [hu])) (hF.st t _ _ h1 h2 h3 h)
    show Lx (stsW F ks (F.st t s)) _
    exact h4.cast (by simp)
theorem block_lx (tx : ByteArray) (ks : List Tr) (s : WS) (ts : List TS) (hk : ∀ t ∈ ks, 2 * t.count ≤ k ∧ Shp NmW 1 t ∧ t.lt) (h : Lx s ts) : Lx (blockW F (.mk 6 tx 0 ks) s) (ts ++ (Tr.mk 6 tx 0 ks).toks) := by
  unfold blockW
  have h1 := sts_lx hF ks _ _ hk (h.puts1 (tokS (x := tLBrace) (by decide)))
  have h2 := h1.puts1 (tokS (x := tRBrace) (by decide))
  refine h2.cast ?_
  rw [toks_blk]; simp
theorem list_lx {c : Nat} (hc : c = 0 ∨ c = 2 ∨ c = 6) (ks : List Tr) (s : WS) (ts : List TS) (hk : ∀ t ∈ ks, 2 * t.count ≤ k ∧ Shp NmW c t ∧ t.lt) (h : Lx s ts) : Lx (listW F tOpen tShut ks s) (ts ++ sgT tOpen :: (commaT (ks.map fun t => t.at 1) ++ [sgT tShut])) := by
  unfold listW
  have h0 : Lx (closeS tOpen s) (ts ++ [sgT tOpen]) := h.close (tokS (x := tOpen) (by decide)) (Or.inr fun b r e => by cases e; decide)
  have h1 := commas_lx hF hc ks _ _ hk h0
  have h2 := h1.puts1 (tokS (x := tShut) (by decide))
  exact h2.cast (by simp)
omit hF in
theorem atq_one {t : Tr} : t.at 1 = t.toks := at_plain (strK_one _)
theorem tail_lx (p b : Tr) (hp : Shp NmW 5 p) (hb : Shp NmW 4 b) (hc : 2 * p.count ≤ k ∧ 2 * b.count ≤ k) (hl : p.lt ∧ b.lt) (s : WS) (ts : List TS) (h : Lx s ts) : Lx (blockW F b (listW F tOpen tShut p.kids s)) (ts ++ (p.toks ++ b.toks)) := by
  cases hp with
  | @pars ps hs _ =>
    cases hb with
    | @body tx bs _ hbs =>
      have h1 := list_lx hF (c := 6) (Or.inr (Or.inr rfl)) ps s ts (fun t ht => ⟨by have := count_mem ht; have := hc.1; rw [count_mk] at this; omega, hs t ht, lt_kids hl.1 t ht⟩) h
      have h2 := block_lx hF tx bs _ _ (fun t ht => ⟨by have := count_mem ht; have := hc.2; rw [count_mk] at this; omega, hbs t ht, lt_kids hl.2 t ht⟩) h1
      refine h2.cast ?_
      have e : (ps.map fun t => t.at 1) = ps.map Tr.toks := List.map_congr_left fun t _ => atq_one
      rw [toks_pars, e]; simp
end
end Go.Proofs.YtodmgaikhbmlnaaGreatDoor
