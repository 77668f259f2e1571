/-
  The tokens of two texts with a space between are those of the first and, moved, those of the second.
-/
import Derived.Test.YtodmgaikhbmlnaaGreatDoorHk21
namespace Go.Proofs.YtodmgaikhbmlnaaGreatDoor
open Go.ChangeShapes Go.WideShapes Go.ChangeAt Go.WideMaps Go.WideElems Go.RowKit
def jk (a b : ByteArray) : ByteArray := ⟨(a.data.toList ++ 32 :: b.data.toList).toArray⟩
theorem jk_list (a b : ByteArray) : (jk a b).data.toList = a.data.toList ++ 32 :: b.data.toList := by simp [jk]
theorem len_listK (a : ByteArray) : a.data.toList.length = a.size := by simp
theorem jk_size (a b : ByteArray) : (jk a b).size = a.size + 1 + b.size := by
 rw [← len_listK, jk_list]; simp; omega
theorem jk_bt_lt (a b : ByteArray) (i : Nat) (h : i < a.size) : bt (jk a b) i = bt a i := by
 unfold bt
 rw [jk_list, List.getD_eq_getElem?_getD, List.getD_eq_getElem?_getD, List.getElem?_append_left (by rw [len_listK]; exact h)]
theorem jk_bt_sh (a b : ByteArray) (i : Nat) : bt (jk a b) (a.size + 1 + i) = bt b i := by
 unfold bt
 rw [jk_list, List.getD_eq_getElem?_getD, List.getD_eq_getElem?_getD, List.getElem?_append_right (by rw [len_listK]; omega), len_listK]
 rw [show a.size + 1 + i - a.size = i + 1 by omega, List.getElem?_cons_succ]
theorem jk_drop_le (a b : ByteArray) (k : Nat) (h : k ≤ a.size) : (jk a b).data.toList.drop k = a.data.toList.drop k ++ 32 :: b.data.toList := by
 rw [jk_list, List.drop_append_of_le_length (by rw [len_listK]; exact h)]
theorem jk_drop_sh (a b : ByteArray) (k : Nat) : (jk a b).data.toList.drop (a.size + 1 + k) = b.data.toList.drop k := by
 rw [jk_list, List.drop_append, List.drop_of_length_le (by rw [len_listK]; omega), len_listK, show a.size + 1 + k - a.size = k + 1 by omega]
 rfl
theorem jk_past (p : Int → Bool) (a b : ByteArray) (k : Nat) (h : k ≤ a.size) (hp : p 32 = false) : pastN p (jk a b) k = pastN p a k := by
 unfold pastN
 rw [jk_drop_le a b k h, List.takeWhile_append, List.takeWhile_cons]
 have : p (((32 : UInt8).toNat : Nat) : Int) = false := hp
 rw [this]
 simp only [Bool.false_eq_true, if_false, List.append_nil]
 split
 ·
  rename_i h1
  rw [h1]
 ·
  rfl
theorem jk_past_sh (p : Int → Bool) (a b : ByteArray) (k : Nat) : pastN p (jk a b) (a.size + 1 + k) = a.size + 1 + pastN p b k := by
 unfold pastN
 rw [jk_drop_sh]; omega
theorem jk_past_gap (p : Int → Bool) (a b : ByteArray) (k : Nat) (h : k ≤ a.size) (hp : p 32 = true) :
  pastN p (jk a b) k = if pastN p a k < a.size then pastN p a k else a.size + 1 + pastN p b 0 := by
 have hle := pastN_le p a k h
 unfold pastN at hle ⊢
 rw [jk_drop_le a b k h, List.takeWhile_append, List.takeWhile_cons]
 have : p (((32 : UInt8).toNat : Nat) : Int) = true := hp
 rw [this]
 have hd : (a.data.toList.drop k).length = a.size - k := by rw [List.length_drop, len_listK]
 simp only [if_true, List.drop_zero]
 split
 ·
  rename_i h1
  rw [if_neg (by omega)]; simp only [List.length_append, List.length_cons]; omega
 ·
  rename_i h1
  rw [if_pos (by omega)]
theorem jk_extract (a b : ByteArray) (k e : Nat) (h : e ≤ a.size) : (jk a b).extract k e = a.extract k e := by
 apply bytes_inj
 rw [ByteArray.data_extract, ByteArray.data_extract, Array.toList_extract, Array.toList_extract, jk_list]
 simp only [List.extract_eq_take_drop]
 by_cases hk : k ≤ a.size
 ·
  rw [List.drop_append_of_le_length (by rw [len_listK]; exact hk), List.take_append_of_le_length (by rw [List.length_drop, len_listK]; omega)]
 ·
  rw [show e - k = 0 by omega]; simp
theorem jk_extract_sh (a b : ByteArray) (k e : Nat) : (jk a b).extract (a.size + 1 + k) (a.size + 1 + e) = b.extract k e := by
 apply bytes_inj
 rw [ByteArray.data_extract, ByteArray.data_extract, Array.toList_extract, Array.toList_extract]
 simp only [List.extract_eq_take_drop]
 rw [jk_drop_sh, show a.size + 1 + e - (a.size + 1 + k) = e - k by omega]
theorem lod10K : lodB 32 = false := by decide
theorem dig10K : digB 32 = false := by decide
theorem gap10K : gapB 32 = true := by decide
theorem jk_name (ws : List ByteArray) (a b : ByteArray) (k : Nat) (h : k ≤ a.size) : rdName ws (jk a b) k = rdName ws a k := by
 unfold rdName
 rw [jk_past lodB a b k h lod10K, jk_extract a b k _ (pastN_le lodB a k h)]
theorem jk_num (a b : ByteArray) (k : Nat) (h : k < a.size) : rdNum (jk a b) k = rdNum a k := by
 unfold rdNum
 rw [jk_past digB a b k (by omega) dig10K, jk_extract a b k _ (pastN_le digB a k (by omega))]
 have := jk_bt_lt a b k h
 unfold bt at this
 rw [this]
theorem jk_str (a b : ByteArray) : ∀ n i said l e, a.size - i = n → strR a i said = .ok l e → strR (jk a b) i said = .ok l e := by
 intro n
 induction n using Nat.strongRecOn with
 | ind n ih =>
  intro i said l e hn h; have hj := jk_size a b
  by_cases hlt : i < a.size
  ·
   have hb := jk_bt_lt a b i hlt
   by_cases c1 : bt a i = 39
   ·
    rw [strR_quote a i said hlt c1] at h; rw [strR_quote (jk a b) i said (by omega) (by rw [hb]; exact c1)]
    exact h
   ·
    by_cases c2 : bt a i = 10
    ·
     rw [strR_lf a i said hlt c2] at h; cases h
    ·
     by_cases c3 : bt a i = 92
     ·
      by_cases h1 : i + 1 < a.size
      ·
       cases hm : esc (bt a (i + 1)) with
       | none => rw [strR_noesc a i said hlt c3 (fun _ => hm)] at h; cases h
       | some m =>
        rw [strR_esc a i said m hlt c3 h1 hm] at h; rw [strR_esc (jk a b) i said m (by omega) (by rw [hb]; exact c3) (by omega) (by rw [jk_bt_lt a b _ h1]; exact hm)]
        exact ih (a.size - (i + 2)) (by omega) (i + 2) _ l e rfl h
      ·
       rw [strR_noesc a i said hlt c3 (fun hh => absurd hh h1)] at h; cases h
     ·
      rw [strR_plain a i said hlt c1 c2 c3] at h; rw [strR_plain (jk a b) i said (by omega) (by rw [hb]; exact c1) (by rw [hb]; exact c2) (by rw [hb]; exact c3), hb]
      exact ih (a.size - (i + 1)) (by omega) (i + 1) _ l e rfl h
  ·
   rw [strR_end a i said hlt] at h; cases h
theorem jk_str_sh (a b : ByteArray) : ∀ n i said l e, b.size - i = n → strR b i said = .ok l e → strR (jk a b) (a.size + 1 + i) said = .ok l (a.size + 1 + e) := by
 intro n
 induction n using Nat.strongRecOn with
 | ind n ih =>
  intro i said l e hn h; have hj := jk_size a b
  by_cases hlt : i < b.size
  ·
   have hb := jk_bt_sh a b i
   by_cases c1 : bt b i = 39
   ·
    rw [strR_quote b i said hlt c1] at h; rw [strR_quote (jk a b) _ said (by omega) (by rw [hb]; exact c1)]
    cases h; rfl
   ·
    by_cases c2 : bt b i = 10
    ·
     rw [strR_lf b i said hlt c2] at h; cases h
    ·
     by_cases c3 : bt b i = 92
     ·
      by_cases h1 : i + 1 < b.size
      ·
       cases hm : esc (bt b (i + 1)) with
       | none => rw [strR_noesc b i said hlt c3 (fun _ => hm)] at h; cases h
       | some m =>
        rw [strR_esc b i said m hlt c3 h1 hm] at h; rw [strR_esc (jk a b) _ said m (by omega) (by rw [hb]; exact c3) (by omega) (by rw [show a.size + 1 + i + 1 = a.size + 1 + (i + 1) by omega, jk_bt_sh a b _]; exact hm)]
        exact ih (b.size - (i + 2)) (by omega) (i + 2) _ l e rfl h
      ·
       rw [strR_noesc b i said hlt c3 (fun hh => absurd hh h1)] at h; cases h
     ·
      rw [strR_plain b i said hlt c1 c2 c3] at h; rw [strR_plain (jk a b) _ said (by omega) (by rw [hb]; exact c1) (by rw [hb]; exact c2) (by rw [hb]; exact c3), hb]
      exact ih (b.size - (i + 1)) (by omega) (i + 1) _ l e rfl h
  ·
   rw [strR_end b i said hlt] at h; cases h
theorem pfx_iffK (x p : ByteArray) : pfxB x p = true ↔ p.data.toList <+: x.data.toList := by
 unfold pfxB
 rw [Bool.and_eq_true, decide_eq_true_eq, beq_iff_eq]
 have e1 : (x.extract 0 p.size).data.toList = x.data.toList.take p.size := by
  rw [ByteArray.data_extract, Array.toList_extract]; simp [List.extract_eq_take_drop]
 have e2 : ∀ y : ByteArray, y.toList = y.data.toList := fun y => ByteArray.toList_eq y
 rw [e2, e2, e1, List.prefix_iff_eq_take, len_listK]
 constructor
 ·
  exact fun h => h.2.symm
 ·
  intro h; refine ⟨?_, h.symm⟩; have := congrArg List.length h; rw [List.length_take, len_listK, len_listK] at this; omega
theorem prefix_10K (g l1 l2 : List UInt8) (hg : (32 : UInt8) ∉ g) : g <+: l1 ++ 32 :: l2 ↔ g <+: l1 := by
 constructor
 ·
  intro h
  induction l1 generalizing g with
  | nil =>
   cases g with
   | nil => exact List.nil_prefix
   | cons x g =>
    rw [List.nil_append, List.cons_prefix_cons] at h; exact absurd (by simp [h.1]) hg
  | cons y l1 ih =>
   cases g with
   | nil => exact List.nil_prefix
   | cons x g =>
    rw [List.cons_append, List.cons_prefix_cons] at h; rw [List.cons_prefix_cons]; exact ⟨h.1, ih g (fun hh => hg (by simp [hh])) h.2⟩
 ·
  exact fun h => h.trans (List.prefix_append _ _)
theorem rest_listK (s : ByteArray) (k : Nat) : (s.extract k s.size).data.toList = s.data.toList.drop k := by
 rw [ByteArray.data_extract, Array.toList_extract, List.extract_eq_take_drop, List.take_of_length_le (by rw [List.length_drop, len_listK]; omega)]
theorem jk_pfx (a b g : ByteArray) (k : Nat) (h : k ≤ a.size) (hg : (32 : UInt8) ∉ g.data.toList) : pfxB ((jk a b).extract k (jk a b).size) g = pfxB (a.extract k a.size) g := by
 have : pfxB ((jk a b).extract k (jk a b).size) g = true ↔ pfxB (a.extract k a.size) g = true := by
  rw [pfx_iffK, pfx_iffK, rest_listK, rest_listK, jk_drop_le a b k h, prefix_10K _ _ _ hg]
 cases h1 : pfxB ((jk a b).extract k (jk a b).size) g <;> cases h2 : pfxB (a.extract k a.size) g <;> simp_all
theorem find_congrK (gs : List ByteArray) (f f' : ByteArray → Bool) (h : ∀ g ∈ gs, f g = f' g) : gs.find? f = gs.find? f' := by
 induction gs with
 | nil => rfl
 | cons g gs ih =>
  rw [List.find?_cons, List.find?_cons, h g (by simp), ih (fun x hx => h x (by simp [hx]))]
theorem jk_sign (gs : List ByteArray) (a b : ByteArray) (k : Nat) (h : k ≤ a.size) (hg : ∀ g ∈ gs, (32 : UInt8) ∉ g.data.toList) : rdSign gs (jk a b) k = rdSign gs a k := by
 unfold rdSign
 rw [find_congrK gs _ _ (fun g hm => jk_pfx a b g k h (hg g hm))]
theorem jk_tok (ws gs : List ByteArray) (a b : ByteArray) (k : Nat) (kd n : Int) (tx : ByteArray) (e : Nat) (h : k < a.size) (hg : ∀ g ∈ gs, (32 : UInt8) ∉ g.data.toList)
  (hr : rdTok ws gs a k = .tok kd tx n e) : rdTok ws gs (jk a b) k = .tok kd tx n e := by
 rw [← hr]
 unfold rdTok at hr ⊢
 rw [jk_bt_lt a b k h, jk_name ws a b k (by omega), jk_num a b k h, jk_sign gs a b k (by omega) hg]
 split
 ·
  rfl
 ·
  split
  ·
   rfl
  ·
   split
   ·
    rename_i h1 h2 h3
    rw [if_neg h1, if_neg h2, if_pos h3] at hr; unfold rdStr at hr ⊢
    cases hs : strR a (k + 1) [] with
    | ok l e' => rw [jk_str a b _ _ _ l e' rfl hs]
    | bad p => rw [hs] at hr; cases hr
   ·
    rfl
theorem jk_tok_sh (ws gs : List ByteArray) (a b : ByteArray) (k : Nat) (kd n : Int) (tx : ByteArray) (e : Nat)
  (hr : rdTok ws gs b k = .tok kd tx n e) : rdTok ws gs (jk a b) (a.size + 1 + k) = .tok kd tx n (a.size + 1 + e) := by
 have key : rdTok ws gs (jk a b) (a.size + 1 + k) = shRd (a.size + 1) (rdTok ws gs b k) := by
  unfold rdTok at hr ⊢; rw [jk_bt_sh a b k]
  split
  ·
   unfold rdName; rw [jk_past_sh, jk_extract_sh, show a.size + 1 + pastN lodB b k - (a.size + 1 + k) = pastN lodB b k - k by omega]
   split
   ·
    rfl
   ·
    split <;> rfl
  ·
   split
   ·
    unfold rdNum; have := jk_bt_sh a b k; unfold bt at this; rw [jk_past_sh, jk_extract_sh, this, show a.size + 1 + pastN digB b k - (a.size + 1 + k) = pastN digB b k - k by omega]
    split
    ·
     rfl
    ·
     split
     ·
      rfl
     ·
      split <;> rfl
   ·
    split
    ·
     rename_i h1 h2 h3
     rw [if_neg h1, if_neg h2, if_pos h3] at hr; unfold rdStr at hr ⊢
     cases hs : strR b (k + 1) [] with
     | ok l e' =>
      rw [show a.size + 1 + k + 1 = a.size + 1 + (k + 1) by omega, jk_str_sh a b _ _ _ l e' rfl hs]; simp only
      split <;> rfl
     | bad p => rw [hs] at hr; cases hr
    ·
     unfold rdSign; rw [jk_size, show a.size + 1 + b.size = a.size + 1 + b.size from rfl, jk_extract_sh]
     split
     ·
      simp only [shRd]; rw [Nat.add_assoc]
     ·
      rfl
 rw [key, hr]
 rfl
theorem toks_shK (ws gs : List ByteArray) (a b : ByteArray) (hgs : ∀ g ∈ gs, 1 ≤ g.size) : ∀ m i acc accJ l, b.size - i = m → i ≤ b.size → toksR ws gs b i acc = .ok l →
  ∃ l', l = acc ++ l' ∧ toksR ws gs (jk a b) (a.size + 1 + i) accJ = .ok (accJ ++ l'.map (shTk (a.size + 1))) := by
 intro m
 induction m using Nat.strongRecOn with
 | ind m ih =>
  intro i acc accJ l hm hi h; have hj := jk_size a b
  by_cases hlt : i < b.size
  ·
   cases hr : rdTok ws gs b i with
   | bad er p => rw [toksR_bad ws gs b i acc er p hlt hr] at h; cases h
   | tok kd tx n e =>
    have hb := rdTok_bounds ws gs b i kd n tx e hlt hgs hr; rw [toksR_go ws gs b i acc kd n tx e hlt hr hb.1] at h; have hge := pastN_ge gapB b e; have hle := pastN_le gapB b e hb.2
    obtain ⟨l', h1, h2⟩ := ih (b.size - pastN gapB b e) (by omega) (pastN gapB b e) _ (accJ ++ [⟨kd, tx, n, a.size + 1 + i⟩]) l rfl hle h; refine ⟨⟨kd, tx, n, i⟩ :: l', by rw [h1]; simp, ?_⟩
    rw [toksR_go ws gs (jk a b) _ accJ kd n tx (a.size + 1 + e) (by omega) (jk_tok_sh ws gs a b i kd n tx e hr) (by omega), jk_past_sh, h2]; simp [shTk]
  ·
   rw [toksR_end ws gs b i acc hlt] at h; refine ⟨[⟨6, ⟨#[]⟩, 0, b.size⟩], by cases h; rfl, ?_⟩
   rw [toksR_end ws gs (jk a b) _ accJ (by omega), hj]; simp [shTk]
theorem toks_jnK (ws gs : List ByteArray) (a b : ByteArray) (hgs : ∀ g ∈ gs, 1 ≤ g.size) (hg : ∀ g ∈ gs, (32 : UInt8) ∉ g.data.toList) : ∀ m i acc l, a.size - i = m → i ≤ a.size → toksR ws gs a i acc = .ok l →
  ∃ l', l = l' ++ [⟨6, ⟨#[]⟩, 0, a.size⟩] ∧ toksR ws gs (jk a b) (if i < a.size then i else a.size + 1 + pastN gapB b 0) acc = toksR ws gs (jk a b) (a.size + 1 + pastN gapB b 0) l' := by
 intro m
 induction m using Nat.strongRecOn with
 | ind m ih =>
  intro i acc l hm hi h; have hj := jk_size a b
  by_cases hlt : i < a.size
  ·
   cases hr : rdTok ws gs a i with
   | bad er p => rw [toksR_bad ws gs a i acc er p hlt hr] at h; cases h
   | tok kd tx n e =>
    have hb := rdTok_bounds ws gs a i kd n tx e hlt hgs hr; rw [toksR_go ws gs a i acc kd n tx e hlt hr hb.1] at h; have hge := pastN_ge gapB a e; have hle := pastN_le gapB a e hb.2
    obtain ⟨l', h1, h2⟩ := ih (a.size - pastN gapB a e) (by omega) (pastN gapB a e) _ l rfl hle h; refine ⟨l', h1, ?_⟩
    rw [if_pos hlt, toksR_go ws gs (jk a b) _ acc kd n tx e (by omega) (jk_tok ws gs a b i kd n tx e hlt hg hr) (by omega), jk_past_gap gapB a b e hb.2 gap10K]; exact h2
  ·
   rw [toksR_end ws gs a i acc hlt] at h; refine ⟨acc, by cases h; rfl, ?_⟩
   rw [if_neg hlt]
theorem toks_joinK (ws gs : List ByteArray) (a b : ByteArray) (la lb : List Tk) (hgs : ∀ g ∈ gs, 1 ≤ g.size) (hg : ∀ g ∈ gs, (32 : UInt8) ∉ g.data.toList)
  (ha : toksR ws gs a (pastN gapB a 0) [] = .ok la) (hb : toksR ws gs b (pastN gapB b 0) [] = .ok lb) :
  ∃ l', la = l' ++ [⟨6, ⟨#[]⟩, 0, a.size⟩] ∧ toksR ws gs (jk a b) (pastN gapB (jk a b) 0) [] = .ok (l' ++ lb.map (shTk (a.size + 1))) := by
 obtain ⟨l', h1, h2⟩ := toks_jnK ws gs a b hgs hg _ (pastN gapB a 0) [] la rfl (pastN_le gapB a 0 (Nat.zero_le _)) ha
 refine ⟨l', h1, ?_⟩
 rw [jk_past_gap gapB a b 0 (Nat.zero_le _) gap10K, h2]
 obtain ⟨l2, h3, h4⟩ := toks_shK ws gs a b hgs _ (pastN gapB b 0) [] l' lb rfl (pastN_le gapB b 0 (Nat.zero_le _)) hb
 rw [h4, h3]
 simp
end Go.Proofs.YtodmgaikhbmlnaaGreatDoor
set_option maxRecDepth 100000
set_option maxHeartbeats 16000000
namespace Go.Proofs.YtodmgaikhbmlnaaGreatDoor
open Go.RowKit
structure Nm (ws : List ByteArray) (x : ByteArray) : Prop where
 pos : 0 < x.size
 small : x.size ≤ 20
 fst : letB ((bt x 0).toNat : Int) = true
 all : ∀ b ∈ x.data.toList, lodB (b.toNat : Int) = true
 no : isIn ws x = false
def semi (x : ByteArray) : ByteArray := ⟨(x.data.toList ++ [59]).toArray⟩
theorem semi_list (x : ByteArray) : (semi x).data.toList = x.data.toList ++ [59] := by simp [semi]
theorem semi_size (x : ByteArray) : (semi x).size = x.size + 1 := by
 rw [← len_listK, semi_list, List.length_append, len_listK]; rfl
theorem let_gap (b : UInt8) (h : letB (b.toNat : Int) = true) : gapB (b.toNat : Int) = false := by
 have key : ∀ m : Fin 256, letB ((m.val : Nat) : Int) = true → gapB ((m.val : Nat) : Int) = false := by decide +kernel
 exact key ⟨b.toNat, b.toNat_lt⟩ h
theorem semi_gap0 {ws : List ByteArray} {x : ByteArray} (h : Nm ws x) : pastN gapB (semi x) 0 = 0 := by
 have hl : x.data.toList.length = x.size := len_listK x
 cases hx : x.data.toList with
 | nil => rw [hx] at hl; have := h.pos; simp at hl; omega
 | cons b l =>
  have hb : bt x 0 = b := by unfold bt; rw [hx]; rfl
  have h1 := let_gap b (by rw [← hb]; exact h.fst)
  unfold pastN; rw [semi_list, hx]; simp [h1]
theorem take_all {α : Type} (p : α → Bool) : ∀ (l m : List α), (∀ b ∈ l, p b = true) → (l ++ m).takeWhile p = l ++ m.takeWhile p
 | [], m, _ => rfl
 | a :: l, m, h => by
  rw [List.cons_append, List.takeWhile_cons, if_pos (h a List.mem_cons_self), take_all p l m fun b hb => h b (List.mem_cons_of_mem _ hb)]; rfl
theorem semi_lod {ws : List ByteArray} {x : ByteArray} (h : Nm ws x) : pastN lodB (semi x) 0 = x.size := by
 unfold pastN
 rw [semi_list, List.drop_zero, take_all _ _ _ h.all, List.length_append, len_listK]
 have : ([59] : List UInt8).takeWhile (fun b => lodB (b.toNat : Int)) = [] := by decide
 rw [this]
 simp
theorem semi_gap1 (x : ByteArray) : pastN gapB (semi x) x.size = x.size := by
 unfold pastN
 rw [semi_list, List.drop_left' (len_listK x)]
 have : ([59] : List UInt8).takeWhile (fun b => gapB (b.toNat : Int)) = [] := by decide
 rw [this]
 rfl
theorem bytes_ext {a b : ByteArray} (h : a.data.toList = b.data.toList) : a = b := by
 cases a; cases b
 congr 1
 exact Array.toList_inj.1 h
theorem semi_head (x : ByteArray) : (semi x).extract 0 x.size = x := by
 apply bytes_ext
 rw [ByteArray.data_extract, Array.toList_extract, List.extract_eq_take_drop, semi_list, List.drop_zero, Nat.sub_zero, List.take_left' (len_listK x)]
theorem semi_tail (x : ByteArray) : (semi x).extract x.size (semi x).size = ⟨#[59]⟩ := by
 apply bytes_ext
 rw [ByteArray.data_extract, Array.toList_extract, List.extract_eq_take_drop, semi_list, List.drop_left' (len_listK x), semi_size]
 have : x.size + 1 - x.size = 1 := by omega
 rw [this]
 rfl
theorem semi_bt0 {ws : List ByteArray} {x : ByteArray} (h : Nm ws x) : bt (semi x) 0 = bt x 0 := by
 have hl : x.data.toList.length = x.size := len_listK x
 have := h.pos
 unfold bt
 rw [semi_list, List.getD_eq_getElem?_getD, List.getElem?_append_left (by omega), ← List.getD_eq_getElem?_getD]
theorem semi_bt1 (x : ByteArray) : bt (semi x) x.size = 59 := by
 have hl : x.data.toList.length = x.size := len_listK x
 unfold bt
 rw [semi_list, List.getD_eq_getElem?_getD, List.getElem?_append_right (by omega)]
 simp [hl]
theorem toks_semi {ws : List ByteArray} {x : ByteArray} (h : Nm ws x) : toksR ws signsS (semi x) (pastN gapB (semi x) 0) [] = .ok [⟨1, x, 0, 0⟩, ⟨5, tSemi, 0, x.size⟩, ⟨6, ⟨#[]⟩, 0, x.size + 1⟩] := by
 have hp := h.pos
 have hsz := semi_size x
 have r1 : rdTok ws signsS (semi x) 0 = .tok 1 x 0 x.size := by
  unfold rdTok; rw [if_pos (by rw [semi_bt0 h]; exact h.fst)]
  unfold rdName; rw [semi_lod h, semi_head, if_neg (by rw [h.no]; decide), if_neg (by have := h.small; omega)]
 have r2 : rdTok ws signsS (semi x) x.size = .tok 5 tSemi 0 (x.size + 1) := by
  unfold rdTok; rw [semi_bt1, if_neg (by decide), if_neg (by decide), if_neg (by decide)]; unfold rdSign; rw [semi_tail]; have : signsS.find? (fun g => pfxB ⟨#[59]⟩ g) = some tSemi := by decide +kernel
  rw [this]; rfl
 rw [semi_gap0 h, toksR_go ws signsS (semi x) 0 [] 1 0 x x.size (by omega) r1 hp, semi_gap1, toksR_go ws signsS (semi x) x.size _ 5 0 tSemi (x.size + 1) (by omega) r2 (by omega),
  pastN_end gapB (semi x) (x.size + 1) (by omega), toksR_end ws signsS (semi x) (x.size + 1) _ (by omega), hsz]
 rfl
theorem sg_pos : ∀ g ∈ signsS, 1 ≤ g.size := by decide +kernel
theorem sg_no32 : ∀ g ∈ signsS, (32 : UInt8) ∉ g.data.toList := by decide +kernel
theorem toks_tvar : toksR wordsS signsS tVar (pastN gapB tVar 0) [] = .ok [⟨2, tVar, 0, 0⟩, ⟨6, ⟨#[]⟩, 0, 3⟩] := by
 have e0 : pastN gapB tVar 0 = 0 := by decide +kernel
 rw [e0, toksR_go wordsS signsS tVar 0 [] 2 0 tVar 3 (by decide) (by kernel_rfl) (by decide)]
 have e1 : pastN gapB tVar 3 = 3 := by decide +kernel
 rw [e1, toksR_end wordsS signsS tVar 3 _ (by decide)]
 rfl
def oneV (x : ByteArray) : ByteArray := jk tVar (semi x)
theorem snoc_inj {α : Type} {a b : List α} {x y : α} (h : a ++ [x] = b ++ [y]) : a = b := (List.append_inj' h rfl).1
theorem toks_one {x : ByteArray} (h : Nm wordsS x) : ∃ a b, toksR wordsS signsS (oneV x) (pastN gapB (oneV x) 0) [] = .ok ([⟨2, tVar, 0, 0⟩, ⟨1, x, 0, a⟩, ⟨5, tSemi, 0, b⟩] ++ [⟨6, ⟨#[]⟩, 0, (oneV x).size⟩]) := by
 obtain ⟨l', h1, h2⟩ := toks_joinK wordsS signsS tVar (semi x) _ _ sg_pos sg_no32 toks_tvar (toks_semi h)
 have h0 : ([⟨2, tVar, 0, 0⟩] : List Tk) ++ [⟨6, ⟨#[]⟩, 0, 3⟩] = l' ++ [⟨6, ⟨#[]⟩, 0, tVar.size⟩] := h1
 have h3 : l' = [⟨2, tVar, 0, 0⟩] := (snoc_inj h0).symm
 subst h3
 refine ⟨4, 4 + x.size, ?_⟩
 have hz : (oneV x).size = 4 + (x.size + 1) := by unfold oneV; rw [jk_size, semi_size]; have : tVar.size = 3 := rfl; omega
 rw [hz]
 exact h2
inductive Pre3 : List ByteArray → List Tk → Prop
 | nil : Pre3 [] []
 | cons {x : ByteArray} {xs : List ByteArray} {l : List Tk} (a b c : Nat) (h : Pre3 xs l) : Pre3 (x :: xs) (⟨2, tVar, 0, a⟩ :: ⟨1, x, 0, b⟩ :: ⟨5, tSemi, 0, c⟩ :: l)
theorem Pre3.sh {D : Nat} {xs : List ByteArray} {l : List Tk} (h : Pre3 xs l) : Pre3 xs (l.map (shTk D)) := by
 induction h with
 | nil => exact .nil
 | cons a b c h ih => exact .cons _ _ _ ih
theorem Pre3.len {xs : List ByteArray} {l : List Tk} (h : Pre3 xs l) : l.length = 3 * xs.length := by
 induction h with
 | nil => rfl
 | cons a b c h ih => simp only [List.length_cons, ih]; omega
def vtext : List ByteArray → ByteArray → ByteArray
 | [], s => s
 | x :: xs, s => jk (oneV x) (vtext xs s)
theorem shTk_add (D E : Nat) (l : List Tk) : (l.map (shTk E)).map (shTk D) = l.map (shTk (D + E)) := by
 rw [List.map_map]
 congr 1
 funext t
 simp [shTk, Nat.add_assoc]
theorem shTk_zero (l : List Tk) : l.map (shTk 0) = l := by
 have h : shTk 0 = id := by funext t; simp [shTk]
 rw [h, List.map_id]
theorem toks_vtext {s : ByteArray} {lb : List Tk} (hb : toksR wordsS signsS s (pastN gapB s 0) [] = .ok lb) : ∀ xs : List ByteArray, (∀ x ∈ xs, Nm wordsS x) →
  ∃ D pre, toksR wordsS signsS (vtext xs s) (pastN gapB (vtext xs s) 0) [] = .ok (pre ++ lb.map (shTk D)) ∧ Pre3 xs pre
 | [], _ => ⟨0, [], by rw [shTk_zero]; exact hb, .nil⟩
 | x :: xs, h => by
  obtain ⟨D, pre, h1, h2⟩ := toks_vtext hb xs fun y hy => h y (List.mem_cons_of_mem _ hy); obtain ⟨a, b, h3⟩ := toks_one (h x List.mem_cons_self)
  obtain ⟨l', h4, h5⟩ := toks_joinK wordsS signsS (oneV x) (vtext xs s) _ _ sg_pos sg_no32 h3 h1; have h6 := snoc_inj h4; subst h6
  refine ⟨(oneV x).size + 1 + D, [⟨2, tVar, 0, 0⟩, ⟨1, x, 0, a⟩, ⟨5, tSemi, 0, b⟩] ++ pre.map (shTk ((oneV x).size + 1)), ?_, .cons _ _ _ h2.sh⟩; rw [List.map_append, shTk_add] at h5; rw [List.append_assoc]; exact h5
end Go.Proofs.YtodmgaikhbmlnaaGreatDoor
namespace Go.Proofs.YtodmgaikhbmlnaaGreatDoor
def nmB (x : ByteArray) : Bool := decide (0 < x.size) && (decide (x.size ≤ 20) && (letB ((bt x 0).toNat : Int) && (x.data.toList.all (fun b => lodB (b.toNat : Int)) && !isIn wordsS x)))
theorem nm_of {x : ByteArray} (h : nmB x = true) : Nm wordsS x := by
 unfold nmB at h
 simp only [Bool.and_eq_true, decide_eq_true_eq, List.all_eq_true, Bool.not_eq_true'] at h
 exact ⟨h.1, h.2.1, h.2.2.1, h.2.2.2.1, h.2.2.2.2⟩
def b23 (kd : Int) (tx : ByteArray) : Nat := if kd = 23 ∧ nmB tx = false then 1 else 0
mutual
def Tr.nz : Tr → Nat
 | .mk kd tx _ ks => b23 kd tx + Tr.nzs ks
def Tr.nzs : List Tr → Nat
 | [] => 0
 | t :: ts => t.nz + Tr.nzs ts
end
theorem nz_mk (kd : Int) (tx : ByteArray) (n : Int) (ks : List Tr) : (Tr.mk kd tx n ks).nz = b23 kd tx + Tr.nzs ks := by rw [Tr.nz]
theorem b23_no {kd : Int} (h : kd ≠ 23) (tx : ByteArray) : b23 kd tx = 0 := by unfold b23; rw [if_neg (fun e => h e.1)]
theorem b23_yes {tx : ByteArray} (h : nmB tx = true) (kd : Int) : b23 kd tx = 0 := by unfold b23; rw [if_neg (fun e => by rw [h] at e; exact absurd e.2 (by decide))]
theorem nzs_nil : Tr.nzs [] = 0 := by rw [Tr.nzs]
theorem nzs_cons (t : Tr) (ts : List Tr) : Tr.nzs (t :: ts) = t.nz + Tr.nzs ts := by rw [Tr.nzs]
theorem nzs_app : ∀ (ts us : List Tr), Tr.nzs (ts ++ us) = Tr.nzs ts + Tr.nzs us
 | [], us => by rw [List.nil_append, nzs_nil, Nat.zero_add]
 | t :: ts, us => by rw [List.cons_append, nzs_cons, nzs_cons, nzs_app ts us, Nat.add_assoc]
theorem code_nz (t : Tr) (h : t.kd ≠ 23) : (codeT t).nz = t.nz := by
 unfold codeT
 split
 ·
  rename_i kd tx n k1 t1 n1 k2 t2 n2 l2 r1 r
  have hk : kd ≠ 23 := h; rw [nz_mk, nz_mk, b23_no hk, b23_no hk]
 ·
  rfl
theorem sg_23 {k : Int} {x : ByteArray} {s : Sg} (h : sgP k x = some s) : s.kd ≠ 23 := by
 have h1 := sgP_ar h
 have h2 : ∀ s ∈ sgs, s.kd ≠ 23 := by decide +kernel
 exact h2 s h1.1
theorem hd_23 (x : ByteArray) : hdKind x ≠ 23 := by
 unfold hdKind look2
 cases h : hds.find? (fun e => decide (x = e.1)) with
 | none => decide
 | some e =>
  have h1 := List.mem_of_find?_eq_some h; have h2 : ∀ e ∈ hds, e.2 ≠ 23 := by decide +kernel
  exact h2 e h1
section
variable {l : List Tk}
def TkNm (l : List Tk) : Prop := ∀ i, (tkA l i).kd = 1 → nmB (tkA l i).tx = true
def Ky (_ : Nat) (r : PR Tr) : Prop := ∀ t j, r = .ok t j → t.nz ≤ 0
def Kys (_ : Nat) (r : PR (List Tr)) : Prop := ∀ t j, r = .ok t j → Tr.nzs t ≤ 0
theorem deep_ky {f : Nat → Nat → PR Tr} {d i : Nat} (h : Ky i (f (d + 1) i)) : Ky i (deepP l f d i) := by
 unfold deepP
 split
 ·
  intro t j e; cases e
 ·
  exact h
theorem listLoop_ky {shut : ByteArray} {begins : Nat → Bool} {part : Nat → PR Tr} (hp : ∀ i, Ky i (part i)) : ∀ k acc i t j, listLoop l shut begins part k acc i = .ok t j → Tr.nzs t ≤ Tr.nzs acc := by
 intro k
 induction k with
 | zero => intro acc i t j h; cases h
 | succ k ih =>
  intro acc i t j h; unfold listLoop at h
  split at h
  ·
   cases h
  ·
   obtain ⟨u, i1, h1, h⟩ := binds h; have := hp i u i1 h1
   split at h
   ·
    cases h; rw [nzs_app, nzs_cons, nzs_nil]; first | omega | (simp [b23] <;> omega) | (simp [b23] at * <;> omega)
   ·
    obtain ⟨_, i2, h2, h⟩ := binds h; have h3 := must_eq h2; have h4 := ih _ _ _ _ h; rw [nzs_app, nzs_cons, nzs_nil] at h4
    first | omega | (simp [b23] <;> omega) | (simp [b23] at * <;> omega)
theorem list_ky {opn shut : ByteArray} {begins : Nat → Bool} {part : Nat → PR Tr} (hp : ∀ i, Ky i (part i)) {k i j : Nat} {t : List Tr} (h : listP l opn shut begins part k i = .ok t j) : Tr.nzs t ≤ 0 := by
 unfold listP at h
 obtain ⟨_, i1, h1, h⟩ := binds h
 have h2 := must_eq h1
 split at h
 ·
  cases h; rw [nzs_nil]; first | omega | (simp [b23] <;> omega) | (simp [b23] at * <;> omega)
 ·
  have := listLoop_ky hp _ _ _ _ _ h; rw [nzs_nil] at this
  first | omega | (simp [b23] <;> omega) | (simp [b23] at * <;> omega)
structure FKy (l : List Tk) (F : Fns) : Prop where
 nm : TkNm l
 st : ∀ d i, Ky i (F.st d i)
 vl : ∀ d i, Ky i (F.vl d i)
 pr : ∀ b d i, Ky i (F.pr b d i)
 sg : ∀ d i, Ky i (F.sg d i)
variable {F : Fns} (hF : FKy l F)
include hF
theorem blockLoop_ky {d : Nat} : ∀ k acc i t j, blockLoop l F d k acc i = .ok t j → Tr.nzs t ≤ Tr.nzs acc := by
 intro k
 induction k with
 | zero => intro acc i t j h; cases h
 | succ k ih =>
  intro acc i t j h; unfold blockLoop at h
  split at h
  ·
   cases h; first | omega | (simp [b23] <;> omega) | (simp [b23] at * <;> omega)
  ·
   obtain ⟨u, i1, h1, h⟩ := binds h; have h2 := deep_ky (l := l) (hF.st _ _) u i1 h1; have h4 := ih _ _ _ _ h; rw [nzs_app, nzs_cons, nzs_nil] at h4
   first | omega | (simp [b23] <;> omega) | (simp [b23] at * <;> omega)
theorem block_ky {d i j : Nat} {t : Tr} (h : blockP l F d i = .ok t j) : t.nz ≤ 0 := by
 unfold blockP at h
 obtain ⟨_, i1, h1, h⟩ := binds h
 obtain ⟨ts, i2, h2, h⟩ := binds h
 cases h
 have h3 := must_eq h1
 have h4 := blockLoop_ky hF _ _ _ _ _ h2
 rw [nzs_nil] at h4
 rw [nz_mk]; first | omega | (simp [b23] <;> omega) | (simp [b23] at * <;> omega)
omit hF in
theorem block_sixY {d i j : Nat} {t : Tr} (h : blockP l F d i = .ok t j) : t.kd = 6 := by
 unfold blockP at h
 obtain ⟨_, i1, h1, h⟩ := binds h
 obtain ⟨ts, i2, h2, h⟩ := binds h
 cases h
 rfl
omit hF in
theorem name_nm (hl : TkNm l) {i j : Nat} {s : ByteArray} (h : nameP l i = .ok s j) : nmB s = true := by
 unfold nameP at h
 split at h
 ·
  rename_i hk
  cases h; exact hl i hk
 ·
  cases h
omit hF in
theorem param_ky (hl : TkNm l) (i : Nat) : Ky i (paramP l i) := by
 intro t j h
 unfold paramP at h
 obtain ⟨_, i1, h1, h⟩ := binds h
 cases h
 rw [nz_mk, nzs_nil, b23_yes (name_nm hl h1)]; omega
omit hF in
theorem params_ky (hl : TkNm l) {i j : Nat} {t : Tr} (h : paramsP l F i = .ok t j) : t.nz ≤ 0 := by
 unfold paramsP at h
 obtain ⟨ts, i1, h1, h⟩ := binds h
 cases h
 have := list_ky (param_ky hl) h1
 rw [nz_mk]; first | omega | (simp [b23] <;> omega) | (simp [b23] at * <;> omega)
theorem arg_ky (d i : Nat) : Ky i (argP l F d i) := deep_ky (hF.vl _ _)
theorem prop_ky (d i : Nat) : Ky i (propP l F d i) := by
 intro t j h
 unfold propP at h
 obtain ⟨_, i1, h1, h⟩ := binds h
 obtain ⟨_, i2, h2, h⟩ := binds h
 obtain ⟨u, i3, h3, h⟩ := binds h
 cases h
 have e1 := name_eq h1
 have e2 := must_eq h2
 have e3 := deep_ky (l := l) (hF.vl _ _) u _ h3
 rw [nz_mk, nzs_cons, nzs_nil]; first | omega | (simp [b23] <;> omega) | (simp [b23] at * <;> omega)
theorem inPar_ky (d i : Nat) : Ky i (inParP l F d i) := by
 intro t j h
 unfold inParP at h
 obtain ⟨_, i1, h1, h⟩ := binds h
 obtain ⟨u, i2, h2, h⟩ := binds h
 obtain ⟨_, i3, h3, h⟩ := binds h
 cases h
 have e1 := must_eq h1
 have e2 := deep_ky (l := l) (hF.vl _ _) _ _ h2
 have e3 := must_eq h3
 first | omega | (simp [b23] <;> omega) | (simp [b23] at * <;> omega)
theorem object_ky (d i : Nat) : Ky i (objectP l F d i) := by
 intro t j h
 unfold objectP at h
 obtain ⟨ts, i1, h1, h⟩ := binds h
 cases h
 have := list_ky (prop_ky hF d) h1
 rw [nz_mk]; first | omega | (simp [b23] <;> omega) | (simp [b23] at * <;> omega)
theorem tail_ky {kd : Int} (hk : kd ≠ 23) {s : ByteArray} {d i j : Nat} {t : Tr} (h : funcTail l F kd s d i = .ok t j) : t.nz ≤ 0 := by
 unfold funcTail at h
 obtain ⟨ps, i1, h1, h⟩ := binds h
 obtain ⟨b, i2, h2, h⟩ := binds h
 cases h
 have e1 := params_ky hF.nm h1
 have e2 := block_ky hF h2
 rw [nz_mk, nzs_cons, nzs_cons, nzs_nil, code_nz b (by rw [block_sixY h2]; decide), b23_no hk]; omega
theorem lambda_ky (d i : Nat) : Ky i (lambdaP l F d i) := by
 intro t j h
 unfold lambdaP at h
 obtain ⟨_, i1, h1, h⟩ := binds h
 have e1 := must_eq h1
 split at h
 ·
  obtain ⟨_, i2, h2, h⟩ := binds h; have e2 := name_eq h2; have := tail_ky hF (by decide) h
  first | omega | (simp [b23] <;> omega) | (simp [b23] at * <;> omega)
 ·
  have := tail_ky hF (by decide) h
  first | omega | (simp [b23] <;> omega) | (simp [b23] at * <;> omega)
theorem func_ky (d i : Nat) : Ky i (funcP l F d i) := by
 intro t j h
 unfold funcP at h
 obtain ⟨_, i1, h1, h⟩ := binds h
 obtain ⟨_, i2, h2, h⟩ := binds h
 have e1 := must_eq h1
 have e2 := name_eq h2
 have := tail_ky hF (by decide) h
 first | omega | (simp [b23] <;> omega) | (simp [b23] at * <;> omega)
theorem alone_ky (d i : Nat) : Ky i (aloneP l F d i) := by
 unfold aloneP
 split
 ·
  exact inPar_ky hF d i
 ·
  exact object_ky hF d i
 ·
  exact lambda_ky hF d i
 ·
  split
  ·
   rename_i hsg; intro t j h; cases h; rw [nz_mk, nzs_nil, b23_no (sg_23 hsg)]; omega
  ·
   split
   ·
    rename_i hk; intro t j h; cases h; rw [nz_mk, nzs_nil]; first | (rw [b23_no (by decide)]; done) | (rw [b23_no (by decide)]; omega) | (rw [b23_yes (hF.nm i (by simpa [isName] using hk))]; omega)
   ·
    split
    ·
     rename_i hk; intro t j h; cases h; rw [nz_mk, nzs_nil]; first | (rw [b23_no (by decide)]; done) | (rw [b23_no (by decide)]; omega) | (rw [b23_yes (hF.nm i (by simpa [isName] using hk))]; omega)
    ·
     split
     ·
      rename_i hk; intro t j h; cases h; rw [nz_mk, nzs_nil]; first | (rw [b23_no (by decide)]; done) | (rw [b23_no (by decide)]; omega) | (rw [b23_yes (hF.nm i (by simpa [isName] using hk))]; omega)
     ·
      intro t j h; cases h
theorem askedLoop_ky {d : Nat} : ∀ k u i t j, askedLoop l F d k u i = .ok t j → t.nz ≤ u.nz := by
 intro k
 induction k with
 | zero => intro u i t j h; cases h
 | succ k ih =>
  intro u i t j h; unfold askedLoop at h
  split at h
  ·
   obtain ⟨s, i1, h1, h⟩ := binds h; have e1 := name_eq h1; have e2 := ih _ _ _ _ h; rw [nz_mk, nzs_cons, nzs_nil] at e2; rw [b23_no (by decide)] at e2; omega
  ·
   split at h
   ·
    obtain ⟨ts, i1, h1, h⟩ := binds h; have e1 := list_ky (arg_ky hF d) h1; have e2 := ih _ _ _ _ h; rw [nz_mk, nzs_cons] at e2; rw [b23_no (by decide)] at e2; omega
   ·
    cases h; first | omega | (simp [b23] <;> omega) | (simp [b23] at * <;> omega)
theorem asked_ky (d i : Nat) : Ky i (askedP l F d i) := by
 intro t j h
 unfold askedP at h
 obtain ⟨u, i1, h1, h⟩ := binds h
 have e1 := alone_ky hF d i u i1 h1
 have e2 := askedLoop_ky hF _ _ _ _ _ h
 first | omega | (simp [b23] <;> omega) | (simp [b23] at * <;> omega)
theorem single_ky (d i : Nat) : Ky i (singleP l F d i) := by
 unfold singleP
 split
 ·
  rename_i hsg
  intro t j h; obtain ⟨u, i1, h1, h⟩ := binds h; cases h; have := deep_ky (l := l) (hF.sg _ _) u _ h1; rw [nz_mk, nzs_cons, nzs_nil, b23_no (sg_23 hsg)]; omega
 ·
  exact asked_ky hF d i
theorem pairLoop_ky {b : Int} {d : Nat} : ∀ k u i t j, pairLoop l F b d k u i = .ok t j → t.nz ≤ u.nz := by
 intro k
 induction k with
 | zero => intro u i t j h; cases h
 | succ k ih =>
  intro u i t j h; unfold pairLoop at h
  split at h
  ·
   cases h; first | omega | (simp [b23] <;> omega) | (simp [b23] at * <;> omega)
  ·
   rename_i hsg
   split at h
   ·
    cases h; first | omega | (simp [b23] <;> omega) | (simp [b23] at * <;> omega)
   ·
    obtain ⟨v, i1, h1, h⟩ := binds h; have e1 := hF.pr _ _ _ v i1 h1; have e2 := ih _ _ _ _ h; rw [nz_mk, nzs_cons, nzs_cons, nzs_nil, b23_no (sg_23 hsg)] at e2; omega
theorem pair_ky (b : Int) (d i : Nat) : Ky i (pairP l F b d i) := by
 intro t j h
 unfold pairP at h
 obtain ⟨u, i1, h1, h⟩ := binds h
 have e1 := hF.sg _ _ u i1 h1
 have e2 := pairLoop_ky hF _ _ _ _ _ h
 first | omega | (simp [b23] <;> omega) | (simp [b23] at * <;> omega)
theorem value_ky (d i : Nat) : Ky i (valueP l F d i) := by
 intro t j h
 unfold valueP at h
 obtain ⟨u, i1, h1, h⟩ := binds h
 have e1 := hF.pr _ _ _ u i1 h1
 split at h
 ·
  split at h
  ·
   obtain ⟨v, i2, h2, h⟩ := binds h; cases h; have e2 := deep_ky (l := l) (hF.vl _ _) v _ h2; rw [nz_mk, nzs_cons, nzs_cons, nzs_nil]; first | omega | (simp [b23] <;> omega) | (simp [b23] at * <;> omega)
  ·
   cases h
 ·
  cases h; exact e1
theorem part_ky (d q i : Nat) : Ky i (partP l F d q i) := by
 intro t j h
 unfold partP at h
 split at h
 ·
  unfold declP at h; obtain ⟨s, i1, h1, h⟩ := binds h; have e1 := name_eq h1
  split at h
  ·
   cases h
  ·
   split at h
   ·
    obtain ⟨v, i2, h2, h⟩ := binds h; obtain ⟨_, i3, h3, h⟩ := binds h; cases h; have e2 := deep_ky (l := l) (hF.vl _ _) v _ h2; have e3 := must_eq h3; rw [nz_mk, nzs_cons, nzs_nil, b23_no (hd_23 _)]; omega
   ·
    obtain ⟨_, i3, h3, h⟩ := binds h; cases h; have e3 := must_eq h3; rw [nz_mk, nzs_nil, b23_no (hd_23 _)]; omega
 ·
  exact func_ky hF d i t j h
 ·
  have := block_ky hF h; first | omega | (simp [b23] <;> omega) | (simp [b23] at * <;> omega)
 ·
  obtain ⟨_, i3, h3, h⟩ := binds h; cases h; have e3 := must_eq h3; rw [nz_mk, nzs_nil]; first | omega | (simp [b23] <;> omega) | (simp [b23] at * <;> omega)
 ·
  unfold choiceP at h; obtain ⟨v, i1, h1, h⟩ := binds h; obtain ⟨s, i2, h2, h⟩ := binds h; have e1 := inPar_ky hF d _ v i1 h1; have e2 := deep_ky (l := l) (hF.st _ _) s _ h2
  split at h
  ·
   obtain ⟨s2, i3, h3, h⟩ := binds h; cases h; have e3 := deep_ky (l := l) (hF.st _ _) s2 _ h3; rw [nz_mk, nzs_cons, nzs_cons, nzs_cons, nzs_nil, b23_no (hd_23 _)]; omega
  ·
   cases h; rw [nz_mk, nzs_cons, nzs_cons, nzs_nil, b23_no (hd_23 _)]; omega
 ·
  unfold behindP at h; obtain ⟨v, i1, h1, h⟩ := binds h; obtain ⟨s, i2, h2, h⟩ := binds h; cases h; have e1 := inPar_ky hF d _ v i1 h1; have e2 := deep_ky (l := l) (hF.st _ _) s _ h2
  rw [nz_mk, nzs_cons, nzs_cons, nzs_nil, b23_no (hd_23 _)]; omega
 ·
  unfold givingP at h
  split at h
  ·
   obtain ⟨v, i1, h1, h⟩ := binds h; obtain ⟨_, i2, h2, h⟩ := binds h; cases h; have e1 := deep_ky (l := l) (hF.vl _ _) v _ h1; have e2 := must_eq h2; rw [nz_mk, nzs_cons, nzs_nil, b23_no (hd_23 _)]; omega
  ·
   obtain ⟨_, i2, h2, h⟩ := binds h; cases h; have e2 := must_eq h2; rw [nz_mk, nzs_nil, b23_no (hd_23 _)]; omega
 ·
  unfold attemptP at h; obtain ⟨_, i0, h0, h⟩ := binds h; obtain ⟨b, i1, h1, h⟩ := binds h; obtain ⟨c, i2, h2, h⟩ := binds h; obtain ⟨f, i3, h3, h⟩ := binds h; have e0 := must_eq h0; have e1 := block_ky hF h1
  have e2 : Tr.nzs c ≤ 0 := by
   unfold catchP at h2
   split at h2
   ·
    obtain ⟨_, k1, g1, h2⟩ := binds h2; obtain ⟨_, k2, g2, h2⟩ := binds h2; obtain ⟨_, k3, g3, h2⟩ := binds h2; obtain ⟨bb, k4, g4, h2⟩ := binds h2; cases h2; have := must_eq g1; have := name_eq g2; have := must_eq g3
    have := block_ky hF g4; rw [nzs_cons, nz_mk, nzs_cons, nzs_nil]; first | omega | (simp [b23] <;> omega) | (simp [b23] at * <;> omega)
   ·
    cases h2; rw [nzs_nil]; first | omega | (simp [b23] <;> omega) | (simp [b23] at * <;> omega)
  have e3 : Tr.nzs f ≤ 0 := by
   unfold finallyP at h3
   split at h3
   ·
    obtain ⟨bb, k4, g4, h3⟩ := binds h3; cases h3; have := block_ky hF g4; rw [nzs_cons, nz_mk, nzs_cons, nzs_nil]; first | omega | (simp [b23] <;> omega) | (simp [b23] at * <;> omega)
   ·
    cases h3; rw [nzs_nil]; first | omega | (simp [b23] <;> omega) | (simp [b23] at * <;> omega)
  split at h
  ·
   cases h
  ·
   cases h; rw [nz_mk, nzs_cons, nzs_app]; first | omega | (simp [b23] <;> omega) | (simp [b23] at * <;> omega)
theorem statement_ky (d i : Nat) : Ky i (statementP l F d i) := by
 unfold statementP
 split
 ·
  exact part_ky hF d _ i
 ·
  intro t j h; unfold exprP at h; obtain ⟨v, i1, h1, h⟩ := binds h; obtain ⟨_, i2, h2, h⟩ := binds h; cases h; have e1 := deep_ky (l := l) (hF.vl _ _) v _ h1; have e2 := must_eq h2
  rw [nz_mk, nzs_cons, nzs_nil]; first | omega | (simp [b23] <;> omega) | (simp [b23] at * <;> omega)
omit hF in
theorem fns_ky (hl : TkNm l) : ∀ k, FKy l (fns l k) := by
 intro k
 induction k with
 | zero => exact ⟨hl, fun _ _ _ _ h => by (cases h), fun _ _ _ _ h => by (cases h), fun _ _ _ _ _ h => by (cases h), fun _ _ _ _ h => by (cases h)⟩
 | succ k ih => exact ⟨hl, statement_ky ih, value_ky ih, pair_ky ih, single_ky ih⟩
theorem progLoop_ky : ∀ k acc i t j, progLoop l F k acc i = .ok t j → Tr.nzs t ≤ Tr.nzs acc := by
 intro k
 induction k with
 | zero => intro acc i t j h; cases h
 | succ k ih =>
  intro acc i t j h; unfold progLoop at h
  split at h
  ·
   cases h; first | omega | (simp [b23] <;> omega) | (simp [b23] at * <;> omega)
  ·
   obtain ⟨u, i1, h1, h⟩ := binds h; have h2 := deep_ky (l := l) (hF.st _ _) u i1 h1; have h4 := ih _ _ _ _ h; rw [nzs_app, nzs_cons, nzs_nil] at h4
   first | omega | (simp [b23] <;> omega) | (simp [b23] at * <;> omega)
theorem prog_ky {t : Tr} {j : Nat} (h : progP l F = .ok t j) : t.nz ≤ 0 := by
 unfold progP at h
 obtain ⟨ts, i1, h1, h⟩ := binds h
 cases h
 have := progLoop_ky hF _ _ _ _ _ h1
 rw [nzs_nil] at this
 rw [code_nz (Tr.mk 1 noText 0 ts) (show (1 : Int) ≠ 23 by decide), nz_mk]; first | omega | (simp [b23] <;> omega) | (simp [b23] at * <;> omega)
end
theorem nzs_all : ∀ (ks : List Tr), Tr.nzs ks = 0 → ∀ k ∈ ks, k.nz = 0
 | [], _ => fun k hk => absurd hk (by simp)
 | t :: ts, h => fun k hk => by
  rw [nzs_cons] at h
  rcases List.mem_cons.1 hk with rfl | hk
  ·
   omega
  ·
   exact nzs_all ts (by omega) k hk
theorem nz_of (t : Tr) (h : t.nz = 0) : (t.kd = 23 → nmB t.tx = true) ∧ ∀ k ∈ t.kids, k.nz = 0 := by
 cases t with
 | mk kd tx n ks =>
  rw [nz_mk] at h; refine ⟨fun e => ?_, nzs_all ks (by omega)⟩; have e' : kd = 23 := e; have h1 : b23 kd tx = 0 := by omega
  unfold b23 at h1
  cases hn : nmB tx with
  | true => exact hn
  | false => rw [if_pos ⟨e', hn⟩] at h1; omega
theorem tw_all {α : Type} (p : α → Bool) : ∀ (l : List α), ∀ b ∈ l.takeWhile p, p b = true
 | [], b, h => by cases h
 | a :: l, b, h => by
  rw [List.takeWhile_cons] at h
  split at h
  ·
   rename_i ha
   rcases List.mem_cons.1 h with rfl | h
   ·
    exact ha
   ·
    exact tw_all p l b h
  ·
   cases h
theorem ext_lod (s : ByteArray) (k : Nat) (h : k ≤ s.size) : ∀ b ∈ (s.extract k (pastN lodB s k)).data.toList, lodB (b.toNat : Int) = true := by
 intro b hb
 have hle := pastN_le lodB s k h
 rw [ByteArray.data_extract, Array.toList_extract, List.extract_eq_take_drop] at hb
 have h1 : pastN lodB s k - k = ((s.data.toList.drop k).takeWhile (fun b => lodB (b.toNat : Int))).length := by unfold pastN; omega
 rw [h1] at hb
 have h2 : (s.data.toList.drop k).take ((s.data.toList.drop k).takeWhile (fun b => lodB (b.toNat : Int))).length = (s.data.toList.drop k).takeWhile (fun b => lodB (b.toNat : Int)) := by
  obtain ⟨m, hm⟩ := List.takeWhile_prefix (l := s.data.toList.drop k) (fun b => lodB (b.toNat : Int))
  conv => lhs; arg 2; rw [← hm]
  exact List.take_left' rfl
 rw [h2] at hb
 exact tw_all _ _ b hb
theorem rd_nm {s : ByteArray} {k : Nat} {n : Int} {x : ByteArray} {e : Nat} (hk : k < s.size) (h : rdTok wordsS signsS s k = .tok 1 x n e) : nmB x = true := by
 unfold rdTok at h
 split at h
 ·
  rename_i hlet
  unfold rdName at h
  split at h
  ·
   cases h
  ·
   rename_i hno
   split at h
   ·
    cases h
   ·
    rename_i hsm
    cases h; have hle := pastN_le lodB s k (by omega); have hgt : k < pastN lodB s k := by
     have h1 : lodB (s[k].toNat : Int) = true := by unfold lodB; rw [← bt_eq s k hk, hlet]; rfl
     have h2 := pastN_go lodB s k hk h1; have h3 := pastN_ge lodB s (k + 1); omega
    have hsz : (s.extract k (pastN lodB s k)).size = pastN lodB s k - k := by rw [ByteArray.size_extract]; omega
    have hb0 : bt (s.extract k (pastN lodB s k)) 0 = bt s k := by
     unfold bt; rw [ByteArray.data_extract, Array.toList_extract, List.extract_eq_take_drop, List.getD_eq_getElem?_getD, List.getD_eq_getElem?_getD, List.getElem?_take, if_pos (by omega), List.getElem?_drop, Nat.add_zero]
    unfold nmB; simp only [Bool.and_eq_true, decide_eq_true_eq, List.all_eq_true, Bool.not_eq_true']; exact ⟨by omega, by omega, by rw [hb0]; exact hlet, ext_lod s k (by omega), by simpa using hno⟩
 ·
  split at h
  ·
   unfold rdNum at h; split at h <;> (try split at h) <;> (try split at h) <;> cases h
  ·
   split at h
   ·
    unfold rdStr at h; split at h <;> (try split at h) <;> cases h
   ·
    unfold rdSign at h; split at h <;> cases h
end Go.Proofs.YtodmgaikhbmlnaaGreatDoor
