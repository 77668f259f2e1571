/-
  Check of every program; what is right in strict code is right elsewhere, what is right outside of functions is right within.
-/
import Derived.Test.YtodmgaikhbmlnaaGreatDoorEm35
import Derived.Test.YtodmgaikhbmlnaaGreatDoorEm4
set_option maxRecDepth 100000
set_option maxHeartbeats 16000000
namespace Go.Proofs.YtodmgaikhbmlnaaGreatDoor
open Go.RowKit

theorem check_all : ∀ m, ChkAt m := by
  intro m
  induction m with
  | zero =>
    intro t ht
    cases t with
    | mk kd tx nn ks => rw [count_mk] at ht; omega
  | succ m ih =>
    intro t ht hill hc p s i b w h
    cases s with
    | true =>
      cases hf : isFunT t with
      | true => exact chkTF ih t ht hill hc p i b w h hf
      | false => exact chkTN ih t ht hill hc p i b w h hf
    | false =>
      cases hf : isFunT t with
      | false => exact chkFN ih t ht hill hc p i b w h hf
      | true =>
        cases hs : strictT t with
        | true => exact chkFT ih t ht hill hc p i b w h hf hs
        | false => exact chkFF ih t ht hill hc p i b w h hf hs

theorem Check_any (t : Tr) (p : Nat) (s i : Bool) (w : World) (h : NTr w t p) (hill : t.ill = 0) (hc : t.count ≤ 20000) : Calls Tryz.prog 42 #[nPtr p, .bool s, .bool i] w fun e w' => e = .returned (erV (chk t s i false)) ∧ Below w.heap.size w w' := by
  have HC := hide (check_all t.count t (Nat.le_refl _) hill hc p s i false w h)
  clear h hill hc
  generalize chk t s i false = r at HC
  cases r <;>
  · go_enter Tryz.func42, Tryz.ntmps42
    go_wp2_with fail
    refine Calls.mono HC.out ?_
    rintro e w1 ⟨rfl, hb⟩
    have HB := hide hb
    clear HC hb
    unfold erV
    go_wp2_with fail
    go_ret
    exact ⟨rfl, unhide HB⟩

theorem nmE_mono {s s' : Bool} {x : ByteArray} (hs : s' = true → s = true) (h : nmE s x = none) : nmE s' x = none := by
  unfold nmE at h ⊢
  cases s' with
  | false => rfl
  | true => rw [hs rfl] at h; exact h
theorem parF_mono {s s' : Bool} {P : List Tr} {k : Nat} (hs : s' = true → s = true) (h : parF s P k = none) : parF s' P k = none := by
  unfold parF at h ⊢
  cases h1 : nmE s (txAt P k) with
  | some e => rw [h1] at h; cases h
  | none =>
    rw [h1] at h
    rw [nmE_mono hs h1]
    cases s' with
    | false => rfl
    | true => rw [hs rfl] at h; exact h
theorem firstE_mono {f g : Nat → Option Int} (hfg : ∀ k, f k = none → g k = none) : ∀ n, firstE f n = none → firstE g n = none
  | 0, _ => rfl
  | n + 1, h => by
    rw [firstE] at h ⊢
    cases h1 : firstE f n with
    | some e => rw [h1] at h; cases h
    | none =>
      rw [h1] at h
      rw [firstE_mono hfg n h1]
      exact hfg n h
theorem fnE_mono {s s' : Bool} {t : Tr} (hs : s' = true → s = true) (h : fnE t s = none) : fnE t s' = none := by
  unfold fnE at h ⊢
  cases h1 : nmE s t.tx with
  | some e => rw [h1] at h; cases h
  | none =>
    rw [h1] at h
    rw [nmE_mono hs h1]
    cases h2 : parE s (kidT t 0).kids with
    | some e => simp only [h2] at h; cases h
    | none =>
      simp only [h2] at h
      have h3 : parE s' (kidT t 0).kids = none := firstE_mono (fun k => parF_mono hs) _ h2
      simp only [h3]
      exact h
theorem catchE_mono {s s' : Bool} {t : Tr} (hs : s' = true → s = true) (h : catchE t s = none) : catchE t s' = none := by
  unfold catchE at h ⊢
  cases h1 : nmE s t.tx with
  | some e => rw [h1] at h; cases h
  | none =>
    rw [h1] at h
    rw [nmE_mono hs h1]
    exact h
theorem brE_mono {s s' : Bool} {t : Tr} (hs : s' = true → s = true) (h : brE t s = none) : brE t s' = none := by
  unfold brE at h ⊢
  cases s' with
  | true => rw [hs rfl] at h; exact h
  | false =>
    split at h
    · cases h
    · rename_i hn
      rw [if_neg]
      intro hh
      exact hn (by simp at hh ⊢; exact Or.inr hh)
theorem wrT_mono {t : Tr} {s s' i i' b : Bool} (hs : s' = true → s = true) (hi : i = true → i' = true) (h : wrT t s i b = none) : wrT t s' i' b = none := by
  unfold wrT at h ⊢
  split at h
  · rename_i k; rw [if_pos k]; exact h
  rename_i k1; rw [if_neg k1]
  split at h
  · rename_i k; rw [if_pos k]; exact h
  rename_i k2; rw [if_neg k2]
  split at h
  · rename_i k; rw [if_pos k]; exact fnE_mono hs h
  rename_i k3; rw [if_neg k3]
  split at h
  · rename_i k; rw [if_pos k]; exact nmE_mono hs h
  rename_i k4; rw [if_neg k4]
  split at h
  · rename_i k; rw [if_pos k]; exact catchE_mono hs h
  rename_i k5; rw [if_neg k5]
  split at h
  · rename_i k; rw [if_pos k]; exact brE_mono hs h
  rename_i k6; rw [if_neg k6]
  split at h
  · rename_i k
    rw [if_pos k]
    split at h
    · rename_i hh; rw [if_pos (hi hh)]
    · cases h
  rename_i k7; rw [if_neg k7]
  split at h
  · rename_i k
    rw [if_pos k]
    split at h
    · rename_i hh; rw [if_pos hh]; exact nmE_mono hs h
    · rename_i hh; rw [if_neg hh]
  rename_i k8; rw [if_neg k8]
  split at h
  · rename_i k
    rw [if_pos k]
    cases s' with
    | false => rfl
    | true => rw [hs rfl] at h; exact h
  · rename_i k; rw [if_neg k]
theorem s2_mono {t : Tr} {s s' : Bool} (hs : s' = true → s = true) : s2 t s' = true → s2 t s = true := by
  unfold s2
  cases s' with
  | false => cases s <;> cases isFunT t <;> simp <;> exact fun h => h
  | true => rw [hs rfl]; exact fun h => h
theorem i2_mono {t : Tr} {i i' : Bool} (hi : i = true → i' = true) : i2 t i = true → i2 t i' = true := by
  unfold i2
  cases isFunT t with
  | true => exact fun h => h
  | false => exact hi
mutual
theorem chk_mono : ∀ (t : Tr) {s s' i i' b : Bool}, (s' = true → s = true) → (i = true → i' = true) → chk t s i b = none → chk t s' i' b = none
  | .mk kd tx n ks, s, s', i, i', b, hs, hi, h => by
    rw [chk] at h ⊢
    cases h1 : wrT (.mk kd tx n ks) (s2 (.mk kd tx n ks) s) (i2 (.mk kd tx n ks) i) b with
    | some e => rw [h1] at h; cases h
    | none =>
      rw [h1] at h
      rw [wrT_mono (s2_mono hs) (i2_mono hi) h1]
      exact chks_mono ks (s2_mono hs) (i2_mono hi) h
theorem chks_mono : ∀ (ts : List Tr) {s s' i i' b : Bool}, (s' = true → s = true) → (i = true → i' = true) → chks ts s i b = none → chks ts s' i' b = none
  | [], _, _, _, _, _, _, _, _ => by rw [chks]
  | t :: ts, s, s', i, i', b, hs, hi, h => by
    rw [chks] at h ⊢
    cases h1 : chk t s i b with
    | some e => rw [h1] at h; cases h
    | none =>
      rw [h1] at h
      rw [chk_mono t hs hi h1]
      exact chks_mono ts hs hi h
end
end Go.Proofs.YtodmgaikhbmlnaaGreatDoor
namespace Go.Proofs.YtodmgaikhbmlnaaGreatDoor
open Go.ChangeShapes Go.WideShapes Go.ChangeAt Go.WideMaps Go.WideElems Go.RowKit

def jn (a b : ByteArray) : ByteArray := ⟨(a.data.toList ++ 10 :: b.data.toList).toArray⟩
theorem jn_list (a b : ByteArray) : (jn a b).data.toList = a.data.toList ++ 10 :: b.data.toList := by simp [jn]
theorem len_list (a : ByteArray) : a.data.toList.length = a.size := by simp
theorem jn_size (a b : ByteArray) : (jn a b).size = a.size + 1 + b.size := by
  rw [← len_list, jn_list]; simp; omega

theorem jn_bt_lt (a b : ByteArray) (i : Nat) (h : i < a.size) : bt (jn a b) i = bt a i := by
  unfold bt
  rw [jn_list, List.getD_eq_getElem?_getD, List.getD_eq_getElem?_getD, List.getElem?_append_left (by rw [len_list]; exact h)]
theorem jn_bt_sh (a b : ByteArray) (i : Nat) : bt (jn a b) (a.size + 1 + i) = bt b i := by
  unfold bt
  rw [jn_list, List.getD_eq_getElem?_getD, List.getD_eq_getElem?_getD, List.getElem?_append_right (by rw [len_list]; omega), len_list]
  rw [show a.size + 1 + i - a.size = i + 1 by omega, List.getElem?_cons_succ]

theorem jn_drop_le (a b : ByteArray) (k : Nat) (h : k ≤ a.size) : (jn a b).data.toList.drop k = a.data.toList.drop k ++ 10 :: b.data.toList := by
  rw [jn_list, List.drop_append_of_le_length (by rw [len_list]; exact h)]
theorem jn_drop_sh (a b : ByteArray) (k : Nat) : (jn a b).data.toList.drop (a.size + 1 + k) = b.data.toList.drop k := by
  rw [jn_list, List.drop_append, List.drop_of_length_le (by rw [len_list]; omega), len_list, show a.size + 1 + k - a.size = k + 1 by omega]
  rfl

theorem jn_past (p : Int → Bool) (a b : ByteArray) (k : Nat) (h : k ≤ a.size) (hp : p 10 = false) : pastN p (jn a b) k = pastN p a k := by
  unfold pastN
  rw [jn_drop_le a b k h, List.takeWhile_append, List.takeWhile_cons]
  have : p (((10 : UInt8).toNat : Nat) : Int) = false := hp
  rw [this]
  simp only [Bool.false_eq_true, if_false, List.append_nil]
  split
  · rename_i h1
    rw [h1]
  · rfl
theorem jn_past_sh (p : Int → Bool) (a b : ByteArray) (k : Nat) : pastN p (jn a b) (a.size + 1 + k) = a.size + 1 + pastN p b k := by
  unfold pastN
  rw [jn_drop_sh]; omega
theorem jn_past_gap (p : Int → Bool) (a b : ByteArray) (k : Nat) (h : k ≤ a.size) (hp : p 10 = true) :
    pastN p (jn a b) k = if pastN p a k < a.size then pastN p a k else a.size + 1 + pastN p b 0 := by
  have hle := pastN_le p a k h
  unfold pastN at hle ⊢
  rw [jn_drop_le a b k h, List.takeWhile_append, List.takeWhile_cons]
  have : p (((10 : UInt8).toNat : Nat) : Int) = true := hp
  rw [this]
  have hd : (a.data.toList.drop k).length = a.size - k := by rw [List.length_drop, len_list]
  simp only [if_true, List.drop_zero]
  split
  · rename_i h1
    rw [if_neg (by omega)]
    simp only [List.length_append, List.length_cons]
    omega
  · rename_i h1
    rw [if_pos (by omega)]

theorem jn_extract (a b : ByteArray) (k e : Nat) (h : e ≤ a.size) : (jn a b).extract k e = a.extract k e := by
  apply bytes_inj
  rw [ByteArray.data_extract, ByteArray.data_extract, Array.toList_extract, Array.toList_extract, jn_list]
  simp only [List.extract_eq_take_drop]
  by_cases hk : k ≤ a.size
  · rw [List.drop_append_of_le_length (by rw [len_list]; exact hk), List.take_append_of_le_length (by rw [List.length_drop, len_list]; omega)]
  · rw [show e - k = 0 by omega]; simp
theorem jn_extract_sh (a b : ByteArray) (k e : Nat) : (jn a b).extract (a.size + 1 + k) (a.size + 1 + e) = b.extract k e := by
  apply bytes_inj
  rw [ByteArray.data_extract, ByteArray.data_extract, Array.toList_extract, Array.toList_extract]
  simp only [List.extract_eq_take_drop]
  rw [jn_drop_sh, show a.size + 1 + e - (a.size + 1 + k) = e - k by omega]

theorem lod10 : lodB 10 = false := by decide
theorem dig10 : digB 10 = false := by decide
theorem gap10 : gapB 10 = true := by decide

theorem jn_name (ws : List ByteArray) (a b : ByteArray) (k : Nat) (h : k ≤ a.size) : rdName ws (jn a b) k = rdName ws a k := by
  unfold rdName
  rw [jn_past lodB a b k h lod10, jn_extract a b k _ (pastN_le lodB a k h)]
theorem jn_num (a b : ByteArray) (k : Nat) (h : k < a.size) : rdNum (jn a b) k = rdNum a k := by
  unfold rdNum
  rw [jn_past digB a b k (by omega) dig10, jn_extract a b k _ (pastN_le digB a k (by omega))]
  have := jn_bt_lt a b k h
  unfold bt at this
  rw [this]

theorem jn_str (a b : ByteArray) : ∀ n i said l e, a.size - i = n → strR a i said = .ok l e → strR (jn a b) i said = .ok l e := by
  intro n
  induction n using Nat.strongRecOn with
  | ind n ih =>
    intro i said l e hn h
    have hj := jn_size a b
    by_cases hlt : i < a.size
    · have hb := jn_bt_lt a b i hlt
      by_cases c1 : bt a i = 39
      · rw [strR_quote a i said hlt c1] at h
        rw [strR_quote (jn a b) i said (by omega) (by rw [hb]; exact c1)]
        exact h
      · by_cases c2 : bt a i = 10
        · rw [strR_lf a i said hlt c2] at h; cases h
        · by_cases c3 : bt a i = 92
          · by_cases h1 : i + 1 < a.size
            · cases hm : esc (bt a (i + 1)) with
              | none => rw [strR_noesc a i said hlt c3 (fun _ => hm)] at h; cases h
              | some m =>
                rw [strR_esc a i said m hlt c3 h1 hm] at h
                rw [strR_esc (jn a b) i said m (by omega) (by rw [hb]; exact c3) (by omega) (by rw [jn_bt_lt a b _ h1]; exact hm)]
                exact ih (a.size - (i + 2)) (by omega) (i + 2) _ l e rfl h
            · rw [strR_noesc a i said hlt c3 (fun hh => absurd hh h1)] at h; cases h
          · rw [strR_plain a i said hlt c1 c2 c3] at h
            rw [strR_plain (jn a b) i said (by omega) (by rw [hb]; exact c1) (by rw [hb]; exact c2) (by rw [hb]; exact c3), hb]
            exact ih (a.size - (i + 1)) (by omega) (i + 1) _ l e rfl h
    · rw [strR_end a i said hlt] at h; cases h

theorem jn_str_sh (a b : ByteArray) : ∀ n i said l e, b.size - i = n → strR b i said = .ok l e → strR (jn a b) (a.size + 1 + i) said = .ok l (a.size + 1 + e) := by
  intro n
  induction n using Nat.strongRecOn with
  | ind n ih =>
    intro i said l e hn h
    have hj := jn_size a b
    by_cases hlt : i < b.size
    · have hb := jn_bt_sh a b i
      by_cases c1 : bt b i = 39
      · rw [strR_quote b i said hlt c1] at h
        rw [strR_quote (jn a b) _ said (by omega) (by rw [hb]; exact c1)]
        cases h
        rfl
      · by_cases c2 : bt b i = 10
        · rw [strR_lf b i said hlt c2] at h; cases h
        · by_cases c3 : bt b i = 92
          · by_cases h1 : i + 1 < b.size
            · cases hm : esc (bt b (i + 1)) with
              | none => rw [strR_noesc b i said hlt c3 (fun _ => hm)] at h; cases h
              | some m =>
                rw [strR_esc b i said m hlt c3 h1 hm] at h
                rw [strR_esc (jn a b) _ said m (by omega) (by rw [hb]; exact c3) (by omega) (by rw [show a.size + 1 + i + 1 = a.size + 1 + (i + 1) by omega, jn_bt_sh a b _]; exact hm)]
                exact ih (b.size - (i + 2)) (by omega) (i + 2) _ l e rfl h
            · rw [strR_noesc b i said hlt c3 (fun hh => absurd hh h1)] at h; cases h
          · rw [strR_plain b i said hlt c1 c2 c3] at h
            rw [strR_plain (jn a b) _ said (by omega) (by rw [hb]; exact c1) (by rw [hb]; exact c2) (by rw [hb]; exact c3), hb]
            exact ih (b.size - (i + 1)) (by omega) (i + 1) _ l e rfl h
    · rw [strR_end b i said hlt] at h; cases h

theorem pfx_iff (x p : ByteArray) : pfxB x p = true ↔ p.data.toList <+: x.data.toList := by
  unfold pfxB
  rw [Bool.and_eq_true, decide_eq_true_eq, beq_iff_eq]
  have e1 : (x.extract 0 p.size).data.toList = x.data.toList.take p.size := by
    rw [ByteArray.data_extract, Array.toList_extract]; simp [List.extract_eq_take_drop]
  have e2 : ∀ y : ByteArray, y.toList = y.data.toList := fun y => ByteArray.toList_eq y
  rw [e2, e2, e1, List.prefix_iff_eq_take, len_list]
  constructor
  · exact fun h => h.2.symm
  · intro h
    refine ⟨?_, h.symm⟩
    have := congrArg List.length h
    rw [List.length_take, len_list, len_list] at this
    omega

theorem prefix_10 (g l1 l2 : List UInt8) (hg : (10 : UInt8) ∉ g) : g <+: l1 ++ 10 :: l2 ↔ g <+: l1 := by
  constructor
  · intro h
    induction l1 generalizing g with
    | nil =>
      cases g with
      | nil => exact List.nil_prefix
      | cons x g =>
        rw [List.nil_append, List.cons_prefix_cons] at h
        exact absurd (by simp [h.1]) hg
    | cons y l1 ih =>
      cases g with
      | nil => exact List.nil_prefix
      | cons x g =>
        rw [List.cons_append, List.cons_prefix_cons] at h
        rw [List.cons_prefix_cons]
        exact ⟨h.1, ih g (fun hh => hg (by simp [hh])) h.2⟩
  · exact fun h => h.trans (List.prefix_append _ _)

theorem rest_list (s : ByteArray) (k : Nat) : (s.extract k s.size).data.toList = s.data.toList.drop k := by
  rw [ByteArray.data_extract, Array.toList_extract, List.extract_eq_take_drop, List.take_of_length_le (by rw [List.length_drop, len_list]; omega)]

theorem jn_pfx (a b g : ByteArray) (k : Nat) (h : k ≤ a.size) (hg : (10 : UInt8) ∉ g.data.toList) : pfxB ((jn a b).extract k (jn a b).size) g = pfxB (a.extract k a.size) g := by
  have : pfxB ((jn a b).extract k (jn a b).size) g = true ↔ pfxB (a.extract k a.size) g = true := by
    rw [pfx_iff, pfx_iff, rest_list, rest_list, jn_drop_le a b k h, prefix_10 _ _ _ hg]
  cases h1 : pfxB ((jn a b).extract k (jn a b).size) g <;> cases h2 : pfxB (a.extract k a.size) g <;> simp_all

theorem find_congr (gs : List ByteArray) (f f' : ByteArray → Bool) (h : ∀ g ∈ gs, f g = f' g) : gs.find? f = gs.find? f' := by
  induction gs with
  | nil => rfl
  | cons g gs ih =>
    rw [List.find?_cons, List.find?_cons, h g (by simp), ih (fun x hx => h x (by simp [hx]))]

theorem jn_sign (gs : List ByteArray) (a b : ByteArray) (k : Nat) (h : k ≤ a.size) (hg : ∀ g ∈ gs, (10 : UInt8) ∉ g.data.toList) : rdSign gs (jn a b) k = rdSign gs a k := by
  unfold rdSign
  rw [find_congr gs _ _ (fun g hm => jn_pfx a b g k h (hg g hm))]

theorem jn_tok (ws gs : List ByteArray) (a b : ByteArray) (k : Nat) (kd n : Int) (tx : ByteArray) (e : Nat) (h : k < a.size) (hg : ∀ g ∈ gs, (10 : UInt8) ∉ g.data.toList)
    (hr : rdTok ws gs a k = .tok kd tx n e) : rdTok ws gs (jn a b) k = .tok kd tx n e := by
  rw [← hr]
  unfold rdTok at hr ⊢
  rw [jn_bt_lt a b k h, jn_name ws a b k (by omega), jn_num a b k h, jn_sign gs a b k (by omega) hg]
  split
  · rfl
  · split
    · rfl
    · split
      · rename_i h1 h2 h3
        rw [if_neg h1, if_neg h2, if_pos h3] at hr
        unfold rdStr at hr ⊢
        cases hs : strR a (k + 1) [] with
        | ok l e' => rw [jn_str a b _ _ _ l e' rfl hs]
        | bad p => rw [hs] at hr; cases hr
      · rfl

def shRd (D : Nat) : Rd → Rd
  | .tok kd tx n e => .tok kd tx n (D + e)
  | .bad er p => .bad er (D + p)

theorem jn_tok_sh (ws gs : List ByteArray) (a b : ByteArray) (k : Nat) (kd n : Int) (tx : ByteArray) (e : Nat)
    (hr : rdTok ws gs b k = .tok kd tx n e) : rdTok ws gs (jn a b) (a.size + 1 + k) = .tok kd tx n (a.size + 1 + e) := by
  have key : rdTok ws gs (jn a b) (a.size + 1 + k) = shRd (a.size + 1) (rdTok ws gs b k) := by
    unfold rdTok at hr ⊢
    rw [jn_bt_sh a b k]
    split
    · unfold rdName
      rw [jn_past_sh, jn_extract_sh, show a.size + 1 + pastN lodB b k - (a.size + 1 + k) = pastN lodB b k - k by omega]
      split
      · rfl
      · split <;> rfl
    · split
      · unfold rdNum
        have := jn_bt_sh a b k
        unfold bt at this
        rw [jn_past_sh, jn_extract_sh, this, show a.size + 1 + pastN digB b k - (a.size + 1 + k) = pastN digB b k - k by omega]
        split
        · rfl
        · split
          · rfl
          · split <;> rfl
      · split
        · rename_i h1 h2 h3
          rw [if_neg h1, if_neg h2, if_pos h3] at hr
          unfold rdStr at hr ⊢
          cases hs : strR b (k + 1) [] with
          | ok l e' =>
            rw [show a.size + 1 + k + 1 = a.size + 1 + (k + 1) by omega, jn_str_sh a b _ _ _ l e' rfl hs]
            simp only
            split <;> rfl
          | bad p => rw [hs] at hr; cases hr
        · unfold rdSign
          rw [jn_size, show a.size + 1 + b.size = a.size + 1 + b.size from rfl, jn_extract_sh]
          split
          · simp only [shRd]; rw [Nat.add_assoc]
          · rfl
  rw [key, hr]
  rfl

def shTk (D : Nat) (t : Tk) : Tk := ⟨t.kd, t.tx, t.n, D + t.pl⟩

theorem toks_sh (ws gs : List ByteArray) (a b : ByteArray) (hgs : ∀ g ∈ gs, 1 ≤ g.size) : ∀ m i acc accJ l, b.size - i = m → i ≤ b.size → toksR ws gs b i acc = .ok l →
    ∃ l', l = acc ++ l' ∧ toksR ws gs (jn a b) (a.size + 1 + i) accJ = .ok (accJ ++ l'.map (shTk (a.size + 1))) := by
  intro m
  induction m using Nat.strongRecOn with
  | ind m ih =>
    intro i acc accJ l hm hi h
    have hj := jn_size a b
    by_cases hlt : i < b.size
    · cases hr : rdTok ws gs b i with
      | bad er p => rw [toksR_bad ws gs b i acc er p hlt hr] at h; cases h
      | tok kd tx n e =>
        have hb := rdTok_bounds ws gs b i kd n tx e hlt hgs hr
        rw [toksR_go ws gs b i acc kd n tx e hlt hr hb.1] at h
        have hge := pastN_ge gapB b e
        have hle := pastN_le gapB b e hb.2
        obtain ⟨l', h1, h2⟩ := ih (b.size - pastN gapB b e) (by omega) (pastN gapB b e) _ (accJ ++ [⟨kd, tx, n, a.size + 1 + i⟩]) l rfl hle h
        refine ⟨⟨kd, tx, n, i⟩ :: l', by rw [h1]; simp, ?_⟩
        rw [toksR_go ws gs (jn a b) _ accJ kd n tx (a.size + 1 + e) (by omega) (jn_tok_sh ws gs a b i kd n tx e hr) (by omega), jn_past_sh, h2]
        simp [shTk]
    · rw [toksR_end ws gs b i acc hlt] at h
      refine ⟨[⟨6, ⟨#[]⟩, 0, b.size⟩], by cases h; rfl, ?_⟩
      rw [toksR_end ws gs (jn a b) _ accJ (by omega), hj]
      simp [shTk]

theorem toks_jn (ws gs : List ByteArray) (a b : ByteArray) (hgs : ∀ g ∈ gs, 1 ≤ g.size) (hg : ∀ g ∈ gs, (10 : UInt8) ∉ g.data.toList) : ∀ m i acc l, a.size - i = m → i ≤ a.size → toksR ws gs a i acc = .ok l →
    ∃ l', l = l' ++ [⟨6, ⟨#[]⟩, 0, a.size⟩] ∧ toksR ws gs (jn a b) (if i < a.size then i else a.size + 1 + pastN gapB b 0) acc = toksR ws gs (jn a b) (a.size + 1 + pastN gapB b 0) l' := by
  intro m
  induction m using Nat.strongRecOn with
  | ind m ih =>
    intro i acc l hm hi h
    have hj := jn_size a b
    by_cases hlt : i < a.size
    · cases hr : rdTok ws gs a i with
      | bad er p => rw [toksR_bad ws gs a i acc er p hlt hr] at h; cases h
      | tok kd tx n e =>
        have hb := rdTok_bounds ws gs a i kd n tx e hlt hgs hr
        rw [toksR_go ws gs a i acc kd n tx e hlt hr hb.1] at h
        have hge := pastN_ge gapB a e
        have hle := pastN_le gapB a e hb.2
        obtain ⟨l', h1, h2⟩ := ih (a.size - pastN gapB a e) (by omega) (pastN gapB a e) _ l rfl hle h
        refine ⟨l', h1, ?_⟩
        rw [if_pos hlt, toksR_go ws gs (jn a b) _ acc kd n tx e (by omega) (jn_tok ws gs a b i kd n tx e hlt hg hr) (by omega), jn_past_gap gapB a b e hb.2 gap10]
        exact h2
    · rw [toksR_end ws gs a i acc hlt] at h
      refine ⟨acc, by cases h; rfl, ?_⟩
      rw [if_neg hlt]

/-- THE JOIN: the first text's tokens but for its end, then the second's, moved. -/
theorem toks_join (ws gs : List ByteArray) (a b : ByteArray) (la lb : List Tk) (hgs : ∀ g ∈ gs, 1 ≤ g.size) (hg : ∀ g ∈ gs, (10 : UInt8) ∉ g.data.toList)
    (ha : toksR ws gs a (pastN gapB a 0) [] = .ok la) (hb : toksR ws gs b (pastN gapB b 0) [] = .ok lb) :
    ∃ l', la = l' ++ [⟨6, ⟨#[]⟩, 0, a.size⟩] ∧ toksR ws gs (jn a b) (pastN gapB (jn a b) 0) [] = .ok (l' ++ lb.map (shTk (a.size + 1))) := by
  obtain ⟨l', h1, h2⟩ := toks_jn ws gs a b hgs hg _ (pastN gapB a 0) [] la rfl (pastN_le gapB a 0 (Nat.zero_le _)) ha
  refine ⟨l', h1, ?_⟩
  rw [jn_past_gap gapB a b 0 (Nat.zero_le _) gap10, h2]
  obtain ⟨l2, h3, h4⟩ := toks_sh ws gs a b hgs _ (pastN gapB b 0) [] l' lb rfl (pastN_le gapB b 0 (Nat.zero_le _)) hb
  rw [h4, h3]
  simp
end Go.Proofs.YtodmgaikhbmlnaaGreatDoor
