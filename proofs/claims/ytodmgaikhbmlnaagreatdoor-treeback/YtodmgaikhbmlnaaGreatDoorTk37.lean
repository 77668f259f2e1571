/-
  What the writer writes lexes to the tokens of what it writes: statements, a program.
-/
import Derived.Test.YtodmgaikhbmlnaaGreatDoorTk36
set_option maxRecDepth 100000
set_option maxHeartbeats 16000000
namespace Go.Proofs.YtodmgaikhbmlnaaGreatDoor
open Go.RowKit

theorem stW_mk (F : WF) (kd : Int) (tx : ByteArray) (n : Int) (ks : List Tr) (s : WS) : statementW F (.mk kd tx n ks) s = (if kd = 2 ∨ kd = 3 ∨ kd = 4 then lastW F (.mk kd tx n ks) (if 0 < ks.length then putsS [tEq] (putsS [hdText kd, tx] s) else putsS [hdText kd, tx] s)
  else if kd = 10 ∨ kd = 11 then lastW F (.mk kd tx n ks) (putsS [hdText kd] s)
  else if kd = 5 then functionW F (.mk kd tx n ks) s
  else if kd = 6 then blockW F (.mk kd tx n ks) s
  else if kd = 7 ∨ kd = 8 ∨ kd = 9 then behindW F (.mk kd tx n ks) s
  else if kd = 12 then attemptW F (.mk kd tx n ks) s
  else if kd = 15 then exprW F (.mk kd tx n ks) s
  else if kd = 16 then emptyW s
  else s) := rfl
theorem tryW_mk (F : WF) (kd : Int) (tx : ByteArray) (n : Int) (ks : List Tr) (s : WS) : tryW F (.mk kd tx n ks) s = (if kd = 6 then blockW F (.mk kd tx n ks) s
  else if kd = 13 then blockW F (ks.getD 0 noTr) (putsS [tCatch, tOpen, tx, tShut] s)
  else if kd = 14 then blockW F (ks.getD 0 noTr) (putsS [tFinally] s)
  else s) := rfl
section
variable {k : Nat} {F : WF} (hF : WX k F)
include hF
theorem blk_lx (b : Tr) (hb : Shp NmW 3 b) (hc : 2 * b.count ≤ k + 2) (hl : b.lt) (s : WS) (ts : List TS) (h : Lx s ts) : Lx (blockW F b s) (ts ++ b.toks) := by
  cases hb with
  | @blk bs hs => exact block_lx hF noText bs s ts (fun t ht => ⟨kid_lt hc t ht, hs t ht, lt_kids hl t ht⟩) h
theorem vls_lx (v : List Tr) (hv : ∀ u ∈ v, Shp NmW 0 u) (hn : v.length ≤ 1) (hc : ∀ u ∈ v, 2 * u.count ≤ k) (hl : ∀ u ∈ v, u.lt) (s : WS) (ts : List TS) (h : Lx s ts) : Lx (vlsW F v s) (ts ++ if 0 < v.length then (v.getD 0 noTr).at 1 else []) := by
  cases v with
  | nil => simpa [vlsW] using h
  | cons a r =>
    obtain rfl : r = [] := by cases r with | nil => rfl | cons b r => simp at hn
    rw [if_pos (by simp)]
    exact hF.vl 0 a 1 s ts (Or.inl rfl) (hc a (by simp)) (hv a (by simp)) (hl a (by simp)) h
theorem try_lx : ∀ (ks : List Tr) (s : WS) (ts : List TS), (∀ u ∈ ks, 2 * u.count ≤ k ∧ (Shp NmW 3 u ∨ Shp NmW 7 u ∨ Shp NmW 8 u) ∧ u.lt) → Lx s ts → Lx (ks.foldl (fun s k => tryW F k s) s) (ts ++ (ks.map Tr.toks).flatten)
  | [], s, ts, _, h => by simpa using h
  | a :: ks, s, ts, hk, h => by
    obtain ⟨h1, h2, h3⟩ := hk a (by simp)
    have ha : Lx (tryW F a s) (ts ++ a.toks) := by
      rcases h2 with h2 | h2 | h2
      · have h4 := blk_lx hF a h2 (by omega) h3 s ts h
        cases h2 with
        | blk => rw [tryW_mk, if_pos (show (6 : Int) = 6 from rfl)]; exact h4
      · cases h2 with
        | @cat x b hx hb =>
          rw [tryW_mk, if_neg (show ¬ (13 : Int) = 6 by decide), if_pos (show (13 : Int) = 13 from rfl), toks_cat]
          have h5 := ((h.puts2 (tokW (x := tCatch) (by decide)) (tokS (x := tOpen) (by decide))).puts2 (tok_name hx) (tokS (x := tShut) (by decide)))
          have h4 := blk_lx hF b hb (by have := kid_lt (k := k) (by omega) b (List.mem_singleton.2 rfl) (kd := 13) (tx := x) (n := 0) (ks := [b]); omega) (lt_kids h3 b (by simp)) _ _ h5
          exact h4.cast (by simp)
      · cases h2 with
        | @fin b hb =>
          rw [tryW_mk, if_neg (show ¬ (14 : Int) = 6 by decide), if_neg (show ¬ (14 : Int) = 13 by decide), if_pos (show (14 : Int) = 14 from rfl), toks_fin]
          have h4 := blk_lx hF b hb (by have := kid_lt (k := k) (by omega) b (List.mem_singleton.2 rfl) (kd := 14) (tx := noText) (n := 0) (ks := [b]); omega) (lt_kids h3 b (by simp)) _ _ (h.puts1 (tokW (x := tFinally) (by decide)))
          exact h4.cast (by simp)
    have h6 := try_lx ks _ _ (fun u hu => hk u (by simp [hu])) ha
    exact h6.cast (by simp)
theorem statement_lx (t : Tr) (s : WS) (ts : List TS) (hk : 2 * t.count ≤ k + 2) (hsh : Shp NmW 1 t) (hl : t.lt) (h : Lx s ts) : Lx (statementW F t s) (ts ++ t.toks) := by
  have semi : Tok tSemi (sgT tSemi) := tokS (by decide)
  cases hsh with
  | @decl kd x v hkd hx hv hn _ =>
    rw [stW_mk, if_pos (show kd = 2 ∨ kd = 3 ∨ kd = 4 from hkd), toks_decl hkd]
    unfold lastW
    have h1 := h.puts2 (tok_hd (kd := kd) (by omega)) (tok_name hx)
    have hs := fun (s : WS) (ts : List TS) (h : Lx s ts) => (vls_lx hF v hv hn (kid_lt hk) (lt_kids hl) s ts h).puts1 semi
    show Lx (putsS [tSemi] (vlsW F v (if 0 < v.length then putsS [tEq] (putsS [hdText kd, x] s) else putsS [hdText kd, x] s))) _
    by_cases hv0 : 0 < v.length
    · have h2 := hs _ _ (h1.puts1 (tokS (x := tEq) (by decide)))
      rw [if_pos hv0] at h2 ⊢
      rw [if_pos hv0]
      exact h2.cast (by simp)
    · have h2 := hs _ _ h1
      rw [if_neg hv0] at h2 ⊢
      rw [if_neg hv0]
      exact h2.cast (by simp)
  | @func x p b hx hp hb =>
    rw [stW_mk, if_neg (show ¬ ((5 : Int) = 2 ∨ (5 : Int) = 3 ∨ (5 : Int) = 4) by decide), if_neg (show ¬ ((5 : Int) = 10 ∨ (5 : Int) = 11) by decide), if_pos (show (5 : Int) = 5 from rfl), toks_func]
    unfold functionW
    have hne : x ≠ noText := fun e => hx.pos (by rw [e])
    show Lx (blockW F b (listW F tOpen tShut p.kids (if x = noText then _ else _))) _
    rw [if_neg hne]
    have h1 := tail_lx hF p b hp hb ⟨kid_lt hk p (by simp), kid_lt hk b (by simp)⟩ ⟨lt_kids hl p (by simp), lt_kids hl b (by simp)⟩ _ _ ((h.puts1 (tokW (x := tFunction) (by decide))).puts1 (tok_name hx))
    exact h1.cast (by simp)
  | sblk hb =>
    have e : t.kd = 6 := by cases hb; rfl
    unfold statementW
    rw [e, if_neg (by decide), if_neg (by decide), if_neg (by decide), if_pos rfl]
    exact blk_lx hF t hb hk hl s ts h
  | @sif v u hv hu =>
    rw [stW_mk, if_neg (show ¬ ((7 : Int) = 2 ∨ (7 : Int) = 3 ∨ (7 : Int) = 4) by decide), if_neg (show ¬ ((7 : Int) = 10 ∨ (7 : Int) = 11) by decide), if_neg (show ¬ (7 : Int) = 5 by decide), if_neg (show ¬ (7 : Int) = 6 by decide), if_pos (show (7 : Int) = 7 ∨ (7 : Int) = 8 ∨ (7 : Int) = 9 from Or.inl rfl), toks_sif]
    unfold behindW
    have h1 := hF.vl 0 v 1 _ _ (Or.inl rfl) (kid_lt hk v (by simp)) hv (lt_kids hl v (by simp)) (h.puts2 (tok_hd (kd := 7) (by omega)) (tokS (x := tOpen) (by decide)))
    have h2 := hF.st u _ _ (kid_lt hk u (by simp)) hu (lt_kids hl u (by simp)) (h1.puts1 (tokS (x := tShut) (by decide)))
    exact h2.cast (by simp)
  | @sife v u e hv hu he =>
    rw [stW_mk, if_neg (show ¬ ((7 : Int) = 2 ∨ (7 : Int) = 3 ∨ (7 : Int) = 4) by decide), if_neg (show ¬ ((7 : Int) = 10 ∨ (7 : Int) = 11) by decide), if_neg (show ¬ (7 : Int) = 5 by decide), if_neg (show ¬ (7 : Int) = 6 by decide), if_pos (show (7 : Int) = 7 ∨ (7 : Int) = 8 ∨ (7 : Int) = 9 from Or.inl rfl), toks_sife]
    unfold behindW
    have h1 := hF.vl 0 v 1 _ _ (Or.inl rfl) (kid_lt hk v (by simp)) hv (lt_kids hl v (by simp)) (h.puts2 (tok_hd (kd := 7) (by omega)) (tokS (x := tOpen) (by decide)))
    have h2 := hF.st u _ _ (kid_lt hk u (by simp)) hu (lt_kids hl u (by simp)) (h1.puts1 (tokS (x := tShut) (by decide)))
    have h3 := hF.st e _ _ (kid_lt hk e (by simp)) he (lt_kids hl e (by simp)) (h2.puts1 (tokW (x := tElse) (by decide)))
    exact h3.cast (by simp)
  | @loop kd v u hkd hv hu =>
    rw [stW_mk, if_neg (show ¬ (kd = 2 ∨ kd = 3 ∨ kd = 4) by omega), if_neg (show ¬ (kd = 10 ∨ kd = 11) by omega), if_neg (show ¬ kd = 5 by omega), if_neg (show ¬ kd = 6 by omega), if_pos (show kd = 7 ∨ kd = 8 ∨ kd = 9 by omega), toks_loop hkd]
    unfold behindW
    have h1 := hF.vl 0 v 1 _ _ (Or.inl rfl) (kid_lt hk v (by simp)) hv (lt_kids hl v (by simp)) (h.puts2 (tok_hd (kd := kd) (by omega)) (tokS (x := tOpen) (by decide)))
    have h2 := hF.st u _ _ (kid_lt hk u (by simp)) hu (lt_kids hl u (by simp)) (h1.puts1 (tokS (x := tShut) (by decide)))
    exact h2.cast (by simp)
  | @give kd v hkd hv hn _ =>
    rw [stW_mk, if_neg (show ¬ (kd = 2 ∨ kd = 3 ∨ kd = 4) by omega), if_pos (show kd = 10 ∨ kd = 11 from hkd)]
    unfold lastW
    have h1 := (vls_lx hF v hv hn (kid_lt hk) (lt_kids hl) _ _ (h.puts1 (tok_hd (kd := kd) (by omega)))).puts1 semi
    refine h1.cast ?_
    cases v with
    | nil => rw [toks_give0 hkd]; simp
    | cons a r =>
      obtain rfl : r = [] := by cases r with | nil => rfl | cons b r => simp at hn
      rw [toks_give1 hkd]; simp
  | @atm b c f hb hc hf _ =>
    rw [stW_mk, if_neg (show ¬ ((12 : Int) = 2 ∨ (12 : Int) = 3 ∨ (12 : Int) = 4) by decide), if_neg (show ¬ ((12 : Int) = 10 ∨ (12 : Int) = 11) by decide), if_neg (show ¬ (12 : Int) = 5 by decide), if_neg (show ¬ (12 : Int) = 6 by decide), if_neg (show ¬ ((12 : Int) = 7 ∨ (12 : Int) = 8 ∨ (12 : Int) = 9) by decide), if_pos (show (12 : Int) = 12 from rfl), toks_atm]
    unfold attemptW
    have h1 := try_lx hF (b :: (c ++ f)) _ _ (fun u hu => ⟨kid_lt hk u hu, (by
      rcases List.mem_cons.1 hu with rfl | hu
      · exact Or.inl hb
      · rcases List.mem_append.1 hu with hu | hu
        · exact Or.inr (Or.inl (hc u hu))
        · exact Or.inr (Or.inr (hf u hu))), lt_kids hl u hu⟩) (h.puts1 (tokW (x := tTry) (by decide)))
    exact h1.cast (by simp)
  | empty =>
    rw [stW_mk, if_neg (show ¬ ((16 : Int) = 2 ∨ (16 : Int) = 3 ∨ (16 : Int) = 4) by decide), if_neg (show ¬ ((16 : Int) = 10 ∨ (16 : Int) = 11) by decide), if_neg (show ¬ (16 : Int) = 5 by decide), if_neg (show ¬ (16 : Int) = 6 by decide), if_neg (show ¬ ((16 : Int) = 7 ∨ (16 : Int) = 8 ∨ (16 : Int) = 9) by decide), if_neg (show ¬ (16 : Int) = 12 by decide), if_neg (show ¬ (16 : Int) = 15 by decide), if_pos (show (16 : Int) = 16 from rfl), toks_empty]
    unfold emptyW
    by_cases ho : openedB s.2 = true
    · rw [if_pos ho]; exact h.close semi (Or.inl ho)
    · rw [if_neg ho]
      intro rest hok
      exact (h.blank (tSemi.data.toList ++ rest)).tok semi.rd hok semi.hd
  | @expr v hv =>
    rw [stW_mk, if_neg (show ¬ ((15 : Int) = 2 ∨ (15 : Int) = 3 ∨ (15 : Int) = 4) by decide), if_neg (show ¬ ((15 : Int) = 10 ∨ (15 : Int) = 11) by decide), if_neg (show ¬ (15 : Int) = 5 by decide), if_neg (show ¬ (15 : Int) = 6 by decide), if_neg (show ¬ ((15 : Int) = 7 ∨ (15 : Int) = 8 ∨ (15 : Int) = 9) by decide), if_neg (show ¬ (15 : Int) = 12 by decide), if_pos (show (15 : Int) = 15 from rfl), toks_expr]
    unfold exprW
    show Lx (putsS [tSemi] (if opensW v.count v = true then parW F v s else F.vl v 1 s)) _
    have hc := kid_lt hk v (by simp)
    have hv' := fun (s : WS) (ts : List TS) (h : Lx s ts) => hF.vl 0 v 1 s ts (Or.inl rfl) hc hv (lt_kids hl v (by simp)) h
    by_cases ho : opensW v.count v = true
    · rw [if_pos ho, if_pos ho]
      unfold parW
      have h1 := hv' _ _ (h.puts1 (tokS (x := tOpen) (by decide)))
      rw [atq_one] at h1
      exact ((h1.puts1 (tokS (x := tShut) (by decide))).puts1 semi).cast (by simp)
    · rw [if_neg ho, if_neg ho]
      exact ((hv' _ _ h).puts1 semi).cast (by simp)
end
theorem wf_lx : ∀ k, WX k (wf k)
  | 0 => ⟨fun _ t _ _ _ _ h => by have := count_pos t; omega, fun _ t _ _ _ h => by have := count_pos t; omega, fun t _ _ h => by have := count_pos t; omega⟩
  | k + 1 => by
    have hF := wf_lx k
    exact ⟨fun c t least s ts hc hk hsh hl h => value_lx hF hc t least s ts (by omega) (fun _ => hk) hsh hl h,
      fun c t s ts hc hk hsh hl h => value_lx hF hc t 1 s ts (by omega) (fun e => by have := strK_one t.kd; omega) hsh hl h,
      fun t s ts hk hsh hl h => statement_lx hF t s ts (by omega) hsh hl h⟩

theorem toks_prog (tx : ByteArray) (ks : List Tr) : (Tr.mk 1 tx 0 ks).toks = (ks.map Tr.toks).flatten := by
  rw [toks_mk, toksL_map]
  show ((ks.map fun t => (t.kd, t.toks)).map (·.2)).flatten = _
  rw [List.map_map]; rfl
theorem text_lx {k : Nat} {F : WF} (hF : WX k F) : ∀ (ks : List Tr) (s : WS) (ts : List TS), (∀ t ∈ ks, 2 * t.count ≤ k ∧ Shp NmW 1 t ∧ t.lt) → Lx s ts → Lx (ks.foldl (fun s k => endS (F.st k s)) s) (ts ++ (ks.map Tr.toks).flatten)
  | [], s, ts, _, h => by simpa using h
  | t :: ks, s, ts, hk, h => by
    obtain ⟨h1, h2, h3⟩ := hk t (by simp)
    have h4 := text_lx hF ks _ _ (fun u hu => hk u (by simp [hu])) (hF.st t _ _ h1 h2 h3 h).line
    exact h4.cast (by simp)
theorem text_toks {k : Nat} (t : Tr) (hsh : Shp NmW 9 t) (hk : 2 * t.count ≤ k + 2) (hl : t.lt) : ∃ l, tks l = t.toks ∧ toksR wordsS signsS (mkB (textW (wf k) t).1) (pastN gapB (mkB (textW (wf k) t).1) 0) [] = .ok (l ++ [⟨6, ⟨#[]⟩, 0, (textW (wf k) t).1.length⟩]) := by
  cases hsh with
  | @prog tx ks _ hs =>
    have h1 := text_lx (wf_lx k) ks ([], noText) [] (fun u hu => ⟨kid_lt hk u hu, hs u hu, lt_kids hl u hu⟩) lx_start
    obtain ⟨l, h2, h3⟩ := h1 [] (Or.inr fun b r e => by cases e)
    refine ⟨l, by rw [h2, toks_prog]; simp, ?_⟩
    have e : textW (wf k) (Tr.mk 1 tx 0 ks) = ks.foldl (fun s u => endS ((wf k).st u s)) ([], noText) := rfl
    rw [e]
    unfold lexAt at h3
    rw [past_at, List.append_nil] at h3
    rw [h3, toksR_end _ _ _ _ _ (by rw [mkB_size]; simp), mkB_size]
theorem at_tks (e : Tk) : ∀ (l pre : List Tk), At (pre ++ l ++ [e]) pre.length (tks l)
  | [], _ => trivial
  | a :: l, pre => by
    have h := at_tks e l (pre ++ [a])
    have e1 : pre ++ [a] ++ l ++ [e] = pre ++ (a :: l) ++ [e] := by simp
    rw [e1] at h
    refine ⟨?_, by rw [List.length_append] at h; exact h⟩
    have e2 : tkA (pre ++ (a :: l) ++ [e]) pre.length = a := by
      unfold tkA
      simp
    rw [e2]
    exact ⟨rfl, fun _ => rfl, fun _ => rfl⟩
/-- What is written of a program that was read is read as that program, or is too deep, or the bound is too small. -/
theorem back_toks {l : List Tk} {t : Tr} {p : Nat} (h : tks l = t.toks) (hsh : Shp NmW 9 t) (hnd : ∀ u ∈ t.kids, u.nd) (hcd : t = codeT (.mk 1 noText 0 t.kids)) (m : Nat) :
    Good (progP (l ++ [⟨6, ⟨#[]⟩, 0, p⟩]) (fns (l ++ [⟨6, ⟨#[]⟩, 0, p⟩]) m)) t t.toks.length := by
  have h1 := at_tks ⟨6, ⟨#[]⟩, 0, p⟩ l []
  rw [h] at h1
  refine prog_back m t hsh hnd hcd h1 ?_
  have e : t.toks.length = l.length := by rw [← h]; simp [tks]
  rw [e]
  unfold tkA
  simp

def tkOk (kd : Int) (tx : ByteArray) (n : Int) : Prop := (kd = 1 → NmW tx) ∧ (kd = 4 → tx.data.toList.length ≤ 500) ∧ (kd = 3 → 0 ≤ n ∧ n ≤ 1000000000)
theorem past_all (p : Int → Bool) (s : ByteArray) (k : Nat) : (s.extract k (pastN p s k)).data.toList = (s.data.toList.drop k).takeWhile fun b => p (b.toNat : Int) := by
  rw [ByteArray.data_extract, Array.toList_extract, List.extract_eq_take_drop]
  unfold pastN
  rw [Nat.add_sub_cancel_left]
  exact (List.prefix_iff_eq_take.1 (List.takeWhile_prefix _)).symm
theorem numL_nonneg : ∀ (l : List UInt8), (∀ b ∈ l, digB (b.toNat : Int) = true) → 0 ≤ numL l := by
  intro l h
  have : ∀ (l : List UInt8) (n : Int), 0 ≤ n → (∀ b ∈ l, digB (b.toNat : Int) = true) → 0 ≤ l.foldl (fun n b => n * 10 + ((b.toNat : Int) - 48)) n := by
    intro l
    induction l with
    | nil => intro n hn _; exact hn
    | cons a r ih =>
      intro n hn h
      refine ih _ ?_ (fun b hb => h b (by simp [hb]))
      have h0 : ∀ m : Fin 256, digB ((m.val : Nat) : Int) = true → 48 ≤ m.val := by decide +kernel
      have := h0 ⟨a.toNat, a.toNat_lt⟩ (h a (by simp))
      have h2 : 48 ≤ a.toNat := this
      show 0 ≤ n * 10 + ((a.toNat : Int) - 48)
      omega
  exact this l 0 (by omega) h
theorem drop_bt {s : ByteArray} {k : Nat} (h : k < s.size) : ∃ r, s.data.toList.drop k = bt s k :: r := by
  have hl : k < s.data.toList.length := by simpa using h
  refine ⟨s.data.toList.drop (k + 1), ?_⟩
  rw [List.drop_eq_getElem_cons hl]
  congr 1
  unfold bt
  rw [List.getD_eq_getElem?_getD, List.getElem?_eq_getElem hl]; rfl
theorem mem_take {p : UInt8 → Bool} : ∀ {l : List UInt8} {b : UInt8}, b ∈ l.takeWhile p → p b = true
  | [], _, h => by cases h
  | a :: l, b, h => by
    rw [List.takeWhile_cons] at h
    split at h
    · rename_i ha
      rcases List.mem_cons.1 h with rfl | h
      · exact ha
      · exact mem_take h
    · cases h
theorem rd_ok {s : ByteArray} {k e : Nat} {kd n : Int} {tx : ByteArray} (hk : k < s.size) (h : rdTok wordsS signsS s k = .tok kd tx n e) : tkOk kd tx n := by
  unfold rdTok at h
  split at h
  · rename_i hl
    unfold rdName at h
    split at h
    · cases h; exact ⟨fun e => absurd e (by decide), fun e => absurd e (by decide), fun e => absurd e (by decide)⟩
    · rename_i hin
      split at h
      · cases h
      · rename_i h20
        cases h
        refine ⟨fun _ => ?_, fun e => absurd e (by decide), fun e => absurd e (by decide)⟩
        obtain ⟨r, hr⟩ := drop_bt hk
        have hlod : lodB ((bt s k).toNat : Int) = true := by unfold lodB; rw [hl]; rfl
        have e1 := past_all lodB s k
        have e2 : (s.extract k (pastN lodB s k)).data.toList = bt s k :: r.takeWhile fun b => lodB (b.toNat : Int) := by rw [e1, hr, List.takeWhile_cons, if_pos hlod]
        refine ⟨by rw [e2]; simp, ?_, by rw [e2]; exact hl, fun b hb => by rw [e1] at hb; exact mem_take hb, ?_⟩
        · rw [e1]
          unfold pastN at h20
          omega
        · cases hh : isIn wordsS (s.extract k (pastN lodB s k)) with
          | true => exact absurd hh hin
          | false => rfl
  · split at h
    · unfold rdNum at h
      split at h
      · cases h
      · split at h
        · cases h
        · split at h
          · cases h
          · rename_i hb
            cases h
            refine ⟨fun e => absurd e (by decide), fun e => absurd e (by decide), fun _ => ⟨?_, by omega⟩⟩
            exact numL_nonneg _ fun b hb => by rw [past_all] at hb; exact mem_take hb
    · split at h
      · unfold rdStr at h
        split at h
        · split at h
          · cases h
          · rename_i h5
            cases h
            refine ⟨fun e => absurd e (by decide), fun _ => ?_, fun e => absurd e (by decide)⟩
            show (mkB _).data.toList.length ≤ 500
            rw [mkB_list]; omega
        · cases h
      · unfold rdSign at h
        split at h
        · cases h; exact ⟨fun e => absurd e (by decide), fun e => absurd e (by decide), fun e => absurd e (by decide)⟩
        · cases h
theorem toks_ok {s : ByteArray} : ∀ (m i : Nat) (acc l : List Tk), s.size - i = m → (∀ k ∈ acc, tkOk k.kd k.tx k.n) → toksR wordsS signsS s i acc = .ok l → ∀ k ∈ l, tkOk k.kd k.tx k.n := by
  intro m
  induction m using Nat.strongRecOn with
  | ind m ih =>
    intro i acc l hm ha h
    by_cases hi : i < s.size
    · rw [toksR, dif_pos hi] at h
      split at h
      · rename_i kd tx n e he
        split at h
        · rename_i hlt
          have h1 := pastN_ge gapB s e
          exact ih (s.size - pastN gapB s e) (by omega) _ _ l rfl (fun k hk => by
            rcases List.mem_append.1 hk with hk | hk
            · exact ha k hk
            · rw [List.mem_singleton.1 hk]; exact rd_ok hi he) h
        · cases h
      · cases h
    · rw [toksR_end _ _ _ _ _ hi] at h
      cases h
      intro k hk
      rcases List.mem_append.1 hk with hk | hk
      · exact ha k hk
      · rw [List.mem_singleton.1 hk]; exact ⟨fun e => absurd e (show ¬ (6 : Int) = 1 by decide), fun e => absurd e (show ¬ (6 : Int) = 4 by decide), fun e => absurd e (show ¬ (6 : Int) = 3 by decide)⟩
theorem tkA_ok {l : List Tk} (h : ∀ k ∈ l, tkOk k.kd k.tx k.n) (i : Nat) : tkOk (tkA l i).kd (tkA l i).tx (tkA l i).n := by
  unfold tkA
  by_cases hi : i < l.length
  · rw [List.getD_eq_getElem?_getD, List.getElem?_eq_getElem hi]
    exact h _ (List.getElem_mem hi)
  · rw [List.getD_eq_getElem?_getD, List.getElem?_eq_none (by omega)]
    exact ⟨fun e => absurd e (by decide), fun e => absurd e (by decide), fun e => absurd e (by decide)⟩
theorem name_ok {l : List Tk} (h : ∀ k ∈ l, tkOk k.kd k.tx k.n) {x : ByteArray} (hx : NmL l x) : NmW x := by
  obtain ⟨i, h1, rfl⟩ := hx
  exact (tkA_ok h i).1 h1
theorem Shp.mono {A B : ByteArray → Prop} (hAB : ∀ x, A x → B x) {c : Nat} {t : Tr} (h : Shp A c t) : Shp B c t := by
  induction h with
  | name h => exact .name (hAB _ h)
  | str s => exact .str s
  | num n => exact .num n
  | lit hk => exact .lit hk
  | memb h _ ih => exact .memb (hAB _ h) ih
  | call _ _ hl ih ihs => exact .call ih ihs hl
  | one hk _ ih => exact .one hk ih
  | two hk _ _ ia ib => exact .two hk ia ib
  | asg hk _ _ ia ib => exact .asg hk ia ib
  | obj _ hl ih => exact .obj ih hl
  | lam h _ _ ip ib => exact .lam (h.imp id (hAB _)) ip ib
  | prop h _ ih => exact .prop (hAB _ h) ih
  | par h => exact .par (hAB _ h)
  | pars _ hl ih => exact .pars ih hl
  | blk _ ih => exact .blk ih
  | body ht _ ih => exact .body ht ih
  | decl hk h _ hl hc ih => exact .decl hk (hAB _ h) ih hl hc
  | func h _ _ ip ib => exact .func (hAB _ h) ip ib
  | sblk _ ih => exact .sblk ih
  | sif _ _ iv is => exact .sif iv is
  | sife _ _ _ iv is ie => exact .sife iv is ie
  | loop hk _ _ iv is => exact .loop hk iv is
  | give hk _ hl hc ih => exact .give hk ih hl hc
  | atm _ _ _ hl ib ic if' => exact .atm ib ic if' hl
  | cat h _ ih => exact .cat (hAB _ h) ih
  | fin _ ih => exact .fin ih
  | empty => exact .empty
  | expr _ ih => exact .expr ih
  | prog ht _ ih => exact .prog ht ih

theorem lts_of : ∀ {ts : List Tr}, (∀ t ∈ ts, t.lt) → Tr.lts ts
  | [], _ => by rw [Tr.lts]; trivial
  | a :: ts, h => by
    rw [Tr.lts]
    exact ⟨h a (by simp), lts_of fun t ht => h t (by simp [ht])⟩
theorem lt_of {kd : Int} {tx : ByteArray} {n : Int} {ks : List Tr} (h : kd ≠ 17 ∧ kd ≠ 18) (hk : ∀ t ∈ ks, t.lt) : (Tr.mk kd tx n ks).lt := by
  rw [lt_mk]
  exact ⟨⟨fun e => absurd e h.2, fun e => absurd e h.1⟩, lts_of hk⟩
theorem lt_code {kd : Int} {ts : List Tr} (h : kd ≠ 17 ∧ kd ≠ 18) (hk : ∀ t ∈ ts, t.lt) : (codeT (.mk kd noText 0 ts)).lt := by
  obtain ⟨tx, _, e⟩ := codeT_mk kd 0 ts
  rw [e]; exact lt_of h hk
section
variable {l : List Tk}
abbrev Kl (r : PR Tr) : Prop := ∀ t j, r = .ok t j → t.lt
theorem deep_kl {f : Nat → Nat → PR Tr} {d i : Nat} (h : Kl (f (d + 1) i)) : Kl (deepP l f d i) := by
  unfold deepP
  split
  · intro t j e; cases e
  · exact h
theorem listLoop_kl {shut : ByteArray} {begins : Nat → Bool} {part : Nat → PR Tr} (hp : ∀ i, Kl (part i)) : ∀ k acc i t j, (∀ x ∈ acc, x.lt) → listLoop l shut begins part k acc i = .ok t j → ∀ x ∈ t, x.lt := by
  intro k
  induction k with
  | zero => intro acc i t j _ h; cases h
  | succ k ih =>
    intro acc i t j ha h
    unfold listLoop at h
    split at h
    · cases h
    · obtain ⟨u, i1, h1, h⟩ := binds h
      have hu := mem_app ha (hp i u i1 h1)
      split at h
      · cases h; exact hu
      · obtain ⟨_, i2, h2, h⟩ := binds h
        exact ih _ _ _ _ hu h
theorem list_kl {opn shut : ByteArray} {begins : Nat → Bool} {part : Nat → PR Tr} (hp : ∀ i, Kl (part i)) {k i j : Nat} {t : List Tr} (h : listP l opn shut begins part k i = .ok t j) : ∀ x ∈ t, x.lt := by
  unfold listP at h
  obtain ⟨_, i1, h1, h⟩ := binds h
  split at h
  · cases h; exact fun _ h => (by cases h)
  · exact listLoop_kl hp _ _ _ _ _ (fun _ h => by cases h) h
structure FKl (l : List Tk) (F : Fns) : Prop where
  st : ∀ d i, Kl (F.st d i)
  vl : ∀ d i, Kl (F.vl d i)
  pr : ∀ b d i, Kl (F.pr b d i)
  sg : ∀ d i, Kl (F.sg d i)
variable {F : Fns} (hF : FKl l F) (hO : ∀ i, tkOk (tkA l i).kd (tkA l i).tx (tkA l i).n)
include hF
theorem blockLoop_kl {d : Nat} : ∀ k acc i t j, (∀ x ∈ acc, x.lt) → blockLoop l F d k acc i = .ok t j → ∀ x ∈ t, x.lt := by
  intro k
  induction k with
  | zero => intro acc i t j _ h; cases h
  | succ k ih =>
    intro acc i t j ha h
    unfold blockLoop at h
    split at h
    · cases h; exact ha
    · obtain ⟨u, i1, h1, h⟩ := binds h
      exact ih _ _ _ _ (mem_app ha (deep_kl (hF.st _ _) u i1 h1)) h
theorem block_kl {d i j : Nat} {t : Tr} (h : blockP l F d i = .ok t j) : ∃ ts, t = .mk 6 noText 0 ts ∧ ∀ u ∈ ts, u.lt := by
  unfold blockP at h
  obtain ⟨_, i1, h1, h⟩ := binds h
  obtain ⟨ts, i2, h2, h⟩ := binds h
  cases h
  exact ⟨ts, rfl, blockLoop_kl hF _ _ _ _ _ (fun _ h => by cases h) h2⟩
omit hF in
theorem params_kl {i : Nat} : Kl (paramsP l F i) := by
  intro t j h
  unfold paramsP at h
  obtain ⟨ts, i1, h1, h⟩ := binds h
  cases h
  exact lt_of (by decide) (list_kl (fun i t j h => by unfold paramP at h; obtain ⟨_, _, h1, h⟩ := binds h; cases h; exact lt_of (by decide) (fun _ h => by cases h)) h1)
theorem inPar_kl (d i : Nat) : Kl (inParP l F d i) := by
  intro t j h
  unfold inParP at h
  obtain ⟨_, i1, h1, h⟩ := binds h
  obtain ⟨u, i2, h2, h⟩ := binds h
  obtain ⟨_, i3, h3, h⟩ := binds h
  cases h
  exact deep_kl (hF.vl _ _) _ _ h2
theorem object_kl (d i : Nat) : Kl (objectP l F d i) := by
  intro t j h
  unfold objectP at h
  obtain ⟨ts, i1, h1, h⟩ := binds h
  cases h
  exact lt_of (by decide) (list_kl (fun i t j h => by
    unfold propP at h; obtain ⟨_, _, h1, h⟩ := binds h; obtain ⟨_, _, _, h⟩ := binds h; obtain ⟨_, _, h3, h⟩ := binds h; cases h
    have := deep_kl (hF.vl _ _) _ _ h3
    exact lt_of (by decide) (fun u hu => by rw [List.mem_singleton.1 hu]; exact this)) h1)
theorem tail_kl {kd : Int} {s : ByteArray} {d i j : Nat} {t : Tr} (hk : kd = 5 ∨ kd = 37) (h : funcTail l F kd s d i = .ok t j) : t.lt ∧ t.kd = kd := by
  unfold funcTail at h
  obtain ⟨ps, i1, h1, h⟩ := binds h
  obtain ⟨b, i2, h2, h⟩ := binds h
  cases h
  obtain ⟨ts, rfl, hts⟩ := block_kl hF h2
  refine ⟨lt_of (by omega) (fun x hx => ?_), rfl⟩
  simp at hx; rcases hx with rfl | rfl
  · exact params_kl _ _ h1
  · exact lt_code (by decide) hts
theorem lambda_kl (d i : Nat) : Kl (lambdaP l F d i) := by
  intro t j h
  unfold lambdaP at h
  obtain ⟨_, i1, h1, h⟩ := binds h
  split at h
  · obtain ⟨s, i2, h2, h⟩ := binds h
    exact (tail_kl hF (Or.inr rfl) h).1
  · exact (tail_kl hF (Or.inr rfl) h).1
omit hF in
theorem sgs_kl {s : Sg} (h : s ∈ sgs) : s.kd ≠ 17 ∧ s.kd ≠ 18 := by
  have h2 : ∀ s ∈ sgs, s.kd ≠ 17 ∧ s.kd ≠ 18 := by decide +kernel
  exact h2 s h
include hO in
theorem alone_kl (d i : Nat) : Kl (aloneP l F d i) := by
  unfold aloneP
  split
  · exact inPar_kl hF d i
  · exact object_kl hF d i
  · exact lambda_kl hF d i
  · split
    · rename_i hsg; intro t j h; cases h
      exact lt_of (sgs_kl (sgP_mem hsg).1) (fun _ h => by cases h)
    · split
      · intro t j h; cases h; exact lt_of (by decide) (fun _ h => by cases h)
      · split
        · rename_i h4; intro t j h; cases h
          rw [lt_mk]
          exact ⟨⟨fun _ => (hO i).2.1 h4, fun e => absurd e (by decide)⟩, lts_of (fun _ h => by cases h)⟩
        · split
          · rename_i h3; intro t j h; cases h
            rw [lt_mk]
            exact ⟨⟨fun e => absurd e (by decide), fun _ => (hO i).2.2 h3⟩, lts_of (fun _ h => by cases h)⟩
          · intro t j h; cases h
theorem askedLoop_kl {d : Nat} : ∀ k u i t j, u.lt → askedLoop l F d k u i = .ok t j → t.lt := by
  intro k
  induction k with
  | zero => intro u i t j _ h; cases h
  | succ k ih =>
    intro u i t j hu h
    unfold askedLoop at h
    split at h
    · obtain ⟨s, i1, h1, h⟩ := binds h
      exact ih _ _ _ _ (lt_of (by decide) (fun x hx => by rw [List.mem_singleton.1 hx]; exact hu)) h
    · split at h
      · obtain ⟨ts, i1, h1, h⟩ := binds h
        have := list_kl (fun i => deep_kl (hF.vl _ _)) h1
        refine ih _ _ _ _ (lt_of (by decide) (fun x hx => ?_)) h
        rcases List.mem_cons.1 hx with rfl | hx
        · exact hu
        · exact this x hx
      · cases h; exact hu
include hO in
theorem single_kl (d i : Nat) : Kl (singleP l F d i) := by
  unfold singleP
  split
  · rename_i hsg
    intro t j h
    obtain ⟨u, i1, h1, h⟩ := binds h
    cases h
    have := deep_kl (hF.sg _ _) u _ h1
    exact lt_of (sgs_kl (sgP_mem hsg).1) (fun x hx => by rw [List.mem_singleton.1 hx]; exact this)
  · intro t j h
    unfold askedP at h
    obtain ⟨u, i1, h1, h⟩ := binds h
    exact askedLoop_kl hF _ _ _ _ _ (alone_kl hF hO d i u i1 h1) h
omit hF in
theorem lt_two {kd : Int} {n : Int} {tx : ByteArray} {a b : Tr} (h : kd ≠ 17 ∧ kd ≠ 18) (ha : a.lt) (hb : b.lt) : (Tr.mk kd tx n [a, b]).lt :=
  lt_of h (fun x hx => by simp at hx; rcases hx with rfl | rfl <;> assumption)
theorem pairLoop_kl {b : Int} {d : Nat} : ∀ k u i t j, u.lt → pairLoop l F b d k u i = .ok t j → t.lt := by
  intro k
  induction k with
  | zero => intro u i t j _ h; cases h
  | succ k ih =>
    intro u i t j hu h
    unfold pairLoop at h
    split at h
    · cases h; exact hu
    · rename_i hsg
      split at h
      · cases h; exact hu
      · obtain ⟨v, i1, h1, h⟩ := binds h
        exact ih _ _ _ _ (lt_two (sgs_kl (sgP_mem hsg).1) hu (hF.pr _ _ _ v i1 h1)) h
theorem pair_kl (b : Int) (d i : Nat) : Kl (pairP l F b d i) := by
  intro t j h
  unfold pairP at h
  obtain ⟨u, i1, h1, h⟩ := binds h
  exact pairLoop_kl hF _ _ _ _ _ (hF.sg _ _ u i1 h1) h
theorem value_kl (d i : Nat) : Kl (valueP l F d i) := by
  intro t j h
  unfold valueP at h
  obtain ⟨u, i1, h1, h⟩ := binds h
  have e1 := hF.pr _ _ _ u i1 h1
  split at h
  · split at h
    · obtain ⟨v, i2, h2, h⟩ := binds h
      cases h
      exact lt_two (by decide) e1 (deep_kl (hF.vl _ _) v _ h2)
    · cases h
  · cases h; exact e1
omit hF in
theorem ks_lt {t : Tr} (h : t.lt) (_ : t.kd ≠ 7 ∧ t.kd ≠ 8 ∧ t.kd ≠ 9) : t.lt := h
theorem part_kl (d q i : Nat) (hq : keyOk q (hdKind (tkA l i).tx) = true) : Kl (partP l F d q i) := by
  intro t j h
  unfold partP at h
  split at h
  · have hk : hdKind (tkA l i).tx = 2 ∨ hdKind (tkA l i).tx = 3 ∨ hdKind (tkA l i).tx = 4 := by simpa [keyOk, or_assoc] using hq
    unfold declP at h
    generalize hdKind (tkA l i).tx = kd at h hk
    obtain ⟨s, i1, h1, h⟩ := binds h
    split at h
    · cases h
    · split at h
      · obtain ⟨v, i2, h2, h⟩ := binds h
        obtain ⟨_, i3, h3, h⟩ := binds h
        cases h
        have e2 := deep_kl (hF.vl _ _) v _ h2
        exact ks_lt (lt_of (by omega) (fun u hu => by rw [List.mem_singleton.1 hu]; exact e2)) (by show kd ≠ 7 ∧ kd ≠ 8 ∧ kd ≠ 9; omega)
      · obtain ⟨_, i3, h3, h⟩ := binds h
        cases h
        exact ks_lt (lt_of (by omega) (fun u hu => by cases hu)) (by show kd ≠ 7 ∧ kd ≠ 8 ∧ kd ≠ 9; omega)
  · unfold funcP at h
    obtain ⟨_, i1, h1, h⟩ := binds h
    obtain ⟨s, i2, h2, h⟩ := binds h
    have := tail_kl hF (Or.inl rfl) h
    exact ks_lt this.1 (by rw [this.2]; decide)
  · obtain ⟨ts, rfl, hts⟩ := block_kl hF h
    exact ks_lt (lt_of (by decide) hts) (by show (6 : Int) ≠ 7 ∧ (6 : Int) ≠ 8 ∧ (6 : Int) ≠ 9; decide)
  · obtain ⟨_, i3, h3, h⟩ := binds h
    cases h
    exact ks_lt (lt_of (by decide) (fun u hu => by cases hu)) (by decide)
  · have hk : hdKind (tkA l i).tx = 7 := by simpa [keyOk] using hq
    unfold choiceP at h
    rw [hk] at h
    obtain ⟨v, i1, h1, h⟩ := binds h
    obtain ⟨s, i2, h2, h⟩ := binds h
    have e1 := inPar_kl hF d _ v i1 h1
    have e2 := deep_kl (hF.st _ _) s _ h2
    split at h
    · obtain ⟨s2, i3, h3, h⟩ := binds h
      cases h
      have e3 := deep_kl (hF.st _ _) s2 _ h3
      refine lt_of (by decide) (fun x hx => ?_)
      simp at hx; rcases hx with rfl | rfl | rfl <;> assumption
    · cases h
      exact lt_two (by decide) e1 e2
  · have hk : hdKind (tkA l i).tx = 8 ∨ hdKind (tkA l i).tx = 9 := by simpa [keyOk] using hq
    unfold behindP at h
    generalize hdKind (tkA l i).tx = kd at h hk
    obtain ⟨v, i1, h1, h⟩ := binds h
    obtain ⟨s, i2, h2, h⟩ := binds h
    cases h
    have e2 := deep_kl (hF.st _ _) s _ h2
    exact lt_two (by omega) (inPar_kl hF d _ v i1 h1) e2
  · have hk : hdKind (tkA l i).tx = 10 ∨ hdKind (tkA l i).tx = 11 := by simpa [keyOk] using hq
    unfold givingP at h
    generalize hdKind (tkA l i).tx = kd at h hk
    split at h
    · obtain ⟨v, i1, h1, h⟩ := binds h
      obtain ⟨_, i2, h2, h⟩ := binds h
      cases h
      have e1 := deep_kl (hF.vl _ _) v _ h1
      exact ks_lt (lt_of (by omega) (fun u hu => by rw [List.mem_singleton.1 hu]; exact e1)) (by show kd ≠ 7 ∧ kd ≠ 8 ∧ kd ≠ 9; omega)
    · obtain ⟨_, i2, h2, h⟩ := binds h
      cases h
      exact ks_lt (lt_of (by omega) (fun u hu => by cases hu)) (by show kd ≠ 7 ∧ kd ≠ 8 ∧ kd ≠ 9; omega)
  · unfold attemptP at h
    obtain ⟨_, i0, h0, h⟩ := binds h
    obtain ⟨b, i1, h1, h⟩ := binds h
    obtain ⟨c, i2, h2, h⟩ := binds h
    obtain ⟨f, i3, h3, h⟩ := binds h
    have blk : ∀ {d i j : Nat} {t : Tr}, blockP l F d i = .ok t j → t.lt := fun h => by
      obtain ⟨ts, rfl, hts⟩ := block_kl hF h
      exact lt_of (by decide) hts
    have e2 : ∀ u ∈ c, u.lt := by
      unfold catchP at h2
      split at h2
      · obtain ⟨_, k1, g1, h2⟩ := binds h2
        obtain ⟨_, k2, g2, h2⟩ := binds h2
        obtain ⟨_, k3, g3, h2⟩ := binds h2
        obtain ⟨bb, k4, g4, h2⟩ := binds h2
        cases h2
        intro u hu
        rw [List.mem_singleton.1 hu]
        exact lt_of (by decide) (fun x hx => by rw [List.mem_singleton.1 hx]; exact blk g4)
      · cases h2; exact fun u hu => (by cases hu)
    have e3 : ∀ u ∈ f, u.lt := by
      unfold finallyP at h3
      split at h3
      · obtain ⟨bb, k4, g4, h3⟩ := binds h3
        cases h3
        intro u hu
        rw [List.mem_singleton.1 hu]
        exact lt_of (by decide) (fun x hx => by rw [List.mem_singleton.1 hx]; exact blk g4)
      · cases h3; exact fun u hu => (by cases hu)
    split at h
    · cases h
    · cases h
      refine ks_lt (lt_of (by decide) (fun x hx => ?_)) (by show (12 : Int) ≠ 7 ∧ (12 : Int) ≠ 8 ∧ (12 : Int) ≠ 9; decide)
      rcases List.mem_cons.1 hx with rfl | hx
      · exact blk h1
      · rcases List.mem_append.1 hx with hx | hx
        · exact e2 x hx
        · exact e3 x hx
theorem statement_kl (d i : Nat) : Kl (statementP l F d i) := by
  unfold statementP
  split
  · rename_i hq; exact part_kl hF d _ i (key_hd hq)
  · intro t j h
    unfold exprP at h
    obtain ⟨v, i1, h1, h⟩ := binds h
    obtain ⟨_, i2, h2, h⟩ := binds h
    cases h
    have := deep_kl (hF.vl _ _) v _ h1
    exact ks_lt (lt_of (by decide) (fun u hu => by rw [List.mem_singleton.1 hu]; exact this)) (by show (15 : Int) ≠ 7 ∧ (15 : Int) ≠ 8 ∧ (15 : Int) ≠ 9; decide)
omit hF in
include hO in
theorem fns_kl : ∀ k, FKl l (fns l k) := by
  intro k
  induction k with
  | zero => exact ⟨fun _ _ _ _ h => by (cases h), fun _ _ _ _ h => by (cases h), fun _ _ _ _ _ h => by (cases h), fun _ _ _ _ h => by (cases h)⟩
  | succ k ih => exact ⟨statement_kl ih, value_kl ih, pair_kl ih, single_kl ih hO⟩
theorem progLoop_kl : ∀ k acc i t j, (∀ x ∈ acc, x.lt) → progLoop l F k acc i = .ok t j → ∀ x ∈ t, x.lt := by
  intro k
  induction k with
  | zero => intro acc i t j _ h; cases h
  | succ k ih =>
    intro acc i t j ha h
    unfold progLoop at h
    split at h
    · cases h; exact ha
    · obtain ⟨u, i1, h1, h⟩ := binds h
      exact ih _ _ _ _ (mem_app ha (deep_kl (hF.st _ _) u i1 h1)) h
theorem prog_kl {t : Tr} {j : Nat} (h : progP l F = .ok t j) : t.lt := by
  unfold progP at h
  obtain ⟨ts, i1, h1, h⟩ := binds h
  cases h
  exact lt_code (by decide) (progLoop_kl hF _ _ _ _ _ (fun _ h => by cases h) h1)
end
/-- All that is needed of a program that was read. -/
theorem parse_all {s : ByteArray} {t : Tr} (h : parseS wordsS signsS s = .ok t) : Shp NmW 9 t ∧ t.lt ∧ (∀ u ∈ t.kids, u.nd) ∧ t = codeT (.mk 1 noText 0 t.kids) := by
  obtain ⟨h1, h2⟩ := parse_nd h
  obtain ⟨l, hl, hsh⟩ := parse_sh h
  have hk := toks_ok _ _ _ _ rfl (fun _ h => by cases h) hl
  refine ⟨hsh.mono fun x hx => name_ok hk hx, ?_, h1, h2⟩
  unfold parseS at h
  split at h
  · cases h
  · rw [hl] at h
    simp only at h
    cases hp : progP l (fns l KK) with
    | out => rw [hp] at h; cases h
    | bad er p => rw [hp] at h; cases h
    | ok t2 j =>
      rw [hp] at h
      simp only at h
      split at h
      · cases h
      · cases h; exact prog_kl (fns_kl (tkA_ok hk) _) hp
end Go.Proofs.YtodmgaikhbmlnaaGreatDoor
