/-
  A text with a var for each of some names ahead of it is that program behind those vars, or too large.
-/
import Derived.Test.YtodmgaikhbmlnaaGreatDoorHk22
import Derived.Maps.RangeRun
import Derived.Sort.Walk0
namespace Go.Proofs.YtodmgaikhbmlnaaGreatDoor
def varT (x : ByteArray) : Tr := .mk 2 x 0 []
theorem st_KK (l : List Tk) : (fns l KK).st = statementP l (fns l 24099) := rfl
theorem tkA_at (a b : List Tk) (t : Tk) (l : List Tk) : tkA (a ++ (b ++ t :: l)) (a.length + b.length) = t := by
 unfold tkA
 rw [List.getD_eq_getElem?_getD, List.getElem?_append_right (by omega), Nat.add_sub_cancel_left, List.getElem?_append_right (by omega), Nat.sub_self]
 rfl
theorem var_step (p0 l : List Tk) (x : ByteArray) (a b c : Nat) (L : List Tk) (hL : L = p0 ++ ⟨2, tVar, 0, a⟩ :: ⟨1, x, 0, b⟩ :: ⟨5, tSemi, 0, c⟩ :: l) :
  (tkA L p0.length).kd ≠ 6 ∧ deepP L (fns L KK).st 0 p0.length = .ok (varT x) (p0.length + 3) := by
 have t0 : tkA L p0.length = ⟨2, tVar, 0, a⟩ := by rw [hL]; exact tkA_at p0 [] _ _
 have t1 : tkA L (p0.length + 1) = ⟨1, x, 0, b⟩ := by rw [hL]; exact tkA_at p0 [⟨2, tVar, 0, a⟩] _ _
 have t2 : tkA L (p0.length + 1 + 1) = ⟨5, tSemi, 0, c⟩ := by rw [hL]; exact tkA_at p0 [⟨2, tVar, 0, a⟩, ⟨1, x, 0, b⟩] _ _
 have f0 : fx L p0.length = tVar := by unfold fx; rw [t0]; rfl
 have f2 : fx L (p0.length + 1 + 1) = tSemi := by unfold fx; rw [t2]; rfl
 have n1 : nameP L (p0.length + 1) = .ok x (p0.length + 1 + 1) := by unfold nameP; rw [t1]; rfl
 have m2 : mustP L tSemi (p0.length + 1 + 1) = .ok () (p0.length + 1 + 1 + 1) := by unfold mustP; rw [f2]; rfl
 have hk : hdKind tVar = 2 := by decide +kernel
 refine ⟨by rw [t0]; exact (by decide : (2 : Int) ≠ 6), ?_⟩
 unfold deepP
 rw [if_neg (by decide), st_KK]
 unfold statementP
 rw [f0]
 have h0 : look2 stKeys tVar = some 0 := by decide +kernel
 rw [h0]
 show declP L (fns L 24099) (0 + 1) p0.length = _
 unfold declP
 rw [n1]
 show (if hdKind (tkA L p0.length).tx = 4 ∧ ¬ fx L (p0.length + 1 + 1) = tEq then _ else _) = _
 rw [t0, f2]
 simp only [hk]
 rw [if_neg (by decide), if_neg (by decide), m2]
 rfl
theorem loop_pre {xs : List ByteArray} {pre : List Tk} (h : Pre3 xs pre) : ∀ (p0 l L : List Tk), L = p0 ++ (pre ++ l) → ∀ acc e, progLoop L (fns L KK) (xs.length + e) acc p0.length = progLoop L (fns L KK) e (acc ++ xs.map varT) (p0.length + pre.length) := by
 induction h with
 | nil => intro p0 l L _ acc e; simp
 | @cons x xs pre a b c h ih =>
  intro p0 l L hL acc e; obtain ⟨h6, hd⟩ := var_step p0 (pre ++ l) x a b c L hL; have hL2 : L = (p0 ++ [⟨2, tVar, 0, a⟩, ⟨1, x, 0, b⟩, ⟨5, tSemi, 0, c⟩]) ++ (pre ++ l) := by rw [hL]; simp
  have := ih _ l L hL2 (acc ++ [varT x]) e; rw [List.length_append] at this; rw [List.length_cons, show xs.length + 1 + e = (xs.length + e) + 1 by omega]
  conv => lhs; unfold progLoop
  rw [if_neg h6, hd]
  show progLoop L (fns L KK) (xs.length + e) (acc ++ [varT x]) (p0.length + 3) = _
  rw [show p0.length + 3 = p0.length + [(⟨2, tVar, 0, a⟩ : Tk), ⟨1, x, 0, b⟩, ⟨5, tSemi, 0, c⟩].length from rfl, this]
  congr 1
  ·
   simp
  ·
   simp; omega
theorem code_kdV (t : Tr) : (codeT t).kd = t.kd := by
 unfold codeT
 split <;> rfl
theorem parse_vars {s : ByteArray} {t : Tr} (h : parseS wordsS signsS s = .ok t) (xs : List ByteArray) (hx : ∀ x ∈ xs, Nm wordsS x) (hz : (vtext xs s).size ≤ 3000) (hl : xs.length ≤ 3000) :
  ∃ n : Tr, n.kd = 1 ∧ n.kids = xs.map varT ++ t.kids ∧ parseS wordsS signsS (vtext xs s) = if 1500 < n.count then .bare else .ok n := by
 unfold parseS at h
 split at h
 ·
  cases h
 ·
  cases hlb : toksR wordsS signsS s (pastN gapB s 0) [] with
  | bad er p => rw [hlb] at h; cases h
  | ok lb =>
   rw [hlb] at h; simp only at h; obtain ⟨hEb, h0b, hnb⟩ := toks_ends sg_pos hlb
   cases hrb : progP lb (fns lb KK) with
   | out => rw [hrb] at h; cases h
   | bad er p => rw [hrb] at h; cases h
   | ok tb jb =>
    rw [hrb] at h; simp only at h
    split at h
    ·
     cases h
    cases h; obtain ⟨ys, hys, rfl⟩ := progP_inv hrb; obtain ⟨D, pre, h1, h2⟩ := toks_vtext hlb xs hx; have hSh := shifts_of pre lb D; obtain ⟨lj, hj⟩ : ∃ lj, lj = pre ++ lb.map (shTk D) := ⟨_, rfl⟩; rw [← hj] at hSh h1
    have hFs := fns_sh hSh KK; have hfb : (fns lb KK).fuel = 24099 := (fns_nx hEb KK).fuel; have hfj : (fns lj KK).fuel = 24099 := by rw [hFs.fuel]; exact hfb
    rw [hfb] at hys; obtain ⟨us, hus, k2, hk2, he2⟩ := loop_sh (fns_nx hEb KK) hSh hFs _ _ _ _ _ h0b hys; rw [List.nil_append] at hus; subst hus
    have hloop : progLoop lj (fns lj KK) (fns lj KK).fuel [] 0 = .ok (xs.map varT ++ ys) (pre.length + jb) := by
     rw [hfj, show 24099 = xs.length + (k2 + 1 + (24099 - xs.length - k2 - 1)) by omega]; have e1 := loop_pre h2 [] (lb.map (shTk D)) lj hj [] (k2 + 1 + (24099 - xs.length - k2 - 1))
     have e2 := he2 (24099 - xs.length - k2 - 1) (xs.map varT); rw [Nat.add_zero] at e2; simp only [List.length_nil, Nat.zero_add, List.nil_append] at e1; rw [e1]; exact e2
    have hprog : progP lj (fns lj KK) = .ok (codeT (.mk 1 noText 0 (xs.map varT ++ ys))) (pre.length + jb) := by
     unfold progP; rw [hloop]; rfl
    refine ⟨codeT (.mk 1 noText 0 (xs.map varT ++ ys)), ?_, ?_, ?_⟩
    ·
     rw [code_kdV]; rfl
    ·
     rw [codeT_kids, codeT_kids]; rfl
    ·
     unfold parseS; rw [if_neg (by omega), h1]; simp only; rw [hprog]
end Go.Proofs.YtodmgaikhbmlnaaGreatDoor
set_option maxRecDepth 100000
set_option maxHeartbeats 16000000
namespace Go.Proofs.YtodmgaikhbmlnaaGreatDoor
open Go.RowKit
theorem occ_ge (ns : List ByteArray) (x : ByteArray) : 0 ≤ occ ns x := (occ_le ns x).1
theorem frF_zero : ∀ (d : Nat) (t : Tr) (c : ByteArray → Int) (y : ByteArray), (∀ x, 0 ≤ c x) → y ∈ frF d t c → c y = 0
 | 0, t, c, y, _, h => by simp [frF] at h
 | d + 1, t, c, y, hc, h => by
  rw [frF, List.mem_append] at h
  rcases h with h | h
  ·
   unfold ownFree at h
   split at h
   ·
    rename_i hp
    rw [List.mem_singleton.1 h]; exact hp.2
   ·
    cases h
  ·
   cases hd : declT t with
   | some r =>
    obtain ⟨ns, s⟩ := r; rw [hd] at h; simp only [List.mem_flatMap] at h; obtain ⟨k, _, h⟩ := h; have h1 := frF_zero d k _ y (fun x => by have := hc x; have := occ_ge ns x; unfold addC; omega) h
    have h2 := occ_ge ns y; have h3 := hc y; unfold addC at h1; omega
   | none =>
    rw [hd] at h; simp only at h
    split at h
    ·
     cases h
    ·
     rw [List.mem_flatMap] at h; obtain ⟨k, _, h⟩ := h; exact frF_zero d k c y hc h
theorem frF_mono : ∀ (d : Nat) (t : Tr) (c c' : ByteArray → Int) (y : ByteArray), (∀ x, 0 ≤ c x ∧ 0 ≤ c' x ∧ (c' x = 0 → c x = 0)) → y ∈ frF d t c' → y ∈ frF d t c
 | 0, t, c, c', y, _, h => by simp [frF] at h
 | d + 1, t, c, c', y, hc, h => by
  rw [frF, List.mem_append] at h ⊢
  rcases h with h | h
  ·
   refine Or.inl ?_; unfold ownFree at h ⊢
   split at h
   ·
    rename_i hp
    rw [if_pos ⟨hp.1, (hc _).2.2 hp.2⟩]; exact h
   ·
    cases h
  ·
   refine Or.inr ?_
   cases hd : declT t with
   | some r =>
    obtain ⟨ns, s⟩ := r; rw [hd] at h; simp only [List.mem_flatMap] at h ⊢; obtain ⟨k, hk, h⟩ := h; refine ⟨k, hk, frF_mono d k _ _ y (fun x => ?_) h⟩; obtain ⟨h1, h2, h3⟩ := hc x; have h4 := occ_ge ns x; unfold addC
    refine ⟨by omega, by omega, fun h5 => ?_⟩; have h6 := h3 (by omega); omega
   | none =>
    rw [hd] at h; simp only at h ⊢
    split at h
    ·
     cases h
    ·
     rename_i h40
     rw [if_neg h40]; rw [List.mem_flatMap] at h ⊢; obtain ⟨k, hk, h⟩ := h; exact ⟨k, hk, frF_mono d k c c' y hc h⟩
theorem kid_less {t k : Tr} (h : k ∈ t.kids) : k.count < t.count := by
 have htc : t.count = 1 + Tr.counts t.kids := by cases t with | mk kd tx nn ks => exact count_mk _ _ _ _
 obtain ⟨j, hj, rfl⟩ := List.mem_iff_getElem.1 h
 have := counts_le t.kids j hj
 omega
theorem decl_less {t s k : Tr} {ns : List ByteArray} (h : declT t = some (ns, s)) (hk : k ∈ s.kids) : k.count < t.count := by
 have h1 := decl_counts t ns s h
 obtain ⟨j, hj, rfl⟩ := List.mem_iff_getElem.1 hk
 have := counts_le s.kids j hj
 omega
theorem flat_congr {α β : Type} {f g : α → List β} : ∀ {l : List α}, (∀ a ∈ l, f a = g a) → l.flatMap f = l.flatMap g
 | [], _ => rfl
 | a :: l, h => by rw [List.flatMap_cons, List.flatMap_cons, h a List.mem_cons_self, flat_congr fun b hb => h b (List.mem_cons_of_mem _ hb)]
theorem frF_fuel : ∀ (d e : Nat) (t : Tr) (c : ByteArray → Int), t.count ≤ d → t.count ≤ e → frF d t c = frF e t c
 | 0, e, t, c, h, _ => by cases t with | mk kd tx nn ks => rw [count_mk] at h; omega
 | d + 1, 0, t, c, _, h => by cases t with | mk kd tx nn ks => rw [count_mk] at h; omega
 | d + 1, e + 1, t, c, h1, h2 => by
  rw [frF, frF]
  congr 1
  cases hd : declT t with
  | some r =>
   obtain ⟨ns, s⟩ := r; exact flat_congr fun k hk => by
    have := decl_less hd hk; exact frF_fuel d e k _ (by omega) (by omega)
  | none =>
   simp only
   split
   ·
    rfl
   ·
    exact flat_congr fun k hk => by
     have := kid_less hk; exact frF_fuel d e k _ (by omega) (by omega)
theorem vws_vars : ∀ xs : List ByteArray, vws (xs.map varT) = xs
 | [] => by simp [vws]
 | x :: xs => by rw [List.map_cons, vws, vws_vars xs, varT, vw]; simp [vws]
theorem names_more {t n : Tr} {xs : List ByteArray} (h : n.kids = xs.map varT ++ t.kids) (y : ByteArray) : (y ∈ xs ∨ y ∈ namesT t true) → y ∈ namesT n true := by
 unfold namesT varsT fnsT letsT
 rw [h, vws_app, vws_vars, List.filter_append, List.filter_append]
 simp only [once_mem, if_true, List.mem_append, List.map_append]
 rintro (h | (h | h) | h)
 ·
  exact Or.inl (Or.inl (Or.inl h))
 ·
  exact Or.inl (Or.inl (Or.inr h))
 ·
  exact Or.inl (Or.inr (Or.inr h))
 ·
  exact Or.inr (Or.inr h)
theorem addC_zero (ns : List ByteArray) (x : ByteArray) : addC (fun _ => 0) ns 1 x = occ ns x := by simp [addC]
theorem free_none {t n : Tr} {xs : List ByteArray} (ht : t.kd = 1) (hn : n.kd = 1) (h : n.kids = xs.map varT ++ t.kids) (hx : ∀ y ∈ frF t.count t (fun _ => 0), y ∈ xs) : frF n.count n (fun _ => 0) = [] := by
 rw [List.eq_nil_iff_forall_not_mem]
 intro y hy
 obtain ⟨d, hd⟩ : ∃ d, n.count = d + 1 := ⟨n.count - 1, by cases n with | mk kd tx nn ks => rw [count_mk]; omega⟩
 obtain ⟨e, he⟩ : ∃ e, t.count = e + 1 := ⟨t.count - 1, by cases t with | mk kd tx nn ks => rw [count_mk]; omega⟩
 have dn : declT n = some (namesT n true, n) := by unfold declT; rw [if_pos hn]
 have dt : declT t = some (namesT t true, t) := by unfold declT; rw [if_pos ht]
 have c0 : ∀ (ns : List ByteArray) x, 0 ≤ addC (fun _ => 0) ns 1 x := fun ns x => by rw [addC_zero]; exact occ_ge ns x
 rw [hd, frF, dn, List.mem_append] at hy
 rcases hy with hy | hy
 ·
  unfold ownFree at hy; rw [if_neg (fun h => by rw [hn] at h; exact absurd h.1 (by decide))] at hy
  cases hy
 ·
  simp only [List.mem_flatMap] at hy; obtain ⟨k, hk, hy⟩ := hy; have hz := frF_zero d k _ y (c0 _) hy; have hno : y ∉ namesT n true := fun hin => by
   have := (occ_pos (namesT n true) y).2 hin; rw [addC_zero] at hz; omega
  have hkl := kid_less hk; rw [h, List.mem_append] at hk
  rcases hk with hk | hk
  ·
   obtain ⟨x, _, rfl⟩ := List.mem_map.1 hk
   cases d with
   | zero => simp [frF] at hy
   | succ d =>
    rw [frF, varT] at hy; simp [ownFree, declT, Tr.kd, Tr.kids] at hy
  ·
   have hm : y ∈ frF d k (addC (fun _ => 0) (namesT t true) 1) := frF_mono d k _ _ y (fun x => by
    have h1 := c0 (namesT t true) x; have h2 := c0 (namesT n true) x; refine ⟨h1, h2, fun h3 => ?_⟩; have h4 := occ_ge (namesT t true) x; have h5 : ¬ 0 < occ (namesT t true) x := fun h6 => by
     have h7 := names_more h x (Or.inr ((occ_pos _ _).1 h6)); have h8 := (occ_pos _ _).2 h7; rw [addC_zero] at h3; omega
    rw [addC_zero]; omega) hy
   have hkt := kid_less hk; rw [frF_fuel d e k _ (by omega) (by omega)] at hm; have hin : y ∈ frF t.count t (fun _ => 0) := by
    rw [he, frF, dt, List.mem_append]; refine Or.inr ?_; simp only [List.mem_flatMap]; exact ⟨k, hk, hm⟩
   exact hno (names_more h y (Or.inl (hx y hin)))
theorem toks_nm (s : ByteArray) : ∀ m i acc l, s.size - i = m → toksR wordsS signsS s i acc = .ok l → (∀ t ∈ acc, t.kd = 1 → nmB t.tx = true) → ∀ t ∈ l, t.kd = 1 → nmB t.tx = true := by
 intro m
 induction m using Nat.strongRecOn with
 | ind m ih =>
  intro i acc l hm h hacc
  by_cases hi : i < s.size
  ·
   cases hr : rdTok wordsS signsS s i with
   | bad er p => rw [toksR_bad wordsS signsS s i acc er p hi hr] at h; cases h
   | tok kd tx n e =>
    by_cases he : i < e
    ·
     rw [toksR_go wordsS signsS s i acc kd n tx e hi hr he] at h; have hge := pastN_ge gapB s e; refine ih (s.size - pastN gapB s e) (by omega) (pastN gapB s e) _ l rfl h fun t ht hk => ?_
     rcases List.mem_append.1 ht with ht | ht
     ·
      exact hacc t ht hk
     ·
      rw [List.mem_singleton.1 ht] at hk ⊢; have hk' : kd = 1 := hk; subst hk'; exact rd_nm hi hr
    ·
     rw [toksR, dif_pos hi, hr] at h; simp only at h; rw [dif_neg he] at h; cases h
  ·
   rw [toksR_end wordsS signsS s i acc hi] at h; cases h; intro t ht hk
   rcases List.mem_append.1 ht with ht | ht
   ·
    exact hacc t ht hk
   ·
    rw [List.mem_singleton.1 ht] at hk; exact absurd (show (6 : Int) = 1 from hk) (by decide)
theorem tknm_of {s : ByteArray} {l : List Tk} (h : toksR wordsS signsS s (pastN gapB s 0) [] = .ok l) : TkNm l := fun i hk => by
 have h1 := toks_nm s _ (pastN gapB s 0) [] l rfl h (fun t ht => by cases ht)
 unfold tkA at hk ⊢
 rw [List.getD_eq_getElem?_getD] at hk ⊢
 cases hi : l[i]? with
 | none => rw [hi] at hk; exact absurd hk (by decide)
 | some t =>
  rw [hi] at hk; exact h1 t (List.mem_of_getElem? hi) hk
theorem parse_nz {s : ByteArray} {t : Tr} (h : parseS wordsS signsS s = .ok t) : t.nz = 0 := by
 unfold parseS at h
 split at h
 ·
  cases h
 ·
  split at h
  ·
   cases h
  ·
   rename_i l hl
   cases hp : progP l (fns l KK) with
   | out => rw [hp] at h; cases h
   | bad er p => rw [hp] at h; cases h
   | ok t2 j =>
    rw [hp] at h; simp only at h
    split at h
    ·
     cases h
    ·
     cases h; have h1 := prog_ky (fns_ky (tknm_of hl) _) hp; exact Nat.le_zero.1 h1
theorem kidF_nz {t : Tr} (h : t.nz = 0) (k : Nat) : (kidF t k).nz = 0 := by
 by_cases hk : k < t.kids.length
 ·
  rw [kidF_eq t k hk]; exact (nz_of t h).2 _ (List.getElem_mem _)
 ·
  have : kidF t k = t := by simp [kidF, List.getD, List.getElem?_eq_none (Nat.le_of_not_lt hk)]
  rw [this]; exact h
theorem decl_nz {t s : Tr} {ns : List ByteArray} (h : t.nz = 0) (hd : declT t = some (ns, s)) : s.nz = 0 := by
 unfold declT at hd
 split at hd
 ·
  cases hd; exact h
 ·
  split at hd
  ·
   cases hd; exact h
  ·
   split at hd
   ·
    cases hd; exact h
   ·
    split at hd
    ·
     cases hd; exact kidF_nz h 1
    ·
     cases hd
theorem free_nm : ∀ (d : Nat) (t : Tr) (c : ByteArray → Int) (y : ByteArray), t.nz = 0 → y ∈ frF d t c → nmB y = true
 | 0, t, c, y, _, h => by simp [frF] at h
 | d + 1, t, c, y, hz, h => by
  rw [frF, List.mem_append] at h
  rcases h with h | h
  ·
   unfold ownFree at h
   split at h
   ·
    rename_i hp
    rw [List.mem_singleton.1 h]; exact (nz_of t hz).1 hp.1
   ·
    cases h
  ·
   cases hd : declT t with
   | some r =>
    obtain ⟨ns, s⟩ := r; rw [hd] at h; simp only [List.mem_flatMap] at h; obtain ⟨k, hk, h⟩ := h; exact free_nm d k _ y ((nz_of s (decl_nz hz hd)).2 k hk) h
   | none =>
    rw [hd] at h; simp only at h
    split at h
    ·
     cases h
    ·
     rw [List.mem_flatMap] at h; obtain ⟨k, hk, h⟩ := h; exact free_nm d k c y ((nz_of t hz).2 k hk) h
def HcPre (s : ByteArray) (r : PaR) (w : World) : Prop := Calls Tryz.prog 24 #[.string s] w (ReadPost r w) ∧ ∀ W, Below w.heap.size w W → Calls Tryz.prog 39 #[] W fun e w' => e = .returned (.bool true) ∧ Below W.heap.size W w'
theorem hcl_no (s : ByteArray) (r : PaR) (w : World) (hr : ∀ t, r ≠ .ok t) (h : HcPre s r w) : Calls Tryz.prog 9 #[.string s] w fun e w' => e = .returned (.bool true) ∧ Below w.heap.size w w' := by
 have h1 : Calls Tryz.prog 24 #[.string s] w fun e w' => e = .returned (.tuple #[.pointer none, .bool false]) ∧ Below w.heap.size w w' := by
  have h2 := h.1
  cases r with
  | ok t => exact absurd rfl (hr t)
  | bare => exact h2
  | «at» a b => exact h2
 have HC := hide h1
 have HK := hide h.2
 clear h h1 hr
 go_enter Tryz.func9, Tryz.ntmps9
 go_wp2_with fail
 refine cm HC.out ?_
 rintro e w1 ⟨rfl, hb⟩
 have HB := hide hb
 have HC1 := hide (unhide HK w1 hb)
 clear hb HC
 go_wp2_with fail
 refine cm HC1.out ?_
 rintro e w2 ⟨rfl, hb2⟩
 have HB2 := hide (HB.out.trans (hb2.mono HB.out.size))
 have HC2 := hide (unhide HK w2 HB2.out)
 clear hb2 HC1
 go_wp2_with fail
 refine cm HC2.out ?_
 rintro e w3 ⟨rfl, hb3⟩
 have HB3 := hide (HB2.out.trans (hb3.mono HB2.out.size))
 clear hb3 HC2
 go_wp2_with fail
 go_ret
 exact ⟨rfl, HB3.out⟩
theorem hcl_big (s : ByteArray) (t : Tr) (w : World) (hz : 2000 < s.size) (h : HcPre s (.ok t) w) : Calls Tryz.prog 9 #[.string s] w fun e w' => e = .returned (.bool true) ∧ Below w.heap.size w w' := by
 have HC := hide h.1
 have HK := hide h.2
 have hzi : (2000 : Int) < (s.size : Int) := by omega
 clear h
 go_enter Tryz.func9, Tryz.ntmps9
 go_wp2_with fail
 refine cm HC.out ?_
 rintro e w1 ⟨p, rfl, hn, hb⟩
 have HB := hide hb
 have HC1 := hide (unhide HK w1 hb)
 clear hb HC hn
 go_wp2_with fail
 refine cm HC1.out ?_
 rintro e w2 ⟨rfl, hb2⟩
 have HB2 := hide (HB.out.trans (hb2.mono HB.out.size))
 have HC2 := hide (unhide HK w2 HB2.out)
 clear hb2 HC1
 go_wp2_with fail
 refine cm HC2.out ?_
 rintro e w3 ⟨rfl, hb3⟩
 have HB3 := hide (HB2.out.trans (hb3.mono HB2.out.size))
 clear hb3 HC2
 go_wp2_with fail
 go_ret
 exact ⟨rfl, HB3.out⟩
def FMap (m : Nat) (ks : List ByteArray) (W : World) : Prop := W.heap[m]? = some (.map (mapOf (ks.map fun k => (k, Value.bool true))) ks.length) ∧ ks.Nodup
theorem find_yes {s : ByteArray} : ∀ {ks : List ByteArray}, s ∈ ks → (ks.map fun k => (k, Value.bool true)).find? (fun e => decide (s = e.1)) = some (s, Value.bool true)
 | [], h => by cases h
 | k :: ks, h => by
  simp only [List.map_cons, List.find?_cons]
  by_cases hk : s = k
  ·
   subst hk; simp
  ·
   rw [decide_eq_false hk]; exact find_yes ((List.mem_cons.1 h).resolve_left hk)
theorem find_no {s : ByteArray} : ∀ {ks : List ByteArray}, s ∉ ks → (ks.map fun k => (k, Value.bool true)).find? (fun e => decide (s = e.1)) = none
 | [], _ => rfl
 | k :: ks, h => by
  simp only [List.map_cons, List.find?_cons]; have hk : ¬ s = k := fun e => h (by rw [e]; exact List.mem_cons_self)
  rw [decide_eq_false hk]; exact find_no (fun hm => h (List.mem_cons_of_mem _ hm))
theorem setL_true (s : ByteArray) : ∀ ks : List ByteArray, setL s (.bool true) (ks.map fun k => (k, Value.bool true)) = ks.map fun k => (k, Value.bool true)
 | [] => rfl
 | k :: ks => by
  simp only [List.map_cons, setL]
  split
  ·
   rename_i h; rw [h]
  ·
   rw [setL_true s ks]
theorem addB_nodup {l : List ByteArray} (h : l.Nodup) (s : ByteArray) : (addB l s).Nodup := by
 unfold addB
 split
 ·
  exact h
 ·
  rename_i hn
  rw [List.nodup_append]; refine ⟨h, by simp, fun a ha b hb e => ?_⟩; rw [List.mem_singleton.1 hb] at e; exact hn (hasB_iff.2 (e ▸ ha))
theorem FMap.put {m : Nat} {ks : List ByteArray} {W : World} (h : FMap m ks W) (s : ByteArray) : ∃ W2, (Instr.mapUpdate 103 (.map (some m)) (.string s) (.bool true)).run Tryz.prog W = .ok () W2 ∧ FMap m (addB ks s) W2 ∧ W2.heap.size = W.heap.size ∧ (∀ k, k ≠ m → W2.heap[k]? = W.heap[k]?) ∧ W2.os = W.os ∧ W2.tape = W.tape ∧ W2.output = W.output := by
 obtain ⟨h1, hnd⟩ := h
 have hlt := lt_of_heap h1
 have hlen : (ks.map fun k => (k, Value.bool true)).length = ks.length := List.length_map ..
 by_cases hs : s ∈ ks
 ·
  have hf := find_yes hs; refine ⟨_, update_old 103 4 m ks.length _ s (.bool true) W Tryz.underlying103 h1 _ hf, ⟨?_, addB_nodup hnd s⟩, setMap_size _ _ _, fun k hk => setMap_other hk, rfl, rfl, rfl⟩
  rw [setMap_at hlt, setL_true, addB_in hs]
 ·
  have hf := find_no hs; have h1' : W.heap[m]? = some (.map (mapOf (ks.map fun k => (k, Value.bool true))) (ks.map fun k => (k, Value.bool true)).length) := by rw [hlen]; exact h1
  refine ⟨_, update_new 103 4 m _ s (.bool true) W Tryz.underlying103 h1' hf, ⟨?_, addB_nodup hnd s⟩, setMap_size _ _ _, fun k hk => setMap_other hk, rfl, rfl, rfl⟩
  have ha : addB ks s = ks ++ [s] := by unfold addB; rw [if_neg (by rw [hasB_no.2 hs]; decide)]
  rw [setMap_at hlt, ha, hlen]; simp
abbrev wkV (bG bW : Nat) : Value := .func (.func 78) #[] #[.pointer (some ⟨bG, 0, none⟩), .pointer (some ⟨bW, 0, none⟩)]
structure RfSt (bG bW m : Nat) (ks : List ByteArray) (w : World) : Prop where
 hG : w.heap[bG]? = some (.cells #[.map (some m)] 103 (0, 0))
 hW : w.heap[bW]? = some (.cells #[wkV bG bW] 104 (0, 0))
 fm : FMap m ks w
 gm : bG ≠ m
 wm : bW ≠ m
theorem RfSt.later {bG bW m : Nat} {ks : List ByteArray} {w X : World} (h : RfSt bG bW m ks w) (hb : Below w.heap.size w X) : RfSt bG bW m ks X :=
 ⟨(hb.block bG (lt_of_heap h.hG)).trans h.hG, (hb.block bW (lt_of_heap h.hW)).trans h.hW, ⟨(hb.block m (lt_of_heap h.fm.1)).trans h.fm.1, h.fm.2⟩, h.gm, h.wm⟩
def decR (t : Tr) : List ByteArray × Tr :=
 if t.kd = 1 then (namesT t true, t)
 else if t.kd = 6 then (namesT t false, t)
 else if t.kd = 13 then ([t.tx], t)
 else if t.kd = 5 ∨ t.kd = 37 then (namesT (kidF t 1) true ++ (onceL ((kidF t 0).kids.map Tr.tx) ++ [tArgF] ++ (if t.kd = 37 then [t.tx] else [])), kidF t 1)
 else ([], t)
def ownR (t : Tr) (kn : List ByteArray) : List ByteArray := if t.kd = 23 ∧ hasB kn t.tx = false then [t.tx] else []
def rlF : Nat → Tr → List ByteArray → List ByteArray
 | 0, _, _ => []
 | d + 1, t, kn => ownR t kn ++ (decR t).2.kids.flatMap fun k => rlF d k ((decR t).1 ++ kn)
def RwAt (bG bW m d : Nat) : Prop := ∀ (t : Tr), t.count ≤ d → t.ill = 0 → ∀ (p : Nat) (kn : List ByteArray) (kv : Value) (ks : List ByteArray) (w : World), NAt (fun x => x ≠ m) w t p → RfSt bG bW m ks w → SRow 0 w kv kn → kv.ownBlock ≠ some m → t.count ≤ 1500 → kn.length + 6100 * t.count ≤ 50000000 →
  Calls Tryz.prog 78 #[nPtr p, kv, .pointer (some ⟨bG, 0, none⟩), .pointer (some ⟨bW, 0, none⟩)] w fun e w' => e = .returned (.tuple #[]) ∧ RfSt bG bW m ((rlF d t kn).foldl addB ks) w' ∧ Ap m w.heap.size w w'
theorem RfSt.ap {bG bW m : Nat} {ks ks' : List ByteArray} {w X : World} (h : RfSt bG bW m ks w) (ha : Ap m w.heap.size w X) (hf : FMap m ks' X) : RfSt bG bW m ks' X :=
 ⟨(ha.block bG (lt_of_heap h.hG) h.gm).trans h.hG, (ha.block bW (lt_of_heap h.hW) h.wm).trans h.hW, hf, h.gm, h.wm⟩
section
variable {bG bW m d : Nat} (ih : RwAt bG bW m d) (t : Tr) (ht : t.count ≤ d + 1) (hill : t.ill = 0) (p : Nat) (kn : List ByteArray) (kv : Value) (ks : List ByteArray) (w : World) (hnt : NAt (fun x => x ≠ m) w t p) (hS : RfSt bG bW m ks w) (hk : SRow 0 w kv kn) (hkm : kv.ownBlock ≠ some m) (hc : t.count ≤ 1500) (hkl : kn.length + 6100 * t.count ≤ 50000000)
include ih ht hill hnt hS hk hkm hc hkl
end
section
variable {bG bW m d : Nat} (ih : RwAt bG bW m d) (t : Tr) (ht : t.count ≤ d + 1) (hill : t.ill = 0) (p : Nat) (kn : List ByteArray) (kv : Value) (ks : List ByteArray) (w : World) (hnt : NAt (fun x => x ≠ m) w t p) (hS : RfSt bG bW m ks w) (hk : SRow 0 w kv kn) (hkm : kv.ownBlock ≠ some m) (hc : t.count ≤ 1500) (hkl : kn.length + 6100 * t.count ≤ 50000000)
include ih ht hill hnt hS hk hkm hc hkl
end
abbrev srt (l : List (List UInt8)) : List (List UInt8) := l.mergeSort fun x y => decide (x ≤ y)
theorem lL_trans {a b c : List UInt8} (h1 : a ≤ b) (h2 : b ≤ c) : a ≤ c := List.le_trans h1 h2
theorem lL_anti {a b : List UInt8} (h1 : a ≤ b) (h2 : b ≤ a) : a = b := List.le_antisymm h1 h2
theorem srt_pw (l : List (List UInt8)) : (srt l).Pairwise fun x y => x ≤ y := by
 have h := List.pairwise_mergeSort (le := fun (x y : List UInt8) => decide (x ≤ y)) (fun a b c h1 h2 => by
  simp only [decide_eq_true_eq] at h1 h2 ⊢; exact lL_trans h1 h2) (fun a b => by
  simp only [Bool.or_eq_true, decide_eq_true_eq]; exact List.le_total a b) l
 exact h.imp fun h => by simpa using h
theorem srt_mem {l : List (List UInt8)} {x : List UInt8} : x ∈ srt l ↔ x ∈ l := (List.mergeSort_perm l _).mem_iff
theorem cmp_facts (d : Array (List UInt8)) (hs : ∀ i j, i ≤ j → j < d.size → d[i]! ≤ d[j]!) : ∀ m, m ≤ d.size → (∀ x, x ∈ Lib.compactUpTo d m ↔ ∃ j, j < m ∧ d[j]! = x) ∧ (Lib.compactUpTo d m).Nodup ∧ (Lib.compactUpTo d m).Pairwise (fun x y => x ≤ y)
 | 0, _ => ⟨fun x => ⟨fun h => by simp [Lib.compactUpTo] at h, fun ⟨j, hj, _⟩ => by omega⟩, by simp [Lib.compactUpTo], by simp [Lib.compactUpTo]⟩
 | m + 1, hm => by
  obtain ⟨h1, h2, h3⟩ := cmp_facts d hs m (by omega); rw [Lib.compactUpTo_succ]
  cases hk : Lib.keeps d m with
  | true =>
   have hk' : m = 0 ∨ d[m]! ≠ d[m - 1]! := by simpa [Lib.keeps] using hk
   have hno : d[m]! ∉ Lib.compactUpTo d m := fun hin => by
    obtain ⟨j, hj, hje⟩ := (h1 _).1 hin; have h4 := hs j (m - 1) (by omega) (by omega); have h5 := hs (m - 1) m (by omega) (by omega); rw [hje] at h4; exact hk'.elim (fun h => by omega) (fun h => h (lL_anti h4 h5))
   rw [if_pos rfl]; refine ⟨fun x => ?_, ?_, ?_⟩
   ·
    rw [List.mem_append, h1, List.mem_singleton]; constructor
    ·
     rintro (⟨j, hj, he⟩ | rfl)
     ·
      exact ⟨j, by omega, he⟩
     ·
      exact ⟨m, by omega, rfl⟩
    ·
     rintro ⟨j, hj, he⟩
     rcases Nat.lt_or_ge j m with hl | hl
     ·
      exact Or.inl ⟨j, hl, he⟩
     ·
      have : j = m := by omega
      exact Or.inr (by rw [← he, this])
   ·
    rw [List.nodup_append]; refine ⟨h2, by simp, fun a ha b hb e => ?_⟩; rw [List.mem_singleton.1 hb] at e; exact hno (e ▸ ha)
   ·
    rw [List.pairwise_append]; refine ⟨h3, by simp, fun a ha b hb => ?_⟩; rw [List.mem_singleton.1 hb]; obtain ⟨j, hj, rfl⟩ := (h1 _).1 ha; exact hs j m (by omega) (by omega)
  | false =>
   have hk' : ¬ (m = 0 ∨ d[m]! ≠ d[m - 1]!) := by simpa [Lib.keeps] using hk
   rw [if_neg (by decide), List.append_nil]; refine ⟨fun x => ?_, h2, h3⟩; rw [h1]; constructor
   ·
    rintro ⟨j, hj, he⟩; exact ⟨j, by omega, he⟩
   ·
    rintro ⟨j, hj, he⟩
    rcases Nat.lt_or_ge j m with hl | hl
    ·
     exact ⟨j, hl, he⟩
    ·
     have hjm : j = m := by omega
     refine ⟨m - 1, by omega, ?_⟩; rw [← he, hjm]; exact Classical.byContradiction fun hc => hk' (Or.inr fun e => hc e.symm)
theorem getB (l : List (List UInt8)) (i : Nat) (h : i < l.length) : l.toArray[i]! = l[i] := by simp [h]
theorem decR_counts (t : Tr) : Tr.counts (decR t).2.kids + 1 ≤ t.count := by
 have htc : t.count = 1 + Tr.counts t.kids := by cases t with | mk kd tx nn ks => exact count_mk _ _ _ _
 unfold decR
 split
 ·
  simp only; omega
 ·
  split
  ·
   simp only; omega
  ·
   split
   ·
    simp only; omega
   ·
    split
    ·
     by_cases hl : 1 < t.kids.length
     ·
      rw [kidF_eq t 1 hl]; have h1 := counts_le t.kids 1 hl; have h2 : (t.kids[1]).count = 1 + Tr.counts (t.kids[1]).kids := by cases t.kids[1] with | mk kd tx nn ks => exact count_mk _ _ _ _
      simp only; omega
     ·
      have : kidF t 1 = t := by simp [kidF, List.getD, List.getElem?_eq_none (Nat.le_of_not_lt hl)]
      simp only [this]; omega
    ·
     simp only; omega
mutual
theorem rlF_len : ∀ (d : Nat) (t : Tr) (kn : List ByteArray), (rlF d t kn).length ≤ t.count
 | 0, t, kn => by simp [rlF]
 | d + 1, t, kn => by
  have ho : (ownR t kn).length ≤ 1 := by unfold ownR; split <;> simp
  have h1 := decR_counts t; have h2 := rlFs_len d (decR t).2.kids ((decR t).1 ++ kn); rw [rlF, List.length_append]; omega
theorem rlFs_len : ∀ (d : Nat) (ts : List Tr) (kn : List ByteArray), (ts.flatMap fun k => rlF d k kn).length ≤ Tr.counts ts
 | d, [], kn => by simp [counts_nil]
 | d, t :: ts, kn => by
  rw [List.flatMap_cons, List.length_append, counts_cons]; have h1 := rlF_len d t kn; have h2 := rlFs_len d ts kn; omega
end
theorem free_facts (l : List ByteArray) : (∀ y, y ∈ freeOf l ↔ y ∈ l) ∧ (freeOf l).Pairwise (fun x y => toL x < toL y) ∧ (freeOf l).length ≤ l.length := by
 have hd : ∀ i j, i ≤ j → j < (srt (l.map toL)).toArray.size → (srt (l.map toL)).toArray[i]! ≤ (srt (l.map toL)).toArray[j]! := fun i j hij hj => by
  have hj' : j < (srt (l.map toL)).length := by simpa using hj
  have hi' : i < (srt (l.map toL)).length := by omega
  rw [getB _ i hi', getB _ j hj']
  rcases Nat.lt_or_ge i j with hl | hl
  ·
   exact List.pairwise_iff_getElem.1 (srt_pw (l.map toL)) i j hi' hj' hl
  ·
   have : i = j := by omega
   subst this; exact List.le_refl _
 obtain ⟨h1, h2, h3⟩ := cmp_facts (srt (l.map toL)).toArray hd (srt (l.map toL)).length (by simp)
 have hC : freeOf l = (Lib.compactUpTo (srt (l.map toL)).toArray (srt (l.map toL)).length).map ofL := rfl
 have hm : ∀ z, z ∈ Lib.compactUpTo (srt (l.map toL)).toArray (srt (l.map toL)).length ↔ z ∈ l.map toL := fun z => by
  rw [h1, ← srt_mem (l := l.map toL), List.mem_iff_getElem]; constructor
  ·
   rintro ⟨j, hj, rfl⟩; exact ⟨j, hj, (getB _ j hj).symm⟩
  ·
   rintro ⟨j, hj, rfl⟩; exact ⟨j, hj, getB _ j hj⟩
 refine ⟨fun y => ?_, ?_, ?_⟩
 ·
  rw [hC, List.mem_map]; constructor
  ·
   rintro ⟨z, hz, rfl⟩; rw [hm, List.mem_map] at hz; obtain ⟨u, hu, rfl⟩ := hz; rw [ofL_toL]; exact hu
  ·
   intro hy; exact ⟨toL y, (hm _).2 (List.mem_map_of_mem hy), ofL_toL y⟩
 ·
  rw [hC, List.pairwise_map]; refine (h3.and h2).imp fun {a b} hab => ?_; rw [toL_ofL, toL_ofL]; exact Classical.byContradiction fun hn => hab.2 (lL_anti hab.1 hn)
 ·
  rw [hC, List.length_map]; unfold Lib.compactUpTo; rw [List.length_map]; refine Nat.le_trans (List.length_filter_le _ _) ?_; rw [List.length_range, List.length_mergeSort, List.length_map]; exact Nat.le_refl _
theorem less_of {x y : ByteArray} (h : toL x < toL y) : Op.bytesLess x.toList y.toList = true := by
 rw [Go.Proofs.bytesLess_eq, ByteArray.toList_eq, ByteArray.toList_eq]
 exact decide_eq_true h
abbrev tV4 : ByteArray := ⟨#[118, 97, 114, 32]⟩
abbrev tSC : ByteArray := ⟨#[59, 32]⟩
def moreL (xs : List ByteArray) : ByteArray := xs.foldl (fun m x => m ++ ((tV4 ++ x) ++ tSC)) ⟨#[]⟩
theorem more_snoc (xs : List ByteArray) (x : ByteArray) : moreL (xs ++ [x]) = moreL xs ++ ((tV4 ++ x) ++ tSC) := by unfold moreL; rw [List.foldl_append]; rfl
theorem cat_list (a b : ByteArray) : (a ++ b).data.toList = a.data.toList ++ b.data.toList := by simp
theorem more_list : ∀ (xs : List ByteArray) (m : ByteArray), (xs.foldl (fun m x => m ++ ((tV4 ++ x) ++ tSC)) m).data.toList = m.data.toList ++ xs.flatMap fun x => [118, 97, 114, 32] ++ x.data.toList ++ [59, 32]
 | [], m => by simp
 | x :: xs, m => by
  rw [List.foldl_cons, more_list xs, cat_list, cat_list, cat_list, List.flatMap_cons]; simp
theorem vtext_list (s : ByteArray) : ∀ xs : List ByteArray, (vtext xs s).data.toList = (xs.flatMap fun x => [118, 97, 114, 32] ++ x.data.toList ++ [59, 32]) ++ s.data.toList
 | [] => by simp [vtext]
 | x :: xs => by
  rw [vtext, jk_list, oneV, jk_list, semi_list, vtext_list s xs, List.flatMap_cons]; simp
theorem more_vtext (xs : List ByteArray) (s : ByteArray) : moreL xs ++ s = vtext xs s := by
 apply bytes_ext
 rw [cat_list, vtext_list, moreL, more_list]
 simp
theorem more_size (xs : List ByteArray) (h : ∀ x ∈ xs, x.size ≤ 20) : (moreL xs).size ≤ 26 * xs.length := by
 have key : ∀ (xs : List ByteArray) (m : ByteArray), (∀ x ∈ xs, x.size ≤ 20) → (xs.foldl (fun m x => m ++ ((tV4 ++ x) ++ tSC)) m).size ≤ m.size + 26 * xs.length := by
  intro xs
  induction xs with
  | nil => intro m _; simp
  | cons x xs ih =>
   intro m h; have h1 := ih (m ++ ((tV4 ++ x) ++ tSC)) fun y hy => h y (List.mem_cons_of_mem _ hy); have h2 := h x List.mem_cons_self; have h3 : (m ++ ((tV4 ++ x) ++ tSC)).size = m.size + (4 + x.size + 2) := by
    rw [ByteArray.size_append, ByteArray.size_append, ByteArray.size_append]; rfl
   rw [List.foldl_cons, List.length_cons]; omega
 have := key xs ⟨#[]⟩ h
 unfold moreL
 have h0 : (⟨#[]⟩ : ByteArray).size = 0 := rfl
 omega
end Go.Proofs.YtodmgaikhbmlnaaGreatDoor
