/-
  All that the reader reads comes back, and a whole program.
-/
import Derived.Test.YtodmgaikhbmlnaaGreatDoorTk27
set_option maxRecDepth 100000
set_option maxHeartbeats 16000000
namespace Go.Proofs.YtodmgaikhbmlnaaGreatDoor
open Go.RowKit

section
variable {l : List Tk} {Nm : ByteArray → Prop}
section
variable {F : Fns} (hF : FB l Nm F) (hQ : FQ l Nm F)
include hF hQ
theorem statement_back (t : Tr) (d i : Nat) (hsh : Shp Nm 1 t) (hnd : t.nd) (h : At l i t.toks) (hx : endsIf t.count t = true → fx l (i + t.toks.length) ≠ tElse) (hy : fx l (i + t.toks.length) ≠ tFinally) : Good (statementP l F d i) t (i + t.toks.length) := by
  obtain ⟨k2, k3, k4, k7, k8, k9, k10, k11⟩ := sk_head
  unfold statementP
  cases hsh with
  | @decl kd s v hk hs hv hl hc =>
    have h1 := h
    rw [toks_decl hk] at h1
    have hq : look2 stKeys (fx l i) = some 0 := by rw [h1.1.fx2]; rcases hk with rfl | rfl | rfl <;> assumption
    rw [hq]
    exact decl_back hF hk s v hv hl hc (nd_kids hnd) d i h
  | @func s p b hs hp hb =>
    have h1 := h
    rw [toks_func] at h1
    rw [h1.1.fx2, sk_function]
    exact func_back hF s p b hp hb hnd d i h
  | sblk hb =>
    have hq : look2 stKeys (fx l i) = some 2 := by
      cases hb with
      | @blk ts _ =>
        have h1 := h
        rw [toks_blk] at h1
        rw [h1.1.fx5]; exact sk_brace
    rw [hq]
    exact blk_back hF t hb hnd d i h
  | @sif v s hv hs =>
    have h1 := h
    rw [toks_sif] at h1
    rw [h1.1.fx2, k7]
    exact choice_back2 hF v s hv hs hnd d i h (hx (ends_sif v s)) hy
  | @sife v s e hv hs he =>
    have h1 := h
    rw [toks_sife] at h1
    rw [h1.1.fx2, k7]
    exact choice_back3 hF v s e hv hs he hnd d i h (fun hh => hx (by rw [ends_sife]; exact hh)) hy
  | @loop kd v s hk hv hs =>
    have h1 := h
    rw [toks_loop hk] at h1
    have hq : look2 stKeys (fx l i) = some 5 := by rw [h1.1.fx2]; rcases hk with rfl | rfl <;> assumption
    rw [hq]
    exact behind_back hF hk v s hv hs hnd d i h (fun hh => hx (by rw [ends_loop hk]; exact hh)) hy
  | @give kd v hk hv hl hc =>
    have hq : look2 stKeys (fx l i) = some 6 := by
      have h1 : fx l i = hdText kd := by
        cases v with
        | nil => rw [toks_give0 hk] at h; exact h.1.fx2
        | cons a r =>
          obtain rfl : r = [] := by cases r with | nil => rfl | cons b r => simp at hl
          rw [toks_give1 hk] at h; exact h.1.fx2
      rw [h1]; rcases hk with rfl | rfl <;> assumption
    rw [hq]
    exact giving_back hF hk v hv hl hc (nd_kids hnd) d i h
  | @atm b c f hb hc hf hl =>
    have h1 := h
    rw [toks_atm] at h1
    rw [h1.1.fx2, sk_try]
    exact attempt_back hF b c f hb hc hf hl hnd d i h hy
  | empty =>
    rw [toks_empty] at h ⊢
    rw [h.1.fx5, sk_semi]
    show Good ((mustP l tSemi i).bind _) _ _
    rw [h.1.must]
    exact Good.ok
  | @expr v hv =>
    obtain ⟨h1, h2⟩ := expr_back hF hQ v hv (nd_kids hnd v (by simp)) d i h
    rw [h1]
    exact h2
end
theorem fns_back : ∀ k, FB l Nm (fns l k) ∧ FQ l Nm (fns l k)
  | 0 => ⟨⟨fun _ _ _ _ _ _ _ _ => Or.inr (Or.inr rfl), fun _ _ _ _ _ _ _ _ => Or.inr (Or.inr rfl), fun _ _ _ _ _ _ _ _ _ _ => Or.inr (Or.inr rfl), fun _ _ _ _ _ _ _ _ => Or.inr (Or.inr rfl)⟩,
      ⟨fun _ _ _ _ _ _ _ => Or.inr (Or.inr rfl), fun _ _ _ _ _ _ _ => Or.inr (Or.inr rfl), fun _ _ _ _ _ _ _ => Or.inr (Or.inr rfl)⟩⟩
  | k + 1 => by
    obtain ⟨hF, hQ⟩ := fns_back k
    refine ⟨⟨fun t d i hsh hnd h hx hy => statement_back hF hQ t d i hsh hnd h hx hy, fun t d i hsh hnd h hs hq => value_back hF t d i hsh hnd h hs hq, fun t least d i h2 h8 hsh hnd h hs => pair_back hF t least d i h2 h8 hsh hnd h hs, fun t d i hsh hnd h h1 h2 => single_back hF t hsh hnd d i h h1 h2⟩, ⟨fun t d i hsh hnd h hx => ?_, fun t d i hsh hnd h hx => ?_, fun t d i hsh hnd h hx => ?_⟩⟩
    · show Good (valueP l (fns l k) d i) _ _
      unfold valueP
      refine (hQ.pr t d i hsh hnd h hx).bind ?_
      rw [if_neg (by rw [hx]; decide)]
      exact Good.ok
    · show Good (pairP l (fns l k) 2 d i) _ _
      unfold pairP
      exact (hQ.sg t d i hsh hnd h hx).bind (pair_stop (stop_at hx (Or.inr (Or.inr (Or.inr (Or.inl rfl)))) 2))
    · show Good (singleP l (fns l k) d i) _ _
      unfold singleP
      have h3 : sgP 1 (fx l i) = none := by rw [h.1.fx5]; kernel_rfl
      rw [h3]
      unfold askedP
      exact (par_back hF t hsh hnd d i h).bind (asked_stop (by rw [hx]; decide) (by rw [hx]; decide))
theorem Mt.ne6 {k : Tk} {s : TS} (h : Mt k s) (hs : s.1 ≠ 6) : k.kd ≠ 6 := by rw [h.1]; exact hs
theorem Mt.si6 {i : Nat} {x : ByteArray} (h : Mt (tkA l i) (siT x)) : (tkA l i).kd ≠ 6 := by
  unfold siT at h
  split at h
  · exact h.ne6 (by simp)
  · exact h.ne6 (by simp)
theorem kd_at {t : Tr} {i : Nat} (ih : At l i t.toks → (tkA l i).kd ≠ 6) {least : Int} (h : At l i (t.at least)) : (tkA l i).kd ≠ 6 := by
  by_cases hs : strK t.kd < least
  · rw [at_par hs] at h
    exact h.1.ne6 (by simp)
  · rw [at_plain (by omega)] at h
    exact ih h
theorem kd_val {c : Nat} {t : Tr} (hsh : Shp Nm c t) (i : Nat) (hc : c = 0) : At l i t.toks → (tkA l i).kd ≠ 6 := by
  induction hsh with
  | name _ => intro h; rw [toks_name] at h; exact h.1.ne6 (by simp)
  | str _ => intro h; rw [toks_str] at h; exact h.1.ne6 (by simp)
  | num _ => intro h; rw [toks_num] at h; exact h.1.ne6 (by simp)
  | lit hk => intro h; obtain ⟨g, hg, _, hp, _⟩ := sg_lit hk; rw [toks_lit hg hp] at h; exact h.1.si6
  | memb _ _ ih => intro h; rw [toks_memb] at h; exact kd_at (ih rfl) h.app.1
  | call _ _ _ ih _ => intro h; rw [toks_call] at h; exact kd_at (ih rfl) h.app.1
  | one hk => intro h; obtain ⟨g, hg, _, hp, _⟩ := sg_one hk; rw [toks_one hg hp] at h; exact h.1.si6
  | two hk _ _ ih _ => intro h; obtain ⟨g, hg, _, hp, _⟩ := sg_two hk; rw [toks_two hg hp] at h; exact kd_at (ih rfl) h.app.1
  | asg _ _ _ ih _ => intro h; rw [toks_asg] at h; exact kd_at (ih rfl) h.app.1
  | obj => intro h; rw [toks_obj] at h; exact h.1.ne6 (by simp)
  | lam => intro h; rw [toks_lam] at h; exact h.1.ne6 (by simp)
  | _ => cases hc
theorem kd_st {t : Tr} (hsh : Shp Nm 1 t) (i : Nat) (h : At l i t.toks) : (tkA l i).kd ≠ 6 := by
  cases hsh with
  | decl hk => rw [toks_decl hk] at h; exact h.1.ne6 (by simp)
  | func => rw [toks_func] at h; exact h.1.ne6 (by simp)
  | sblk hb => cases hb with | blk => rw [toks_blk] at h; exact h.1.ne6 (by simp)
  | sif => rw [toks_sif] at h; exact h.1.ne6 (by simp)
  | sife => rw [toks_sife] at h; exact h.1.ne6 (by simp)
  | loop hk => rw [toks_loop hk] at h; exact h.1.ne6 (by simp)
  | @give kd v hk _ hl =>
    cases v with
    | nil => rw [toks_give0 hk] at h; exact h.1.ne6 (by simp)
    | cons a r =>
      obtain rfl : r = [] := by cases r with | nil => rfl | cons b r => simp at hl
      rw [toks_give1 hk] at h; exact h.1.ne6 (by simp)
  | atm => rw [toks_atm] at h; exact h.1.ne6 (by simp)
  | empty => rw [toks_empty] at h; exact h.1.ne6 (by simp)
  | @expr v hv =>
    rw [toks_expr] at h
    have h1 := h.app.1
    split at h1
    · exact h1.1.ne6 (by simp)
    · exact kd_at (kd_val hv i rfl) h1
theorem prog_loop_back {F : Fns} (hF : FB l Nm F) : ∀ (k : Nat) (ts acc : List Tr) (i : Nat), (∀ t ∈ ts, Shp Nm 1 t ∧ t.nd) → At l i (ts.map Tr.toks).flatten → (tkA l (i + (ts.map Tr.toks).flatten.length)).kd = 6 → Good (progLoop l F k acc i) (acc ++ ts) (i + (ts.map Tr.toks).flatten.length)
  | 0, _, _, _, _, _, _ => Or.inr (Or.inr rfl)
  | k + 1, [], acc, i, _, _, h6 => by
    unfold progLoop
    rw [if_pos (show (tkA l i).kd = 6 from h6), List.append_nil]
    exact Good.ok
  | k + 1, t :: ts, acc, i, ht, h, h6 => by
    have h1 : At l i (t.toks ++ (ts.map Tr.toks).flatten) := by simpa using h
    obtain ⟨hsh, hnd⟩ := ht t (List.mem_cons_self ..)
    unfold progLoop
    rw [if_neg (kd_st hsh i h1.app.1)]
    have e : i + (((t :: ts).map Tr.toks).flatten).length = i + t.toks.length + ((ts.map Tr.toks).flatten).length := by simp; omega
    rw [e] at h6 ⊢
    have hx : fx l (i + t.toks.length) ≠ tElse ∧ fx l (i + t.toks.length) ≠ tFinally := by
      have h3 := h1.app.2
      cases ts with
      | nil =>
        have h7 : fx l (i + t.toks.length) = noText := by
          unfold fx
          have h8 : (tkA l (i + t.toks.length)).kd = 6 := h6
          rw [h8, if_neg (by decide)]
        rw [h7]; refine ⟨?_, ?_⟩ <;> decide
      | cons u us =>
        have h4 : At l (i + t.toks.length) (u.toks ++ (us.map Tr.toks).flatten) := by simpa using h3
        have h5 := head_st (ht u (by simp)).1 (Or.inl rfl) _ h4.app.1
        exact ⟨h5.1, h5.2.2⟩
    refine (Good.deep (hF.st t _ i hsh hnd h1.app.1 (fun _ => hx.1) hx.2)).bind ?_
    have h5 := prog_loop_back hF k ts (acc ++ [t]) (i + t.toks.length) (fun u hu => ht u (List.mem_cons_of_mem _ hu)) h1.app.2 h6
    rw [List.append_assoc] at h5
    exact h5
/-- The reader's answer on the tokens of a program that has its shape. -/
theorem prog_back (k : Nat) (t : Tr) (hsh : Shp Nm 9 t) (hnd : ∀ u ∈ t.kids, u.nd) (hcd : t = codeT (.mk 1 noText 0 t.kids)) (h : At l 0 t.toks) (h6 : (tkA l t.toks.length).kd = 6) : Good (progP l (fns l k)) t t.toks.length := by
  cases hsh with
  | @prog tx ts htx hs =>
    have e : (Tr.mk 1 tx 0 ts).toks = (ts.map Tr.toks).flatten := by
      rw [toks_mk, toksL_map]
      show ((ts.map fun t => (t.kd, t.toks)).map (·.2)).flatten = _
      rw [List.map_map]; rfl
    rw [e] at h h6 ⊢
    unfold progP
    have h1 := prog_loop_back (fns_back (Nm := Nm) k).1 (fns l k).fuel ts [] 0 (fun u hu => ⟨hs u hu, hnd u hu⟩) h (by rw [Nat.zero_add]; exact h6)
    rw [Nat.zero_add] at h1
    refine h1.bind ?_
    have hcd' : codeT (Tr.mk 1 noText 0 ts) = Tr.mk 1 tx 0 ts := hcd.symm
    show Good (PR.ok (codeT (Tr.mk 1 noText 0 ts)) _) _ _
    rw [hcd']
    exact Good.ok
end

theorem nds_of : ∀ {ts : List Tr}, (∀ t ∈ ts, t.nd) → Tr.nds ts
  | [], _ => by rw [Tr.nds]; trivial
  | a :: ts, h => by
    rw [Tr.nds]
    exact ⟨h a (by simp), nds_of fun t ht => h t (by simp [ht])⟩
theorem nd_of {kd : Int} {tx : ByteArray} {n : Int} {ks : List Tr} (h : kd ≠ 7 ∧ kd ≠ 5 ∧ kd ≠ 37) (hk : ∀ t ∈ ks, t.nd) : (Tr.mk kd tx n ks).nd := by
  rw [nd_mk]
  refine ⟨⟨fun e => absurd e h.1, fun e => ?_⟩, nds_of hk⟩
  rcases e with e | e
  · exact absurd e h.2.1
  · exact absurd e h.2.2
theorem ends_no {k : Nat} {kd : Int} {tx : ByteArray} {n : Int} {ks : List Tr} (h : kd ≠ 7 ∧ kd ≠ 8 ∧ kd ≠ 9) : endsIf k (.mk kd tx n ks) = false := by
  cases k with
  | zero => rfl
  | succ k =>
    unfold endsIf
    rw [if_neg h.1, if_neg (fun e => by rcases e with e | e; exact h.2.1 e; exact h.2.2 e)]
theorem nd_body {ts : List Tr} (h : ∀ t ∈ ts, t.nd) : (codeT (.mk 6 noText 0 ts)).nd ∧ codeT (.mk 6 noText 0 ts) = codeT (.mk 6 noText 0 (codeT (.mk 6 noText 0 ts)).kids) := by
  obtain ⟨tx, _, e⟩ := codeT_mk 6 0 ts
  refine ⟨?_, ?_⟩
  · rw [e]; exact nd_of (by decide) h
  · rw [e]; exact e.symm
theorem nd_fun {kd : Int} {s : ByteArray} {p b : Tr} (hk : kd = 5 ∨ kd = 37) (hp : p.nd) (hb : b.nd) (hc : b = codeT (.mk 6 noText 0 b.kids)) : (Tr.mk kd s 0 [p, b]).nd := by
  rw [nd_mk]
  refine ⟨⟨fun e => by omega, fun _ p' b' e => ?_⟩, nds_of fun t ht => ?_⟩
  · cases e; exact hc
  · simp at ht; rcases ht with rfl | rfl <;> assumption
section
variable {l : List Tk}
abbrev Kn (r : PR Tr) : Prop := ∀ t j, r = .ok t j → t.nd
abbrev Ks (l : List Tk) (r : PR Tr) : Prop := ∀ t j, r = .ok t j → t.nd ∧ (endsIf t.count t = true → fx l j ≠ tElse)
theorem deep_kn {f : Nat → Nat → PR Tr} {d i : Nat} (h : Kn (f (d + 1) i)) : Kn (deepP l f d i) := by
  unfold deepP
  split
  · intro t j e; cases e
  · exact h
theorem deep_ks {f : Nat → Nat → PR Tr} {d i : Nat} (h : Ks l (f (d + 1) i)) : Ks l (deepP l f d i) := by
  unfold deepP
  split
  · intro t j e; cases e
  · exact h
theorem listLoop_kn {shut : ByteArray} {begins : Nat → Bool} {part : Nat → PR Tr} (hp : ∀ i, Kn (part i)) : ∀ k acc i t j, (∀ x ∈ acc, x.nd) → listLoop l shut begins part k acc i = .ok t j → ∀ x ∈ t, x.nd := by
  intro k
  induction k with
  | zero => intro acc i t j _ h; cases h
  | succ k ih =>
    intro acc i t j ha h
    unfold listLoop at h
    split at h
    · cases h
    · obtain ⟨u, i1, h1, h⟩ := binds h
      have hu := mem_app ha (hp i u i1 h1)
      split at h
      · cases h; exact hu
      · obtain ⟨_, i2, h2, h⟩ := binds h
        exact ih _ _ _ _ hu h
theorem list_kn {opn shut : ByteArray} {begins : Nat → Bool} {part : Nat → PR Tr} (hp : ∀ i, Kn (part i)) {k i j : Nat} {t : List Tr} (h : listP l opn shut begins part k i = .ok t j) : ∀ x ∈ t, x.nd := by
  unfold listP at h
  obtain ⟨_, i1, h1, h⟩ := binds h
  split at h
  · cases h; exact fun _ h => (by cases h)
  · exact listLoop_kn hp _ _ _ _ _ (fun _ h => by cases h) h
structure FKn (l : List Tk) (F : Fns) : Prop where
  st : ∀ d i, Ks l (F.st d i)
  vl : ∀ d i, Kn (F.vl d i)
  pr : ∀ b d i, Kn (F.pr b d i)
  sg : ∀ d i, Kn (F.sg d i)
variable {F : Fns} (hF : FKn l F)
include hF
theorem blockLoop_kn {d : Nat} : ∀ k acc i t j, (∀ x ∈ acc, x.nd) → blockLoop l F d k acc i = .ok t j → ∀ x ∈ t, x.nd := by
  intro k
  induction k with
  | zero => intro acc i t j _ h; cases h
  | succ k ih =>
    intro acc i t j ha h
    unfold blockLoop at h
    split at h
    · cases h; exact ha
    · obtain ⟨u, i1, h1, h⟩ := binds h
      exact ih _ _ _ _ (mem_app ha (deep_ks (hF.st _ _) u i1 h1).1) h
theorem block_kn {d i j : Nat} {t : Tr} (h : blockP l F d i = .ok t j) : ∃ ts, t = .mk 6 noText 0 ts ∧ ∀ u ∈ ts, u.nd := by
  unfold blockP at h
  obtain ⟨_, i1, h1, h⟩ := binds h
  obtain ⟨ts, i2, h2, h⟩ := binds h
  cases h
  exact ⟨ts, rfl, blockLoop_kn hF _ _ _ _ _ (fun _ h => by cases h) h2⟩
omit hF in
theorem params_kn {i : Nat} : Kn (paramsP l F i) := by
  intro t j h
  unfold paramsP at h
  obtain ⟨ts, i1, h1, h⟩ := binds h
  cases h
  exact nd_of (by decide) (list_kn (fun i t j h => by unfold paramP at h; obtain ⟨_, _, h1, h⟩ := binds h; cases h; exact nd_of (by decide) (fun _ h => by cases h)) h1)
theorem inPar_kn (d i : Nat) : Kn (inParP l F d i) := by
  intro t j h
  unfold inParP at h
  obtain ⟨_, i1, h1, h⟩ := binds h
  obtain ⟨u, i2, h2, h⟩ := binds h
  obtain ⟨_, i3, h3, h⟩ := binds h
  cases h
  exact deep_kn (hF.vl _ _) _ _ h2
theorem object_kn (d i : Nat) : Kn (objectP l F d i) := by
  intro t j h
  unfold objectP at h
  obtain ⟨ts, i1, h1, h⟩ := binds h
  cases h
  exact nd_of (by decide) (list_kn (fun i t j h => by
    unfold propP at h; obtain ⟨_, _, h1, h⟩ := binds h; obtain ⟨_, _, _, h⟩ := binds h; obtain ⟨_, _, h3, h⟩ := binds h; cases h
    have := deep_kn (hF.vl _ _) _ _ h3
    exact nd_of (by decide) (fun u hu => by rw [List.mem_singleton.1 hu]; exact this)) h1)
theorem tail_kn {kd : Int} {s : ByteArray} {d i j : Nat} {t : Tr} (hk : kd = 5 ∨ kd = 37) (h : funcTail l F kd s d i = .ok t j) : t.nd ∧ t.kd = kd := by
  unfold funcTail at h
  obtain ⟨ps, i1, h1, h⟩ := binds h
  obtain ⟨b, i2, h2, h⟩ := binds h
  cases h
  obtain ⟨ts, rfl, hts⟩ := block_kn hF h2
  have := nd_body hts
  exact ⟨nd_fun hk (params_kn _ _ h1) this.1 this.2, rfl⟩
theorem lambda_kn (d i : Nat) : Kn (lambdaP l F d i) := by
  intro t j h
  unfold lambdaP at h
  obtain ⟨_, i1, h1, h⟩ := binds h
  split at h
  · obtain ⟨s, i2, h2, h⟩ := binds h
    exact (tail_kn hF (Or.inr rfl) h).1
  · exact (tail_kn hF (Or.inr rfl) h).1
omit hF in
theorem sgs_kd {s : Sg} (h : s ∈ sgs) : s.kd ≠ 7 ∧ s.kd ≠ 5 ∧ s.kd ≠ 37 := by
  have h2 : ∀ s ∈ sgs, s.kd ≠ 7 ∧ s.kd ≠ 5 ∧ s.kd ≠ 37 := by decide +kernel
  exact h2 s h
theorem alone_kn (d i : Nat) : Kn (aloneP l F d i) := by
  unfold aloneP
  split
  · exact inPar_kn hF d i
  · exact object_kn hF d i
  · exact lambda_kn hF d i
  · split
    · rename_i hsg; intro t j h; cases h
      exact nd_of (sgs_kd (sgP_mem hsg).1) (fun _ h => by cases h)
    · split
      · intro t j h; cases h; exact nd_of (by decide) (fun _ h => by cases h)
      · split
        · intro t j h; cases h; exact nd_of (by decide) (fun _ h => by cases h)
        · split
          · intro t j h; cases h; exact nd_of (by decide) (fun _ h => by cases h)
          · intro t j h; cases h
theorem askedLoop_kn {d : Nat} : ∀ k u i t j, u.nd → askedLoop l F d k u i = .ok t j → t.nd := by
  intro k
  induction k with
  | zero => intro u i t j _ h; cases h
  | succ k ih =>
    intro u i t j hu h
    unfold askedLoop at h
    split at h
    · obtain ⟨s, i1, h1, h⟩ := binds h
      exact ih _ _ _ _ (nd_of (by decide) (fun x hx => by rw [List.mem_singleton.1 hx]; exact hu)) h
    · split at h
      · obtain ⟨ts, i1, h1, h⟩ := binds h
        have := list_kn (fun i => deep_kn (hF.vl _ _)) h1
        refine ih _ _ _ _ (nd_of (by decide) (fun x hx => ?_)) h
        rcases List.mem_cons.1 hx with rfl | hx
        · exact hu
        · exact this x hx
      · cases h; exact hu
theorem single_kn (d i : Nat) : Kn (singleP l F d i) := by
  unfold singleP
  split
  · rename_i hsg
    intro t j h
    obtain ⟨u, i1, h1, h⟩ := binds h
    cases h
    have := deep_kn (hF.sg _ _) u _ h1
    exact nd_of (sgs_kd (sgP_mem hsg).1) (fun x hx => by rw [List.mem_singleton.1 hx]; exact this)
  · intro t j h
    unfold askedP at h
    obtain ⟨u, i1, h1, h⟩ := binds h
    exact askedLoop_kn hF _ _ _ _ _ (alone_kn hF d i u i1 h1) h
omit hF in
theorem nd_two {kd : Int} {n : Int} {tx : ByteArray} {a b : Tr} (h : kd ≠ 7 ∧ kd ≠ 5 ∧ kd ≠ 37) (ha : a.nd) (hb : b.nd) : (Tr.mk kd tx n [a, b]).nd :=
  nd_of h (fun x hx => by simp at hx; rcases hx with rfl | rfl <;> assumption)
theorem pairLoop_kn {b : Int} {d : Nat} : ∀ k u i t j, u.nd → pairLoop l F b d k u i = .ok t j → t.nd := by
  intro k
  induction k with
  | zero => intro u i t j _ h; cases h
  | succ k ih =>
    intro u i t j hu h
    unfold pairLoop at h
    split at h
    · cases h; exact hu
    · rename_i hsg
      split at h
      · cases h; exact hu
      · obtain ⟨v, i1, h1, h⟩ := binds h
        exact ih _ _ _ _ (nd_two (sgs_kd (sgP_mem hsg).1) hu (hF.pr _ _ _ v i1 h1)) h
theorem pair_kn (b : Int) (d i : Nat) : Kn (pairP l F b d i) := by
  intro t j h
  unfold pairP at h
  obtain ⟨u, i1, h1, h⟩ := binds h
  exact pairLoop_kn hF _ _ _ _ _ (hF.sg _ _ u i1 h1) h
theorem value_kn (d i : Nat) : Kn (valueP l F d i) := by
  intro t j h
  unfold valueP at h
  obtain ⟨u, i1, h1, h⟩ := binds h
  have e1 := hF.pr _ _ _ u i1 h1
  split at h
  · split at h
    · obtain ⟨v, i2, h2, h⟩ := binds h
      cases h
      exact nd_two (by decide) e1 (deep_kn (hF.vl _ _) v _ h2)
    · cases h
  · cases h; exact e1
omit hF in
theorem ks_of {t : Tr} {j : Nat} (h : t.nd) (hk : t.kd ≠ 7 ∧ t.kd ≠ 8 ∧ t.kd ≠ 9) : t.nd ∧ (endsIf t.count t = true → fx l j ≠ tElse) := by
  refine ⟨h, fun e => ?_⟩
  cases t with
  | mk kd tx n ks =>
    have hk' : kd ≠ 7 ∧ kd ≠ 8 ∧ kd ≠ 9 := hk
    rw [ends_no hk'] at e; cases e
theorem part_kn (d q i : Nat) (hq : keyOk q (hdKind (tkA l i).tx) = true) : Ks l (partP l F d q i) := by
  intro t j h
  unfold partP at h
  split at h
  · have hk : hdKind (tkA l i).tx = 2 ∨ hdKind (tkA l i).tx = 3 ∨ hdKind (tkA l i).tx = 4 := by simpa [keyOk, or_assoc] using hq
    unfold declP at h
    generalize hdKind (tkA l i).tx = kd at h hk
    obtain ⟨s, i1, h1, h⟩ := binds h
    split at h
    · cases h
    · split at h
      · obtain ⟨v, i2, h2, h⟩ := binds h
        obtain ⟨_, i3, h3, h⟩ := binds h
        cases h
        have e2 := deep_kn (hF.vl _ _) v _ h2
        exact ks_of (nd_of (by omega) (fun u hu => by rw [List.mem_singleton.1 hu]; exact e2)) (by show kd ≠ 7 ∧ kd ≠ 8 ∧ kd ≠ 9; omega)
      · obtain ⟨_, i3, h3, h⟩ := binds h
        cases h
        exact ks_of (nd_of (by omega) (fun u hu => by cases hu)) (by show kd ≠ 7 ∧ kd ≠ 8 ∧ kd ≠ 9; omega)
  · unfold funcP at h
    obtain ⟨_, i1, h1, h⟩ := binds h
    obtain ⟨s, i2, h2, h⟩ := binds h
    have := tail_kn hF (Or.inl rfl) h
    exact ks_of this.1 (by rw [this.2]; decide)
  · obtain ⟨ts, rfl, hts⟩ := block_kn hF h
    exact ks_of (nd_of (by decide) hts) (by show (6 : Int) ≠ 7 ∧ (6 : Int) ≠ 8 ∧ (6 : Int) ≠ 9; decide)
  · obtain ⟨_, i3, h3, h⟩ := binds h
    cases h
    exact ks_of (nd_of (by decide) (fun u hu => by cases hu)) (by decide)
  · have hk : hdKind (tkA l i).tx = 7 := by simpa [keyOk] using hq
    unfold choiceP at h
    rw [hk] at h
    obtain ⟨v, i1, h1, h⟩ := binds h
    obtain ⟨s, i2, h2, h⟩ := binds h
    have e1 := inPar_kn hF d _ v i1 h1
    have e2 := deep_ks (hF.st _ _) s _ h2
    split at h
    · rename_i hel
      obtain ⟨s2, i3, h3, h⟩ := binds h
      cases h
      have e3 := deep_ks (hF.st _ _) s2 _ h3
      refine ⟨?_, fun e => e3.2 (by rw [ends_sife] at e; exact e)⟩
      rw [nd_mk]
      refine ⟨⟨fun _ v' s' e' he => ?_, fun e => (by omega)⟩, nds_of fun x hx => ?_⟩
      · cases he
        cases hh : endsIf s.count s with
        | false => rfl
        | true => exact absurd hel (e2.2 hh)
      · simp at hx; rcases hx with rfl | rfl | rfl
        · exact e1
        · exact e2.1
        · exact e3.1
    · rename_i hel
      cases h
      refine ⟨?_, fun _ => hel⟩
      rw [nd_mk]
      refine ⟨⟨fun _ v' s' e' he => (by cases he), fun e => (by omega)⟩, nds_of fun x hx => ?_⟩
      simp at hx; rcases hx with rfl | rfl
      · exact e1
      · exact e2.1
  · have hk : hdKind (tkA l i).tx = 8 ∨ hdKind (tkA l i).tx = 9 := by simpa [keyOk] using hq
    unfold behindP at h
    generalize hdKind (tkA l i).tx = kd at h hk
    obtain ⟨v, i1, h1, h⟩ := binds h
    obtain ⟨s, i2, h2, h⟩ := binds h
    cases h
    have e2 := deep_ks (hF.st _ _) s _ h2
    exact ⟨nd_two (by omega) (inPar_kn hF d _ v i1 h1) e2.1, fun e => e2.2 (by rw [ends_loop hk] at e; exact e)⟩
  · have hk : hdKind (tkA l i).tx = 10 ∨ hdKind (tkA l i).tx = 11 := by simpa [keyOk] using hq
    unfold givingP at h
    generalize hdKind (tkA l i).tx = kd at h hk
    split at h
    · obtain ⟨v, i1, h1, h⟩ := binds h
      obtain ⟨_, i2, h2, h⟩ := binds h
      cases h
      have e1 := deep_kn (hF.vl _ _) v _ h1
      exact ks_of (nd_of (by omega) (fun u hu => by rw [List.mem_singleton.1 hu]; exact e1)) (by show kd ≠ 7 ∧ kd ≠ 8 ∧ kd ≠ 9; omega)
    · obtain ⟨_, i2, h2, h⟩ := binds h
      cases h
      exact ks_of (nd_of (by omega) (fun u hu => by cases hu)) (by show kd ≠ 7 ∧ kd ≠ 8 ∧ kd ≠ 9; omega)
  · unfold attemptP at h
    obtain ⟨_, i0, h0, h⟩ := binds h
    obtain ⟨b, i1, h1, h⟩ := binds h
    obtain ⟨c, i2, h2, h⟩ := binds h
    obtain ⟨f, i3, h3, h⟩ := binds h
    have blk : ∀ {d i j : Nat} {t : Tr}, blockP l F d i = .ok t j → t.nd := fun h => by
      obtain ⟨ts, rfl, hts⟩ := block_kn hF h
      exact nd_of (by decide) hts
    have e2 : ∀ u ∈ c, u.nd := by
      unfold catchP at h2
      split at h2
      · obtain ⟨_, k1, g1, h2⟩ := binds h2
        obtain ⟨_, k2, g2, h2⟩ := binds h2
        obtain ⟨_, k3, g3, h2⟩ := binds h2
        obtain ⟨bb, k4, g4, h2⟩ := binds h2
        cases h2
        intro u hu
        rw [List.mem_singleton.1 hu]
        exact nd_of (by decide) (fun x hx => by rw [List.mem_singleton.1 hx]; exact blk g4)
      · cases h2; exact fun u hu => (by cases hu)
    have e3 : ∀ u ∈ f, u.nd := by
      unfold finallyP at h3
      split at h3
      · obtain ⟨bb, k4, g4, h3⟩ := binds h3
        cases h3
        intro u hu
        rw [List.mem_singleton.1 hu]
        exact nd_of (by decide) (fun x hx => by rw [List.mem_singleton.1 hx]; exact blk g4)
      · cases h3; exact fun u hu => (by cases hu)
    split at h
    · cases h
    · cases h
      refine ks_of (nd_of (by decide) (fun x hx => ?_)) (by show (12 : Int) ≠ 7 ∧ (12 : Int) ≠ 8 ∧ (12 : Int) ≠ 9; decide)
      rcases List.mem_cons.1 hx with rfl | hx
      · exact blk h1
      · rcases List.mem_append.1 hx with hx | hx
        · exact e2 x hx
        · exact e3 x hx
theorem statement_kn (d i : Nat) : Ks l (statementP l F d i) := by
  unfold statementP
  split
  · rename_i hq; exact part_kn hF d _ i (key_hd hq)
  · intro t j h
    unfold exprP at h
    obtain ⟨v, i1, h1, h⟩ := binds h
    obtain ⟨_, i2, h2, h⟩ := binds h
    cases h
    have := deep_kn (hF.vl _ _) v _ h1
    exact ks_of (nd_of (by decide) (fun u hu => by rw [List.mem_singleton.1 hu]; exact this)) (by show (15 : Int) ≠ 7 ∧ (15 : Int) ≠ 8 ∧ (15 : Int) ≠ 9; decide)
omit hF in
theorem fns_kn : ∀ k, FKn l (fns l k) := by
  intro k
  induction k with
  | zero => exact ⟨fun _ _ _ _ h => by (cases h), fun _ _ _ _ h => by (cases h), fun _ _ _ _ _ h => by (cases h), fun _ _ _ _ h => by (cases h)⟩
  | succ k ih => exact ⟨statement_kn ih, value_kn ih, pair_kn ih, single_kn ih⟩
theorem progLoop_kn : ∀ k acc i t j, (∀ x ∈ acc, x.nd) → progLoop l F k acc i = .ok t j → ∀ x ∈ t, x.nd := by
  intro k
  induction k with
  | zero => intro acc i t j _ h; cases h
  | succ k ih =>
    intro acc i t j ha h
    unfold progLoop at h
    split at h
    · cases h; exact ha
    · obtain ⟨u, i1, h1, h⟩ := binds h
      exact ih _ _ _ _ (mem_app ha (deep_ks (hF.st _ _) u i1 h1).1) h
theorem prog_kn {t : Tr} {j : Nat} (h : progP l F = .ok t j) : (∀ u ∈ t.kids, u.nd) ∧ t = codeT (.mk 1 noText 0 t.kids) := by
  unfold progP at h
  obtain ⟨ts, i1, h1, h⟩ := binds h
  cases h
  obtain ⟨tx, h2, h3⟩ := codeT_mk 1 0 ts
  rw [h3]
  exact ⟨progLoop_kn hF _ _ _ _ _ (fun _ h => by cases h) h1, h3.symm⟩
end
theorem parse_nd {ws signs : List ByteArray} {s : ByteArray} {t : Tr} (h : parseS ws signs s = .ok t) : (∀ u ∈ t.kids, u.nd) ∧ t = codeT (.mk 1 noText 0 t.kids) := by
  unfold parseS at h
  split at h
  · cases h
  · split at h
    · cases h
    · rename_i l hl
      cases hp : progP l (fns l KK) with
      | out => rw [hp] at h; cases h
      | bad er p => rw [hp] at h; cases h
      | ok t2 j =>
        rw [hp] at h
        simp only at h
        split at h
        · cases h
        · cases h; exact prog_kn (fns_kn _) hp

def mkB (l : List UInt8) : ByteArray := ⟨l.toArray⟩
theorem mkB_list (l : List UInt8) : (mkB l).data.toList = l := by simp [mkB]
theorem mkB_size (l : List UInt8) : (mkB l).size = l.length := by
  have : (mkB l).size = (mkB l).data.toList.length := by simp
  rw [this, mkB_list]
def tks (l : List Tk) : List TS := l.map fun k => (k.kd, k.tx, k.n)
/-- What may follow a token without a blank. -/
def sepL : List UInt8 := [32, 10, 59, 44, 41, 58, 46, 125, 40]
def nextOk (last : ByteArray) (rest : List UInt8) : Prop := openedB last = true ∨ ∀ b r, rest = b :: r → b ∈ sepL
def lexAt (out rest : List UInt8) (i : Nat) (l : List Tk) : TR := toksR wordsS signsS (mkB (out ++ rest)) (pastN gapB (mkB (out ++ rest)) i) l
def LxAny (out : List UInt8) (ts : List TS) (rest : List UInt8) : Prop := ∃ l, tks l = ts ∧ lexAt out rest 0 [] = lexAt out rest out.length l
/-- What is written lexes to these tokens, whatever may follow. -/
def Lx (s : WS) (ts : List TS) : Prop := ∀ rest, nextOk s.2 rest → LxAny s.1 ts rest
/-- A token's bytes are read as that token. -/
def Reads (t : List UInt8) (v : TS) (ok : List UInt8 → Prop) : Prop :=
  ∀ out rest, ok rest → rdTok wordsS signsS (mkB (out ++ (t ++ rest))) out.length = .tok v.1 v.2.1 v.2.2 (out.length + t.length)
theorem past_at (p : Int → Bool) (out rest : List UInt8) : pastN p (mkB (out ++ rest)) out.length = out.length + (rest.takeWhile fun b => p (b.toNat : Int)).length := by
  unfold pastN
  rw [mkB_list, List.drop_left]
theorem lx_start : Lx ([], noText) [] := fun _ _ => ⟨[], rfl, rfl⟩
theorem LxAny.gap {out : List UInt8} {ts : List TS} {c : UInt8} {rest : List UInt8} (hc : gapB (c.toNat : Int) = true) (h : LxAny out ts (c :: rest)) : LxAny (out ++ [c]) ts rest := by
  obtain ⟨l, h1, h2⟩ := h
  refine ⟨l, h1, ?_⟩
  unfold lexAt at h2 ⊢
  have e : out ++ [c] ++ rest = out ++ (c :: rest) := by simp
  rw [e, h2, past_at]
  have e2 := past_at gapB (out ++ [c]) rest
  rw [e] at e2
  rw [e2, List.takeWhile_cons, if_pos hc]
  congr 1
  simp; omega
theorem LxAny.tok {out t rest : List UInt8} {ts : List TS} {v : TS} {ok : List UInt8 → Prop} (h : LxAny out ts (t ++ rest)) (hr : Reads t v ok) (hok : ok rest) (ht : ∃ b r, t = b :: r ∧ gapB (b.toNat : Int) = false) : LxAny (out ++ t) (ts ++ [v]) rest := by
  obtain ⟨l, h1, h2⟩ := h
  obtain ⟨b, r, rfl, hb⟩ := ht
  have h3 := hr out rest hok
  refine ⟨l ++ [⟨v.1, v.2.1, v.2.2, out.length⟩], by rw [← h1]; simp [tks], ?_⟩
  unfold lexAt at h2 ⊢
  have e : out ++ (b :: r) ++ rest = out ++ ((b :: r) ++ rest) := List.append_assoc ..
  rw [e, h2, past_at]
  have e2 : (((b :: r) ++ rest).takeWhile fun b => gapB (b.toNat : Int)).length = 0 := by
    rw [List.cons_append, List.takeWhile_cons, if_neg (by rw [hb]; decide)]; rfl
  rw [e2, Nat.add_zero, toksR_go _ _ _ _ _ _ _ _ _ (by rw [mkB_size]; simp) h3 (by simp)]
  simp
theorem Lx.blank {s : WS} {ts : List TS} (h : Lx s ts) (rest : List UInt8) : LxAny (blankS s).1 ts rest :=
  (h (32 :: rest) (Or.inr fun b r e => by cases e; decide)).gap (by decide)
theorem Lx.line {s : WS} {ts : List TS} (h : Lx s ts) : Lx (endS s) ts := fun rest _ =>
  (h (10 :: rest) (Or.inr fun b r e => by cases e; decide)).gap (by decide)
/-- A token's bytes, ready to be put. -/
structure Tok (t : ByteArray) (v : TS) : Prop where
  rd : Reads t.data.toList v (nextOk t)
  hd : ∃ b r, t.data.toList = b :: r ∧ gapB (b.toNat : Int) = false
theorem Lx.close {s : WS} {ts : List TS} {t : ByteArray} {v : TS} (h : Lx s ts) (hT : Tok t v) (hn : openedB s.2 = true ∨ ∀ b r, t.data.toList = b :: r → b ∈ sepL) : Lx (closeS t s) (ts ++ [v]) := by
  intro rest hok
  refine (h (t.data.toList ++ rest) ?_).tok hT.rd hok hT.hd
  rcases hn with hn | hn
  · exact Or.inl hn
  · refine Or.inr fun b r e => ?_
    obtain ⟨b', r', e', _⟩ := hT.hd
    rw [e', List.cons_append] at e
    cases e
    exact hn _ _ e'
theorem closes_sep {t : ByteArray} (h : closesB t = true) : ∀ b r, t.data.toList = b :: r → b ∈ sepL := by
  intro b r e
  unfold closesB at h
  rw [e] at h
  simp at h
  rcases h with ((((h | h) | h) | h) | h) | h <;> (rw [h.1]; decide)
theorem Lx.put {s : WS} {ts : List TS} {t : ByteArray} {v : TS} (h : Lx s ts) (hT : Tok t v) : Lx (putS t s) (ts ++ [v]) := by
  unfold putS
  by_cases hb : ((!openedB s.2) && (!closesB t)) = true
  · rw [if_pos hb]
    intro rest hok
    exact (h.blank (t.data.toList ++ rest)).tok hT.rd hok hT.hd
  · rw [if_neg hb]
    refine h.close hT ?_
    simp at hb
    cases ho : openedB s.2 with
    | true => exact Or.inl rfl
    | false => exact Or.inr (closes_sep (hb ho))
end Go.Proofs.YtodmgaikhbmlnaaGreatDoor
