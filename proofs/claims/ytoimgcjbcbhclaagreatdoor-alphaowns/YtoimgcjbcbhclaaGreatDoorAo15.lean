/-
  A program has no more nodes than three for each of its tokens.
-/
import Derived.Test.YtoimgcjbcbhclaaGreatDoorAo0
import Derived.Test.YtoimgcjbcbhclaaGreatDoorAo4
import Derived.Test.YtoimgcjbcbhclaaGreatDoorAo1
import Derived.Test.YtoimgcjbcbhclaaGreatDoorAo6
import Derived.Test.YtoimgcjbcbhclaaGreatDoorAo9
import Derived.Test.YtoimgcjbcbhclaaGreatDoorAo14
namespace Go.Proofs.YtoimgcjbcbhclaaGreatDoor
theorem binds {α β : Type} {r : PR α} {f : α → Nat → PR β} {y : β} {j : Nat} (h : r.bind f = .ok y j) : ∃ x i, r = .ok x i ∧ f x i = .ok y j := by
 cases r with
 | ok x i => exact ⟨x, i, rfl, h⟩
 | bad er p => cases h
 | out => cases h
theorem count_mk (kd : Int) (tx : ByteArray) (n : Int) (ks : List Tr) : (Tr.mk kd tx n ks).count = 1 + Tr.counts ks := by rw [Tr.count]
theorem counts_nil : Tr.counts [] = 0 := by rw [Tr.counts]
theorem counts_cons (t : Tr) (ts : List Tr) : Tr.counts (t :: ts) = t.count + Tr.counts ts := by rw [Tr.counts]
theorem counts_app : ∀ (ts us : List Tr), Tr.counts (ts ++ us) = Tr.counts ts + Tr.counts us
 | [], us => by rw [List.nil_append, counts_nil, Nat.zero_add]
 | t :: ts, us => by rw [List.cons_append, counts_cons, counts_cons, counts_app ts us, Nat.add_assoc]
theorem code_count (t : Tr) : (codeT t).count = t.count := by
 unfold codeT
 split
 ·
  rw [count_mk, count_mk]
 ·
  rfl
section
variable {l : List Tk}
theorem must_eq {s : ByteArray} {i j : Nat} {x : Unit} (h : mustP l s i = .ok x j) : j = i + 1 := by
 unfold mustP at h
 split at h
 ·
  cases h; rfl
 ·
  cases h
theorem name_eq {s : ByteArray} {i j : Nat} (h : nameP l i = .ok s j) : j = i + 1 := by
 unfold nameP at h
 split at h
 ·
  cases h; rfl
 ·
  cases h
def Cb (i : Nat) (r : PR Tr) : Prop := ∀ t j, r = .ok t j → t.count + 3 * i ≤ 3 * j
def Cbs (i : Nat) (r : PR (List Tr)) : Prop := ∀ t j, r = .ok t j → Tr.counts t + 3 * i ≤ 3 * j
theorem deep_cb {f : Nat → Nat → PR Tr} {d i : Nat} (h : Cb i (f (d + 1) i)) : Cb i (deepP l f d i) := by
 unfold deepP
 split
 ·
  intro t j e; cases e
 ·
  exact h
theorem listLoop_cb {shut : ByteArray} {begins : Nat → Bool} {part : Nat → PR Tr} (hp : ∀ i, Cb i (part i)) : ∀ k acc i t j, listLoop l shut begins part k acc i = .ok t j → Tr.counts t + 3 * i ≤ Tr.counts acc + 3 * j := by
 intro k
 induction k with
 | zero => intro acc i t j h; cases h
 | succ k ih =>
  intro acc i t j h; unfold listLoop at h
  split at h
  ·
   cases h
  ·
   obtain ⟨u, i1, h1, h⟩ := binds h; have := hp i u i1 h1
   split at h
   ·
    cases h; rw [counts_app, counts_cons, counts_nil]; omega
   ·
    obtain ⟨_, i2, h2, h⟩ := binds h; have h3 := must_eq h2; have h4 := ih _ _ _ _ h; rw [counts_app, counts_cons, counts_nil] at h4; omega
theorem list_cb {opn shut : ByteArray} {begins : Nat → Bool} {part : Nat → PR Tr} (hp : ∀ i, Cb i (part i)) {k i j : Nat} {t : List Tr} (h : listP l opn shut begins part k i = .ok t j) : Tr.counts t + 3 * i + 3 ≤ 3 * j := by
 unfold listP at h
 obtain ⟨_, i1, h1, h⟩ := binds h
 have h2 := must_eq h1
 split at h
 ·
  cases h; rw [counts_nil]; omega
 ·
  have := listLoop_cb hp _ _ _ _ _ h; rw [counts_nil] at this; omega
structure FCb (F : Fns) : Prop where
 st : ∀ d i, Cb i (F.st d i)
 vl : ∀ d i, Cb i (F.vl d i)
 pr : ∀ b d i, Cb i (F.pr b d i)
 sg : ∀ d i, Cb i (F.sg d i)
variable {F : Fns} (hF : FCb F)
include hF
theorem blockLoop_cb {d : Nat} : ∀ k acc i t j, blockLoop l F d k acc i = .ok t j → Tr.counts t + 3 * i + 3 ≤ Tr.counts acc + 3 * j := by
 intro k
 induction k with
 | zero => intro acc i t j h; cases h
 | succ k ih =>
  intro acc i t j h; unfold blockLoop at h; exact zbem
theorem block_cb {d i j : Nat} {t : Tr} (h : blockP l F d i = .ok t j) : t.count + 3 * i + 5 ≤ 3 * j := by
 unfold blockP at h
 obtain ⟨_, i1, h1, h⟩ := binds h
 obtain ⟨ts, i2, h2, h⟩ := binds h
 cases h
 have h3 := must_eq h1
 have h4 := blockLoop_cb hF _ _ _ _ _ h2
 rw [counts_nil] at h4
 rw [count_mk]; omega
omit hF in
theorem param_cb (i : Nat) : Cb i (paramP l i) := by
 intro t j h
 unfold paramP at h
 obtain ⟨_, i1, h1, h⟩ := binds h
 cases h
 have := name_eq h1
 rw [count_mk, counts_nil]; omega
omit hF in
theorem params_cb {i j : Nat} {t : Tr} (h : paramsP l F i = .ok t j) : t.count + 3 * i + 2 ≤ 3 * j := by
 unfold paramsP at h
 obtain ⟨ts, i1, h1, h⟩ := binds h
 cases h
 have := list_cb param_cb h1
 rw [count_mk]; omega
section
variable (d i : Nat)
include d i
theorem arg_cb : Cb i (argP l F d i) := deep_cb (hF.vl _ _)
theorem prop_cb : Cb i (propP l F d i) := by
 intro t j h
 unfold propP at h
 obtain ⟨_, i1, h1, h⟩ := binds h
 obtain ⟨_, i2, h2, h⟩ := binds h
 obtain ⟨u, i3, h3, h⟩ := binds h
 cases h
 have e1 := name_eq h1
 have e2 := must_eq h2
 have e3 := deep_cb (l := l) (hF.vl _ _) u _ h3
 rw [count_mk, counts_cons, counts_nil]; omega
theorem inPar_cb : Cb i (inParP l F d i) := by
 intro t j h
 unfold inParP at h
 obtain ⟨_, i1, h1, h⟩ := binds h
 obtain ⟨u, i2, h2, h⟩ := binds h
 obtain ⟨_, i3, h3, h⟩ := binds h
 cases h
 have e1 := must_eq h1
 have e2 := deep_cb (l := l) (hF.vl _ _) _ _ h2
 have e3 := must_eq h3
 omega
theorem object_cb : Cb i (objectP l F d i) := by
 intro t j h
 unfold objectP at h
 obtain ⟨ts, i1, h1, h⟩ := binds h
 cases h
 have := list_cb (prop_cb hF d) h1
 rw [count_mk]; omega
end
theorem tail_cb {kd : Int} {s : ByteArray} {d i j : Nat} {t : Tr} (h : funcTail l F kd s d i = .ok t j) : t.count + 3 * i ≤ 3 * j := by
 unfold funcTail at h
 obtain ⟨ps, i1, h1, h⟩ := binds h
 obtain ⟨b, i2, h2, h⟩ := binds h
 cases h
 have e1 := params_cb h1
 have e2 := block_cb hF h2
 rw [count_mk, counts_cons, counts_cons, counts_nil, code_count]; omega
theorem lambda_cb (d i : Nat) : Cb i (lambdaP l F d i) := by
 intro t j h
 unfold lambdaP at h
 obtain ⟨_, i1, h1, h⟩ := binds h
 have e1 := must_eq h1
 split at h
 ·
  obtain ⟨_, i2, h2, h⟩ := binds h; have e2 := name_eq h2; have := tail_cb hF h; omega
 ·
  have := tail_cb hF h; omega
theorem func_cb (d i : Nat) : Cb i (funcP l F d i) := by
 intro t j h
 unfold funcP at h
 obtain ⟨_, i1, h1, h⟩ := binds h
 obtain ⟨_, i2, h2, h⟩ := binds h
 have e1 := must_eq h1
 have e2 := name_eq h2
 have := tail_cb hF h
 omega
theorem alone_cb (d i : Nat) : Cb i (aloneP l F d i) := by
 unfold aloneP
 split
 ·
  exact inPar_cb hF d i
 ·
  exact object_cb hF d i
 ·
  exact lambda_cb hF d i
 ·
  split
  ·
   intro t j h; cases h; rw [count_mk, counts_nil]; omega
  ·
   split
   ·
    intro t j h; cases h; rw [count_mk, counts_nil]; omega
   ·
    split
    ·
     intro t j h; cases h; rw [count_mk, counts_nil]; omega
    ·
     split
     ·
      intro t j h; cases h; rw [count_mk, counts_nil]; omega
     ·
      intro t j h; cases h
theorem askedLoop_cb {d : Nat} : ∀ k u i t j, askedLoop l F d k u i = .ok t j → t.count + 3 * i ≤ u.count + 3 * j := by
 intro k
 induction k with
 | zero => intro u i t j h; cases h
 | succ k ih =>
  intro u i t j h; unfold askedLoop at h
  split at h
  ·
   obtain ⟨s, i1, h1, h⟩ := binds h; have e1 := name_eq h1; have e2 := ih _ _ _ _ h; rw [count_mk, counts_cons, counts_nil] at e2; omega
  ·
   split at h
   ·
    obtain ⟨ts, i1, h1, h⟩ := binds h; have e1 := list_cb (arg_cb hF d) h1; have e2 := ih _ _ _ _ h; rw [count_mk, counts_cons] at e2; omega
   ·
    cases h; omega
theorem asked_cb (d i : Nat) : Cb i (askedP l F d i) := by
 intro t j h
 unfold askedP at h
 obtain ⟨u, i1, h1, h⟩ := binds h
 have e1 := alone_cb hF d i u i1 h1
 have e2 := askedLoop_cb hF _ _ _ _ _ h
 omega
theorem single_cb (d i : Nat) : Cb i (singleP l F d i) := by
 unfold singleP
 split
 ·
  intro t j h; obtain ⟨u, i1, h1, h⟩ := binds h; cases h; have := deep_cb (l := l) (hF.sg _ _) u _ h1; rw [count_mk, counts_cons, counts_nil]; omega
 ·
  exact asked_cb hF d i
theorem pairLoop_cb {b : Int} {d : Nat} : ∀ k u i t j, pairLoop l F b d k u i = .ok t j → t.count + 3 * i ≤ u.count + 3 * j := by
 intro k
 induction k with
 | zero => intro u i t j h; cases h
 | succ k ih =>
  intro u i t j h; unfold pairLoop at h
  split at h
  ·
   cases h; omega
  ·
   split at h
   ·
    cases h; omega
   ·
    obtain ⟨v, i1, h1, h⟩ := binds h; have e1 := hF.pr _ _ _ v i1 h1; have e2 := ih _ _ _ _ h; rw [count_mk, counts_cons, counts_cons, counts_nil] at e2; omega
theorem pair_cb (b : Int) (d i : Nat) : Cb i (pairP l F b d i) := by
 intro t j h
 unfold pairP at h
 obtain ⟨u, i1, h1, h⟩ := binds h
 have e1 := hF.sg _ _ u i1 h1
 have e2 := pairLoop_cb hF _ _ _ _ _ h
 omega
theorem value_cb (d i : Nat) : Cb i (valueP l F d i) := by
 intro t j h
 unfold valueP at h
 obtain ⟨u, i1, h1, h⟩ := binds h
 have e1 := hF.pr _ _ _ u i1 h1
 split at h
 ·
  split at h
  ·
   obtain ⟨v, i2, h2, h⟩ := binds h; cases h; have e2 := deep_cb (l := l) (hF.vl _ _) v _ h2; rw [count_mk, counts_cons, counts_cons, counts_nil]; omega
  ·
   cases h
 ·
  cases h; exact e1
theorem part_cb (d q i : Nat) : Cb i (partP l F d q i) := by
 intro t j h
 unfold partP at h
 split at h
 ·
  unfold declP at h; obtain ⟨s, i1, h1, h⟩ := binds h; have e1 := name_eq h1
  split at h
  ·
   cases h
  ·
   split at h
   ·
    obtain ⟨v, i2, h2, h⟩ := binds h; obtain ⟨_, i3, h3, h⟩ := binds h; cases h; have e2 := deep_cb (l := l) (hF.vl _ _) v _ h2; have e3 := must_eq h3; rw [count_mk, counts_cons, counts_nil]; omega
   ·
    obtain ⟨_, i3, h3, h⟩ := binds h; cases h; have e3 := must_eq h3; rw [count_mk, counts_nil]; omega
 ·
  exact func_cb hF d i t j h
 ·
  have := block_cb hF h; omega
 ·
  obtain ⟨_, i3, h3, h⟩ := binds h; cases h; have e3 := must_eq h3; rw [count_mk, counts_nil]; omega
 ·
  unfold choiceP at h; obtain ⟨v, i1, h1, h⟩ := binds h; obtain ⟨s, i2, h2, h⟩ := binds h; have e1 := inPar_cb hF d _ v i1 h1; have e2 := deep_cb (l := l) (hF.st _ _) s _ h2
  split at h
  ·
   obtain ⟨s2, i3, h3, h⟩ := binds h; cases h; have e3 := deep_cb (l := l) (hF.st _ _) s2 _ h3; rw [count_mk, counts_cons, counts_cons, counts_cons, counts_nil]; omega
  ·
   cases h; rw [count_mk, counts_cons, counts_cons, counts_nil]; omega
 ·
  unfold behindP at h; obtain ⟨v, i1, h1, h⟩ := binds h; obtain ⟨s, i2, h2, h⟩ := binds h; cases h; have e1 := inPar_cb hF d _ v i1 h1; have e2 := deep_cb (l := l) (hF.st _ _) s _ h2
  rw [count_mk, counts_cons, counts_cons, counts_nil]; omega
 ·
  unfold givingP at h
  split at h
  ·
   exact zbep
  ·
   obtain ⟨_, i2, h2, h⟩ := binds h; cases h; have e2 := must_eq h2; rw [count_mk, counts_nil]; omega
 ·
  unfold attemptP at h; obtain ⟨_, i0, h0, h⟩ := binds h; obtain ⟨b, i1, h1, h⟩ := binds h; obtain ⟨c, i2, h2, h⟩ := binds h; obtain ⟨f, i3, h3, h⟩ := binds h; have e0 := must_eq h0; have e1 := block_cb hF h1
  have e2 : Tr.counts c + 3 * i1 ≤ 3 * i2 := by
   unfold catchP at h2
   split at h2
   ·
    obtain ⟨_, k1, g1, h2⟩ := binds h2; obtain ⟨_, k2, g2, h2⟩ := binds h2; obtain ⟨_, k3, g3, h2⟩ := binds h2; obtain ⟨bb, k4, g4, h2⟩ := binds h2; cases h2; have := must_eq g1; have := name_eq g2; have := must_eq g3
    have := block_cb hF g4; rw [counts_cons, count_mk, counts_cons, counts_nil]; omega
   ·
    cases h2; rw [counts_nil]; omega
  have e3 : Tr.counts f + 3 * i2 ≤ 3 * i3 := by
   unfold finallyP at h3
   split at h3
   ·
    obtain ⟨bb, k4, g4, h3⟩ := binds h3; cases h3; have := block_cb hF g4; rw [counts_cons, count_mk, counts_cons, counts_nil]; omega
   ·
    cases h3; rw [counts_nil]; omega
  split at h
  ·
   cases h
  ·
   cases h; rw [count_mk, counts_cons, counts_app]; omega
theorem statement_cb (d i : Nat) : Cb i (statementP l F d i) := by
 unfold statementP
 split
 ·
  exact part_cb hF d _ i
 ·
  intro t j h; unfold exprP at h; exact zbep
omit hF in
theorem fns_cb : ∀ k, FCb (fns l k) := by
 intro k
 induction k with
 | zero => exact ⟨fun _ _ _ _ h => by (cases h), fun _ _ _ _ h => by (cases h), fun _ _ _ _ _ h => by (cases h), fun _ _ _ _ h => by (cases h)⟩
 | succ k ih => exact ⟨statement_cb ih, value_cb ih, pair_cb ih, single_cb ih⟩
theorem progLoop_cb : ∀ k acc i t j, progLoop l F k acc i = .ok t j → Tr.counts t + 3 * i ≤ Tr.counts acc + 3 * j := by
 intro k
 induction k with
 | zero => intro acc i t j h; cases h
 | succ k ih =>
  intro acc i t j h; unfold progLoop at h; exact zbem
theorem prog_cb {t : Tr} {j : Nat} (h : progP l F = .ok t j) : t.count ≤ 1 + 3 * j := by
 unfold progP at h
 obtain ⟨ts, i1, h1, h⟩ := binds h
 cases h
 have := progLoop_cb hF _ _ _ _ _ h1
 rw [counts_nil] at this
 rw [code_count, count_mk]; omega
end
end Go.Proofs.YtoimgcjbcbhclaaGreatDoor
set_option maxRecDepth 100000
set_option maxHeartbeats 16000000
namespace Go.Proofs.YtoimgcjbcbhclaaGreatDoor
open Go.RowKit
theorem NAts.get {I : Nat → Prop} {w : World} : ∀ (ts : List Tr) (ps : List Nat), NAts I w ts ps → ∀ k, (hk : k < ts.length) → ∃ hp : k < ps.length, NAt I w ts[k] ps[k]
 | [], _, _, k, hk => absurd hk (by simp)
 | t :: ts, ps, h, k, hk => by
  obtain ⟨p, ps', rfl, h1, h2⟩ := h.parts
  cases k with
  | zero => exact ⟨by simp, h1⟩
  | succ k =>
   obtain ⟨hp, hn⟩ := NAts.get ts ps' h2 k (by simpa using hk); exact ⟨by simpa using hp, by simpa using hn⟩
theorem NLs.get {I : Nat → Prop} {w : World} : ∀ (ts : List Tr) (ps : List Nat), NLs I w ts ps → ∀ k, (hk : k < ts.length) → ∃ hp : k < ps.length, NAt I w ts[k] ps[k]
 | [], _, _, k, hk => absurd hk (by simp)
 | t :: ts, ps, h, k, hk => by
  obtain ⟨p, ps', rfl, h1, h2⟩ := h
  cases k with
  | zero => exact ⟨by simp, h1⟩
  | succ k =>
   obtain ⟨hp, hn⟩ := NLs.get ts ps' h2 k (by simpa using hk); exact ⟨by simpa using hp, by simpa using hn⟩
theorem counts_take : ∀ (ts : List Tr) (k : Nat) (hk : k < ts.length), Tr.counts (ts.take (k + 1)) = Tr.counts (ts.take k) + (ts[k]).count
 | [], k, hk => absurd hk (by simp)
 | t :: ts, 0, _ => by simp [counts_cons, counts_nil]
 | t :: ts, k + 1, hk => by
  have := counts_take ts k (by simpa using hk); simp only [List.take_succ_cons, counts_cons, List.getElem_cons_succ]; omega
theorem counts_le (ts : List Tr) (k : Nat) (hk : k < ts.length) : (ts[k]).count ≤ Tr.counts ts := by
 have h1 := counts_take ts k hk
 have h2 : Tr.counts ts = Tr.counts (ts.take (k + 1)) + Tr.counts (ts.drop (k + 1)) := by rw [← counts_app, List.take_append_drop]
 omega
theorem count_pos (t : Tr) : 1 ≤ t.count := by cases t with | mk kd tx n ks => rw [count_mk]; omega
theorem counts_len : ∀ (ts : List Tr), ts.length ≤ Tr.counts ts
 | [] => by simp
 | t :: ts => by
  have h1 := count_pos t; have h2 := counts_len ts; rw [counts_cons, List.length_cons]; omega
abbrev cntV (b : Nat) : Value := .func (.func 104) #[] #[.pointer (some ⟨b, 0, none⟩)]
theorem count1_any (v : Value) (b : Nat) (n : Int) (w : World) (hc : w.cell? ⟨b, 0, none⟩ = some (.int .i64 n)) (hf : ∀ o, w.frozen? ⟨b, o, none⟩ = false) (hn : 0 ≤ n) (hn2 : n ≤ 100000) :
  Calls Tryz.prog 104 #[v, .pointer (some ⟨b, 0, none⟩)] w fun e w' => e = .returned (.bool true) ∧ w' = w.setCell ⟨b, 0, none⟩ (.int .i64 (n + 1)) := by
 go_enter Tryz.func104, Tryz.ntmps104
 go_wp2_with fail
 go_ret
 exact ⟨rfl, rfl⟩
theorem NAt.opens2 {I : Nat → Prop} {w : World} {t : Tr} {p : Nat} (h : NAt I w t p) : ∃ u ps, w.heap[p]? = some (nodeObj t.kd t.tx t.n u) ∧ w.ownsRow 0 22 1 u ps.length (ps.map nPtr) ∧ (∀ g, u.ownBlock = some g → I g) ∧ NAts I w t.kids ps := by
 cases t with
 | mk kd tx n ks =>
  rw [NAt] at h; obtain ⟨_, u, ps, h1, h2, h3⟩ := h; exact ⟨u, ps, h1, h2.1, h2.2, NAts.mono (fun b hb _ => hb.1) _ _ h3⟩
structure Cnt (b : Nat) (n : Nat) (w : World) : Prop where
 blk : w.heap[b]? = some (.cells #[.int .i64 (n : Int)] 3 (0, 0))
theorem Cnt.set {b n : Nat} {w : World} (h : Cnt b n w) (m : Nat) {v : Int} (hv : v = (m : Int)) : Cnt b m (w.setCell ⟨b, 0, none⟩ (.int .i64 v)) := ⟨by rw [heap_set h.blk, hv]; rfl⟩
theorem en90 : ∀ args W, (callFunc 104 args).run Tryz.prog W = .ok (.enter 104 args) W := fun _ _ => by kernel_rfl
theorem walk_any (b : Nat) : ∀ (m : Nat) (t : Tr), t.count ≤ m → ∀ (p n : Nat) (w : World), NAt (fun x => x ≠ b) w t p → Cnt b n w → n + t.count ≤ 100000 →
  Calls Tryz.prog 31 #[nPtr p, cntV b] w fun e w' => e = .returned (.tuple #[]) ∧ Cnt b (n + t.count) w' ∧ Ap b w.heap.size w w' := by
 intro m
 induction m with
 | zero =>
  exact zbej
 | succ m ih =>
  intro t ht p n w hnt hcn hbd; obtain ⟨u, ps, hblk, hrow, hri, hks⟩ := hnt.opens2; have hlen := NAts.length _ _ hks; have hpb : p ≠ b := by
   cases t with
   | mk kd tx nn ks => rw [NAt] at hnt; exact hnt.1
  have htc : t.count = 1 + Tr.counts t.kids := by cases t with | mk kd tx nn ks => exact count_mk _ _ _ _
  obtain ⟨_, _, _, f3, _⟩ := node_cells hblk; obtain ⟨ua, uc, hu⟩ := row_shut hrow; subst hu; have c0 : w.cell? ⟨b, 0, none⟩ = some (.int .i64 (n : Int)) := by rw [cell_of hcn.blk]; rfl
  have cf := frozen_of hcn.blk; have hen := en90; have hfn : ∀ W : World, (binOp .eql 54 (cntV b) .nilFunc).run Tryz.prog W = .ok (.bool false) W := fun W => by kernel_rfl
  have HC := hide (count1_any (nPtr p) b (n : Int) w c0 cf (by omega) (by omega)); have HCN := hide hcn; have HKS := hide hks; have HROW := hide hrow; have HRI := hide hri; have HIH := hide ih; have HTC := hide htc
  have HHT := hide ht; have HBD := hide hbd; have hpb2 : ¬ b = p := fun e => hpb e.symm; have g3 : (w.setCell ⟨b, 0, none⟩ (.int .i64 ((n : Int) + 1))).cell? ⟨p, 3, none⟩ = some (.slice ua ps.length uc) := by
   rw [World.cell?_of_block (w := w) (Below.heap_setCell w ⟨b, 0, none⟩ _ p hpb)]; exact f3
  rw [hlen] at g3; have HG3 := hide g3; clear c0 cf hcn hks hrow hri ih htc ht hbd hblk hnt f3 hpb hpb2 g3; have hg3 := unhide HG3; go_enter Tryz.func31, Tryz.ntmps31; go_wp2_with fail; refine cm HC.out ?_
  rintro e w1 ⟨rfl, rfl⟩; clear HC; go_wp2_with fail
  go_loopw [23] (fun i wr => ∃ k : Nat, k ≤ t.kids.length ∧ i = .int .i64 k ∧ Cnt b (n + 1 + Tr.counts (t.kids.take k)) wr ∧ Ap b w.heap.size w wr) (fun i _ => t.kids.length - (intOf i).toNat)
  case atStart => exact ⟨0, Nat.zero_le _, rfl, by simpa [counts_nil] using HCN.out.set (n + 1) (by omega), Ap.setCell (R := b) (Ap.refl _ _ _) (p := ⟨b, 0, none⟩) (Or.inr rfl) _⟩
  case round =>
   obtain ⟨k, hk, rfl, hcn, hap⟩ := hrel; have HCK := hide hcn; have HAK := hide hap; clear hcn hap
   by_cases hlt : k < t.kids.length
   ·
    obtain ⟨g, cap, hv, hcell⟩ := row_open HROW.out (by omega); simp only [Value.slice.injEq] at hv; obtain ⟨rfl, _, rfl⟩ := hv; obtain ⟨hkp, hnk⟩ := NAts.get _ _ HKS.out k hlt; have hgb : g ≠ b := unhide HRI g rfl
    have hgl : g < w.heap.size := (own_lt HROW.out g rfl).1; have hck : wr.cell? ⟨g, k, none⟩ = some (nPtr ps[k]) := by
     rw [HAK.out.cell (p := ⟨g, k, none⟩) hgl hgb]; exact hcell k hkp
    have hnk2 : NAt (fun x => x ≠ b) wr t.kids[k] ps[k] := NAt.later (fun x hx hl => HAK.out.block x hl hx) _ _ hnk; have hle := counts_le t.kids k hlt; have htk := counts_take t.kids k hlt; have h1 := unhide HTC
    have h2 := unhide HHT; have h3 := unhide HBD; have htot : Tr.counts (t.kids.take k) + (t.kids[k]).count ≤ Tr.counts t.kids := by
     exact zbfj
    have HC := hide (HIH.out t.kids[k] (by omega) ps[k] (n + 1 + Tr.counts (t.kids.take k)) wr hnk2 HCK.out (by omega)); have HTK := hide htk; obtain ⟨q, hq⟩ : ∃ q, q = ps[k] := ⟨_, rfl⟩; rw [← hq] at hck HC
    have hki : (k : Int) < (t.kids.length : Int) := by omega
    have hkb : t.kids.length ≤ 100000 := by have := counts_len t.kids; omega
    clear hcell hnk hnk2 hle htk h1 h2 h3 htot hq; go_wp2_with fail; refine cm HC.out ?_; rintro e w2 ⟨rfl, hc2, ha2⟩; have HC2 := hide hc2; have HA2 := hide (HAK.out.next ha2); clear hc2 ha2 HC hck; go_wp2_with fail
    go_roundw
    case rel => exact ⟨k + 1, by omega, by go_num, by rw [HTK.out]; have := unhide HC2; rw [Nat.add_assoc] at this; exact this, HA2.out⟩
    case measure => simp [intOf]; omega
   ·
    have hk2 : k = t.kids.length := by omega
    subst hk2; go_wp2_with fail
    go_end0
    refine ⟨rfl, ?_, HAK.out⟩; have := unhide HCK; rw [List.take_length] at this; rw [HTC.out, ← Nat.add_assoc]; exact this
theorem many_any (B : Nat) (t : Tr) (p : Nat) (w : World) (h : NAt (From B) w t p) (hc : t.count ≤ 90000) :
  Calls Tryz.prog 44 #[nPtr p] w fun e w' => e = .returned (.int .i64 (t.count : Int)) ∧ Below w.heap.size w w' := by
 have hmf := mf_run
 have hn : NAt (fun x => x ≠ w.heap.size) (w.alloc (.cells #[.int .i64 0] 3)) t p :=
  NAt.later (I := fun x => x ≠ w.heap.size) (fun b _ hl => Below.heap_alloc w _ b hl) _ _ (NAt.mono (fun b _ hl => by omega) _ _ h)
 have hcn : Cnt w.heap.size 0 (w.alloc (.cells #[.int .i64 0] 3)) := ⟨heap_new _ _⟩
 have HC := hide (walk_any w.heap.size t.count t (Nat.le_refl _) p 0 _ hn hcn (by omega))
 clear h hn hcn hc
 go_enter Tryz.func44, Tryz.ntmps44
 go_wp2_with fail
 refine cm HC.out ?_
 rintro e w1 ⟨rfl, hc1, ha1⟩
 have c0 : w1.cell? ⟨w.heap.size, 0, none⟩ = some (.int .i64 (((0 + t.count : Nat)) : Int)) := by rw [cell_of hc1.blk]; rfl
 rw [Nat.zero_add] at c0
 have HB : Hid (Below w.heap.size w w1) := ((Below.refl _ _).alloc (Nat.le_refl _) (.cells #[.int .i64 0] 3)).trans ((ha1.mono (by simp)).below (Nat.le_refl _))
 clear hc1 ha1 HC
 go_wp2_with fail
 go_ret
 exact ⟨rfl, HB.out⟩
inductive PaR where
 | ok (t : Tr)
 | at (er : Int) (p : Nat)
 | bare
abbrev KK : Nat := 24100
def parseS (ws gs : List ByteArray) (s : ByteArray) : PaR :=
 if 3000 < s.size then .bare
 else match toksR ws gs s (pastN gapB s 0) [] with
  | .bad er p => .at er p
  | .ok l => match progP l (fns l KK) with
   | .bad er p => .at er p
   | .ok t _ => if 1500 < t.count then .bare else .ok t
   | .out => .bare
def PaPost (r : PaR) (w : World) (e : Ending) (w' : World) : Prop :=
 match r with
 | .ok t => ∃ p, e = .returned (.tuple #[nPtr p, .nilIface]) ∧ NAt (From w.heap.size) w' t p ∧ Below w.heap.size w w'
 | .at er pl => ∃ b, e = .returned (.tuple #[.pointer none, .iface 144 (.pointer (some ⟨b, 0, none⟩))]) ∧ w'.heap[b]? = some (.cells #[.int .i64 er, .int .i64 (pl : Int)] 145 (0, 0)) ∧ w.heap.size ≤ b ∧ Below w.heap.size w w'
 | .bare => e = .returned (.tuple #[.pointer none, .iface 31 (.int .i64 4)]) ∧ Below w.heap.size w w'
theorem rdTok_kd {ws gs : List ByteArray} {s : ByteArray} {k : Nat} {kd n : Int} {tx : ByteArray} {e : Nat} (h : rdTok ws gs s k = .tok kd tx n e) : kd ≠ 6 := by
 unfold rdTok at h
 split at h
 ·
  unfold rdName at h
  split at h
  ·
   cases h; decide
  ·
   split at h
   ·
    cases h
   ·
    cases h; decide
 ·
  split at h
  ·
   unfold rdNum at h
   split at h
   ·
    cases h
   ·
    split at h
    ·
     cases h
    ·
     split at h
     ·
      cases h
     ·
      cases h; decide
  ·
   split at h
   ·
    unfold rdStr at h
    split at h
    ·
     split at h
     ·
      cases h
     ·
      cases h; decide
    ·
     cases h
   ·
    unfold rdSign at h
    split at h
    ·
     cases h; decide
    ·
     cases h
theorem toks_form (ws gs : List ByteArray) (s : ByteArray) (hgs : ∀ g ∈ gs, 1 ≤ g.size) : ∀ m i acc l, s.size - i = m → i ≤ s.size → toksR ws gs s i acc = .ok l →
  ∃ l', l = acc ++ l' ++ [⟨6, ⟨#[]⟩, 0, s.size⟩] ∧ (∀ t ∈ l', t.kd ≠ 6) ∧ l'.length ≤ s.size - i := by
 intro m
 induction m using Nat.strongRecOn with
 | ind m ih =>
  intro i acc l hm hi h
  by_cases hlt : i < s.size
  ·
   cases hr : rdTok ws gs s i with
   | bad er p => rw [toksR_bad ws gs s i acc er p hlt hr] at h; cases h
   | tok kd tx n e =>
    have hb := rdTok_bounds ws gs s i kd n tx e hlt hgs hr; rw [toksR_go ws gs s i acc kd n tx e hlt hr hb.1] at h; have hge := pastN_ge gapB s e; have hle := pastN_le gapB s e hb.2
    obtain ⟨l', h1, h2, h3⟩ := ih (s.size - pastN gapB s e) (by omega) (pastN gapB s e) _ l rfl hle h; refine ⟨⟨kd, tx, n, i⟩ :: l', by rw [h1]; simp, fun t ht => ?_, by simp; omega⟩
    rcases List.mem_cons.1 ht with rfl | ht
    ·
     exact rdTok_kd hr
    ·
     exact h2 t ht
  ·
   rw [toksR_end ws gs s i acc hlt] at h; exact ⟨[], by cases h; simp, fun t ht => absurd ht (by simp), by simp⟩
theorem toks_ends {ws gs : List ByteArray} {s : ByteArray} (hgs : ∀ g ∈ gs, 1 ≤ g.size) {l : List Tk} (h : toksR ws gs s (pastN gapB s 0) [] = .ok l) : Ends l ∧ 0 < l.length ∧ l.length ≤ s.size + 1 := by
 obtain ⟨l', h1, h2, h3⟩ := toks_form ws gs s hgs _ (pastN gapB s 0) [] l rfl (pastN_le gapB s 0 (Nat.zero_le _)) h
 rw [List.nil_append] at h1
 subst h1
 refine ⟨fun i hi => ?_, by simp, by simp; omega⟩
 rw [List.length_append, List.length_singleton] at hi
 unfold tkA
 rw [List.getD_eq_getElem?_getD, List.length_append, List.length_singleton]
 by_cases hil : i < l'.length
 ·
  rw [List.getElem?_append_left hil, List.getElem?_eq_getElem hil]; constructor
  ·
   intro h6; exact absurd h6 (h2 _ (List.getElem_mem hil))
  ·
   intro h6; omega
 ·
  have hi2 : i = l'.length := by omega
  subst hi2; rw [List.getElem?_append_right (Nat.le_refl _), Nat.sub_self]; simp
section
variable {l : List Tk} {k : Nat} {F : Fns} (hF : FNx l k F)
include l k F hF
theorem progLoop_nx (hk : 8 * l.length + 3 < k) : ∀ n acc i, i < l.length → l.length - i < n → progLoop l F n acc i ≠ .out := by
 intro n
 induction n with
 | zero => intro acc i hi hn; omega
 | succ n ih =>
  intro acc i hi hn; unfold progLoop
  split
  ·
   nofun
  ·
   have hd := deepP_nx (l := l) (d := 0) ((hF.st (0 + 1) i hi).imp (q' := True) (fun _ => by omega))
   cases hr : deepP l F.st 0 i with
   | out => exact absurd hr (hd.1 trivial)
   | bad er p => rw [PR.bind]; nofun
   | ok t j =>
    have := hd.2 t j hr; exact ih _ j this.2 (by omega)
theorem progLoop_lt : ∀ n acc i ts j, i < l.length → progLoop l F n acc i = .ok ts j → j < l.length := by
 intro n
 induction n with
 | zero => intro acc i ts j _ h; cases h
 | succ n ih =>
  intro acc i ts j hi h; unfold progLoop at h
  split at h
  ·
   cases h; exact hi
  ·
   obtain ⟨t, j1, h1, h⟩ := bind_inv h; exact ih _ j1 _ _ ((deepP_nx (l := l) (d := 0) (hF.st (0 + 1) i hi)).2 t j1 h1).2 h
end
theorem prog_total {l : List Tk} (hE : Ends l) (h0 : 0 < l.length) (hl : l.length ≤ 3001) : progP l (fns l KK) ≠ .out ∧ ∀ t j, progP l (fns l KK) = .ok t j → j < l.length := by
 have hF := fns_nx hE KK
 have h1 := progLoop_nx hF (by unfold KK; omega) (fns l KK).fuel [] 0 h0 (by rw [hF.fuel]; unfold KK; omega)
 unfold progP
 constructor
 ·
  cases hr : progLoop l (fns l KK) (fns l KK).fuel [] 0 with
  | out => exact absurd hr h1
  | bad er p => nofun
  | ok ts j => nofun
 ·
  intro t j h; obtain ⟨ts, j1, h2, h⟩ := bind_inv h; cases h; exact progLoop_lt hF _ _ _ _ _ h0 h2
structure Tabs (w : World) : Prop where
 heads : ∃ t fr, w.heap[3]? = some (.cells hdCells t fr)
 signs : ∃ t fr, w.heap[2]? = some (.cells sgCells t fr)
theorem Tabs.later {w w' : World} (h : Tabs w) (hb : Below w.heap.size w w') : Tabs w' := by
 obtain ⟨⟨t, fr, h1⟩, ⟨t2, fr2, h2⟩⟩ := h
 exact ⟨⟨t, fr, by rw [hb.block _ (lt_of_heap h1)]; exact h1⟩, ⟨t2, fr2, by rw [hb.block _ (lt_of_heap h2)]; exact h2⟩⟩
theorem rw_below (w : World) : Below w.heap.size w (RW w) := ((Below.refl _ _).alloc (Nat.le_refl _) _).alloc (by simp) _
theorem readToks_any (w : World) (l : List Tk) (g cap : Nat) (cur : Array Value) (hE : Ends l) (h0 : 0 < l.length) (hl : l.length ≤ 3001) (ht : w.heap[g]? = some (.cells cur 138 (0, 0))) (hcap : l.length ≤ cap ∧ cap ≤ maxLen ∧ cur.size = cap * 4 ∧ cur.toList.take (l.length * 4) = tksCells l) (hT : Tabs w) :
  Calls Tryz.prog 43 #[.slice (some ⟨g, 0, none⟩) l.length cap] w (RdPost (progP l (fns l KK)) w) := by
 have hb := rw_below w
 have hT2 := hT.later hb
 have HN := newReader_any (RW w) l g cap cur hE h0 hl (by rw [hb.block _ (lt_of_heap ht)]; exact ht) hcap hT2.heads hT2.signs
 have hF : ∀ c : Ctx, c.l = l → FC c (fns c.l KK) := fun c hc => fns_does c (by rw [hc]; exact hE) KK
 have hp := (prog_total hE h0 hl).1
 cases hr : progP l (fns l KK) with
 | out => exact absurd hr hp
 | bad er pl =>
  refine read_bad w l g cap er pl HN fun c W hc hrd => ?_; exact zbfe
 | ok t j =>
  refine read_ok w l g cap t j HN fun c W hc hrd => ?_; exact zbfe
section
variable (s : ByteArray) (w : World)
include s w
theorem parse_long (hs : 3000 < s.size) : Calls Tryz.prog 14 #[.string s] w (PaPost .bare w) := by
 have HC := hide (tokens_long s w hs)
 clear hs
 go_enter Tryz.func14, Tryz.ntmps14
 go_wp2_with fail
 refine cm HC.out ?_
 rintro e w1 ⟨rfl, rfl⟩
 go_wp2_with fail
 exact bodyPost_ret (v := .tuple #[.pointer none, .iface 31 (.int .i64 4)]) (by simp [results, Tryz.results14, go_sem]) rfl ⟨rfl, Below.refl _ _⟩
theorem parse_toks (er : Int) (p : Nat) (h : Calls Tryz.prog 42 #[.string s] w (TPost (.bad er p) w)) : Calls Tryz.prog 14 #[.string s] w (PaPost (.at er p) w) := by
 have HC := hide h
 clear h
 go_enter Tryz.func14, Tryz.ntmps14
 go_wp2_with fail
 refine cm HC.out ?_
 rintro e w1 ⟨b, rfl, hb1, hb2, hb3⟩
 have H1 := hide hb1
 have H3 := hide hb3
 have H2 := hide hb2
 clear hb1 hb2 hb3 HC
 exact zbeo
theorem parse_bad (l : List Tk) (er : Int) (p : Nat) (h : Calls Tryz.prog 42 #[.string s] w (TPost (.ok l) w)) (h0 : 0 < l.length) (hr : ∀ (W : World) (g cap : Nat) (cur : Array Value), Below w.heap.size w W → W.heap[g]? = some (.cells cur 138 (0, 0)) → (l.length ≤ cap ∧ cap ≤ maxLen ∧ cur.size = cap * 4 ∧ cur.toList.take (l.length * 4) = tksCells l) → Calls Tryz.prog 43 #[.slice (some ⟨g, 0, none⟩) l.length cap] W (RdPost (.bad er p) W)) :
  Calls Tryz.prog 14 #[.string s] w (PaPost (.at er p) w) := by
 have HC := hide h
 have HR := hide hr
 clear h hr
 go_enter Tryz.func14, Tryz.ntmps14
 go_wp2_with fail
 refine cm HC.out ?_
 rintro e w1 ⟨v, rfl, hown, hb1⟩
 rcases hown.2 with hn | ⟨g, cap, cur, rfl, hg, hh, h1, h2, h3, h4⟩
 ·
  omega
 ·
  have HC2 := hide (HR.out w1 g cap cur hb1 hh ⟨h1, h2, h3, h4⟩); have HB1 := hide hb1; clear hown hb1 hg hh h1 h2 h3 h4 HC; go_wp2_with fail; refine cm HC2.out ?_; rintro e w2 ⟨b, rfl, hb1, hb2, hb3⟩; have H1 := hide hb1
  have H3 := hide (HB1.out.trans (hb3.mono HB1.out.size)); have H2 := hide (Nat.le_trans HB1.out.size hb2); clear hb1 hb2 hb3 HC2; exact zbeo
theorem parse_ok (l : List Tk) (t : Tr) (j : Nat) (h : Calls Tryz.prog 42 #[.string s] w (TPost (.ok l) w)) (h0 : 0 < l.length) (hc : t.count ≤ 90000) (hr : ∀ (W : World) (g cap : Nat) (cur : Array Value), Below w.heap.size w W → W.heap[g]? = some (.cells cur 138 (0, 0)) → (l.length ≤ cap ∧ cap ≤ maxLen ∧ cur.size = cap * 4 ∧ cur.toList.take (l.length * 4) = tksCells l) → Calls Tryz.prog 43 #[.slice (some ⟨g, 0, none⟩) l.length cap] W (RdPost (.ok t j) W)) :
  Calls Tryz.prog 14 #[.string s] w (PaPost (if 1500 < t.count then .bare else .ok t) w) := by
 have HC := hide h
 have HR := hide hr
 have HCC := hide hc
 obtain ⟨r, hrr⟩ : ∃ r, r = (if 1500 < t.count then PaR.bare else .ok t) := ⟨_, rfl⟩
 rw [← hrr]
 have HRR := hide hrr
 clear h hr hc hrr
 go_enter Tryz.func14, Tryz.ntmps14
 go_wp2_with fail
 refine cm HC.out ?_
 rintro e w1 ⟨v, rfl, hown, hb1⟩
 rcases hown.2 with hn | ⟨g, cap, cur, rfl, hg, hh, h1, h2, h3, h4⟩
 ·
  omega
 ·
  have HC2 := hide (HR.out w1 g cap cur hb1 hh ⟨h1, h2, h3, h4⟩); have HB1 := hide hb1; clear hown hb1 hg hh h1 h2 h3 h4 HC; go_wp2_with fail; refine cm HC2.out ?_; rintro e w2 ⟨p, rfl, hn, hb⟩; have HN := hide hn
  have HB2 := hide (HB1.out.trans (hb.mono HB1.out.size)); have HC3 := hide (many_any w1.heap.size t p w2 hn HCC.out); have HS1 := hide HB1.out.size; clear hn hb HC2; go_wp2_with fail; refine cm HC3.out ?_
  rintro e w3 ⟨rfl, hb3⟩; have HB3 := hide (HB2.out.trans (hb3.mono HB2.out.size))
  have HN3 : Hid (NAt (From w.heap.size) w3 t p) := NAt.mono (fun b hb _ => Nat.le_trans HS1.out hb) _ _ (NAt.later (I := From w1.heap.size) (fun b _ hl => hb3.block b hl) _ _ HN.out); clear hb3 HC3
  by_cases h15 : 1500 < t.count
  ·
   have hq : r = .bare := by rw [HRR.out, if_pos h15]
   have HQ := hide hq; clear hq; have hi : (1500 : Int) < (t.count : Int) := by omega
   clear h15; go_wp2_with fail; exact bodyPost_ret (v := .tuple #[.pointer none, .iface 31 (.int .i64 4)]) (by simp [results, Tryz.results14, go_sem]) rfl (by rw [HQ.out]; exact ⟨rfl, HB3.out⟩)
  ·
   have hq : r = .ok t := by rw [HRR.out, if_neg h15]
   have HQ := hide hq; clear hq; have hi : ¬ (1500 : Int) < (t.count : Int) := by omega
   clear h15; go_wp2_with fail; exact bodyPost_ret (v := .tuple #[nPtr p, .nilIface]) (by simp [results, Tryz.results14, go_sem]) rfl (by rw [HQ.out]; exact ⟨p, rfl, HN3.out, HB3.out⟩)
end
theorem parse_any (ws gs : List ByteArray) (s : ByteArray) (w : World) (hL : Lists ws gs w) (hgs : ∀ g ∈ gs, 1 ≤ g.size) (hT : Tabs w) : Calls Tryz.prog 14 #[.string s] w (PaPost (parseS ws gs s) w) := by
 unfold parseS
 by_cases hs : 3000 < s.size
 ·
  rw [if_pos hs]; exact parse_long s w hs
 ·
  rw [if_neg hs]; have hk := tokens_any ws gs s w (by omega) hL hgs
  cases ht : toksR ws gs s (pastN gapB s 0) [] with
  | bad er p => rw [ht] at hk; exact parse_toks s w er p hk
  | ok l =>
   rw [ht] at hk; obtain ⟨hE, h0, hl⟩ := toks_ends hgs ht; have hl2 : l.length ≤ 3001 := by omega
   obtain ⟨hp1, hp2⟩ := prog_total hE h0 hl2; have hrd := fun (W : World) (g cap : Nat) (cur : Array Value) (hb : Below w.heap.size w W) hh hcap => readToks_any W l g cap cur hE h0 hl2 hh hcap (hT.later hb); simp only
   cases hr : progP l (fns l KK) with
   | out => exact absurd hr hp1
   | bad er p => rw [hr] at hrd; exact parse_bad s w l er p hk h0 hrd
   | ok t j =>
    rw [hr] at hrd; have hj := hp2 t j hr; have hcb := prog_cb (fns_cb KK) hr; exact parse_ok s w l t j hk h0 (by omega) hrd
end Go.Proofs.YtoimgcjbcbhclaaGreatDoor
namespace Go.Proofs.YtoimgcjbcbhclaaGreatDoor
open Go.ChangeShapes Go.WideShapes Go.ChangeAt Go.WideMaps Go.WideElems Go.RowKit
theorem gTSigns : Tryz.prog.globalNamed "sloppyscope/tree.signs" = some 2 := by kernel_rfl
theorem gTHeads : Tryz.prog.globalNamed "sloppyscope/tree.heads" = some 3 := by kernel_rfl
theorem tTSigns : (Tryz.prog.globals[2]?).map (·.type) = some 190 := by kernel_rfl
theorem tTHeads : (Tryz.prog.globals[3]?).map (·.type) = some 194 := by kernel_rfl
theorem cells160 : Tryz.prog.cellsOf 189 = 4 := by kernel_rfl
theorem cells3 : Tryz.prog.cellsOf 3 = 1 := by kernel_rfl
theorem cells161 : Tryz.prog.cellsOf 190 = 56 := by kernel_rfl
theorem cellsHd : Tryz.prog.cellsOf 193 = 2 := by kernel_rfl
theorem cellsHds : Tryz.prog.cellsOf 194 = 16 := by kernel_rfl
theorem of_pieces (k : Nat) (hk : 0 < k) : ∀ (L : List (List Value)) (cs : List Value), (∀ l ∈ L, l.length = k) → cs.length = L.length * k → (∀ i (hi : i < L.length), (cs.drop (i * k)).take k = L[i]) → cs = L.flatten
 | [], cs, _, hl, _ => by
  have : cs.length = 0 := by simpa using hl
  simpa using this
 | l :: L, cs, h, hl, hp => by
  have h0 := hp 0 (by simp); simp only [Nat.zero_mul, List.drop_zero, List.getElem_cons_zero] at h0
  have h1 := of_pieces k hk L (cs.drop k) (fun x hx => h x (List.mem_cons_of_mem _ hx)) (by rw [List.length_drop, hl, List.length_cons, Nat.add_mul]; omega) (fun i hi => by
   have := hp (i + 1) (by simpa using hi); rw [List.getElem_cons_succ] at this; rw [List.drop_drop, show k + i * k = (i + 1) * k by rw [Nat.add_mul]; omega]
   exact this)
  rw [List.flatten_cons, ← h0, ← h1, List.take_append_drop]
section
variable {W : World} {fuel : Nat} {cs : List Value}
include W fuel cs
theorem int_of {z : Int} {q : List MemPlace} (h : DataW.trod (fun _ => ()) Tryz.prog W 0 (fun _ => true) false fuel 3 cs = some (.lit (.int .i64 z), q)) : cs = [.int .i64 z] := by
 obtain ⟨k, e, f, _⟩ := DataW.trod_int Tryz.underlying3 h
 simp only [Prod.mk.injEq, DataW.lit.injEq, Lit.int.injEq, true_and] at f
 rw [e, ← f.1]
theorem text_of {l : List UInt8} {q : List MemPlace} (h : DataW.trod (fun _ => ()) Tryz.prog W 0 (fun _ => true) false fuel 9 cs = some (.lit (.string l), q)) : cs = [.string (ofBytes l)] := by
 obtain ⟨s, e1, e2, _⟩ := DataW.trod_string Tryz.underlying9 h
 simp only [Prod.mk.injEq, DataW.lit.injEq, Lit.string.injEq] at e2
 rw [e1, ofBytes_eq e2.1.symm]
end
theorem fields4 {cs : List Value} (hl : cs.length = 4) {a b c d : Value} (h0 : (cs.drop 0).take 1 = [a]) (h1 : (cs.drop 1).take 1 = [b]) (h2 : (cs.drop 2).take 1 = [c]) (h3 : (cs.drop 3).take 1 = [d]) : cs = [a, b, c, d] := by
 match cs, hl with
 | [x, y, z, u], _ => simp at h0 h1 h2 h3; rw [h0, h1, h2, h3]
theorem fields2 {cs : List Value} (hl : cs.length = 2) {a b : Value} (h0 : (cs.drop 0).take 1 = [a]) (h1 : (cs.drop 1).take 1 = [b]) : cs = [a, b] := by
 match cs, hl with
 | [x, y], _ => simp at h0 h1; rw [h0, h1]
def sgD (l : List UInt8) (a b c : Int) : DataW Unit := .agg [.lit (.string l), .lit (.int .i64 a), .lit (.int .i64 b), .lit (.int .i64 c)]
def hdD (l : List UInt8) (a : Int) : DataW Unit := .agg [.lit (.string l), .lit (.int .i64 a)]
theorem fst_at {H : Type} {xs : List (DataW H × List MemPlace)} {ds : List (DataW H)} (h : ds = xs.map (·.1)) (i : Nat) (d : DataW H) (hd : ds[i]? = some d) : ∃ q, xs[i]? = some (d, q) := by
 subst h
 rw [List.getElem?_map] at hd
 cases hx : xs[i]? with
 | none => rw [hx] at hd; cases hd
 | some x =>
  rw [hx] at hd; exact ⟨x.2, by rw [← Option.some.inj hd]⟩
section
variable {W : World} {fuel : Nat} {cs : List Value} {l : List UInt8}
include W fuel cs l
theorem sg_of {a b c : Int} {q : List MemPlace} (h : DataW.trod (fun _ => ()) Tryz.prog W 0 (fun _ => true) false fuel 189 cs = some (sgD l a b c, q)) :
  cs = [.string (ofBytes l), .int .i64 a, .int .i64 b, .int .i64 c] := by
 obtain ⟨xs, n, _, hx, hl, hn, hel⟩ := DataW.trod_struct Tryz.underlying189 h
 simp only [Prod.mk.injEq, sgD, DataW.agg.injEq] at hx
 rw [cells160] at hl
 obtain ⟨q0, x0⟩ := fst_at hx.1 0 _ rfl
 obtain ⟨q1, x1⟩ := fst_at hx.1 1 _ rfl
 obtain ⟨q2, x2⟩ := fst_at hx.1 2 _ rfl
 obtain ⟨q3, x3⟩ := fst_at hx.1 3 _ rfl
 have f0 := hel 0 _ rfl
 have f1 := hel 1 _ rfl
 have f2 := hel 2 _ rfl
 have f3 := hel 3 _ rfl
 rw [x0] at f0
 rw [x1] at f1
 rw [x2] at f2
 rw [x3] at f3
 have g0 : (cs.drop 0).take (Tryz.prog.cellsOf 9) = _ := text_of f0
 have g1 : (cs.drop 1).take (Tryz.prog.cellsOf 3) = _ := int_of f1
 have g2 : (cs.drop 2).take (Tryz.prog.cellsOf 3) = _ := int_of f2
 have g3 : (cs.drop 3).take (Tryz.prog.cellsOf 3) = _ := int_of f3
 rw [cells9] at g0
 rw [cells3] at g1 g2 g3
 exact fields4 hl g0 g1 g2 g3
theorem hd_of {a : Int} {q : List MemPlace} (h : DataW.trod (fun _ => ()) Tryz.prog W 0 (fun _ => true) false fuel 193 cs = some (hdD l a, q)) :
  cs = [.string (ofBytes l), .int .i64 a] := by
 obtain ⟨xs, n, _, hx, hl, hn, hel⟩ := DataW.trod_struct Tryz.underlying193 h
 simp only [Prod.mk.injEq, hdD, DataW.agg.injEq] at hx
 rw [cellsHd] at hl
 obtain ⟨q0, x0⟩ := fst_at hx.1 0 _ rfl
 obtain ⟨q1, x1⟩ := fst_at hx.1 1 _ rfl
 have f0 := hel 0 _ rfl
 have f1 := hel 1 _ rfl
 rw [x0] at f0
 rw [x1] at f1
 have g0 : (cs.drop 0).take (Tryz.prog.cellsOf 9) = _ := text_of f0
 have g1 : (cs.drop 1).take (Tryz.prog.cellsOf 3) = _ := int_of f1
 rw [cells9] at g0
 rw [cells3] at g1
 exact fields2 hl g0 g1
end
def sgL4 : List (List UInt8 × Int × Int × Int) := sgs.map fun e => (e.tx.data.toList, e.kd, e.parts, e.str)
def hdL2 : List (List UInt8 × Int) := hds.map fun e => (e.1.data.toList, e.2)
section
variable {W : World} {fuel : Nat} {cs : List Value} {p : List MemPlace}
include W fuel cs p
theorem tsigns_of (h : DataW.trod (fun _ => ()) Tryz.prog W 0 (fun _ => true) false fuel 190 cs = some (.agg (sgL4.map fun e => sgD e.1 e.2.1 e.2.2.1 e.2.2.2), p)) : cs = sgCells.toList := by
 obtain ⟨xs, m, _, hx, hlen, hn, hel⟩ := DataW.trod_array Tryz.underlying190 h
 simp only [Prod.mk.injEq, DataW.agg.injEq] at hx
 rw [cells161] at hlen
 have key : cs = (sgL4.map fun e => [Value.string (ofBytes e.1), .int .i64 e.2.1, .int .i64 e.2.2.1, .int .i64 e.2.2.2]).flatten := by
  refine of_pieces 4 (by decide) _ cs ?_ (by rw [hlen]; rfl) ?_
  ·
   intro l hl; obtain ⟨e, _, rfl⟩ := List.mem_map.1 hl; rfl
  ·
   intro i hi; rw [List.length_map] at hi; have hi14 : i < 14 := hi; have he := hel i hi14; rw [cells160] at he; obtain ⟨q, hq⟩ := fst_at hx.1 i _ (by rw [List.getElem?_map, List.getElem?_eq_getElem hi]; rfl)
   rw [hq] at he; rw [sg_of he, List.getElem_map]
 rw [key]
 rfl
theorem theads_of (h : DataW.trod (fun _ => ()) Tryz.prog W 0 (fun _ => true) false fuel 194 cs = some (.agg (hdL2.map fun e => hdD e.1 e.2), p)) : cs = hdCells.toList := by
 obtain ⟨xs, m, _, hx, hlen, hn, hel⟩ := DataW.trod_array Tryz.underlying194 h
 simp only [Prod.mk.injEq, DataW.agg.injEq] at hx
 rw [cellsHds] at hlen
 have key : cs = (hdL2.map fun e => [Value.string (ofBytes e.1), .int .i64 e.2]).flatten := by
  refine of_pieces 2 (by decide) _ cs ?_ (by rw [hlen]; rfl) ?_
  ·
   intro l hl; obtain ⟨e, _, rfl⟩ := List.mem_map.1 hl; rfl
  ·
   intro i hi; rw [List.length_map] at hi; have hi14 : i < 8 := hi; have he := hel i hi14; rw [cellsHd] at he; obtain ⟨q, hq⟩ := fst_at hx.1 i _ (by rw [List.getElem?_map, List.getElem?_eq_getElem hi]; rfl)
   rw [hq] at he; rw [hd_of he, List.getElem_map]
 rw [key]
 rfl
end
end Go.Proofs.YtoimgcjbcbhclaaGreatDoor
