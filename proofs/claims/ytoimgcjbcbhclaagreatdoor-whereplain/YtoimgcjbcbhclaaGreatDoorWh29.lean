/-
  Evals: whether code calls eval by that name.
-/
import Derived.Test.YtoimgcjbcbhclaaGreatDoorWh27
import Derived.Test.YtoimgcjbcbhclaaGreatDoorWh28
import Derived.Test.YtoimgcjbcbhclaaGreatDoorWh26
set_option maxRecDepth 100000
set_option maxHeartbeats 16000000
namespace Go.Proofs.YtoimgcjbcbhclaaGreatDoor
open Go.RowKit

/-- A call of eval by that name. -/
def ceT (t : Tr) : Bool := t.kd == 35 && (match t.kids with | k :: _ => k.kd == 23 && decide (k.tx = tEval) | [] => false)
mutual
def evW : Tr → Bool
  | .mk kd tx n ks => ceT (.mk kd tx n ks) || (if isFunT (.mk kd tx n ks) then false else evWs ks)
def evWs : List Tr → Bool
  | [] => false
  | t :: ts => evW t || evWs ts
end
def evalsT (t : Tr) : Bool := ceT t || evWs t.kids
theorem evW_eq (t : Tr) : evW t = (ceT t || (if isFunT t then false else evWs t.kids)) := by
  cases t with
  | mk kd tx n ks => rw [evW]; rfl

/-- A node's first part. -/
theorem AAt.first {I : Nat → Prop} {w : World} {a k : Ad} {ks : List Ad} (h : AAt I w a) (hk : a.ks = k :: ks) : ∃ g cap, w.cell? ⟨a.p, 3, none⟩ = some (.slice (some ⟨g, 0, none⟩) (ks.length + 1) cap) ∧ g < w.heap.size ∧ w.cell? ⟨g, 0, none⟩ = some (nPtr k.p) ∧ AAt I w k := by
  obtain ⟨_, _, _, _, v, c3, hr, _⟩ := h.cells
  rw [hk] at hr
  obtain ⟨g, cap, rfl, hc⟩ := row_open hr (by simp)
  refine ⟨g, cap, ?_, (own_lt hr g rfl).1, ?_, h.parts k (by rw [hk]; simp)⟩
  · rw [c3]; simp
  · have := hc 0 (by simp)
    simpa using this

theorem callsEval_any {I : Nat → Prop} {t : Ad} {w : World} (ht : AAt I w t) (hk : t.kd = 35 → t.ks ≠ []) :
    Calls Tryz.prog 73 #[nPtr t.p] w fun e w' => e = .returned (.bool (ceT t.tr)) ∧ w' = w := by
  obtain ⟨_, hpl, c0, _, _⟩ := ht.cells
  obtain ⟨e1, _, e3⟩ := t.tr_eq
  unfold ceT
  rw [e1, e3]
  obtain ⟨p, hp⟩ : ∃ p, p = t.p := ⟨_, rfl⟩
  cases h35 : (t.kd == 35) with
  | false =>
    rw [Bool.false_and]
    rw [← hp] at hpl c0 ⊢
    generalize t.kd = kd at c0 h35
    clear hp ht hk e1 e3
    go_enter Tryz.func73, Tryz.ntmps73
    go_wp2_with fail
    go_ret
    exact ⟨rfl, rfl⟩
  | true =>
    have hn := hk (by simpa using h35)
    cases hks : t.ks with
    | nil => exact absurd hks hn
    | cons k ks =>
      obtain ⟨g, cap, c3, hg, d0, hA⟩ := ht.first hks
      obtain ⟨_, hql, k0, k1, _⟩ := hA.cells
      obtain ⟨f1, f2, _⟩ := k.tr_eq
      rw [List.map_cons]
      simp only
      rw [f1, f2]
      rw [← hp] at hpl c0 c3 ⊢
      obtain ⟨q, hq⟩ : ∃ q, q = k.p := ⟨_, rfl⟩
      rw [← hq] at hql k0 k1 d0
      generalize t.kd = kd at c0 h35
      generalize k.kd = kk at k0
      generalize k.tx = kx at k1
      generalize ks.length = n at c3
      have hn0 : (0 : Int) < (((n + 1 : Nat)) : Int) := by omega
      clear hp ht hk e1 e3 hA f1 f2 hq hks hn
      cases h23 : (kk == 23) with
      | false =>
        go_enter Tryz.func73, Tryz.ntmps73
        go_wp2_with fail
        go_ret
        exact ⟨rfl, rfl⟩
      | true =>
        by_cases hx : kx = tEval
        · have e2 := tl_eqL (b := tEval) rfl hx
          rw [decide_eq_true hx]
          clear hx
          go_enter Tryz.func73, Tryz.ntmps73
          go_wp2_with fail
          go_ret
          exact ⟨rfl, rfl⟩
        · have e2 := tl_neL (b := tEval) rfl hx
          rw [decide_eq_false hx]
          clear hx
          go_enter Tryz.func73, Tryz.ntmps73
          go_wp2_with fail
          go_ret
          exact ⟨rfl, rfl⟩

theorem isFunW_any (t : Tr) (p : Nat) (w : World) (h : NTr w t p) : Calls Tryz.prog 74 #[nPtr p] w fun e w' => e = .returned (.bool (isFunT t)) ∧ w' = w := by
  obtain ⟨hpl, c0, _, _⟩ := h.cells
  clear h
  unfold isFunT
  generalize t.kd = kd at c0
  cases h3 : (kd == 5)
  · go_enter Tryz.func74, Tryz.ntmps74
    go_wp2_with fail
    go_ret
    exact ⟨rfl, rfl⟩
  · go_enter Tryz.func74, Tryz.ntmps74
    go_wp2_with fail
    go_ret
    exact ⟨rfl, rfl⟩

/-- What is known while code is looked through: the answer's block, and that of the node's word. -/
structure Evs (fb nb root : Nat) (b : Bool) (w : World) : Prop where
  found : w.heap[fb]? = some (.cells #[.bool b] 4 (0, 0))
  word : w.heap[nb]? = some (.cells #[nPtr root] 22 (0, 0))
  node : Cl w root
def evF (root : Nat) (b : Bool) (t : Ad) : Bool × Bool := (b || ceT t.tr, decide (t.p = root) || !isFunT t.tr)

theorem evals1_any {fb nb root : Nat} {b : Bool} {t : Ad} {I : Nat → Prop} {w : World} (hE : Evs fb nb root b w) (ht : AAt I w t) (hk : t.kd = 35 → t.ks ≠ []) (hI : ∀ x, I x → x ≠ fb) (hne : nb ≠ fb) (hrf : root ≠ fb) :
    Calls Tryz.prog 72 #[nPtr t.p, .pointer (some ⟨fb, 0, none⟩), .pointer (some ⟨nb, 0, none⟩)] w fun e w' => e = .returned (.bool (evF root b t).2) ∧ w' = w.setCell ⟨fb, 0, none⟩ (.bool (evF root b t).1) := by
  have f0 : w.cell? ⟨fb, 0, none⟩ = some (.bool b) := by rw [cell_of hE.found]; rfl
  have ff := frozen_of hE.found 0
  have fl := lt_of_heap hE.found
  have HCE := hide (callsEval_any ht hk)
  obtain ⟨w1, hw1⟩ : ∃ w1, w1 = w.setCell ⟨fb, 0, none⟩ (.bool (b || ceT t.tr)) := ⟨_, rfl⟩
  have hS : ∀ x, x ≠ fb → w1.heap[x]? = w.heap[x]? := fun x hx => by rw [hw1]; exact Below.heap_setCell w ⟨fb, 0, none⟩ _ x hx
  have ht1 : AAt I w1 t := AAt.later (fun x hx _ => hS x (hI x hx)) _ ht
  have HIF := hide (isFunW_any t.tr t.p w1 (NAt.nt ht1.nat))
  have n1 : w1.cell? ⟨nb, 0, none⟩ = some (nPtr root) := by rw [cell_of (by rw [hS nb hne]; exact hE.word)]; rfl
  have hr1 : Cl w1 root := by
    obtain ⟨cs, ty, hc⟩ := hE.node
    exact ⟨cs, ty, by rw [hS root hrf]; exact hc⟩
  have hq : (binOp .eql 22 (nPtr t.p) (nPtr root)).run Tryz.prog w1 = .ok (.bool (decide (t.p = root))) w1 := by
    simp only [binOp]
    simp [eq_ptr ht1.cl hr1]
  have hnl : nb < w1.heap.size := by rw [hw1]; simpa using lt_of_heap hE.word
  unfold evF
  simp only
  generalize ceT t.tr = c at HCE hw1
  generalize isFunT t.tr = fn at HIF
  generalize decide (t.p = root) = eqr at hq
  generalize t.p = p at HCE HIF hq
  have n0 : w.cell? ⟨nb, 0, none⟩ = some (nPtr root) := by rw [cell_of hE.word]; rfl
  have hnl0 := lt_of_heap hE.word
  clear hE ht hk hI hrf hS ht1 hr1
  cases b with
  | true =>
    rw [Bool.true_or] at hw1 ⊢
    subst hw1
    cases eqr with
    | true =>
      go_enter Tryz.func72, Tryz.ntmps72
      go_wp2_with fail
      go_ret
      exact ⟨rfl, rfl⟩
    | false =>
      go_enter Tryz.func72, Tryz.ntmps72
      go_wp2_with fail
      refine Calls.mono HIF.out ?_
      rintro e w2 ⟨rfl, rfl⟩
      clear HIF
      go_wp2_with fail
      go_ret
      exact ⟨by cases fn <;> rfl, rfl⟩
  | false =>
    rw [Bool.false_or] at hw1 ⊢
    subst hw1
    cases eqr with
    | true =>
      go_enter Tryz.func72, Tryz.ntmps72
      go_wp2_with fail
      refine Calls.mono HCE.out ?_
      rintro e w2 ⟨rfl, rfl⟩
      clear HCE
      go_wp2_with fail
      go_ret
      exact ⟨rfl, rfl⟩
    | false =>
      go_enter Tryz.func72, Tryz.ntmps72
      go_wp2_with fail
      refine Calls.mono HCE.out ?_
      rintro e w2 ⟨rfl, rfl⟩
      clear HCE
      go_wp2_with fail
      refine Calls.mono HIF.out ?_
      rintro e w3 ⟨rfl, rfl⟩
      clear HIF
      go_wp2_with fail
      go_ret
      exact ⟨by cases fn <;> rfl, rfl⟩

mutual
theorem evW_wk (root : Nat) : ∀ (t : Ad) (b : Bool), root ∉ t.ads → wk (evF root) b t = (b || evW t.tr)
  | .mk p kd tx n ks, b, h => by
    rw [Ad.ads, List.mem_cons, not_or] at h
    rw [wk, Ad.tr, evW]
    have hp : decide ((Ad.mk p kd tx n ks).p = root) = false := decide_eq_false (fun e => h.1 e.symm)
    simp only [evF, hp, Bool.false_or]
    rw [Ad.tr]
    cases isFunT (.mk kd tx n (Ad.trs ks)) with
    | true => simp
    | false =>
      simp only [Bool.not_false, if_true, Bool.false_eq_true, if_false]
      rw [evWs_wk root ks _ h.2, Bool.or_assoc]
theorem evWs_wk (root : Nat) : ∀ (ts : List Ad) (b : Bool), root ∉ Ad.adss ts → wks (evF root) b ts = (b || evWs (Ad.trs ts))
  | [], b, _ => by rw [wks, Ad.trs, evWs, Bool.or_false]
  | t :: ts, b, h => by
    rw [Ad.adss, List.mem_append, not_or] at h
    rw [wks, evW_wk root t b h.1, evWs_wk root ts _ h.2, Ad.trs, evWs, Bool.or_assoc]
end
theorem evals_wk (t : Ad) (b : Bool) (h : t.ads.Nodup) : wk (evF t.p) b t = (b || evalsT t.tr) := by
  cases t with
  | mk p kd tx n ks =>
    rw [Ad.ads, List.nodup_cons] at h
    have h2 : evF p b (.mk p kd tx n ks) = (b || ceT (Ad.mk p kd tx n ks).tr, true) := by
      unfold evF
      rw [show (Ad.mk p kd tx n ks).p = p from rfl, decide_eq_true rfl, Bool.true_or]
    rw [show (Ad.mk p kd tx n ks).p = p from rfl, wk, h2]
    simp only [if_true]
    rw [evWs_wk p ks _ h.1, evalsT, Bool.or_assoc, Ad.tr]
    rfl
theorem ill_call {t : Ad} (h : t.tr.ill = 0) : t.kd = 35 → t.ks ≠ [] := by
  intro hk e
  have h1 := (ill_of _ h).1
  obtain ⟨e1, _, e3⟩ := t.tr_eq
  rw [e1, e3, e, hk] at h1
  exact absurd h1 (by decide)
theorem ill_parts {t : Ad} (h : t.tr.ill = 0) : ∀ k ∈ t.ks, k.tr.ill = 0 := by
  intro k hk
  refine (ill_of _ h).2 _ ?_
  rw [t.tr_eq.2.2]
  exact List.mem_map_of_mem hk
theorem en72 : ∀ args W, (callFunc 72 args).run Tryz.prog W = .ok (.enter 72 args) W := fun _ _ => by kernel_rfl

theorem evals_any {I : Nat → Prop} (t : Ad) (w : World) (ht : AAt I w t) (hd : t.ads.Nodup) (hi : t.tr.ill = 0) (hc : t.cnt ≤ 90000) :
    Calls Tryz.prog 28 #[nPtr t.p] w fun e w' => e = .returned (.bool (evalsT t.tr)) ∧ Below w.heap.size w w' := by
  obtain ⟨w2, hw2⟩ : ∃ w2, w2 = (w.alloc (.cells #[nPtr t.p] 22)).alloc (.cells #[.bool false] 4) := ⟨_, rfl⟩
  have hb2 : Below w.heap.size w w2 := by
    rw [hw2]
    exact ((Below.refl _ _).alloc (Nat.le_refl _) _).alloc (by simp) _
  have hs2 : w2.heap.size = w.heap.size + 2 := by rw [hw2]; simp
  have e1 : (w.alloc (.cells #[nPtr t.p] 22)).heap.size = w.heap.size + 1 := by simp
  obtain ⟨_, hpl, _⟩ := ht.cells
  have hA2 : AAt (fun b => b < w.heap.size + 2 ∧ b ≠ w.heap.size + 1) w2 t :=
    AAt.later (I := fun b => b < w.heap.size + 2 ∧ b ≠ w.heap.size + 1) (fun b hb hl => hb2.block b hl) _ (AAt.mono (fun b _ hl => ⟨by omega, by omega⟩) _ ht)
  have hN : Evs (w.heap.size + 1) w.heap.size t.p false w2 := by
    refine ⟨?_, ?_, hA2.cl⟩
    · rw [hw2, ← e1]
      exact heap_new _ _
    · rw [hw2, Below.heap_alloc _ _ _ (by simp)]
      exact heap_new _ _
  have HC := hide (walkG2 72 (.pointer (some ⟨w.heap.size + 1, 0, none⟩)) (.pointer (some ⟨w.heap.size, 0, none⟩)) (fun b => b < w.heap.size + 2 ∧ b ≠ w.heap.size + 1) (Ap (w.heap.size + 1) (w.heap.size + 2)) (Evs (w.heap.size + 1) w.heap.size t.p) (evF t.p) (fun _ ts => ∀ x ∈ ts, x.tr.ill = 0) en72 (fun W => by kernel_rfl)
    (fun _ _ _ h k => h.trans k) (fun w w' h => ⟨fun b hb _ => h.block b hb.1 hb.2, h.size⟩)
    (fun b x ts h y hy => by
      rcases List.mem_append.1 hy with hy | hy
      · split at hy
        · exact ill_parts (h x (by simp)) y hy
        · cases hy
      · exact h y (by simp [hy]))
    (fun b x ts w' h hI hA => by
      refine (evals1_any hI hA (ill_call (h x (by simp))) (fun y hy => hy.2) (by omega) (by omega)).mono ?_
      rintro e w3 ⟨rfl, rfl⟩
      refine ⟨rfl, ⟨by rw [heap_set hI.found]; rfl, ?_, ?_⟩, Ap.setCell (R := w.heap.size + 1) (Ap.refl _ _ _) (p := ⟨w.heap.size + 1, 0, none⟩) (Or.inr rfl) _⟩
      · rw [Below.heap_setCell _ ⟨w.heap.size + 1, 0, none⟩ _ _ (by simp)]
        exact hI.word
      · obtain ⟨cs, ty, hcl⟩ := hI.node
        exact ⟨cs, ty, by rw [Below.heap_setCell _ ⟨w.heap.size + 1, 0, none⟩ _ _ (by show t.p ≠ w.heap.size + 1; omega)]; exact hcl⟩)
    t.cnt t (Nat.le_refl _) hc [] false w2 (fun x hx => by rw [List.mem_singleton.1 hx]; exact hi) hN hA2)
  rw [evals_wk t false hd, Bool.false_or] at HC
  generalize evalsT t.tr = ev at HC
  generalize t.p = p at HC hw2
  have HB2 := hide hb2
  rw [hw2] at HC
  have HW2 := hide hw2
  clear hb2 hs2 e1 hN ht hd hc hi hA2 hpl hw2
  go_enter Tryz.func28, Tryz.ntmps28
  go_wp2_with fail
  refine Calls.mono HC.out ?_
  rintro e w3 ⟨rfl, hn3, _, ha3⟩
  have hw : w3.cell? ⟨w.heap.size + 1, 0, none⟩ = some (.bool ev) := by rw [cell_of hn3.found]; rfl
  rw [← unhide HW2] at ha3
  have HB3 : Hid (Below w.heap.size w w3) := (unhide HB2).trans ((ha3.mono (by omega)).below (by omega))
  clear hn3 ha3 HC
  go_wp2_with fail
  go_ret
  exact ⟨rfl, unhide HB3⟩

def bd1 (t : Tr) : Bool := t.kd == 9 || (t.kd == 35 && evalsT t)
mutual
def badT : Tr → Bool
  | .mk kd tx n ks => bd1 (.mk kd tx n ks) || badTs ks
def badTs : List Tr → Bool
  | [] => false
  | t :: ts => badT t || badTs ts
end
def bdF (b : Bool) (t : Ad) : Bool × Bool := (b || bd1 t.tr, true)
mutual
theorem bad_wk : ∀ (t : Ad) (b : Bool), wk bdF b t = (b || badT t.tr)
  | .mk p kd tx n ks, b => by
    rw [wk]
    simp only [bdF, if_true]
    have h1 := bads_wk ks (b || bd1 (Ad.mk p kd tx n ks).tr)
    rw [h1, Ad.tr, badT, Bool.or_assoc]
theorem bads_wk : ∀ (ts : List Ad) (b : Bool), wks bdF b ts = (b || badTs (Ad.trs ts))
  | [], b => by rw [wks, Ad.trs, badTs, Bool.or_false]
  | t :: ts, b => by rw [wks, bad_wk t, bads_wk ts, Ad.trs, badTs, Bool.or_assoc]
end
structure Bds (fb : Nat) (b : Bool) (w : World) : Prop where
  found : w.heap[fb]? = some (.cells #[.bool b] 4 (0, 0))

theorem bad1_any {fb : Nat} {b : Bool} {t : Ad} {I : Nat → Prop} {w : World} (hE : Bds fb b w) (ht : AAt I w t) (hd : t.ads.Nodup) (hi : t.tr.ill = 0) (hc : t.cnt ≤ 90000) :
    Calls Tryz.prog 32 #[nPtr t.p, .pointer (some ⟨fb, 0, none⟩)] w fun e w' => e = .returned (.bool true) ∧ Bds fb (b || bd1 t.tr) w' ∧ Ap fb w.heap.size w w' := by
  have f0 : w.cell? ⟨fb, 0, none⟩ = some (.bool b) := by rw [cell_of hE.found]; rfl
  have ff := frozen_of hE.found 0
  have fl := lt_of_heap hE.found
  have HE := hide hE.found
  have HEV := hide (evals_any t w ht hd hi hc)
  obtain ⟨_, hpl, c0, _, _⟩ := ht.cells
  have key : ∀ (W : World) (x : Bool), Below w.heap.size w W → Bds fb x (W.setCell ⟨fb, 0, none⟩ (.bool x)) ∧ Ap fb w.heap.size w (W.setCell ⟨fb, 0, none⟩ (.bool x)) := fun W x hW =>
    ⟨⟨by rw [heap_set (cs := #[.bool b]) (t := 4) (fr := (0, 0)) (by rw [hW.block fb fl]; exact unhide HE)]; rfl⟩, Ap.setCell (R := fb) (Ap.of hW) (p := ⟨fb, 0, none⟩) (Or.inr rfl) _⟩
  have HK := hide key
  unfold bd1
  rw [t.tr_eq.1]
  generalize evalsT t.tr = ev at HEV
  generalize t.kd = kd at c0
  generalize t.p = p at HEV hpl c0
  clear hE ht hd hi hc key
  cases b with
  | true =>
    go_enter Tryz.func32, Tryz.ntmps32
    go_wp2_with fail
    go_ret
    exact ⟨rfl, by rw [Bool.true_or]; exact unhide HK w true (Below.refl _ _)⟩
  | false =>
    rw [Bool.false_or]
    cases h9 : (kd == 9) with
    | true =>
      go_enter Tryz.func32, Tryz.ntmps32
      go_wp2_with fail
      go_ret
      exact ⟨rfl, by rw [Bool.true_or]; exact unhide HK w true (Below.refl _ _)⟩
    | false =>
      rw [Bool.false_or]
      cases h35 : (kd == 35) with
      | false =>
        go_enter Tryz.func32, Tryz.ntmps32
        go_wp2_with fail
        go_ret
        exact ⟨rfl, by rw [Bool.false_and]; exact unhide HK w false (Below.refl _ _)⟩
      | true =>
        rw [Bool.true_and]
        go_enter Tryz.func32, Tryz.ntmps32
        go_wp2_with fail
        refine Calls.mono HEV.out ?_
        rintro e w2 ⟨rfl, hb2⟩
        have g0 : w2.cell? ⟨fb, 0, none⟩ = some (.bool false) := by rw [hb2.cell (p := ⟨fb, 0, none⟩) fl]; exact f0
        have gf : w2.frozen? ⟨fb, 0, none⟩ = false := by rw [World.frozen?_of_block (w := w) (hb2.block fb fl)]; exact ff
        have gl : fb < w2.heap.size := Nat.lt_of_lt_of_le fl hb2.size
        have HB2 := hide hb2
        clear HEV hb2
        go_wp2_with fail
        go_ret
        exact ⟨rfl, unhide HK w2 ev (unhide HB2)⟩

/-- A use: where it stands, in which scope it lies, whether that is sure. -/
abbrev Us := Int × Int × Bool
def usC (u : Us) : List Value := [.int .i64 u.1, .int .i64 u.2.1, .bool u.2.2]
def usCells (l : List Us) : List Value := l.flatMap usC
theorem usCells_len (l : List Us) : (usCells l).length = l.length * 3 := by
  induction l with
  | nil => rfl
  | cons u l ih =>
    have : usCells (u :: l) = usC u ++ usCells l := rfl
    rw [this, List.length_append, ih, List.length_cons]
    simp [usC]
    omega
theorem usCells_app (a b : List Us) : usCells (a ++ b) = usCells a ++ usCells b := List.flatMap_append

abbrev tArguments : ByteArray := ⟨#[97, 114, 103, 117, 109, 101, 110, 116, 115]⟩
def tls (f : Tr → Nat → List Sc → Bool → List Us) : List Tr → Nat → List Sc → Bool → List Us
  | [], _, _, _ => []
  | t :: ts, no, ch, st => f t no ch st ++ tls f ts (no + t.count) ch st
/-- A function's scopes. -/
def fnSc (t pr bl : Tr) (no : Nat) (ch : List Sc) (st : Bool) : List Sc :=
  ⟨no, (pr.kids.map Tr.tx ++ [tArguments]) ++ namesT bl true, !(st || strictT bl) && evalsT bl⟩ :: (if t.kd == 37 then ⟨no, [t.tx], false⟩ :: ch else ch)
def tl : Nat → Tr → Nat → List Sc → Bool → List Us
  | 0, _, _, _, _ => []
  | m + 1, t, no, ch, st =>
    if t.kd = 23 then ((no : Int), (findS ch t.tx true).1, (findS ch t.tx true).2) :: tls (tl m) t.kids (no + 1) ch (st || strictT t)
    else if t.kd = 1 then tls (tl m) t.kids (no + 1) (⟨no, (letsT t).map Tr.tx, false⟩ :: ch) (st || strictT t)
    else if t.kd = 6 then tls (tl m) t.kids (no + 1) (⟨no, namesT t false, false⟩ :: ch) (st || strictT t)
    else if t.kd = 13 then tls (tl m) t.kids (no + 1) (⟨no, [t.tx], false⟩ :: ch) (st || strictT t)
    else if t.kd = 9 then match t.kids with
      | k0 :: k1 :: _ => tl m k0 (no + 1) ch (st || strictT t) ++ tl m k1 (no + 1 + k0.count) (⟨0, [], true⟩ :: ch) (st || strictT t)
      | _ => []
    else if t.kd = 5 ∨ t.kd = 37 then match t.kids with
      | pr :: bl :: _ => tls (tl m) bl.kids (no + 1 + pr.count + 1) (fnSc t pr bl no ch (st || strictT t)) (st || strictT t || strictT bl)
      | _ => []
    else if t.kd = 40 then []
    else tls (tl m) t.kids (no + 1) ch (st || strictT t)
theorem tls_app (f : Tr → Nat → List Sc → Bool → List Us) : ∀ (a b : List Tr) (no : Nat) (ch : List Sc) (st : Bool), tls f (a ++ b) no ch st = tls f a no ch st ++ tls f b (no + Tr.counts a) ch st
  | [], b, no, ch, st => by rw [counts_nil]; rfl
  | t :: a, b, no, ch, st => by
    rw [List.cons_append, tls, tls, tls_app f a b, counts_cons, List.append_assoc, Nat.add_assoc]
theorem tls_take (f : Tr → Nat → List Sc → Bool → List Us) (l : List Tr) (k : Nat) (hk : k < l.length) (no : Nat) (ch : List Sc) (st : Bool) : tls f (l.take (k + 1)) no ch st = tls f (l.take k) no ch st ++ f l[k] (no + Tr.counts (l.take k)) ch st := by
  rw [List.take_succ_eq_append_getElem hk, tls_app]
  simp [tls]

/-- What stays: all but what the model counts, in blocks of a kind. -/
structure Fm (I : Nat → Prop) (w w' : World) : Prop where
  os : w'.os = w.os
  tape : w'.tape = w.tape
  output : w'.output = w.output
  size : w.heap.size ≤ w'.heap.size
  stay : Stay I w w'
theorem Fm.trans {I : Nat → Prop} {a b c : World} (h : Fm I a b) (k : Fm I b c) : Fm I a c :=
  ⟨k.os.trans h.os, k.tape.trans h.tape, k.output.trans h.output, Nat.le_trans h.size k.size, fun x hx hl => (k.stay x hx (Nat.lt_of_lt_of_le hl h.size)).trans (h.stay x hx hl)⟩
theorem Fm.of {I : Nat → Prop} {w w' : World} (h : Below w.heap.size w w') : Fm I w w' := ⟨h.os, h.tape, h.output, h.size, fun b _ hl => h.block b hl⟩
theorem Fm.less {I J : Nat → Prop} {w w' : World} (h : Fm J w w') (hI : ∀ b, I b → J b) : Fm I w w' := ⟨h.os, h.tape, h.output, h.size, fun b hb hl => h.stay b (hI b hb) hl⟩
theorem Fm.refl (I : Nat → Prop) (w : World) : Fm I w w := ⟨rfl, rfl, rfl, Nat.le_refl _, fun _ _ _ => rfl⟩
theorem Fm.drew {I : Nat → Prop} {w w' : World} (h : Fm I w w') : Fm I w w'.drew := ⟨h.os, h.tape, h.output, h.size, h.stay⟩
theorem Fm.cell {I : Nat → Prop} {w w' : World} (h : Fm I w w') {b o : Nat} (hI : I b) (hl : b < w.heap.size) : w'.cell? ⟨b, o, none⟩ = w.cell? ⟨b, o, none⟩ := World.cell?_of_block (w := w) (a := ⟨b, o, none⟩) (h.stay b hI hl)

theorem Cl.fm {I : Nat → Prop} {w w' : World} (h : Fm I w w') {p : Nat} (hI : I p) (hp : Cl w p) : Cl w' p := by
  obtain ⟨cs, t, hc⟩ := hp
  exact ⟨cs, t, by rw [h.stay p hI (lt_of_heap hc)]; exact hc⟩

/-- The teller: its block, the map of numbers, what it told. -/
structure TW (I : Nat → Prop) (tb mb : Nat) (A : List Nat) (L : List Us) (w : World) : Prop where
  blk : ∃ v, w.heap[tb]? = some (.cells #[.map (some mb), v] 108 (0, 0)) ∧ w.ownsRow 0 56 3 v L.length (usCells L) ∧ (∀ b, I b → v.ownBlock ≠ some b) ∧ v.ownBlock ≠ some tb
  map : w.heap[mb]? = some (.map (mapP (nodL A)) A.length)
  imb : I mb
  ne : ∀ b, I b → b < w.heap.size ∧ b ≠ tb
  cl : ∀ p ∈ A, I p ∧ Cl w p
  nd : A.Nodup
/-- What was made beside it. -/
theorem TW.later {I : Nat → Prop} {tb mb : Nat} {A : List Nat} {L : List Us} {w w' : World} (h : TW I tb mb A L w) (hb : Below w.heap.size w w') : TW I tb mb A L w' := by
  obtain ⟨⟨v, h1, h2, h3, h4⟩, h5, h6, h7, h8, h9⟩ := h
  exact ⟨⟨v, by rw [hb.block tb (lt_of_heap h1)]; exact h1, owns_stay (I := fun _ => True) (Below.stay hb) (fun _ _ => trivial) h2, h3, h4⟩, by rw [hb.block mb (lt_of_heap h5)]; exact h5, h6, fun b hb' => ⟨Nat.lt_of_lt_of_le (h7 b hb').1 hb.size, (h7 b hb').2⟩, fun p hp => ⟨(h8 p hp).1, Cl.fm (Fm.of hb) (h8 p hp).1 (h8 p hp).2⟩, h9⟩
/-- With new blocks besides. -/
theorem TW.more {I : Nat → Prop} {tb mb : Nat} {A : List Nat} {L : List Us} {w w' : World} (h : TW I tb mb A L w) (hb : Below w.heap.size w w') : TW (fun b => I b ∨ (w.heap.size ≤ b ∧ b < w'.heap.size)) tb mb A L w' := by
  obtain ⟨⟨v, h1, h2, h3, h4⟩, h5, h6, h7, h8, h9⟩ := h.later hb
  obtain ⟨⟨v', k1, k2, k3, k4⟩, _⟩ := h
  have hv : v' = v := by
    rw [hb.block tb (lt_of_heap k1), k1] at h1
    simpa using h1
  subst hv
  refine ⟨⟨v', h1, h2, fun b hb' e => ?_, h4⟩, h5, Or.inl h6, fun b hb' => ?_, fun p hp => ⟨Or.inl (h8 p hp).1, (h8 p hp).2⟩, h9⟩
  · rcases hb' with hb' | hb'
    · exact h3 b hb' e
    · have := (own_lt k2 b e).1
      omega
  · rcases hb' with hb' | hb'
    · exact h7 b hb'
    · have := lt_of_heap k1
      exact ⟨hb'.2, by omega⟩
theorem TW.less {I J : Nat → Prop} {tb mb : Nat} {A : List Nat} {L L' : List Us} {w w' : World} (h : TW J tb mb A L' w') (h0 : TW I tb mb A L w) (hI : ∀ b, I b → J b) : TW I tb mb A L' w' := by
  obtain ⟨⟨v, h1, h2, h3, h4⟩, h5, h6, h7, h8, h9⟩ := h
  exact ⟨⟨v, h1, h2, fun b hb => h3 b (hI b hb), h4⟩, h5, h0.imb, fun b hb => h7 b (hI b hb), fun p hp => ⟨(h0.cl p hp).1, (h8 p hp).2⟩, h9⟩

/-- tell, of nodes so large. -/
def TellC (m : Nat) : Prop := ∀ (a : Ad), a.cnt ≤ m → ∀ (I : Nat → Prop) (tb mb : Nat) (A pre post : List Nat) (L : List Us) (v : Value) (ch : List Sc) (st : Bool) (w : World),
  A = pre ++ (a.ads ++ post) → TW I tb mb A L w → AAt I w a → a.tr.ill = 0 → Chn I w v ch → L.length + a.cnt ≤ 20000 →
  Calls Tryz.prog 68 #[sPtr tb, nPtr a.p, plV2 v st] w fun e w' => e = .returned (.tuple #[]) ∧ TW I tb mb A (L ++ tl m a.tr pre.length ch st) w' ∧ Fm I w w'

theorem tls_len {f : Tr → Nat → List Sc → Bool → List Us} (hf : ∀ t no ch st, (f t no ch st).length ≤ t.count) : ∀ (ts : List Tr) (no : Nat) (ch : List Sc) (st : Bool), (tls f ts no ch st).length ≤ Tr.counts ts
  | [], _, _, _ => Nat.zero_le _
  | t :: ts, no, ch, st => by
    rw [tls, List.length_append, counts_cons]
    have h1 := hf t no ch st
    have h2 := tls_len hf ts (no + t.count) ch st
    omega
theorem count_kids (t : Tr) : t.count = 1 + Tr.counts t.kids := by cases t with | mk kd tx nn ks => exact count_mk _ _ _ _
theorem tl_len : ∀ (m : Nat) (t : Tr) (no : Nat) (ch : List Sc) (st : Bool), (tl m t no ch st).length ≤ t.count
  | 0, _, _, _, _ => Nat.zero_le _
  | m + 1, t, no, ch, st => by
    have ih := tls_len (f := tl m) (tl_len m)
    have hc := count_kids t
    rw [tl]
    split
    · have := ih t.kids (no + 1) ch (st || strictT t)
      rw [List.length_cons]; omega
    split
    · have := ih t.kids (no + 1) (⟨no, (letsT t).map Tr.tx, false⟩ :: ch) (st || strictT t); omega
    split
    · have := ih t.kids (no + 1) (⟨no, namesT t false, false⟩ :: ch) (st || strictT t); omega
    split
    · have := ih t.kids (no + 1) (⟨no, [t.tx], false⟩ :: ch) (st || strictT t); omega
    split
    · split
      · rename_i k0 k1 ks hk
        rw [hk, counts_cons, counts_cons] at hc
        have h1 := tl_len m k0 (no + 1) ch (st || strictT t)
        have h2 := tl_len m k1 (no + 1 + k0.count) (⟨0, [], true⟩ :: ch) (st || strictT t)
        rw [List.length_append]; omega
      · exact Nat.zero_le _
    split
    · split
      · rename_i pr bl ks hk
        rw [hk, counts_cons, counts_cons] at hc
        have h1 := ih bl.kids (no + 1 + pr.count + 1) (fnSc t pr bl no ch (st || strictT t)) (st || strictT t || strictT bl)
        have h2 := count_kids bl
        omega
      · exact Nat.zero_le _
    split
    · exact Nat.zero_le _
    · have := ih t.kids (no + 1) ch (st || strictT t); omega

theorem Chn.ptr {I : Nat → Prop} {w : World} {l : List Sc} {v : Value} (h : Chn I w v l) : ∃ oa, v = .pointer oa := by
  rcases h.form with h | ⟨b, h, _⟩ <;> exact ⟨_, h⟩
theorem cnts_take (l : List Ad) (k : Nat) (hk : k < l.length) : Ad.cnts (l.take k) + (l[k]).cnt ≤ Ad.cnts l := by
  have h1 : Ad.cnts l = Ad.cnts (l.take k) + Ad.cnts (l.drop k) := by rw [← cnts_app, List.take_append_drop]
  rw [List.drop_eq_getElem_cons hk, Ad.cnts] at h1
  omega
theorem cnts_map (l : List Ad) : Tr.counts (l.map Ad.tr) = Ad.cnts l := by rw [← trs_map, Ad.cnts_tr]

theorem tellAll_any {m : Nat} (hT : TellC m) (es : List Ad) (hm : ∀ k ∈ es, k.cnt ≤ m) (I : Nat → Prop) (tb mb : Nat) (A pre post : List Nat) (L : List Us) (v : Value) (ch : List Sc) (st : Bool) (kv : Value) (w : World)
    (hA : A = pre ++ (Ad.adss es ++ post)) (hW : TW I tb mb A L w) (hn : ∀ k ∈ es, AAt I w k) (hi : ∀ k ∈ es, k.tr.ill = 0) (hC : Chn I w v ch) (hr : w.ownsRow 0 22 1 kv (es.map Ad.p).length ((es.map Ad.p).map nPtr)) (hrI : ∀ g, kv.ownBlock = some g → I g) (hl : L.length + Ad.cnts es ≤ 20000) :
    Calls Tryz.prog 127 #[sPtr tb, kv, plV2 v st] w fun e w' => e = .returned (.tuple #[]) ∧ TW I tb mb A (L ++ tls (tl m) (es.map Ad.tr) pre.length ch st) w' ∧ Fm I w w' := by
  obtain ⟨oa, rfl⟩ := hC.ptr
  obtain ⟨ka, kc, hkv⟩ := srow_form hr
  rw [List.length_map] at hkv
  subst hkv
  obtain ⟨w1, hw1⟩ : ∃ w1, w1 = w.alloc (.cells #[.pointer oa, .bool st] 112) := ⟨_, rfl⟩
  have hb1 : Below w.heap.size w w1 := by rw [hw1]; exact (Below.refl _ _).alloc (Nat.le_refl _) _
  have hs1 : w1.heap.size = w.heap.size + 1 := by rw [hw1]; simp
  have hpb : w1.heap[w.heap.size]? = some (.cells #[.pointer oa, .bool st] 112 (0, 0)) := by rw [hw1]; exact heap_new _ _
  obtain ⟨J, hJ⟩ : ∃ J : Nat → Prop, J = fun b => I b ∨ (w.heap.size ≤ b ∧ b < w1.heap.size) := ⟨_, rfl⟩
  have hIJ : ∀ b, I b → J b := fun b hb => by rw [hJ]; exact Or.inl hb
  have hW1 : TW J tb mb A L w1 := by rw [hJ]; exact hW.more hb1
  have hJp : J w.heap.size := by rw [hJ]; exact Or.inr ⟨Nat.le_refl _, by omega⟩
  have hn1 : ∀ k ∈ es, AAt J w1 k := fun k hk => AAt.later (fun b _ hl => hb1.block b hl) _ (AAt.mono (fun b hb _ => hIJ b hb) _ (hn k hk))
  have hC1 : Chn J w1 (.pointer oa) ch := Chn.later (fun b _ hl => hb1.block b hl) _ _ (Chn.mono (fun b hb _ => hIJ b hb) _ _ hC)
  have hlen : es.length ≤ 20000 := by have := cnts_len es; omega
  have HT := hide hT
  have HM := hide hm
  have HA := hide hA
  have HW := hide hW
  have HW1 := hide hW1
  have HN1 := hide hn1
  have HI := hide hi
  have HC1 := hide hC1
  have HR := hide hr
  have HRI := hide (fun g hg => hIJ g (hrI g hg))
  have HL := hide hl
  have HB1 := hide hb1
  have HPB := hide hpb
  have HJP := hide hJp
  have HIJ := hide hIJ
  have HS1 := hide hs1
  have HW1E := hide hw1
  clear hT hm hA hW hW1 hn hn1 hi hC hC1 hr hrI hl hb1 hpb hJp hIJ hs1 hJ hw1
  go_enter Tryz.func127, Tryz.ntmps127
  go_wp2_with fail
  rw [← unhide HW1E]
  go_loopw [10] (fun i wr => ∃ k : Nat, k ≤ es.length ∧ i = .int .i64 k ∧ TW J tb mb A (L ++ tls (tl m) ((es.take k).map Ad.tr) pre.length ch st) wr ∧ Fm J w1 wr) (fun i _ => es.length - (intOf i).toNat)
  case atStart => exact ⟨0, Nat.zero_le _, rfl, by simpa [tls] using unhide HW1, Fm.refl _ _⟩
  case round =>
    obtain ⟨k, hk, rfl, hg, hap⟩ := hrel
    have HGK := hide hg
    have HAK := hide hap
    clear hg hap
    by_cases hlt : k < es.length
    · obtain ⟨g, cap, hv, hcell⟩ := row_open (unhide HR) (by rw [List.length_map]; omega)
      simp only [Value.slice.injEq] at hv
      obtain ⟨rfl, hxx, rfl⟩ := hv
      clear hxx
      have hlm : (es.map Ad.p).length = es.length := List.length_map _
      have hkp : k < (es.map Ad.p).length := by omega
      have hgb := unhide HRI g rfl
      have hgl := (own_lt (unhide HR) g rfl).1
      have hgl1 : g < w1.heap.size := Nat.lt_of_lt_of_le hgl (unhide HB1).size
      obtain ⟨q, hq⟩ : ∃ q, q = (es[k]).p := ⟨_, rfl⟩
      have hck : wr.cell? ⟨g, k, none⟩ = some (nPtr q) := by
        rw [(unhide HAK).cell hgb hgl1, (unhide HB1).cell (p := ⟨g, k, none⟩) hgl, hcell k hkp, List.getElem_map, hq]
      have hpl := lt_of_heap (unhide HPB)
      have p0 : wr.cell? ⟨w.heap.size, 0, none⟩ = some (.pointer oa) := by rw [(unhide HAK).cell (unhide HJP) hpl, cell_of (unhide HPB)]; rfl
      have p1 : wr.cell? ⟨w.heap.size, 1, none⟩ = some (.bool st) := by rw [(unhide HAK).cell (unhide HJP) hpl, cell_of (unhide HPB)]; rfl
      have hpl2 : w.heap.size < wr.heap.size := Nat.lt_of_lt_of_le hpl (unhide HAK).size
      have hgl2 : g < wr.heap.size := Nat.lt_of_lt_of_le hgl1 (unhide HAK).size
      have hmem := List.getElem_mem hlt
      have hct := cnts_take es k hlt
      have htl := tls_len (f := tl m) (tl_len m) ((es.take k).map Ad.tr) pre.length ch st
      rw [cnts_map] at htl
      have hHL := unhide HL
      have hA2 : A = (pre ++ Ad.adss (es.take k)) ++ ((es[k]).ads ++ (Ad.adss (es.drop (k + 1)) ++ post)) := by
        rw [unhide HA]
        have h1 : Ad.adss es = Ad.adss (es.take k) ++ ((es[k]).ads ++ Ad.adss (es.drop (k + 1))) := by
          rw [← Ad.adss, ← List.drop_eq_getElem_cons hlt, ← adss_app, List.take_append_drop]
        rw [h1]
        simp only [List.append_assoc]
      have hC := unhide HT (es[k]) (unhide HM _ hmem) J tb mb A _ _ _ (.pointer oa) ch st wr hA2 (unhide HGK) (AAt.later (unhide HAK).stay _ (unhide HN1 _ hmem)) (unhide HI _ hmem) (Chn.later (unhide HAK).stay _ _ (unhide HC1)) (by rw [List.length_append]; omega)
      rw [← hq] at hC
      have HC := hide hC
      have hpn : (pre ++ Ad.adss (es.take k)).length = pre.length + Tr.counts ((es.map Ad.tr).take k) := by rw [List.length_append, Ad.adss_len, ← List.map_take, cnts_map]
      have htk := tls_take (tl m) (es.map Ad.tr) k (by rw [List.length_map]; exact hlt) pre.length ch st
      rw [List.getElem_map, ← hpn, ← List.map_take, ← List.map_take] at htk
      have HTK := hide htk
      have hki : (k : Int) < (es.length : Int) := by omega
      clear hcell hq hpl hmem hct htl hHL hA2 hC hpn htk hlm hgl1 hgl hgb hkp
      go_wp2_with fail
      refine Calls.mono HC.out ?_
      rintro e w2 ⟨rfl, hw2, hf2⟩
      have HC2 := hide hw2
      have HA2 := hide ((unhide HAK).trans hf2)
      clear hw2 hf2 HC hck p0 p1
      go_wp2_with fail
      go_roundw
      case rel => exact ⟨k + 1, by omega, by go_num, by rw [unhide HTK, ← List.append_assoc]; exact unhide HC2, unhide HA2⟩
      case measure => simp [intOf]; omega
    · have hk2 : k = es.length := by omega
      subst hk2
      go_wp2_with fail
      go_end0
      have h1 := unhide HGK
      rw [List.take_length] at h1
      exact ⟨rfl, h1.less (unhide HW) (unhide HIJ), (Fm.of (unhide HB1)).trans ((unhide HAK).less (unhide HIJ))⟩

/-- A node's first two parts. -/
theorem AAt.two {I : Nat → Prop} {w : World} {a k k2 : Ad} {ks : List Ad} (h : AAt I w a) (hk : a.ks = k :: k2 :: ks) : ∃ g cap, w.cell? ⟨a.p, 3, none⟩ = some (.slice (some ⟨g, 0, none⟩) (ks.length + 2) cap) ∧ g < w.heap.size ∧ w.cell? ⟨g, 0, none⟩ = some (nPtr k.p) ∧ w.cell? ⟨g, 1, none⟩ = some (nPtr k2.p) ∧ I g := by
  obtain ⟨_, _, _, _, v, c3, hr, hi⟩ := h.cells
  rw [hk] at hr
  obtain ⟨g, cap, rfl, hc⟩ := row_open hr (by simp)
  refine ⟨g, cap, ?_, (own_lt hr g rfl).1, ?_, ?_, hi g rfl⟩
  · rw [c3]; simp
  · have := hc 0 (by simp)
    simpa using this
  · have := hc 1 (by simp)
    simpa using this
theorem idx_pre {pre post : List Nat} {p : Nat} {r : List Nat} (h : (pre ++ ((p :: r) ++ post)).Nodup) : (pre ++ ((p :: r) ++ post)).idxOf p = pre.length := by
  have hp : p ∉ pre := by
    rw [List.nodup_append] at h
    exact fun hm => h.2.2 p hm p (by simp) rfl
  rw [List.idxOf_append, if_neg hp]
  simp
theorem TW.num {I : Nat → Prop} {tb mb : Nat} {A pre post : List Nat} {L : List Us} {w X : World} {a : Ad} (h : TW I tb mb A L w) (hA : A = pre ++ (a.ads ++ post)) (hX : Fm I w X) :
    (Instr.lookup 44 (.map (some mb)) (nPtr a.p) false).run Tryz.prog X = .ok (.int .i64 (pre.length : Int)) X := by
  have hm : a.p ∈ A := by rw [hA, ads_eq]; simp
  have h1 := lookup_ptr mb A.length (nodL A) a.p X (by rw [hX.stay mb h.imb (h.ne mb h.imb).1]; exact h.map) (Cl.fm hX (h.cl _ hm).1 (h.cl _ hm).2) (fun e he => Cl.fm hX (h.cl _ (nodL_mem he)).1 (h.cl _ (nodL_mem he)).2)
  rw [nodL_find hm] at h1
  have h2 := h.nd
  rw [hA, ads_eq] at h2
  have h3 := idx_pre h2
  rw [← ads_eq, ← hA] at h3
  rw [h3] at h1
  exact h1
theorem TW.word {I : Nat → Prop} {tb mb : Nat} {A : List Nat} {L : List Us} {w : World} (h : TW I tb mb A L w) : w.cell? ⟨tb, 0, none⟩ = some (.map (some mb)) ∧ tb < w.heap.size := by
  obtain ⟨⟨v, h1, _⟩, _⟩ := h
  exact ⟨by rw [cell_of h1]; rfl, lt_of_heap h1⟩
theorem keepB {w X : World} (h : Below w.heap.size w X) {b o : Nat} {v : Value} (hb : b < w.heap.size) (hc : w.cell? ⟨b, o, none⟩ = some v) : X.cell? ⟨b, o, none⟩ = some v := by
  rw [h.cell (p := ⟨b, o, none⟩) hb]; exact hc
end Go.Proofs.YtoimgcjbcbhclaaGreatDoor
