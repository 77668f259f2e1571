/-
  What is done to both heaps, the program's and the document's: the same.
-/
import Derived.Test.YtomogijjkdiomaaDoorHp23
import Derived.Test.YtomogijjkdiomaaDoorHp24
set_option maxRecDepth 100000
set_option maxHeartbeats 16000000
namespace Go.Proofs.YtomogijjkdiomaaDoor
open Go.RowKit

structure Mo.Inv (M : Mo) (k : Nat) : Prop where
  ok : M.Ok
  small : M.Small k
  short : M.Short
theorem uniq_set {α : Type} {f : α → ByteArray} {l : List α} {k : Nat} {a b : α} (h : uniq f l) (ha : l[k]? = some a) (hb : f b = f a) : uniq f (l.set k b) := by
  have key : ∀ (i : Nat) c, (l.set k b)[i]? = some c → ∃ c', l[i]? = some c' ∧ f c = f c' := fun i c hc => by
    by_cases hik : k = i
    · subst hik
      have hl : k < l.length := (List.getElem?_eq_some_iff.1 ha).1
      rw [List.getElem?_set_self hl] at hc
      cases hc
      exact ⟨a, ha, hb⟩
    · rw [List.getElem?_set_ne hik] at hc
      exact ⟨c, hc, rfl⟩
  intro i j c d hc hd he
  obtain ⟨c', hc', e1⟩ := key i c hc
  obtain ⟨d', hd', e2⟩ := key j d hd
  exact h i j c' d' hc' hd' (by rw [← e1, ← e2]; exact he)
theorem uniq_snoc {α : Type} {f : α → ByteArray} {l : List α} {b : α} (h : uniq f l) (hn : ∀ a ∈ l, (f a).toList ≠ (f b).toList) : uniq f (l ++ [b]) := by
  have key : ∀ (i : Nat) c, (l ++ [b])[i]? = some c → (i < l.length ∧ l[i]? = some c) ∨ (i = l.length ∧ c = b) := fun i c hc => by
    by_cases hi : i < l.length
    · rw [List.getElem?_append_left hi] at hc
      exact .inl ⟨hi, hc⟩
    · rw [List.getElem?_append_right (by omega)] at hc
      have h0 := (List.getElem?_eq_some_iff.1 hc).1
      simp at h0
      have : i = l.length := by omega
      subst this
      simp at hc
      exact .inr ⟨rfl, hc.symm⟩
  intro i j c d hc hd he
  rcases key i c hc with ⟨_, h1⟩ | ⟨e1, rfl⟩ <;> rcases key j d hd with ⟨_, h2⟩ | ⟨e2, rfl⟩
  · exact h i j c d h1 h2 he
  · exact absurd he (hn c (List.mem_of_getElem? h1))
  · exact absurd he.symm (hn d (List.mem_of_getElem? h2))
  · omega
theorem uniq_erase {α : Type} {f : α → ByteArray} {l : List α} {k : Nat} (h : uniq f l) : uniq f (l.eraseIdx k) := by
  intro i j c d hc hd he
  rw [List.getElem?_eraseIdx] at hc hd
  split at hc <;> split at hd
  all_goals
    have := h _ _ c d hc hd he
    omega
theorem fP_new {nm : ByteArray} {l : List Pr} (h : fP nm l = none) : ∀ a ∈ l, a.name.toList ≠ nm.toList := fun a ha => by
  have := List.findIdx?_eq_none_iff.1 h a ha
  simpa [isN] using this
theorem fC_new {nm : ByteArray} {l : List Ce} (h : fC nm l = none) : ∀ a ∈ l, a.name.toList ≠ nm.toList := fun a ha => by
  have := List.findIdx?_eq_none_iff.1 h a ha
  simpa [isN] using this
theorem set_get {α : Type} {l : List α} {i j : Nat} {x y : α} (h : (l.set i x)[j]? = some y) : (i = j ∧ y = x ∧ i < l.length) ∨ l[j]? = some y := by
  by_cases hij : i = j
  · subst hij
    have hl : i < l.length := by have := (List.getElem?_eq_some_iff.1 h).1; simpa using this
    rw [List.getElem?_set_self hl] at h
    cases h
    exact .inl ⟨rfl, rfl, hl⟩
  · rw [List.getElem?_set_ne hij] at h
    exact .inr h
theorem Mo.Inv.setOb {M : Mo} {k i : Nat} {x x' : Ob} (h : M.Inv k) (_hi : M.objs[i]? = some x) (hu : uniq Pr.name x'.ps) (hl : x'.ps.length ≤ k + 1) (hs : ∀ p ∈ x'.ps, p.name.size ≤ 20) : (M.setOb i x').Inv (k + 1) := by
  refine ⟨⟨h.ok.out, fun j y hj => ?_, h.ok.emp, fun j y hj => ?_, h.ok.uc⟩, ⟨?_, Nat.le_succ_of_le h.small.r, fun y hy => ?_, fun y hy => Nat.le_succ_of_le (h.small.cs y hy)⟩, fun j y hj => ?_⟩
  · have := h.ok.obj j y hj
    simpa [Mo.setOb] using this
  · rcases set_get hj with ⟨_, rfl, _⟩ | hj
    · exact hu
    · exact h.ok.up j y hj
  · have := h.small.o
    simp [Mo.setOb]; omega
  · rcases List.mem_or_eq_of_mem_set hy with hy | rfl
    · exact Nat.le_succ_of_le (h.small.ps y hy)
    · exact hl
  · rcases set_get hj with ⟨_, rfl, _⟩ | hj
    · exact hs
    · exact h.short j y hj
theorem Mo.Inv.setRo {M : Mo} {k i : Nat} {x x' : Ro} (h : M.Inv k) (hi : M.rooms[i]? = some x) (ho : x'.outer = x.outer ∧ x'.object = x.object) (hu : uniq Ce.name x'.cs) (hl : x'.cs.length ≤ k + 1) (he : 0 ≤ x.object → x'.cs = []) : (M.setRo i x').Inv (k + 1) := by
  have key : ∀ (j : Nat) y, (M.setRo i x').rooms[j]? = some y → (i = j ∧ y = x') ∨ M.rooms[j]? = some y := fun j y hj => by
    rcases set_get hj with ⟨a, b, _⟩ | h
    · exact .inl ⟨a, b⟩
    · exact .inr h
  refine ⟨⟨fun j y hj => ?_, fun j y hj => ?_, fun j y hj => ?_, h.ok.up, fun j y hj => ?_⟩, ⟨Nat.le_succ_of_le h.small.o, ?_, fun y hy => Nat.le_succ_of_le (h.small.ps y hy), fun y hy => ?_⟩, h.short⟩
  · rcases key j y hj with ⟨rfl, rfl⟩ | hj
    · rw [ho.1]; exact h.ok.out i x hi
    · exact h.ok.out j y hj
  · rcases key j y hj with ⟨rfl, rfl⟩ | hj
    · rw [ho.2]; exact h.ok.obj i x hi
    · exact h.ok.obj j y hj
  · rcases key j y hj with ⟨rfl, rfl⟩ | hj
    · rw [ho.2]; exact he
    · exact h.ok.emp j y hj
  · rcases key j y hj with ⟨rfl, rfl⟩ | hj
    · exact hu
    · exact h.ok.uc j y hj
  · have := h.small.r
    simp [Mo.setRo]; omega
  · rcases List.mem_or_eq_of_mem_set hy with hy | rfl
    · exact Nat.le_succ_of_le (h.small.cs y hy)
    · exact hl
theorem Mo.Inv.more {M : Mo} {k : Nat} (h : M.Inv k) : M.Inv (k + 1) :=
  ⟨h.ok, ⟨Nat.le_succ_of_le h.small.o, Nat.le_succ_of_le h.small.r, fun x hx => Nat.le_succ_of_le (h.small.ps x hx), fun x hx => Nat.le_succ_of_le (h.small.cs x hx)⟩, h.short⟩
/-- One call of each heap, that answers alike and leaves the same. -/
def Alike (H R : Nat) (M M' : Mo) (f g : FuncId) (fa ga : Array Value) (x y : Value) : Prop :=
  (∀ W, HeapH H W M → Calls Tryd.prog f fa W fun e w' => e = .returned x ∧ HeapH H w' M' ∧ FrT Th H W w') ∧ (∀ W, HeapR R W M → Calls Tryd.prog g ga W fun e w' => e = .returned y ∧ HeapR R w' M' ∧ FrT Tr R W w')
section
variable {H R : Nat} {M M' : Mo} {k : Nat}
theorem HeapH.later {w w' : World} (h : HeapH H w M) (hb : Below w.heap.size w w') : HeapH H w' M := by
  obtain ⟨a, b, c, d, h⟩ := h
  exact ⟨a, b, c, d, h.later hb⟩
theorem HeapR.later {w w' : World} (h : HeapR R w M) (hb : Below w.heap.size w w') : HeapR R w' M := by
  obtain ⟨a, b, c, d, e, h⟩ := h
  exact ⟨a, b, c, d, e, h.later hb⟩
theorem HeapH.lt {w : World} (h : HeapH H w M) : H < w.heap.size := by
  obtain ⟨a, b, c, d, h⟩ := h
  exact lt_of_block h.blk
theorem HeapR.lt {w : World} (h : HeapR R w M) : R < w.heap.size := by
  obtain ⟨a, b, c, d, e, h⟩ := h
  exact lt_of_block h.blk
theorem HeapH.keep {w w' : World} {B : Nat} (h : HeapH H w M) (f : FrT Tr B w w') : HeapH H w' M := by
  obtain ⟨a, b, c, d, h⟩ := h
  exact ⟨a, b, c, d, f.rest _ _ 26 h.blk (by decide), h.ob.keep f (by decide) (by decide), h.ro.keep f (by decide) (by decide)⟩
theorem HeapR.keep {w w' : World} {B : Nat} (h : HeapR R w M) (f : FrT Th B w w') : HeapR R w' M := by
  obtain ⟨a, b, c, d, e, h⟩ := h
  exact ⟨a, b, c, d, e, f.rest _ _ 32 h.blk (by decide), row_keep h.co f (by decide), h.ob.keep f (by decide) (by decide), h.ro.keep f (by decide) (by decide)⟩
theorem stayH {W : World} {f : FuncId} {fa : Array Value} {x : Value} (h : HeapH H W M) (hc : Calls Tryd.prog f fa W fun e w' => e = .returned x ∧ Below W.heap.size W w') : Calls Tryd.prog f fa W fun e w' => e = .returned x ∧ HeapH H w' M ∧ FrT Th H W w' :=
  hc.mono fun _ _ ⟨a, b⟩ => ⟨a, h.later b, FrT.of b (Nat.le_of_lt h.lt)⟩
theorem stayR {W : World} {f : FuncId} {fa : Array Value} {x : Value} (h : HeapR R W M) (hc : Calls Tryd.prog f fa W fun e w' => e = .returned x ∧ Below W.heap.size W w') : Calls Tryd.prog f fa W fun e w' => e = .returned x ∧ HeapR R w' M ∧ FrT Tr R W w' :=
  hc.mono fun _ _ ⟨a, b⟩ => ⟨a, h.later b, FrT.of b (Nat.le_of_lt h.lt)⟩
abbrev pH (H : Nat) : Value := .pointer (some ⟨H, 0, none⟩)
theorem step_put (hM : M.Inv k) (hk : k < 1000) (o : Int) (nm : ByteArray) (n : Int) (fx : Bool) (hnm : nm.size ≤ 20) :
    ∃ e M', M'.Inv (k + 1) ∧ Alike H R M M' 8 9 #[pH H, .int .i64 o, .string nm, vA n, .bool fx] #[pH R, .int .i64 o, .string nm, .int .i64 n, .bool fx] (errW e) (.int .i64 e) := by
  rcases ob_cases M o with ⟨e0, _⟩ | ⟨i, x, rfl, hx, _⟩
  · refine ⟨7, M, hM.more, fun W hW => ?_, fun W hW => ?_⟩
    · obtain ⟨a, b, c, d, h⟩ := hW
      exact stayH ⟨a, b, c, d, h⟩ (put_out h o nm n fx e0)
    · obtain ⟨a, b, c, d, e, h⟩ := hW
      exact stayR ⟨a, b, c, d, e, h⟩ (rput_out h o nm n fx e0)
  · have hxl := hM.small.ps x (List.mem_of_getElem? hx)
    rcases find_of (fun p => isN nm p.name) x.ps with ⟨f1, _⟩ | ⟨j, p, f1, f2, _, _⟩
    · refine ⟨0, M.setOb i ⟨x.code, x.ps ++ [⟨nm, n, fx⟩]⟩, hM.setOb hx (uniq_snoc (b := (⟨nm, n, fx⟩ : Pr)) (hM.ok.up i x hx) (fP_new (nm := nm) f1)) (by simp; omega) (fun q hq => ?_), fun W hW => ?_, fun W hW => ?_⟩
      · rcases List.mem_append.1 hq with hq | hq
        · exact hM.short i x hx q hq
        · simp at hq; subst hq; exact hnm
      · obtain ⟨a, b, c, d, h⟩ := hW
        exact (put_new h hM.small (by omega) i x hx nm n fx f1).mono fun _ _ ⟨q, ⟨os', h'⟩, f⟩ => ⟨q, ⟨_, _, _, _, h'⟩, f⟩
      · obtain ⟨a, b, c, d, e, h⟩ := hW
        exact (rput_new h hM.small (by omega) i x hx nm n fx f1).mono fun _ _ ⟨q, ⟨os', h'⟩, f⟩ => ⟨q, ⟨_, _, _, _, _, h'⟩, f⟩
    · refine ⟨0, M.setOb i ⟨x.code, x.ps.set j ⟨p.name, n, p.fixed⟩⟩, hM.setOb hx (uniq_set (hM.ok.up i x hx) f2 rfl) (by simp; omega) (fun q hq => ?_), fun W hW => ?_, fun W hW => ?_⟩
      · rcases List.mem_or_eq_of_mem_set hq with hq | rfl
        · exact hM.short i x hx q hq
        · exact hM.short i x hx p (List.mem_of_getElem? f2)
      · obtain ⟨a, b, c, d, h⟩ := hW
        exact (put_old h hM.small (by omega) i x hx nm n fx j p f1 f2).mono fun _ _ ⟨q, h', f⟩ => ⟨q, ⟨_, _, _, _, h'⟩, f⟩
      · obtain ⟨a, b, c, d, e, h⟩ := hW
        exact (rput_old h hM.small (by omega) i x hx nm n fx j p f1 f2).mono fun _ _ ⟨q, h', f⟩ => ⟨q, ⟨_, _, _, _, _, h'⟩, f⟩
end
end Go.Proofs.YtomogijjkdiomaaDoor
