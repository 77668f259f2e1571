/-
  What changes in a heap: values that are set, rows that grow.
-/
import Derived.Test.YtomogijjkdiomaaDoorHp5
import Derived.Deep.AppendLies
set_option maxRecDepth 100000
set_option maxHeartbeats 16000000
namespace Go.Proofs.YtomogijjkdiomaaDoor
open Go.RowKit

def Th : List TypeId := [26, 73, 88, 76, 98]
def Mo.setOb (M : Mo) (i : Nat) (x : Ob) : Mo := ⟨M.objs.set i x, M.rooms⟩
def Mo.setRo (M : Mo) (i : Nat) (x : Ro) : Mo := ⟨M.objs, M.rooms.set i x⟩
theorem grown_trans {a b c : World} {r : Option Nat} (h : a.grownBy b r) (k : b.grownBy c r) : a.grownBy c r :=
  ⟨k.os.trans h.os, k.tape.trans h.tape, k.output.trans h.output, Nat.le_trans h.size k.size, fun j hj hr => (k.block j (Nat.lt_of_lt_of_le hj h.size) hr).trans (h.block j hj hr)⟩
section
variable {H : Nat} {w w1 : World} {M : Mo} {ov sv : Value} {os ss : List Value}
theorem HP.ob1 (h : HP H w M ov sv os ss) {objs : List Ob} {os' : List Value} (ht : Tb H 73 2 88 5 w1 ov (objs.map Ob.h) os') (f : FrT [73, 88] H w w1) : HP H w1 ⟨objs, M.rooms⟩ ov sv os' ss ∧ FrT Th H w w1 :=
  ⟨⟨f.rest H _ 26 h.blk (by decide), ht, h.ro.keep f (by decide) (by decide)⟩, f.mono (by decide) (Nat.le_refl _)⟩
theorem HP.ro1 (h : HP H w M ov sv os ss) {rooms : List Ro} {ss' : List Value} (ht : Tb H 76 3 98 6 w1 sv (rooms.map Ro.h) ss') (f : FrT [76, 98] H w w1) : HP H w1 ⟨M.objs, rooms⟩ ov sv os ss' ∧ FrT Th H w w1 :=
  ⟨⟨f.rest H _ 26 h.blk (by decide), h.ob.keep f (by decide) (by decide), ht⟩, f.mono (by decide) (Nat.le_refl _)⟩
theorem set_P : ∀ (bs : List Pr) (k : Nat) (b : Pr) (n : Int), bs[k]? = some b →
    (((bs.flatMap Pr.h).set (k * 5 + 1) (.int .i64 3)).set (k * 5 + 2) (.int .i64 n)).set (k * 5 + 3) (.string ⟨#[]⟩) = (bs.set k ⟨b.name, n, b.fixed⟩).flatMap Pr.h
  | [], k, b, n, h => by simp at h
  | c :: bs, 0, b, n, h => by
    simp at h
    subst h
    simp [Pr.h]
  | c :: bs, k + 1, b, n, h => by
    have := set_P bs k b n (by simpa using h)
    have e : ∀ j, (k + 1) * 5 + j = k * 5 + j + 1 + 1 + 1 + 1 + 1 := fun j => by omega
    simp only [e, List.set_cons_succ, List.flatMap_cons, Pr.h, List.cons_append, List.nil_append] at this ⊢
    rw [this]
theorem set_C : ∀ (bs : List Ce) (k : Nat) (b : Ce) (n : Int), bs[k]? = some b →
    (((bs.flatMap Ce.h).set (k * 6 + 1) (.int .i64 3)).set (k * 6 + 2) (.int .i64 n)).set (k * 6 + 3) (.string ⟨#[]⟩) = (bs.set k ⟨b.name, n, b.kind, b.ready⟩).flatMap Ce.h
  | [], k, b, n, h => by simp at h
  | c :: bs, 0, b, n, h => by
    simp at h
    subst h
    simp [Ce.h]
  | c :: bs, k + 1, b, n, h => by
    have := set_C bs k b n (by simpa using h)
    have e : ∀ j, (k + 1) * 6 + j = k * 6 + j + 1 + 1 + 1 + 1 + 1 + 1 := fun j => by omega
    simp only [e, List.set_cons_succ, List.flatMap_cons, Ce.h, List.cons_append, List.nil_append] at this ⊢
    rw [this]
theorem set_C4 : ∀ (bs : List Ce) (k : Nat) (b : Ce) (n : Int) (r : Bool), bs[k]? = some b →
    ((((bs.flatMap Ce.h).set (k * 6 + 1) (.int .i64 3)).set (k * 6 + 2) (.int .i64 n)).set (k * 6 + 3) (.string ⟨#[]⟩)).set (k * 6 + 5) (.bool r) = (bs.set k ⟨b.name, n, b.kind, r⟩).flatMap Ce.h
  | [], k, b, n, r, h => by simp at h
  | c :: bs, 0, b, n, r, h => by
    simp at h
    subst h
    simp [Ce.h]
  | c :: bs, k + 1, b, n, r, h => by
    have := set_C4 bs k b n r (by simpa using h)
    have e : ∀ j, (k + 1) * 6 + j = k * 6 + j + 1 + 1 + 1 + 1 + 1 + 1 := fun j => by omega
    simp only [e, List.set_cons_succ, List.flatMap_cons, Ce.h, List.cons_append, List.nil_append] at this ⊢
    rw [this]
theorem HP.setP (h : HP H w M ov sv os ss) {i : Nat} {x : Ob} (hi : M.objs[i]? = some x) {g cap m : Nat} (hv : os[i]? = some (.slice (some ⟨g, 0, none⟩) m cap)) {k : Nat} {b : Pr} (hb : x.ps[k]? = some b) (n : Int) :
    HP H (((w.setCell ⟨g, k * 5 + 1, none⟩ (.int .i64 3)).setCell ⟨g, k * 5 + 2, none⟩ (.int .i64 n)).setCell ⟨g, k * 5 + 3, none⟩ (.string ⟨#[]⟩)) (M.setOb i ⟨x.code, x.ps.set k ⟨b.name, n, b.fixed⟩⟩) ov sv os ss ∧
    FrT Th H w (((w.setCell ⟨g, k * 5 + 1, none⟩ (.int .i64 3)).setCell ⟨g, k * 5 + 2, none⟩ (.int .i64 n)).setCell ⟨g, k * 5 + 3, none⟩ (.string ⟨#[]⟩)) := by
  have hi' : (M.objs.map Ob.h)[i]? = some x.h := by simp [hi]
  have hrow : w.ownsRow H 88 5 _ x.ps.length (x.ps.flatMap Pr.h) := h.ob.own i x.h _ hi' hv
  obtain ⟨g', cap', hv', _⟩ := atP hrow hb
  simp only [Value.slice.injEq, Option.some.injEq, Addr.mk.injEq, and_true] at hv'
  obtain ⟨rfl, rfl, rfl⟩ := hv'
  obtain ⟨r1, q1⟩ := hrow.stored (k * 5 + 1) (.int .i64 3)
  obtain ⟨r2, q2⟩ := r1.stored (k * 5 + 2) (.int .i64 n)
  obtain ⟨r3, q3⟩ := r2.stored (k * 5 + 3) (.string ⟨#[]⟩)
  rw [set_P x.ps k b n hb] at r3
  have hz := h.ob.bump (Nat.le_of_lt (lt_of_block h.blk)) hi' hv (grown_trans (grown_trans q1 q2) q3) r3
  refine h.ob1 (objs := M.objs.set i ⟨x.code, x.ps.set k ⟨b.name, n, b.fixed⟩⟩) ?_ (hz.2.mono (by decide) (Nat.le_refl _))
  rw [List.map_set]
  have := hz.1
  simpa [Ob.h] using this
theorem HP.setC (h : HP H w M ov sv os ss) {i : Nat} {x : Ro} (hi : M.rooms[i]? = some x) {g cap m : Nat} (hv : ss[i]? = some (.slice (some ⟨g, 0, none⟩) m cap)) {k : Nat} {b : Ce} (hb : x.cs[k]? = some b) (n : Int) :
    HP H (((w.setCell ⟨g, k * 6 + 1, none⟩ (.int .i64 3)).setCell ⟨g, k * 6 + 2, none⟩ (.int .i64 n)).setCell ⟨g, k * 6 + 3, none⟩ (.string ⟨#[]⟩)) (M.setRo i ⟨x.outer, x.object, x.cs.set k ⟨b.name, n, b.kind, b.ready⟩⟩) ov sv os ss ∧
    FrT Th H w (((w.setCell ⟨g, k * 6 + 1, none⟩ (.int .i64 3)).setCell ⟨g, k * 6 + 2, none⟩ (.int .i64 n)).setCell ⟨g, k * 6 + 3, none⟩ (.string ⟨#[]⟩)) := by
  have hi' : (M.rooms.map Ro.h)[i]? = some x.h := by simp [hi]
  have hrow : w.ownsRow H 98 6 _ x.cs.length (x.cs.flatMap Ce.h) := h.ro.own i x.h _ hi' hv
  obtain ⟨g', cap', hv', _⟩ := atC hrow hb
  simp only [Value.slice.injEq, Option.some.injEq, Addr.mk.injEq, and_true] at hv'
  obtain ⟨rfl, rfl, rfl⟩ := hv'
  obtain ⟨r1, q1⟩ := hrow.stored (k * 6 + 1) (.int .i64 3)
  obtain ⟨r2, q2⟩ := r1.stored (k * 6 + 2) (.int .i64 n)
  obtain ⟨r3, q3⟩ := r2.stored (k * 6 + 3) (.string ⟨#[]⟩)
  rw [set_C x.cs k b n hb] at r3
  have hz := h.ro.bump (Nat.le_of_lt (lt_of_block h.blk)) hi' hv (grown_trans (grown_trans q1 q2) q3) r3
  refine h.ro1 (rooms := M.rooms.set i ⟨x.outer, x.object, x.cs.set k ⟨b.name, n, b.kind, b.ready⟩⟩) ?_ (hz.2.mono (by decide) (Nat.le_refl _))
  rw [List.map_set]
  have := hz.1
  simpa [Ro.h] using this
theorem HP.setC4 (h : HP H w M ov sv os ss) {i : Nat} {x : Ro} (hi : M.rooms[i]? = some x) {g cap m : Nat} (hv : ss[i]? = some (.slice (some ⟨g, 0, none⟩) m cap)) {k : Nat} {b : Ce} (hb : x.cs[k]? = some b) (n : Int) (r : Bool) :
    HP H ((((w.setCell ⟨g, k * 6 + 1, none⟩ (.int .i64 3)).setCell ⟨g, k * 6 + 2, none⟩ (.int .i64 n)).setCell ⟨g, k * 6 + 3, none⟩ (.string ⟨#[]⟩)).setCell ⟨g, k * 6 + 5, none⟩ (.bool r)) (M.setRo i ⟨x.outer, x.object, x.cs.set k ⟨b.name, n, b.kind, r⟩⟩) ov sv os ss ∧
    FrT Th H w ((((w.setCell ⟨g, k * 6 + 1, none⟩ (.int .i64 3)).setCell ⟨g, k * 6 + 2, none⟩ (.int .i64 n)).setCell ⟨g, k * 6 + 3, none⟩ (.string ⟨#[]⟩)).setCell ⟨g, k * 6 + 5, none⟩ (.bool r)) := by
  have hi' : (M.rooms.map Ro.h)[i]? = some x.h := by simp [hi]
  have hrow : w.ownsRow H 98 6 _ x.cs.length (x.cs.flatMap Ce.h) := h.ro.own i x.h _ hi' hv
  obtain ⟨g', cap', hv', _⟩ := atC hrow hb
  simp only [Value.slice.injEq, Option.some.injEq, Addr.mk.injEq, and_true] at hv'
  obtain ⟨rfl, rfl, rfl⟩ := hv'
  obtain ⟨r1, q1⟩ := hrow.stored (k * 6 + 1) (.int .i64 3)
  obtain ⟨r2, q2⟩ := r1.stored (k * 6 + 2) (.int .i64 n)
  obtain ⟨r3, q3⟩ := r2.stored (k * 6 + 3) (.string ⟨#[]⟩)
  obtain ⟨r4, q4⟩ := r3.stored (k * 6 + 5) (.bool r)
  rw [set_C4 x.cs k b n r hb] at r4
  have hz := h.ro.bump (Nat.le_of_lt (lt_of_block h.blk)) hi' hv (grown_trans (grown_trans (grown_trans q1 q2) q3) q4) r4
  refine h.ro1 (rooms := M.rooms.set i ⟨x.outer, x.object, x.cs.set k ⟨b.name, n, b.kind, r⟩⟩) ?_ (hz.2.mono (by decide) (Nat.le_refl _))
  rw [List.map_set]
  have := hz.1
  simpa [Ro.h] using this
variable {K : Nat}
set_option maxRecDepth 100000
set_option maxHeartbeats 1000000
abbrev vA (n : Int) : Value := .agg #[.int .i64 3, .int .i64 n, .string ⟨#[]⟩]
abbrev vO (n : Int) : Obj := .cells #[.int .i64 3, .int .i64 n, .string ⟨#[]⟩] 36
theorem start_none (h : HP H w M ov sv os ss) (hs : M.Small K) (hK : K ≤ 1000) (s : Int) (nm : ByteArray) (n : Int) (hc : M.cel s nm = none) :
    Calls Tryd.prog 16 #[.pointer (some ⟨H, 0, none⟩), .int .i64 s, .string nm, .agg #[.int .i64 3, .int .i64 n, .string ⟨#[]⟩]] w fun e w' => e = .returned (.iface 47 (.int .i64 7)) ∧ Below w.heap.size w w' := by
  obtain ⟨h0, h1, hf, hf1, hl⟩ := h.c
  have hb0 : Below w.heap.size w (w.alloc (vO n)) := (Below.refl _ _).alloc (Nat.le_refl _) _
  obtain ⟨q, r, hA, hO, hr⟩ := lookC (h.later hb0) hs hK s nm
  have HC := hide hA
  have HD := hide hO
  unfold vO at HC HD
  clear h hA hO hb0
  rcases hr with ⟨rfl, hp⟩ | ⟨i, x, k, c', g, cap, rfl, _, _, _, hp, rfl, _, hW⟩
  · clear hp hc
    go_enter Tryd.func16, Tryd.ntmps16
    go_wp2_with fail
    refine Calls.mono HC.out ?_
    rintro e w' ⟨rfl, rfl⟩
    go_wp2_with fail
    refine Calls.mono HD.out ?_
    rintro e w1 ⟨rfl, hb⟩
    have HB := hide (((Below.refl _ w).alloc (Nat.le_refl _) _).trans (hb.mono (by simp)))
    clear hb
    go_wp2_with fail
    go_ret
    exact ⟨rfl, HB.out⟩
  · rw [hc] at hp
    cases hp
theorem tag98 {g i cap : Nat} {x : Ro} (h : HP H w M ov sv os ss) (hi : M.rooms[i]? = some x) (hv : ss[i]? = some (.slice (some ⟨g, 0, none⟩) x.cs.length cap)) : ∃ c, w.heap[g]? = some (.cells c 98 (0, 0)) :=
  row_tag (h.ro.own i x.h _ (by simp [hi]) hv) rfl
theorem tag88 {g i cap : Nat} {x : Ob} (h : HP H w M ov sv os ss) (hi : M.objs[i]? = some x) (hv : os[i]? = some (.slice (some ⟨g, 0, none⟩) x.ps.length cap)) : ∃ c, w.heap[g]? = some (.cells c 88 (0, 0)) :=
  row_tag (h.ob.own i x.h _ (by simp [hi]) hv) rfl
theorem start_some (h : HP H w M ov sv os ss) (hs : M.Small K) (hK : K ≤ 1000) (i : Nat) (x : Ro) (hi : M.rooms[i]? = some x) (nm : ByteArray) (n : Int) (k : Nat) (c : Ce) (hk : fC nm x.cs = some k) (hc : x.cs[k]? = some c) :
    Calls Tryd.prog 16 #[.pointer (some ⟨H, 0, none⟩), .int .i64 (i : Int), .string nm, .agg #[.int .i64 3, .int .i64 n, .string ⟨#[]⟩]] w fun e w' => e = .returned .nilIface ∧ HP H w' (M.setRo i ⟨x.outer, x.object, x.cs.set k ⟨c.name, n, c.kind, true⟩⟩) ov sv os ss ∧ FrT Th H w w' := by
  obtain ⟨h0, h1, hf, hf1, hl⟩ := h.c
  have hb0 : Below w.heap.size w (w.alloc (vO n)) := (Below.refl _ _).alloc (Nat.le_refl _) _
  obtain ⟨q, r, hA, hO, hr⟩ := lookC (h.later hb0) hs hK i nm
  have HC := hide hA
  have HD := hide hO
  unfold vO at HC HD
  have HH := hide h
  clear hA hO
  have hcel : M.cel i nm = some c := by
    rcases find_of (fun c => isN nm c.name) x.cs with ⟨f1, f2⟩ | ⟨k', c', f1, f2, f3, _⟩
    · rw [show fC nm x.cs = none from f1] at hk; cases hk
    · rw [show fC nm x.cs = some k' from f1] at hk
      cases hk
      rw [hc] at f2
      cases f2
      simp [Mo.cel, ro_nat hi, f3]
  rcases hr with ⟨rfl, hp⟩ | ⟨i', x', k', c', g, cap, e1, e2, e3, e4, hp, rfl, hv, hW⟩
  · rw [hcel] at hp
    cases hp
  · obtain rfl : i = i' := by omega
    rw [hi] at e2
    cases e2
    rw [hk] at e3
    cases e3
    rw [hc] at e4
    cases e4
    obtain ⟨cg, hcg⟩ := tag98 (h.later hb0) hi hv
    have hgz : g ≠ w.heap.size := tags_ne hcg (heap_alloc_new w _) (by decide)
    have HW := hide hW
    have HV := hide hv
    have HI := hide hi
    have HCC := hide hc
    have HB0 := hide hb0
    clear hW hv hp hcel e1 hk hi hc h hcg hb0
    go_enter Tryd.func16, Tryd.ntmps16
    go_wp2_with fail
    refine Calls.mono HC.out ?_
    rintro e w' ⟨rfl, rfl⟩
    go_wp2_with fail
    refine Calls.mono HD.out ?_
    rintro e w1 ⟨rfl, hb⟩
    obtain ⟨hcc, hgl, hff⟩ := HW.out w1 hb
    have d1 := hcc 1 _ rfl
    have d2 := hcc 2 _ rfl
    have d3 := hcc 3 _ rfl
    have d5 := hcc 5 _ rfl
    obtain ⟨n0, n1, n2, nf, nl⟩ := new3 (hb.mono (by simp))
    have HZ := hide (((HH.out.later HB0.out).later hb).setC4 HI.out HV.out HCC.out n true)
    have HB := hide (((Below.refl _ w).alloc (Nat.le_refl _) _).trans (hb.mono (by simp)))
    clear hb hcc
    go_wp2_with fail
    go_ret
    exact ⟨rfl, HZ.out.1, (FrT.of HB.out (Nat.le_of_lt hl)).trans HZ.out.2⟩
end
end Go.Proofs.YtomogijjkdiomaaDoor
