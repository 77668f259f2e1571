/-
  The document's parser: signs ahead of a value.
-/
import Derived.Test.YtoimgcjbcbhclaaGreatDoorAo19
import Derived.Laws.IdiomRangeMap
import Derived.Maps.RangeRun
import Derived.Laws.OwnMore
import Derived.Test.YtoimgcjbcbhclaaGreatDoorAo16
import Derived.Lib.AppendZerosOnto
import Derived.Lib.Walk
import Derived.Lib.SliceRun
namespace Go.Proofs.YtoimgcjbcbhclaaGreatDoor
open Go.RowKit
open Go.ChangeMaps (setBlock)
def uns : List (ByteArray × Int) := [(tNot, 32), (tTypeof, 33), (tDelete, 34)]
def unM : Array MapEntry := mapOf (numsV uns)
theorem un_sg (x : ByteArray) : (look2 uns x).map (fun k => k) = (sgP 1 x).map (·.kd) := by
 unfold look2 uns
 by_cases h1 : x = tNot
 ·
  subst h1; rfl
 ·
  by_cases h2 : x = tTypeof
  ·
   subst h2; rfl
  ·
   by_cases h3 : x = tDelete
   ·
    subst h3; rfl
   ·
    have e1 : sgP 1 x = none := by
     cases hs : sgP 1 x with
     | none => rfl
     | some s =>
      unfold sgP at hs; rw [Option.filter_eq_some_iff] at hs; obtain ⟨q1, q2⟩ := hs; unfold sgOf at q1; have q3 : x = s.tx := by simpa using List.find?_some q1
      have q4 := List.mem_of_find?_eq_some q1; have q5 : s.parts = 1 := by simpa using q2
      have key : ∀ s ∈ sgs, s.parts = 1 → s.tx = tNot ∨ s.tx = tTypeof ∨ s.tx = tDelete := by decide +kernel
      rcases key s q4 q5 with h | h | h
      ·
       exact absurd (q3.trans h) h1
      ·
       exact absurd (q3.trans h) h2
      ·
       exact absurd (q3.trans h) h3
    rw [e1]; simp [h1, h2, h3]
theorem uns_made (W : World) : ∃ m1 m2 : Array MapEntry,
  (Instr.makeMap 89 none).run Tryz.prog W = .ok (.map (some W.heap.size)) (W.alloc (.map #[] 0))
  ∧ (Instr.mapUpdate 89 (.map (some W.heap.size)) (.string tNot) (.int .i64 32)).run Tryz.prog (W.alloc (.map #[] 0)) = .ok () (W.alloc (.map m1 1))
  ∧ (Instr.mapUpdate 89 (.map (some W.heap.size)) (.string tTypeof) (.int .i64 33)).run Tryz.prog (W.alloc (.map m1 1)) = .ok () (W.alloc (.map m2 2))
  ∧ (Instr.mapUpdate 89 (.map (some W.heap.size)) (.string tDelete) (.int .i64 34)).run Tryz.prog (W.alloc (.map m2 2)) = .ok () (W.alloc (.map unM 3))
  ∧ (Instr.range 89 (.map (some W.heap.size))).run Tryz.prog (W.alloc (.map unM 3)) = .ok (.pointer (some ⟨W.heap.size + 1, 0, none⟩)) ((W.alloc (.map unM 3)).alloc (.mapIter (some W.heap.size) 3 #[] 3)) := by
 refine ⟨mapOf (numsV (uns.take 1)), mapOf (numsV (uns.take 2)), mkMap 89 W, ?_, ?_, ?_, ?_⟩
 ·
  exact upd_last 89 3 W [] tNot _ 0 _ _ rfl rfl rfl Tryz.underlying89 rfl
 ·
  exact upd_last 89 3 W (numsV (uns.take 1)) tTypeof _ 1 _ _ rfl rfl rfl Tryz.underlying89 (by decide +kernel)
 ·
  exact upd_last 89 3 W (numsV (uns.take 2)) tDelete _ 2 _ _ rfl rfl rfl Tryz.underlying89 (by decide +kernel)
 ·
  have := run_range_map (P := Tryz.prog) (W.alloc (.map unM 3)) 89 9 3 W.heap.size unM 3 Tryz.underlying89 (heap_new _ _); rw [World.size_alloc] at this; exact this
structure Itr (M : Nat) (seen : Array Nat) (W : World) : Prop where
 it : W.heap[M + 1]? = some (.mapIter (some M) 3 seen 3)
 mp : W.heap[M]? = some (.map unM 3)
theorem left_push (seen : Array Nat) (e : MapEntry) (he : e ∈ (leftOf unM seen).toList) : (leftOf unM (seen.push e.born)).size < (leftOf unM seen).size := by
 have h1 : leftOf unM (seen.push e.born) = (leftOf unM seen).filter (fun x => !(x.born == e.born)) := by
  unfold leftOf; rw [Array.filter_filter]
  congr 1
  funext x
  rw [Array.contains_push]
  cases (x.born == e.born) <;> cases seen.contains x.born <;> rfl
 rw [h1]
 generalize leftOf unM seen = L at he
 have h2 : (L.filter (fun x => !(x.born == e.born))).toList = L.toList.filter (fun x => !(x.born == e.born)) := Array.toList_filter
 have h3 : (L.toList.filter (fun x => !(x.born == e.born))).length < L.toList.length := List.length_filter_lt_length_iff_exists.2 ⟨e, he, by simp⟩
 rw [← h2] at h3
 rw [Array.length_toList, Array.length_toList] at h3; exact h3
theorem unM_mem {e : MapEntry} (h : e ∈ unM.toList) : (e.key = .string tNot ∧ e.val = .int .i64 32) ∨ (e.key = .string tTypeof ∧ e.val = .int .i64 33) ∨ (e.key = .string tDelete ∧ e.val = .int .i64 34) := by
 have : unM.toList = [⟨.string tNot, .int .i64 32, 0⟩, ⟨.string tTypeof, .int .i64 33, 1⟩, ⟨.string tDelete, .int .i64 34, 2⟩] := rfl
 rw [this] at h
 rcases List.mem_cons.1 h with rfl | h
 ·
  exact Or.inl ⟨rfl, rfl⟩
 rcases List.mem_cons.1 h with rfl | h
 ·
  exact Or.inr (Or.inl ⟨rfl, rfl⟩)
 rcases List.mem_cons.1 h with rfl | h
 ·
  exact Or.inr (Or.inr ⟨rfl, rfl⟩)
 cases h
theorem left_mem {seen : Array Nat} {e : MapEntry} (h : e ∈ (leftOf unM seen).toList) : e ∈ unM.toList ∧ seen.contains e.born = false := by
 unfold leftOf at h
 rw [Array.toList_filter, List.mem_filter] at h
 exact ⟨h.1, by simpa using h.2⟩
theorem itr_step {M : Nat} {seen : Array Nat} {W : World} (h : Itr M seen W) (ty : TypeId) :
  ((leftOf unM seen).size = 0 ∧ (Instr.next (.pointer (some ⟨M + 1, 0, none⟩)) false ty).run Tryz.prog W = .ok (.tuple #[.bool false]) W) ∨
  ∃ e ∈ (leftOf unM seen).toList, ∃ X : World, (Instr.next (.pointer (some ⟨M + 1, 0, none⟩)) false ty).run Tryz.prog W = .ok (.tuple #[.bool true, e.key, e.val]) X
   ∧ (Instr.entry (.pointer (some ⟨M + 1, 0, none⟩))).run Tryz.prog X = .ok (.tuple #[e.key, e.val]) X ∧ Itr M (seen.push e.born) X ∧ (∀ k, k ≠ M + 1 → X.heap[k]? = W.heap[k]?) ∧ X.os = W.os ∧ X.tape = W.tape ∧ X.output = W.output ∧ X.heap.size = W.heap.size := by
 rcases run_next_at (P := Tryz.prog) W ty (M + 1) M 3 3 seen unM 3 h.it h.mp (by decide +kernel) (Nat.le_refl _) with hh | ⟨e, he, w1, hw, hr⟩
 ·
  exact Or.inl hh
 ·
  refine Or.inr ⟨e, he, _, hr, ?_⟩; have hl : M + 1 < W.heap.size := lt_of_heap h.it
  have k1 : ∀ k, (setBlock w1 (M + 1) (.mapIter (some M) 3 (seen.push e.born) 3)).heap[k]? = if k = M + 1 then some (.mapIter (some M) 3 (seen.push e.born) 3) else W.heap[k]? := by
   intro k
   rcases hw with rfl | rfl <;>
   ·
    unfold setBlock
    by_cases hk : k = M + 1
    ·
     subst hk; simp [hl]
    ·
     rw [if_neg hk]; simp [Ne.symm hk] <;> rfl
  have hI : Itr M (seen.push e.born) (setBlock w1 (M + 1) (.mapIter (some M) 3 (seen.push e.born) 3)) := ⟨by rw [k1, if_pos rfl], by rw [k1, if_neg (by omega)]; exact h.mp⟩
  refine ⟨run_entry_at _ (M + 1) M 3 seen unM 3 e hI.it hI.mp (left_mem he).1 (by decide +kernel), hI, fun k hk => by rw [k1, if_neg hk], ?_, ?_, ?_, ?_⟩
  ·
   rcases hw with rfl | rfl <;> rfl
  ·
   rcases hw with rfl | rfl <;> rfl
  ·
   rcases hw with rfl | rfl <;> rfl
  ·
   rcases hw with rfl | rfl <;> simp [setBlock]
end Go.Proofs.YtoimgcjbcbhclaaGreatDoor
set_option maxRecDepth 100000
set_option maxHeartbeats 16000000
namespace Go.Proofs.YtoimgcjbcbhclaaGreatDoor
open Go.RowKit
theorem rfirst_any {c : PC} {F : Fns} (hF : RCt c F) (hN : ∃ k, FNx c.l k F) (hK : FOk F) (w : World) (d i : Nat) (r : PR Tr) (hd : d ≤ 30) (hs : r = raloneP c.l F d i) (ho : r ≠ .out) (h : Ps c w i 0 (-1)) :
  Calls Tryz.prog 297 #[pPtr c, .int .i64 (d : Int)] w (QPost c w (NV w.heap.size) ZN r) := by
 unfold raloneP at hs
 by_cases h1 : (tkA c.l i).kd = 1
 ·
  rw [if_pos h1] at hs; subst hs; exact rfirst_name w d i h1 h
 ·
  rw [if_neg h1] at hs
  by_cases h3 : (tkA c.l i).kd = 3
  ·
   rw [if_pos h3] at hs; subst hs; exact rfirst_num w d i h3 h
  ·
   rw [if_neg h3] at hs
   by_cases h4 : (tkA c.l i).kd = 4
   ·
    rw [if_pos h4] at hs; subst hs; exact rfirst_str w d i h4 h
   ·
    rw [if_neg h4] at hs
    by_cases hp : fx c.l i = tOpen
    ·
     rw [if_pos hp] at hs; exact rfirst_par hF w d i r hd h1 h3 h4 hp hs ho h
    ·
     rw [if_neg hp] at hs
     by_cases hf : fx c.l i = tFunction
     ·
      rw [if_pos hf] at hs; exact rfirst_fun hF hN hK w d i r hd h1 h3 h4 hp hf hs ho h
     ·
      rw [if_neg hf] at hs
      by_cases hb : fx c.l i = tLBrace
      ·
       rw [if_pos hb] at hs; exact rfirst_obj hF w d i r hd h1 h3 h4 hp hf hb hs ho h
      ·
       rw [if_neg hb] at hs
       by_cases hl : (tkA c.l i).kd = 2 ∧ 0 < litK (tkA c.l i).tx
       ·
        rw [if_pos hl] at hs; subst hs; exact rfirst_lit w d i h1 h3 h4 hp hf hb hl.1 hl.2 h
       ·
        rw [if_neg hl] at hs; subst hs; exact rfirst_no w d i h1 h3 h4 hp hf hb hl h
theorem run_app_zero {P : Program} {w : World} (base : Nat) (t ty e : TypeId) (i : TypeInfo) (size : Nat) (ht : P.underlying t = some (.slice e)) (hi : P.info? e = some i)
  (v : Value) (n : Nat) (xs : List Value) (hown : w.ownsRow base e size v n xs) (ad : Option Addr) (k : Nat) :
  (Builtin.append_ #[t, t] ty #[v, .slice ad 0 k]).run P w = .ok v w := by
 exact zbed
theorem wpList_app_zero {P : Program} {w : World} {ops : Array Oper} {rest : List Oper} {o : Oper} {a : Act} {Q : Exit → Act → World → Prop} (hgd : o.guard = none) (s x : Operand) (t : TypeId)
  (ho : o.op = .call { callee := .builtin .append, args := #[s, x], argTypes := #[t, t] })
  (base : Nat) (e : TypeId) (i : TypeInfo) (size : Nat) (ht : P.underlying t = some (.slice e)) (hi : P.info? e = some i)
  (v : Value) (n : Nat) (xs : List Value) (hs : a.eval s = v) (hown : w.ownsRow base e size v n xs) (ad : Option Addr) (m k : Nat) (hm : m = 0) (hx : a.eval x = .slice ad m k)
  (h : wpList P ops Q rest (a.put o.dst v) w) : wpList P ops Q (o :: rest) a w := by
 subst hm
 refine wpList_plain hgd fun K hK => ?_
 have hrun := run_app_zero (P := P) (w := w) base t o.type e i size ht hi v n xs hown ad k
 unfold Oper.wp
 simp [execOp, ho, resolve, invoke, builtin, hs, hx, hrun, Result.andThen]
 exact hK _ _ h
theorem nv_at' {B : Nat} {w : World} {t : Tr} {q : Nat} (h : NV B w t (nPtr q)) : NAt (fun b => B ≤ b) w t q := by
 exact zbgf
theorem own_one (w : World) (q : Nat) {B : Nat} (hB : B ≤ w.heap.size) : (w.alloc (.cells #[nPtr q] 22)).ownsRow B 22 1 (.slice (some ⟨w.heap.size, 0, none⟩) 1 1) 1 [nPtr q] := World.ownsRow_lit w #[nPtr q] 1 hB (by decide) rfl
theorem row_cells {B : Nat} {w : World} {g n cap : Nat} {ps : List Nat} (h : w.ownsRow B 22 1 (.slice (some ⟨g, 0, none⟩) n cap) n (ps.map nPtr)) (o : Obj) : ∀ j u, (ps.map nPtr)[j]? = some u → (w.alloc o).cell? ((⟨g, 0, none⟩ : Addr).add j) = some u := by
 intro j u hj
 have h2 := h.alloc o
 have hl : j < n * 1 := by
  rw [← h.1]; exact (List.getElem?_eq_some_iff.1 hj).1
 have h3 := h2.cellAt j hl
 exact zbdu
theorem own_near {w : World} {b n k : Nat} (e : (Value.slice (some ⟨w.heap.size, 0, none⟩) n k).ownBlock = some b) : w.heap.size ≤ b := by
 have e2 : w.heap.size = b := by simpa [Value.ownBlock] using e
 omega
theorem own_far {w : World} {b n k : Nat} (hl : b < w.heap.size) : (Value.slice (some ⟨w.heap.size, 0, none⟩) n k).ownBlock ≠ some b := by
 intro e
 have e2 : w.heap.size = b := by simpa [Value.ownBlock] using e
 omega
theorem row_ones (ps : List Nat) : ∀ u ∈ ps.map nPtr, u.oneCell' = true := by
 intro u hu
 obtain ⟨p, _, rfl⟩ := List.mem_map.1 hu
 rfl
theorem uns_made2 (W : World) (N : Nat) (hN : N = W.heap.size) : ∃ m1 m2 : Array MapEntry,
  (Instr.makeMap 89 none).run Tryz.prog W = .ok (.map (some N)) (W.alloc (.map #[] 0))
  ∧ (Instr.mapUpdate 89 (.map (some N)) (.string tNot) (.int .i64 32)).run Tryz.prog (W.alloc (.map #[] 0)) = .ok () (W.alloc (.map m1 1))
  ∧ (Instr.mapUpdate 89 (.map (some N)) (.string tTypeof) (.int .i64 33)).run Tryz.prog (W.alloc (.map m1 1)) = .ok () (W.alloc (.map m2 2))
  ∧ (Instr.mapUpdate 89 (.map (some N)) (.string tDelete) (.int .i64 34)).run Tryz.prog (W.alloc (.map m2 2)) = .ok () (W.alloc (.map unM 3))
  ∧ (Instr.range 89 (.map (some N))).run Tryz.prog (W.alloc (.map unM 3)) = .ok (.pointer (some ⟨N + 1, 0, none⟩)) ((W.alloc (.map unM 3)).alloc (.mapIter (some N) 3 #[] 3)) := by
 subst hN
 exact uns_made W
theorem unM_parts {e : MapEntry} (h : e ∈ unM.toList) : ∃ s kd, e.key = .string s ∧ e.val = .int .i64 kd ∧ s ≠ noText ∧ look2 uns s = some kd := by
 rcases unM_mem h with ⟨h1, h2⟩ | ⟨h1, h2⟩ | ⟨h1, h2⟩
 all_goals
  exact ⟨_, _, h1, h2, by decide, by decide +kernel⟩
structure Sgn (c : PC) (w : World) (d i : Nat) (seen : Array Nat) (W : World) : Prop where
 itr : Itr (w.heap.size + 1 + 1) seen W
 ps : Ps c W i 0 (-1)
 box : Box2 c w.heap.size (w.heap.size + 1) d W
 ap : Ap c.P w.heap.size w W
 no : ∀ e ∈ unM.toList, seen.contains e.born = true → e.key ≠ .string (fx c.l i)
section
variable {c : PC} {w : World} {d i : Nat} {seen : Array Nat}
include c w d i seen
theorem Sgn.all {W : World} (h : Sgn c w d i seen W) (h0 : (leftOf unM seen).size = 0) : sgP 1 (fx c.l i) = none := by
 have hall : ∀ e ∈ unM.toList, e.key ≠ .string (fx c.l i) := by
  intro e he
  by_cases hc : seen.contains e.born = true
  ·
   exact h.no e he hc
  ·
   exfalso; have : e ∈ (leftOf unM seen).toList := by
    unfold leftOf; rw [Array.toList_filter, List.mem_filter]; exact ⟨he, by simpa using hc⟩
   have h1 : (leftOf unM seen).toList = [] := List.length_eq_zero_iff.1 (by rw [Array.length_toList]; exact h0)
   rw [h1] at this; cases this
 have hl : unM.toList = [⟨.string tNot, .int .i64 32, 0⟩, ⟨.string tTypeof, .int .i64 33, 1⟩, ⟨.string tDelete, .int .i64 34, 2⟩] := rfl
 rw [hl] at hall
 have n1 : ¬ fx c.l i = tNot := fun hh => hall _ (List.mem_cons_self) (by rw [hh])
 have n2 : ¬ fx c.l i = tTypeof := fun hh => hall _ (List.mem_cons_of_mem _ List.mem_cons_self) (by rw [hh])
 have n3 : ¬ fx c.l i = tDelete := fun hh => hall _ (List.mem_cons_of_mem _ (List.mem_cons_of_mem _ List.mem_cons_self)) (by rw [hh])
 have := un_sg (fx c.l i)
 have e1 : look2 uns (fx c.l i) = none := by
  unfold look2 uns; simp [n1, n2, n3]
 rw [e1] at this
 cases hs : sgP 1 (fx c.l i) with
 | none => rfl
 | some s => rw [hs] at this; cases this
theorem Sgn.step {W X : World} {e : MapEntry} (h : Sgn c w d i seen W) (hx : Itr (w.heap.size + 1 + 1) (seen.push e.born) X) (hb : ∀ k, k ≠ w.heap.size + 1 + 1 + 1 → X.heap[k]? = W.heap[k]?) (ho : X.os = W.os) (ht : X.tape = W.tape) (hu : X.output = W.output) (hz : X.heap.size = W.heap.size) (hlo : c.lo ≤ w.heap.size) :
  Itr (w.heap.size + 1 + 1) (seen.push e.born) X ∧ Ps c X i 0 (-1) ∧ Box2 c w.heap.size (w.heap.size + 1) d X ∧ Ap c.P w.heap.size w X := by
 have hB : ∀ B, B ≤ w.heap.size + 1 + 1 → Below B W X := fun B hB => ⟨ho, ht, hu, by omega, fun k hk => hb k (by omega)⟩
 exact ⟨hx, h.ps.ap (hB w.heap.size (by omega)) hlo, ⟨h.box.p.below (hB _ (Nat.le_refl _)) (by omega), h.box.n.below (hB _ (Nat.le_refl _)) (by omega)⟩, h.ap.trans (Ap.of (hB w.heap.size (by omega)))⟩
end
theorem sgn_start (c : PC) (w : World) (d i : Nat) (h : Ps c w i 0 (-1)) : Sgn c w d i #[] ((((w.alloc (boxA c)).alloc (boxB d)).alloc (.map unM 3)).alloc (.mapIter (some (w.heap.size + 1 + 1)) 3 #[] 3)) := by
 have hP := h.rlt
 refine ⟨⟨?_, ?_⟩, (((h.alloc _).alloc _).alloc _).alloc _, ⟨⟨?_, by omega⟩, ⟨?_, by omega⟩⟩, ((((Ap.refl c.P w.heap.size w).alloc (Nat.le_refl _) _).alloc (by simp) _).alloc (by simp; omega) _).alloc (by simp; omega) _, fun e _ hc => by simp at hc⟩
 ·
  exact new_obj (by simp)
 ·
  rw [Below.heap_alloc _ _ _ (by simp)]; exact new_obj (by simp)
 ·
  rw [Below.heap_alloc _ _ _ (by simp <;> omega), Below.heap_alloc _ _ _ (by simp <;> omega), Below.heap_alloc _ _ _ (by simp)]; exact new_obj rfl
 ·
  rw [Below.heap_alloc _ _ _ (by simp <;> omega), Below.heap_alloc _ _ _ (by simp)]; exact new_obj (by simp)
theorem rsingle_any {c : PC} {F : Fns} (hF : RCt c F) (hN : ∃ k, FNx c.l k F) (hK : FOk F) (w : World) (d i : Nat) (r : PR Tr) (hd : d ≤ 30) (hs : r = rsingleP c.l F d i) (ho : r ≠ .out) (h : Ps c w i 0 (-1)) :
  Calls Tryz.prog 288 #[pPtr c, .int .i64 (d : Int)] w (QPost c w (NV w.heap.size) ZN r) := by
 have HLT := hide h.rlt
 have HLO := hide h.base.size
 have HO := hide ho
 have HS := hide hs
 have HST := hide (sgn_start c w d i h)
 have HF := hide hF
 have HNN := hide hN
 have HKK := hide hK
 obtain ⟨m1, m2, e0, e1, e2, e3, e4⟩ := uns_made2 ((w.alloc (boxA c)).alloc (boxB d)) (w.heap.size + 1 + 1) (by simp)
 clear h hs ho hF hN hK
 go_enter Tryz.func288, Tryz.ntmps288
 go_wp2_with fail
 clear e0 e1 e2 e3 e4
 go_loopg [] 3 (fun k wr => ∃ seen, (leftOf unM seen).size ≤ k ∧ Sgn c w d i seen wr)
 case atStart => exact ⟨#[], by decide +kernel, HST.out⟩
 case round =>
  clear HST; obtain ⟨seen, hle, hsg⟩ := hrel
  rcases itr_step hsg.itr 0 with ⟨h0, hnx⟩ | ⟨e, he, X, hnx, hen, hit, hb, hox, htx, hux, hzx⟩
  ·
   have hno := hsg.all h0; have HSG := hide hsg; have hq : r = raskedP c.l F d i := by have := unhide HS; unfold rsingleP at this; rw [hno] at this; exact this
   unfold raskedP at hq; have HQ := hide hq; have k0 := hsg.box.p.cell; have k1 := hsg.box.n.cell; clear hsg hq hno HS hle h0
   cases hr : raloneP c.l F d i with
   | out => rw [hr] at HQ; exact absurd HQ.out HO.out
   | bad er pl =>
    have HC1 := hide (rfirst_any HF.out HNN.out HKK.out wr d i _ hd hr.symm (by nofun) HSG.out.ps); rw [hr] at HQ; have hq : r = .bad er pl := unhide HQ; subst hq; clear hr HQ; go_wp2_with fail; refine cm HC1.out ?_
    rintro e w1 ⟨⟨v, rfl, q, rfl⟩, ⟨j, hp1⟩, he, ha1⟩; have HP1 := hide hp1; have HA1 := hide (HSG.out.ap.next ha1); have k0 := (HSG.out.box.ap ha1).p.cell; have k1 := (HSG.out.box.ap ha1).n.cell
    have HC2 := hide (rok_old he hp1); clear hp1 ha1 HC1 HSG hnx; go_wp2_with fail; refine wp_loop_rounds 1 ?_; rw [rounds_succ]; go_wp2_with fail; refine cm HC2.out ?_; rintro e w2 ⟨rfl, rfl⟩; clear HC2; exact zcbt
   | ok t0 j0 =>
    have HC1 := hide (rfirst_any HF.out HNN.out HKK.out wr d i _ hd hr.symm (by nofun) HSG.out.ps); rw [hr] at HQ; have HS2 : Hid (raskedLoop c.l F d F.fuel t0 j0 = r) := HQ.out.symm; clear hr HQ; go_wp2_with fail
    refine cm HC1.out ?_; rintro e w1 ⟨⟨v, rfl, q, rfl, hn1⟩, hp1, ha1⟩; have HP1 := hide hp1; have HN1 : Hid (NV w.heap.size w1 t0 (nPtr q)) := NV.mono ⟨q, rfl, hn1⟩ HSG.out.ap.size; have HA1 := hide (HSG.out.ap.next ha1)
    have HB1 := hide (HSG.out.box.ap ha1); clear hp1 ha1 hn1 HC1 HSG hnx k0 k1; go_wp2_with fail
    go_loopg [7] F.fuel (fun k v wr => ((∃ t j, raskedLoop c.l F d k t j = r ∧ NV w.heap.size wr t v ∧ Ps c wr j 0 (-1))
     ∨ (∃ er pl, r = .bad er pl ∧ er ≠ 0 ∧ (∃ j, Ps c wr j er (pl : Int)) ∧ ZN v)) ∧ Ap c.P w.heap.size w wr ∧ Box2 c w.heap.size (w.heap.size + 1) d wr)
    case atStart => exact ⟨Or.inl ⟨t0, j0, HS2.out, HN1.out, HP1.out⟩, HA1.out, HB1.out⟩
    case round =>
     clear HS2 HP1 HA1 HN1 HB1; obtain ⟨hrel, hap, hbx⟩ := hrel; have k0 := hbx.p.cell; have HA := hide hap; have HBX := hide hbx; clear hap hbx; obtain ⟨i0, hi0, hz0, hz1, hz2⟩ := info_parts info22
     rcases hrel with ⟨t, j, hq, hnv, hps⟩ | ⟨er, pl, hq, he, ⟨j, hps⟩, q', rfl⟩
     ·
      obtain ⟨k, rfl⟩ : ∃ k, gk = k + 1 := by
       exact zbdj
      obtain ⟨q1, rfl, hn⟩ := hnv; have HN : Hid (NV w.heap.size wr t (nPtr q1)) := ⟨q1, rfl, hn⟩; have HPS := hide hps; have HC1 := hide (rok_new hps); unfold raskedLoop at hq
      by_cases hd1 : fx c.l j = tDot
      ·
       rw [if_pos hd1] at hq; have HQ := hide hq; have HC2 := hide (rskip_yes c wr j tDot (by decide) hd1 hps); clear hq hn hps hd1; go_wp2_with fail; refine cm HC1.out ?_; rintro e w2 ⟨rfl, rfl⟩; clear HC1
       go_wp2_with fail; refine cm HC2.out ?_; rintro e w3 ⟨rfl, hp3, ha3⟩; have HA3 := hide (HA.out.next ha3); have HB3 := hide (HBX.out.ap ha3); have HN3 := hide (NV.later HN.out ha3 HLT.out)
       have HC3 := hide (rident_any c w3 (j + 1) hp3); clear hp3 ha3 HC2 HA HBX HN HPS k0; have k0 := HB3.out.p.cell; go_wp2_with fail; refine cm HC3.out ?_; intro e w4 hp; clear k0 HC3
       cases hr : nameP c.l (j + 1) with
       | out => rw [hr] at HQ; exact absurd HQ.out.symm HO.out
       | bad er pl =>
        rw [hr] at hp HQ; have HQQ : Hid (r = .bad er pl) := HQ.out.symm; obtain ⟨⟨v, rfl, s, rfl⟩, ⟨j4, hp4⟩, he, ha4⟩ := hp; have HP4 := hide hp4; have HA4 := hide (HA3.out.next ha4); have HB4 := hide (HB3.out.ap ha4)
        clear hp4 ha4 HA3 HB3 HN3 HQ hr; go_wp2_with fail
        go_roundg k
        case measure => omega
        case rel => exact ⟨Or.inr ⟨er, pl, HQQ.out, he, ⟨j4, (HP4.out.alloc _).alloc _⟩, _, rfl⟩, (HA4.out.alloc HA4.out.size _).alloc (by have := HA4.out.size; simp; omega) _, HB4.out.ap (((Ap.refl c.P w4.heap.size w4).alloc (Nat.le_refl _) _).alloc (by simp) _)⟩
       | ok s j4 =>
        rw [hr] at hp HQ; have HQQ : Hid (raskedLoop c.l F d k (.mk 36 s 0 [t]) j4 = r) := unhide HQ; obtain ⟨⟨v, rfl, rfl⟩, hp4, ha4⟩ := hp; have HP4 := hide hp4; have HA4 := hide (HA3.out.next ha4)
        have HB4 := hide (HB3.out.ap ha4); have HN4 := hide (nv_at' (NV.later HN3.out ha4 HLT.out)); clear hp4 ha4 HA3 HB3 HN3 HQ hr; go_wp2_with fail
        go_roundg k
        case measure => omega
        case rel => exact ⟨Or.inl ⟨_, j4, HQQ.out, (nv_row (NAts.cons HN4.out NAts.nil) HA4.out.size (by simp [maxLen]) #[nPtr q1] rfl 1 rfl 36 s 0 _ rfl).nv, (HP4.out.alloc _).alloc _⟩, (HA4.out.alloc HA4.out.size _).alloc (by have := HA4.out.size; simp; omega) _, HB4.out.ap (((Ap.refl c.P w4.heap.size w4).alloc (Nat.le_refl _) _).alloc (by simp) _)⟩
      ·
       rw [if_neg hd1] at hq; have HC2 := hide (rskip_no c wr j tDot (by decide) hd1 hps); have HQ := hide hq; clear hq hn hps hd1; go_wp2_with fail; refine cm HC1.out ?_; rintro e w2 ⟨rfl, rfl⟩; clear HC1
       go_wp2_with fail; refine cm HC2.out ?_; rintro e w3 ⟨rfl, hb3⟩; have HP3 := hide (HPS.out.later hb3); have HA3 := hide (HA.out.next (Ap.of hb3)); have HB3 := hide (HBX.out.ap (Ap.of hb3))
       have HN3 := hide (NV.later HN.out (Ap.of (R := c.P) hb3) HLT.out); clear hb3 HC2 HA HBX HN HPS k0; have k0 := HB3.out.p.cell
       by_cases hd2 : fx c.l j = tOpen
       ·
        rw [if_pos hd2] at HQ; have HC3 := hide (rskip_yes c w3 j tOpen (by decide) hd2 HP3.out); clear hd2; go_wp2_with fail; refine cm HC3.out ?_; rintro e w4 ⟨rfl, hp4, ha4⟩; have HP4 := hide hp4
        have HA4 := hide (HA3.out.next ha4); have HB4 := hide (HB3.out.ap ha4); have HN4 := hide (NV.later HN3.out ha4 HLT.out); clear hp4 ha4 HC3 HA3 HB3 HN3 HP3 k0; have k0 := HB4.out.p.cell
        have hmx : max w.heap.size (w.heap.size + 1) + 1 ≤ w4.heap.size := by have := HB4.out.n.lt; omega
        have HMX := hide hmx; clear hmx
        cases hr : rargsP c.l F d (j + 1) with
        | out => rw [hr] at HQ; exact absurd HQ.out.symm HO.out
        | bad er pl =>
         have HC4 := hide (rlist_all (arg_part HF.out w.heap.size (w.heap.size + 1) d hd) tShut (by decide) F.fuel w4 (j + 1) _ hr.symm (by nofun) HB4.out HMX.out HP4.out); rw [hr] at HQ
         have HQQ : Hid (r = .bad er pl) := HQ.out.symm; clear hr HQ HMX; go_wp2_with fail; refine cm HC4.out ?_; rintro e w5 ⟨⟨v, rfl, zps, hzl, hzr⟩, ⟨j5, hp5⟩, he, ha5⟩; obtain ⟨za, zc, rfl⟩ := row_shut hzr
         have HP5 := hide hp5; have HA5 := hide (HA4.out.next ha5); have HB5 := hide (HB4.out.ap ha5); have HZR := hide hzr; have hsz := HA5.out.size; clear hp5 ha5 HC4 HA4 HB4 HN4 HP4 k0 hzr
         by_cases hz0' : zps.length = 0
         ·
          have HZ0 := hide hz0'; clear hz0'
          go_wp2_with (at_builtin; refine wpList_app_zero rfl _ _ 46 rfl w.heap.size 22 i0 1 Tryz.underlying46 hi0 _ 1 [nPtr q1] rfl (own_one w5 q1 hsz) _ _ _ HZ0.out rfl ?_)
          go_wp2_with fail
          go_roundg k
          case measure => omega
          case rel => exact ⟨Or.inr ⟨er, pl, HQQ.out, he, ⟨j5, (HP5.out.alloc _).alloc _⟩, _, rfl⟩, (HA5.out.alloc HA5.out.size _).alloc (by have := HA5.out.size; simp; omega) _, HB5.out.ap (((Ap.refl c.P w5.heap.size w5).alloc (Nat.le_refl _) _).alloc (by simp) _)⟩
         ·
          obtain ⟨g, cap, hv, hgb, hgl⟩ := HZR.out.form (by omega)
          injection hv with hv1 _ hv3
          subst hv1 hv3
          go_wp2_with (at_builtin; refine wpList_append_lies _ rfl _ _ 46 rfl w.heap.size 22 i0 (.pointer none) 1 8 Tryz.underlying46 hi0 hz0 hz1 hz2 rfl (by decide) _ 1 [nPtr q1] rfl (own_one w5 q1 hsz) ⟨g, 0, none⟩ zps.length _ (zps.map nPtr) rfl (by simp) (row_cells HZR.out _) (row_ones zps) (by omega) (by unfold maxLen; omega) (by omega) (by simp; omega) (w5.heap.size + 1) (by simp) ?_)
          intro g' cap' w6 hown' hgrow hg' _; have HW6 := hide ((((Below.refl w5.heap.size w5).alloc (Nat.le_refl _) (.cells #[nPtr q1] 22)).grown hgrow (by simp) (fun k hk => own_near hk))); clear hown' hgrow hg'
          go_wp2_with fail
          go_roundg k
          case measure => omega
          case rel => exact ⟨Or.inr ⟨er, pl, HQQ.out, he, ⟨j5, (HP5.out.later HW6.out).alloc _⟩, _, rfl⟩, (HA5.out.next (Ap.of HW6.out)).alloc (by have := HA5.out.size; have := HW6.out.size; omega) _, (HB5.out.ap (Ap.of HW6.out)).ap ((Ap.refl c.P w6.heap.size w6).alloc (Nat.le_refl _) _)⟩
        | ok ts j5 =>
         have HC4 := hide (rlist_all (arg_part HF.out w.heap.size (w.heap.size + 1) d hd) tShut (by decide) F.fuel w4 (j + 1) _ hr.symm (by nofun) HB4.out HMX.out HP4.out); rw [hr] at HQ
         have HQQ : Hid (raskedLoop c.l F d k (.mk 35 noText 0 (t :: ts)) j5 = r) := unhide HQ; clear hr HQ HMX; go_wp2_with fail; refine cm HC4.out ?_; rintro e w5 ⟨⟨v, rfl, hkv, hle8⟩, hp5, ha5⟩
         have HN5 := hide (nv_at' (NV.later HN4.out ha5 HLT.out)); obtain ⟨ps, hzr, hks⟩ := hkv; obtain ⟨za, zc, rfl⟩ := row_shut hzr; have hlen := NAts.length _ _ hks
         have HTS : Hid (NAts (fun b => w.heap.size ≤ b) w5 ([t] ++ ts) ([q1] ++ ps)) := nats_front HN4.out ha5 HLT.out HA4.out.size hks; have HP5 := hide hp5; have HA5 := hide (HA4.out.next ha5)
         have HB5 := hide (HB4.out.ap ha5); have HZR := hide hzr; have hsz := HA5.out.size; have hzl : ps.length ≤ 8 := by omega
         clear hp5 ha5 HC4 HA4 HB4 HN4 HP4 k0 hzr hks hle8
         by_cases hz0' : ps.length = 0
         ·
          have hts : ts = [] := List.length_eq_zero_iff.1 (by omega); subst hts; have HZ0 := hide hz0'; clear hlen hz0' hzl
          go_wp2_with (at_builtin; refine wpList_app_zero rfl _ _ 46 rfl w.heap.size 22 i0 1 Tryz.underlying46 hi0 _ 1 [nPtr q1] rfl (own_one w5 q1 hsz) _ _ _ HZ0.out rfl ?_)
          go_wp2_with fail
          go_roundg k
          case measure => omega
          case rel => exact ⟨Or.inl ⟨_, j5, HQQ.out, (nv_row (NAts.cons HN5.out NAts.nil) HA5.out.size (by simp [maxLen]) #[nPtr q1] rfl 1 rfl 35 noText 0 _ rfl).nv, (HP5.out.alloc _).alloc _⟩, (HA5.out.alloc HA5.out.size _).alloc (by have := HA5.out.size; simp; omega) _, HB5.out.ap (((Ap.refl c.P w5.heap.size w5).alloc (Nat.le_refl _) _).alloc (by simp) _)⟩
         ·
          obtain ⟨g, cap, hv, hgb, hgl⟩ := HZR.out.form (by omega)
          injection hv with hv1 _ hv3
          subst hv1 hv3; have HLEN := hide hlen; clear hlen
          go_wp2_with (at_builtin; refine wpList_append_lies _ rfl _ _ 46 rfl w.heap.size 22 i0 (.pointer none) 1 8 Tryz.underlying46 hi0 hz0 hz1 hz2 rfl (by decide) _ 1 [nPtr q1] rfl (own_one w5 q1 hsz) ⟨g, 0, none⟩ ps.length _ (ps.map nPtr) rfl (by simp) (row_cells HZR.out _) (row_ones ps) (by omega) (by unfold maxLen; omega) (by omega) (by simp; omega) (w5.heap.size + 1) (by simp) ?_)
          intro g' cap' w6 hown' hgrow hg' _; have HW6 := hide ((((Below.refl w5.heap.size w5).alloc (Nat.le_refl _) (.cells #[nPtr q1] 22)).grown hgrow (by simp) (fun k hk => own_near hk)))
          have HK6 : Hid (KV w.heap.size w6 ([t] ++ ts) (.slice (some ⟨g', 0, none⟩) (1 + ps.length) cap')) := kv_push (v := .slice (some ⟨w5.heap.size, 0, none⟩) 1 1) (ps := [q1]) (NAts.mono (fun b hb hl => ⟨hb, own_far hl⟩) _ _ HTS.out) (by rw [List.map_append]; exact hown') (by simp; omega) hgrow hg'
          clear hown' hgrow hg'; go_wp2_with fail
          go_roundg k
          case measure => omega
          case rel => exact ⟨Or.inl ⟨_, j5, HQQ.out, (nv_kv HK6.out (by have := HA5.out.size; have := HW6.out.size; omega) 35 noText 0).nv, (HP5.out.later HW6.out).alloc _⟩, (HA5.out.next (Ap.of HW6.out)).alloc (by have := HA5.out.size; have := HW6.out.size; omega) _, (HB5.out.ap (Ap.of HW6.out)).ap ((Ap.refl c.P w6.heap.size w6).alloc (Nat.le_refl _) _)⟩
       ·
        rw [if_neg hd2] at HQ; have hq : r = .ok t j := HQ.out.symm; subst hq; have HC3 := hide (rskip_no c w3 j tOpen (by decide) hd2 HP3.out); clear hd2 HQ; go_wp2_with fail; refine cm HC3.out ?_; rintro e w4 ⟨rfl, hb4⟩
        have HP4 := hide (HP3.out.later hb4); have HA4 := hide (HA3.out.next (Ap.of hb4)); have HN4 := hide (NV.later HN3.out (Ap.of (R := c.P) hb4) HLT.out); clear hb4 HC3 HA3 HN3 HP3; go_wp2_with fail; go_ret
        exact ⟨⟨_, rfl, HN4.out⟩, HP4.out, HA4.out⟩
     ·
      have HC1 := hide (rok_old he hps); have HP1 := hide hps; clear hps; subst hq; go_wp2_with fail; refine cm HC1.out ?_; rintro e w2 ⟨rfl, rfl⟩; clear HC1; go_wp2_with fail; go_ret
      exact ⟨⟨_, rfl, _, rfl⟩, ⟨j, HP1.out⟩, he, HA.out⟩
  ·
   obtain ⟨s', kd, hk, hv, hsn, hlk⟩ := unM_parts (left_mem he).1; rw [hk, hv] at hnx hen; obtain ⟨q1, q2, q3, q4⟩ := hsg.step hit hb hox htx hux hzx HLO.out; have k0 := q3.p.cell; have k1 := q3.n.cell
   have HLF := hide (left_push seen e he); have HPX := hide q2; have HBX := hide q3; have HAX := hide q4; have HIX := hide q1; have HSG := hide hsg; have HE := hide he; have HKE := hide hk; have HLE := hide hle
   clear hit hb hox htx hux hzx q1 q2 q3 q4 hsg he hk hv hle
   by_cases hx : fx c.l i = s'
   ·
    have HC1 := hide (rskip_yes c X i s' hsn hx HPX.out); have hsp : ∃ sg, sgP 1 (fx c.l i) = some sg ∧ sg.kd = kd := by
     have := un_sg (fx c.l i); rw [hx, hlk] at this; rw [hx]
     cases hs : sgP 1 s' with
     | none => rw [hs] at this; cases this
     | some sg => rw [hs] at this; injection this with h1; exact ⟨sg, rfl, h1.symm⟩
    obtain ⟨sg, hsg1, hsg2⟩ := hsp; have hq : r = (deepP c.l F.sg d (i + 1)).bind fun t i1 => .ok (.mk kd noText 0 [t]) i1 := by
     have := unhide HS; unfold rsingleP at this; rw [hsg1] at this; rw [← hsg2]; exact this
    unfold deepP at hq; have HQ := hide hq; clear hq hsg1 hsg2 hx hlk hsn HIX HSG HE HKE HLE HLF HS
    by_cases h30 : d = 30
    ·
     rw [if_pos h30] at HQ; have hq : r = .bad 4 (tkA c.l (i + 1)).pl := unhide HQ; subst hq; have hdd : decide ((30 : Int) < (d : Int) + 1) = true := decide_eq_true (by omega); clear h30 HQ; go_wp2_with fail
     refine cm HC1.out ?_; rintro e' w3 ⟨rfl, hp3, ha3⟩; have HA3 := hide (HAX.out.next ha3); have k0 := (HBX.out.ap ha3).p.cell; have k1 := (HBX.out.ap ha3).n.cell
     have HC2 := hide (rfail_new c w3 (i + 1) 4 (by decide) hp3); clear hp3 ha3 HC1 hnx hen HPX; go_wp2_with fail; refine cm HC2.out ?_; rintro e' w4 ⟨⟨v, rfl, q, rfl⟩, hp4, he4, ha4⟩; have HP4 := hide hp4
     have HA4 := hide (HA3.out.next ha4); clear hp4 ha4 HC2; go_wp2_with fail; go_ret; exact ⟨⟨_, rfl, _, rfl⟩, HP4.out, he4, HA4.out⟩
    ·
     rw [if_neg h30] at HQ; have hd2 : d + 1 ≤ 30 := by omega
     have hdd : decide ((30 : Int) < (d : Int) + 1) = false := decide_eq_false (by omega); have hcast : (((d + 1 : Nat) : Nat) : Int) = (d : Int) + 1 := by omega
     have HCA := hide hcast; clear h30 hcast; go_wp2_with fail; refine cm HC1.out ?_; rintro e' w3 ⟨rfl, hp3, ha3⟩; have HP3 := hide hp3; have HA3 := hide (HAX.out.next ha3); have k0 := (HBX.out.ap ha3).p.cell
     have k1 := (HBX.out.ap ha3).n.cell; clear hp3 ha3 HC1 hnx hen HPX
     cases hr : F.sg (d + 1) (i + 1) with
     | out => rw [hr] at HQ; exact absurd HQ.out HO.out
     | bad er pl =>
      have hc2 := HF.out.sg w3 (d + 1) (i + 1) _ hd2 hr.symm (by nofun) HP3.out; rw [HCA.out] at hc2; have HC2 := hide hc2; rw [hr] at HQ; have hq : r = .bad er pl := unhide HQ; subst hq; clear hr HQ hc2; go_wp2_with fail
      refine cm HC2.out ?_; rintro e' w4 ⟨⟨v, rfl, q, rfl⟩, ⟨j4, hp4⟩, he4, ha4⟩; have HP4 := hide hp4; have HA4 := hide (HA3.out.next ha4); clear hp4 ha4 HC2; go_wp2_with fail; go_ret
      exact ⟨⟨_, rfl, _, rfl⟩, ⟨j4, (HP4.out.alloc _).alloc _⟩, he4, (HA4.out.alloc HA4.out.size _).alloc (by have := HA4.out.size; simp; omega) _⟩
     | ok t j2 =>
      have hc2 := HF.out.sg w3 (d + 1) (i + 1) _ hd2 hr.symm (by nofun) HP3.out; rw [HCA.out] at hc2; have HC2 := hide hc2; rw [hr] at HQ; have hq : r = .ok (.mk kd noText 0 [t]) j2 := unhide HQ; subst hq; clear hr HQ hc2
      go_wp2_with fail; refine cm HC2.out ?_; rintro e' w4 ⟨⟨v, rfl, q, rfl, hn4⟩, hp4, ha4⟩; have HP4 := hide hp4; have HA4 := hide (HA3.out.next ha4)
      have HN4 : Hid (NAt (fun b => w.heap.size ≤ b) w4 t q) := NAt.mono (fun b hb _ => Nat.le_trans HA3.out.size hb) _ _ hn4; clear hp4 ha4 hn4 HC2; go_wp2_with fail; go_ret
      exact ⟨⟨_, rfl, (nv_row (NAts.cons HN4.out NAts.nil) HA4.out.size (by simp [maxLen]) #[nPtr q] rfl 1 rfl kd noText 0 _ rfl).nv⟩, (HP4.out.alloc _).alloc _, (HA4.out.alloc HA4.out.size _).alloc (by have := HA4.out.size; simp; omega) _⟩
   ·
    have HC1 := hide (rskip_no c X i s' hsn hx HPX.out); have HX := hide hx; clear hx hlk hsn; go_wp2_with fail; refine cm HC1.out ?_; rintro e' w3 ⟨rfl, hb3⟩; have HB3 := hide hb3; clear hb3 HC1 hnx hen k0 k1
    go_wp2_with fail
    go_roundg ((leftOf unM (seen.push e.born)).size)
    case measure => exact Nat.lt_of_lt_of_le HLF.out HLE.out
    case rel =>
     have hb3 := unhide HB3; have hi := unhide HIX
     refine ⟨seen.push e.born, Nat.le_refl _, ⟨⟨(hb3.block _ (lt_of_heap hi.it)).trans hi.it, (hb3.block _ (lt_of_heap hi.mp)).trans hi.mp⟩, HPX.out.later hb3, HBX.out.ap (Ap.of hb3), HAX.out.next (Ap.of hb3), ?_⟩⟩
     intro e2 he2 hc2 hk2; rw [Array.contains_push] at hc2
     cases hq : (e2.born == e.born) with
     | false =>
      rw [hq, Bool.or_false] at hc2; exact HSG.out.no e2 he2 hc2 hk2
     | true =>
      have hee : e2 = e := by
       have key : ∀ a ∈ unM.toList, ∀ b ∈ unM.toList, (a.born == b.born) = true → a = b := by
        have hl : unM.toList = [⟨.string tNot, .int .i64 32, 0⟩, ⟨.string tTypeof, .int .i64 33, 1⟩, ⟨.string tDelete, .int .i64 34, 2⟩] := rfl; rw [hl]; intro a ha b hb hab
        simp only [List.mem_cons, List.not_mem_nil, or_false] at ha hb
        rcases ha with rfl | rfl | rfl <;> rcases hb with rfl | rfl | rfl <;> first | rfl | (exact absurd hab (by decide))
       exact key e2 he2 e (left_mem HE.out).1 hq
      rw [hee, HKE.out] at hk2
      injection hk2 with hk3
      exact unhide HX hk3.symm
theorem grow_any (n : Nat) (hn : n ≤ 100000) (w : World) :
  Calls Tryz.prog 273 #[.slice none 0 0, .int .i64 (n : Int)] w fun e w' => (∃ v, e = .returned v ∧ w'.ownsRow w.heap.size 22 1 v 0 []) ∧ Below w.heap.size w w' := by
 obtain ⟨i0, hi0, hz0, hz1, hz2⟩ := info_parts info22
 by_cases h0 : n = 0
 ·
  subst h0; go_enter Tryz.func273, Tryz.ntmps273
  go_wp2
  go_ret; exact ⟨⟨_, rfl, rfl, Or.inl ⟨rfl, rfl⟩⟩, Below.refl _ _⟩
 ·
  have h1 : ¬ ((n : Int) < 0) := by omega
  have h4 : (n : Int) > 0 := by omega
  have hold : (Builtin.firstCells i0.size 0 (.slice none 0 0)).run Tryz.prog w.drew = .ok ([] : List Value).toArray w.drew := run_firstCells_none w.drew i0.size 0 0 0
  have hrz : ∀ ty, (Builtin.append_ #[46, 3] ty #[.slice none 0 0, .int .i64 (n : Int)]).run Tryz.prog w =
    .ok (.slice (some ⟨w.heap.size, 0, none⟩) (0 + n) (grownCap w (0 + n) 0 22)) (w.drew.alloc (.cells (([] : List Value).toArray ++ Builtin.zeroCells (Value.pointer none).cells n ++ Builtin.zeroCells (Value.pointer none).cells (grownCap w (0 + n) 0 22 - (0 + n))) 22)) := fun ty =>
   Lib.run_append_grow_zeros w 46 3 ty 22 i0 (.pointer none) .i64 .i64 Tryz.underlying46 Tryz.underlying3 hi0 hz0 none 0 0 [] hold n (by omega) (by rw [hz1]; decide) (by omega) (by omega) (by rw [hz2]; omega) (by rw [hz2]; exact growslice_fits (by omega) (by omega))
  have hGn : 0 + n ≤ grownCap w (0 + n) 0 22 := grownCap_ge w _ _ _; have hGm := grownCap_le_maxLen w (0 + n) 0 22 (by unfold maxLen; omega)
  obtain ⟨G, hG⟩ : ∃ G, G = grownCap w (0 + n) 0 22 := ⟨_, rfl⟩; rw [← hG] at hrz hGn hGm; have hG63 : G ≤ 9223372036854775807 := by unfold maxLen at hGm; omega
  have HGM := hide hGm; clear hold hG hGm; go_enter Tryz.func273, Tryz.ntmps273
  go_wp2_with (at_builtin; refine Lib.wpList_append_run _ rfl _ _ _ _ rfl _ _ rfl rfl _ _ (hrz _) ?_)
  all_goals
   go_ret; refine ⟨⟨_, rfl, rfl, Or.inr ⟨w.heap.size, G, _, rfl, Nat.le_refl _, heap_new _ _, Nat.zero_le _, HGM.out, ?_, rfl⟩⟩, ((Below.refl _ _).drew.alloc (Nat.le_refl _) _)⟩; simp [size_zeroCells]; omega
theorem NRow.shut {B : Nat} {w : World} {v : Value} {ts : List Tr} (h : NRow B w v ts) : ∃ a c, v = .slice a ts.length c := by
 obtain ⟨ps, hr, hk⟩ := h
 obtain ⟨a, c, hu⟩ := row_shut hr
 rw [NLs.length _ _ hk] at hu
 exact ⟨a, c, hu⟩
def lenS (tss : List (List Tr)) : Nat := (tss.map List.length).sum
section
variable {tss : List (List Tr)} {k : Nat} (hk : k < tss.length)
include tss k hk
theorem lenS_take : lenS (tss.take (k + 1)) = lenS (tss.take k) + tss[k].length := by
 unfold lenS
 rw [List.take_succ_eq_append_getElem hk, List.map_append, List.sum_append]
 simp only [List.map_cons, List.map_nil, List.sum_cons, List.sum_nil]
 omega
theorem lenS_le : lenS (tss.take k) + tss[k].length ≤ lenS tss := by
 have h := congrArg lenS (List.take_append_drop k tss)
 rw [List.drop_eq_getElem_cons hk] at h
 unfold lenS at h ⊢
 simp only [List.map_append, List.map_cons, List.sum_append, List.sum_cons] at h
 omega
end
theorem flat_len (tss : List (List Tr)) : tss.flatten.length = lenS tss := by unfold lenS; rw [List.length_flatten]
def ownVar (t : Tr) : List ByteArray := if t.kd == 2 then [t.tx] else []
mutual
def vw : Tr → List ByteArray
 | .mk kd tx _ ks => (if kd == 2 then [tx] else []) ++ (if kd == 5 || kd == 37 then [] else vws ks)
def vws : List Tr → List ByteArray
 | [] => []
 | t :: ts => vw t ++ vws ts
end
theorem vw_eq (t : Tr) : vw t = ownVar t ++ (if isFunT t then [] else vws t.kids) := by
 cases t with
 | mk kd tx n ks => rw [vw]; rfl
theorem vws_app : ∀ a b : List Tr, vws (a ++ b) = vws a ++ vws b
 | [], b => by simp [vws]
 | t :: a, b => by simp [vws, vws_app a b]
theorem vws_take (ts : List Tr) (k : Nat) (hk : k < ts.length) : vws (ts.take (k + 1)) = vws (ts.take k) ++ vw ts[k] := by
 rw [List.take_succ_eq_append_getElem hk, vws_app]
 simp [vws]
mutual
theorem vw_len : ∀ t : Tr, (vw t).length ≤ t.count
 | .mk kd tx n ks => by
  have h := vws_len ks; rw [vw, count_mk]
  split <;> split <;> simp <;> omega
theorem vws_len : ∀ ts : List Tr, (vws ts).length ≤ Tr.counts ts
 | [] => by simp [vws]
 | t :: ts => by
  have h1 := vw_len t; have h2 := vws_len ts; rw [vws, counts_cons]; simp; omega
end
structure GotS (b B : Nat) (l : List ByteArray) (w : World) : Prop where
 lt : b < B
 sz : B ≤ w.heap.size
 own : ∃ v, w.heap[b]? = some (.cells #[v] 38 (0, 0)) ∧ SRow B w v l
theorem GotS.drew {b B : Nat} {l : List ByteArray} {w : World} (h : GotS b B l w) : GotS b B l w.drew := ⟨h.lt, h.sz, h.own⟩
theorem srow_mono {B B' : Nat} {w : World} {v : Value} {l : List ByteArray} (h : SRow B w v l) (hB : B' ≤ B) : SRow B' w v l := by
 refine ⟨h.1, ?_⟩
 rcases h.2 with hn | ⟨g, cap, cur, hv, hb, rest⟩
 ·
  exact Or.inl hn
 ·
  exact Or.inr ⟨g, cap, cur, hv, by omega, rest⟩
abbrev varV (b : Nat) : Value := .func (.func 255) #[] #[.pointer (some ⟨b, 0, none⟩)]
def varsT (t : Tr) : List ByteArray := onceL (vws t.kids)
end Go.Proofs.YtoimgcjbcbhclaaGreatDoor
