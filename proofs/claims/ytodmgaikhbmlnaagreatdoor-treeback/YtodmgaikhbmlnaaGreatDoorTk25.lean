/-
  Tokens that the writer puts: close, endLine, opened, closes, put.
-/
import Derived.Test.YtodmgaikhbmlnaaGreatDoorTk24
import Derived.Test.YtodmgaikhbmlnaaGreatDoorTk5
import Derived.Test.YtodmgaikhbmlnaaGreatDoorTk8
import Derived.RegionTactic
import Derived.Test.YtodmgaikhbmlnaaGreatDoorTk22
import Derived.Lib.ItoaNum
set_option maxRecDepth 100000
set_option maxHeartbeats 16000000
namespace Go.Proofs.YtodmgaikhbmlnaaGreatDoor
open Go.RowKit

def openedB (t : ByteArray) : Bool := t.data.toList == [] || t.data.toList == [40] || t.data.toList == [33] || t.data.toList == [46] || t.data.toList == [123]
def closesB (t : ByteArray) : Bool := t.data.toList == [59] || t.data.toList == [44] || t.data.toList == [41] || t.data.toList == [58] || t.data.toList == [46] || t.data.toList == [125]

theorem opened_any {B b m : Nat} {out : List UInt8} {last : ByteArray} {w : World} (h : Wrt B b m out last w) :
    Calls Tryz.prog 173 #[wPtr b] w fun e w' => e = .returned (.bool (openedB last)) ∧ w' = w := by
  obtain ⟨c2, _, _⟩ := h.cells
  clear h
  go_enter Tryz.func173, Tryz.ntmps173
  go_wp2
  all_goals (go_ret; refine ⟨?_, rfl⟩; simp_all [openedB, ByteArray.toList_eq])

theorem closes_any (t : ByteArray) (w : World) :
    Calls Tryz.prog 174 #[.string t] w fun e w' => e = .returned (.bool (closesB t)) ∧ w' = w := by
  go_enter Tryz.func174, Tryz.ntmps174
  go_wp2
  all_goals (go_ret; refine ⟨?_, rfl⟩; simp_all [closesB, ByteArray.toList_eq])

theorem close_any {B b m : Nat} {out : List UInt8} {last : ByteArray} {w : World} (t : ByteArray) (h : Wrt B b m out last w) (hlen : out.length + t.size ≤ 100000000) :
    Calls Tryz.prog 175 #[wPtr b, .string t] w fun e w' => e = .returned (.tuple #[]) ∧ Wrt B b m (out ++ t.data.toList) t w' ∧ Kp B b w w' := by
  have HLO := hide h.lo
  have HC := hide (writeString_any t h hlen)
  clear h hlen
  go_enter Tryz.func175, Tryz.ntmps175
  go_wp2_with fail
  refine Calls.mono HC.out ?_
  rintro e w1 ⟨rfl, h1, hk1⟩
  obtain ⟨c2, _, cf⟩ := h1.cells
  have cf2 := cf 2
  have HW := hide (h1.last t)
  have HK := hide (hk1.setCell (unhide HLO) 2 (.string t))
  clear h1 hk1 HC cf
  go_wp2_with fail
  go_end0
  exact ⟨rfl, unhide HW, unhide HK⟩

theorem endLine_any {B b m : Nat} {out : List UInt8} {last : ByteArray} {w : World} (h : Wrt B b m out last w) (hlen : out.length + 1 ≤ 100000000) :
    Calls Tryz.prog 56 #[wPtr b] w fun e w' => e = .returned (.tuple #[]) ∧ Wrt B b m (out ++ [10]) ⟨#[]⟩ w' ∧ Kp B b w w' := by
  have HLO := hide h.lo
  have HC := hide (writeByte_any 10 h hlen)
  clear h hlen
  go_enter Tryz.func56, Tryz.ntmps56
  go_wp2_with fail
  refine Calls.mono HC.out ?_
  rintro e w1 ⟨rfl, h1, hk1⟩
  obtain ⟨c2, _, cf⟩ := h1.cells
  have cf2 := cf 2
  have HW := hide (h1.last ⟨#[]⟩)
  have HK := hide (hk1.setCell (unhide HLO) 2 (.string ⟨#[]⟩))
  clear h1 hk1 HC cf
  go_wp2_with fail
  go_end0
  exact ⟨rfl, unhide HW, unhide HK⟩

/-- What a writer has written: its bytes, and the token that was put last. -/
abbrev WS := List UInt8 × ByteArray
def closeS (t : ByteArray) (s : WS) : WS := (s.1 ++ t.data.toList, t)
def blankS (s : WS) : WS := (s.1 ++ [32], s.2)
def putS (t : ByteArray) (s : WS) : WS := closeS t (if (!openedB s.2) && (!closesB t) then blankS s else s)
def putsS (ts : List ByteArray) (s : WS) : WS := ts.foldl (fun s t => putS t s) s
def endS (s : WS) : WS := (s.1 ++ [10], ⟨#[]⟩)
def sumT (ts : List ByteArray) : Nat := (ts.map fun t => t.size + 1).sum

theorem putS_len (t : ByteArray) (s : WS) : (putS t s).1.length ≤ s.1.length + (t.size + 1) := by
  have : t.data.toList.length = t.size := rfl
  unfold putS closeS blankS
  split <;> simp [this] <;> omega

theorem sumT_take {ts : List ByteArray} {k : Nat} (hk : k < ts.length) : sumT (ts.take k) + (ts[k].size + 1) + sumT (ts.drop (k + 1)) = sumT ts := by
  have h := congrArg sumT (List.take_append_drop k ts)
  rw [List.drop_eq_getElem_cons hk] at h
  simp only [sumT, List.map_append, List.sum_append, List.map_cons, List.sum_cons] at h ⊢
  omega

theorem sumT_len (ts : List ByteArray) : ts.length ≤ sumT ts := by
  induction ts with
  | nil => simp
  | cons t ts ih => simp [sumT] at ih ⊢; omega

theorem putsS_len (ts : List ByteArray) : ∀ s : WS, (putsS ts s).1.length ≤ s.1.length + sumT ts := by
  induction ts with
  | nil => intro s; simp [putsS, sumT]
  | cons t ts ih =>
    intro s
    have h1 := putS_len t s
    have h2 := ih (putS t s)
    have h3 : sumT (t :: ts) = (t.size + 1) + sumT ts := by simp [sumT]
    have h4 : putsS (t :: ts) s = putsS ts (putS t s) := rfl
    rw [h4, h3]
    omega

theorem putsS_take {ts : List ByteArray} {k : Nat} (hk : k < ts.length) (s : WS) : putsS (ts.take (k + 1)) s = putS ts[k] (putsS (ts.take k) s) := by
  rw [List.take_succ_eq_append_getElem hk]
  simp only [putsS, List.foldl_append, List.foldl_cons, List.foldl_nil]

theorem put_any {B b m : Nat} {s : WS} {w : World} (ts : List ByteArray) (g : Nat) (n : Nat) (hn : n = ts.length) (cs : Array Value) (hcs : cs.toList = ts.map Value.string) (hg : w.heap[g]? = some (.cells cs 9 (0, 0))) (hgb : g ≠ b) (h : Wrt B b m s.1 s.2 w) (hlen : s.1.length + sumT ts ≤ 100000000) :
    Calls Tryz.prog 115 #[wPtr b, .slice (some ⟨g, 0, none⟩) n n] w fun e w' => e = .returned (.tuple #[]) ∧ Wrt B b m (putsS ts s).1 (putsS ts s).2 w' ∧ Kp B b w w' := by
  subst hn
  have hl8 : ts.length ≤ 100000000 := by have := sumT_len ts; omega
  have HG := hide hg
  have HH := hide h
  clear hg h
  have hcell : ∀ k (hk : k < ts.length), cs[k]? = some (.string ts[k]) := by
    intro k hk
    rw [← Array.getElem?_toList, hcs]
    simp [hk]
  have HCELL := hide hcell
  clear hcell hcs
  go_enter Tryz.func115, Tryz.ntmps115
  go_wp2_with fail
  go_loopw [8] (fun i wr => ∃ k : Nat, k ≤ ts.length ∧ i = .int .i64 k ∧ Wrt B b m (putsS (ts.take k) s).1 (putsS (ts.take k) s).2 wr ∧ Kp B b w wr) (fun i _ => ts.length - (intOf i).toNat)
  case atStart => exact ⟨0, Nat.zero_le _, rfl, unhide HH, Kp.refl _ _ _⟩
  case round =>
    obtain ⟨k, hk, rfl, hw, hkp⟩ := hrel
    have HW := hide hw
    have HK := hide hkp
    clear hw hkp
    by_cases hlt : k < ts.length
    · have hst := sumT_take hlt
      have hpl := putsS_len (ts.take k) s
      have hgr : wr.heap[g]? = some (.cells cs 9 (0, 0)) := (unhide HK).kept g _ (unhide HG) (by simpa using hgb) (by intro c fz e; cases e)
      have hck : wr.cell? ⟨g, k, none⟩ = some (.string ts[k]) := by rw [Lib.cell_of_heap hgr]; exact unhide HCELL k hlt
      have HPT := hide (putsS_take hlt s)
      generalize hS : putsS (ts.take k) s = S at HW HPT hpl
      clear hS
      have HC1 := hide (opened_any (unhide HW))
      obtain ⟨t, ht⟩ : ∃ t, t = ts[k] := ⟨_, rfl⟩
      rw [← ht] at hck HPT hst
      clear ht hgr
      go_wp2_with fail
      refine Calls.mono HC1.out ?_
      rintro e w1 ⟨rfl, rfl⟩
      clear HC1
      have hsz : t.data.toList.length = t.size := rfl
      cases hop : openedB S.2 with
      | true =>
        have HC2 := hide (close_any t (unhide HW) (by omega))
        have HP : Hid (putS t S = closeS t S) := by unfold putS; rw [hop]; rfl
        clear hop
        go_wp2_with fail
        refine Calls.mono HC2.out ?_
        rintro e w2 ⟨rfl, h2, hk2⟩
        have HW2 := hide h2
        have HK2 := hide ((unhide HK).trans hk2)
        clear h2 hk2 HC2
        go_wp2_with fail
        go_roundw
        case rel => exact ⟨k + 1, by omega, by go_num, by rw [unhide HPT, unhide HP]; exact unhide HW2, unhide HK2⟩
        case measure => simp [intOf]; omega
      | false =>
        have HC2 := hide (closes_any t w1)
        go_wp2_with fail
        refine Calls.mono HC2.out ?_
        rintro e w2 ⟨rfl, rfl⟩
        clear HC2
        cases hcl : closesB t with
        | true =>
          have HC2 := hide (close_any t (unhide HW) (by omega))
          have HP : Hid (putS t S = closeS t S) := by unfold putS; rw [hop, hcl]; rfl
          clear hop hcl
          go_wp2_with fail
          refine Calls.mono HC2.out ?_
          rintro e w3 ⟨rfl, h2, hk2⟩
          have HW2 := hide h2
          have HK2 := hide ((unhide HK).trans hk2)
          clear h2 hk2 HC2
          go_wp2_with fail
          go_roundw
          case rel => exact ⟨k + 1, by omega, by go_num, by rw [unhide HPT, unhide HP]; exact unhide HW2, unhide HK2⟩
          case measure => simp [intOf]; omega
        | false =>
          have HC2 := hide (writeByte_any 32 (unhide HW) (by omega))
          have HP : Hid (putS t S = closeS t (blankS S)) := by unfold putS; rw [hop, hcl]; rfl
          clear hop hcl
          go_wp2_with fail
          refine Calls.mono HC2.out ?_
          rintro e w3 ⟨rfl, h2, hk2⟩
          have HW2 := hide h2
          have HK2 := hide ((unhide HK).trans hk2)
          clear h2 hk2 HC2
          have HC3 := hide (close_any t (unhide HW2) (by simp; omega))
          go_wp2_with fail
          refine Calls.mono HC3.out ?_
          rintro e w4 ⟨rfl, h3, hk3⟩
          have HW3 := hide h3
          have HK3 := hide ((unhide HK2).trans hk3)
          clear h3 hk3 HC3
          go_wp2_with fail
          go_roundw
          case rel => exact ⟨k + 1, by omega, by go_num, by rw [unhide HPT, unhide HP]; exact unhide HW3, unhide HK3⟩
          case measure => simp [intOf]; omega
    · have hk2 : k = ts.length := by omega
      subst hk2
      rw [List.take_length] at HW
      go_wp2_with fail
      go_end0
      exact ⟨rfl, unhide HW, unhide HK⟩

/-- Tokens put in a call that is written out. -/
theorem put_new {B b m : Nat} {s : WS} {w : World} (ts : List ByteArray) (n : Nat) (hn : n = ts.length) (cs : Array Value) (hcs : cs.toList = ts.map Value.string) (h : Wrt B b m s.1 s.2 w) (hlen : s.1.length + sumT ts ≤ 100000000) :
    Calls Tryz.prog 115 #[wPtr b, .slice (some ⟨w.heap.size, 0, none⟩) n n] (w.alloc (.cells cs 9)) fun e w' => e = .returned (.tuple #[]) ∧ Wrt B b m (putsS ts s).1 (putsS ts s).2 w' ∧ Kp B b w w' := by
  have hlt := h.lt
  have hlo := h.lo
  refine (put_any ts w.heap.size n hn cs hcs (heap_new _ _) (by omega) (h.alloc _) hlen).mono ?_
  rintro e w' ⟨rfl, h1, h2⟩
  exact ⟨rfl, h1, ((Kp.refl B b w).alloc (by omega) _).trans h2⟩

def mkEI (e : (Int × Value) × Nat) : MapEntry := { key := .int .i64 e.1.1, val := e.1.2, born := e.2 }
def mapI (l : List (Int × Value)) : Array MapEntry := ((l.zipIdx).map mkEI).toArray
def kdMap : Array MapEntry := mapI (sgs.map fun e => (e.kd, sgV e))
def sgK (k : Int) : Option Sg := sgs.find? (fun e => decide (k = e.kd))

theorem find_entI (s : Int) : ∀ (l : List (Int × Value)) (n i : Nat),
    ∃ o, Instr.findNow (.int .i64) (.int .i64 s) ((l.zipIdx n).map mkEI) i = some o ∧ o.map (·.2) = (l.find? (fun e => decide (s = e.1))).map (·.2)
  | [], n, i => ⟨none, rfl, rfl⟩
  | e :: l, n, i => by
    have hb : (s == e.1) = decide (s = e.1) := rfl
    simp only [List.zipIdx_cons, List.map_cons, Instr.findNow, mkEI, Instr.sameNow, if_true, hb, List.find?_cons]
    cases h : decide (s = e.1)
    · simp only
      exact find_entI s l (n + 1) (i + 1)
    · exact ⟨some (i, e.2), rfl, rfl⟩

theorem lookup_mapI (T E : TypeId) (m k : Nat) (l : List (Int × Value)) (s : Int) (z : Value) (W : World) (hT : Tryz.prog.underlying T = some (.map 3 E)) (hm : W.heap[m]? = some (.map (mapI l) k)) (hz : (zeroValue E).run Tryz.prog W = .ok z W) :
    (Instr.lookup T (.map (some m)) (.int .i64 s) true).run Tryz.prog W = .ok (.tuple #[((l.find? (fun e => decide (s = e.1))).map (·.2)).getD z, .bool (l.find? (fun e => decide (s = e.1))).isSome]) W := by
  obtain ⟨o, h1, h2⟩ := find_entI s l 0 0
  have h9 := Tryz.underlying3
  have h3 : (Instr.findKey 3 (.int .i64 s) (mapI l).toList).run Tryz.prog W = .ok o W := by
    unfold Instr.findKey
    rw [Sem.run_bind, run_underlying h9 W]
    simp only [Result.andThen_ok, mapI]
    rw [h1]
    rfl
  unfold Instr.lookup
  rw [Sem.run_bind, run_underlying hT W]
  have hck : ∀ b, (Instr.checkKey b 10000 3 (.int .i64 s)).run Tryz.prog W = .ok () W := by
    intro b
    rw [Instr.checkKey, Sem.run_bind, run_underlying h9 W]
    rfl
  have hg : (getObj m).run Tryz.prog W = .ok (.map (mapI l) k) W := by simp [getObj, Sem.run, hm]
  simp only [Result.andThen_ok, Sem.run_bind, hg, Sem.run_pure, hck, h3]
  cases o with
  | none =>
    cases hf : l.find? (fun e => decide (s = e.1)) with
    | none => simp [hz]
    | some x => rw [hf] at h2; simp at h2
  | some y =>
    cases hf : l.find? (fun e => decide (s = e.1)) with
    | none => rw [hf] at h2; simp at h2
    | some x => rw [hf] at h2; simp at h2; simp [h2]

theorem mapI_snoc (l : List (Int × Value)) (k : Int) (v : Value) : (mapI l).push { key := .int .i64 k, val := v, born := l.length } = mapI (l ++ [(k, v)]) := by
  unfold mapI
  rw [List.zipIdx_append, List.map_append]
  simp [mkEI, List.zipIdx]

theorem updateI_new (T E : TypeId) (m : Nat) (l : List (Int × Value)) (s : Int) (v : Value) (W : World) (hT : Tryz.prog.underlying T = some (.map 3 E)) (hm : W.heap[m]? = some (.map (mapI l) l.length)) (hn : l.find? (fun e => decide (s = e.1)) = none) :
    (Instr.mapUpdate T (.map (some m)) (.int .i64 s) v).run Tryz.prog W = .ok () (setMap W m (.map (mapI (l ++ [(s, v)])) (l.length + 1))) := by
  obtain ⟨o, h1, h2⟩ := find_entI s l 0 0
  have h9 := Tryz.underlying3
  have ho : o = none := by
    rw [hn] at h2
    cases o with
    | none => rfl
    | some y => simp at h2
  subst ho
  have h3 : (Instr.findKey 3 (.int .i64 s) (mapI l).toList).run Tryz.prog W = .ok none W := by
    unfold Instr.findKey
    rw [Sem.run_bind, run_underlying h9 W]
    simp only [Result.andThen_ok, mapI]
    rw [h1]
    rfl
  have hck : ∀ b, (Instr.checkKey b 10000 3 (.int .i64 s)).run Tryz.prog W = .ok () W := by
    intro b
    rw [Instr.checkKey, Sem.run_bind, run_underlying h9 W]
    rfl
  have hg : (getObj m).run Tryz.prog W = .ok (.map (mapI l) l.length) W := by simp [getObj, Sem.run, hm]
  unfold Instr.mapUpdate
  rw [Sem.run_bind, run_underlying hT W]
  simp only [Result.andThen_ok, Sem.run_bind, hg, hck, h3]
  rw [mapI_snoc]
  simp [setObj, Sem.run, hm, setMap]

def sgLK (j : Nat) : List (Int × Value) := (sgs.take j).map fun e => (e.kd, sgV e)
theorem sgLK_len {j : Nat} (hj : j ≤ 14) : (sgLK j).length = j := by
  unfold sgLK
  rw [List.length_map, List.length_take]
  have : sgs.length = 14 := rfl
  omega
theorem sgLK_next {j : Nat} (hj : j < 14) : sgLK (j + 1) = sgLK j ++ [((sgs.getD j ⟨noText, 0, 0, 0⟩).kd, sgV (sgs.getD j ⟨noText, 0, 0, 0⟩))] := by
  have h : j = 0 ∨ j = 1 ∨ j = 2 ∨ j = 3 ∨ j = 4 ∨ j = 5 ∨ j = 6 ∨ j = 7 ∨ j = 8 ∨ j = 9 ∨ j = 10 ∨ j = 11 ∨ j = 12 ∨ j = 13 := by omega
  rcases h with rfl | rfl | rfl | rfl | rfl | rfl | rfl | rfl | rfl | rfl | rfl | rfl | rfl | rfl <;> rfl
theorem sgLK_new {j : Nat} (hj : j < 14) : (sgLK j).find? (fun e => decide ((sgs.getD j ⟨noText, 0, 0, 0⟩).kd = e.1)) = none := by
  have key : ∀ j, j < 14 → ((sgs.take j).map (·.kd)).find? (fun e => decide ((sgs.getD j ⟨noText, 0, 0, 0⟩).kd = e)) = none := by decide +kernel
  have := key j hj
  unfold sgLK
  rw [List.find?_map] at this ⊢
  simpa [Function.comp_def] using this

theorem signsByKind_any (w : World) (t : TypeId) (fr : Nat × Nat) (hg : w.heap[4]? = some (.cells sgCells t fr)) :
    Calls Tryz.prog 114 #[] w fun e w' => e = .returned (.map (some w.heap.size)) ∧ w'.heap[w.heap.size]? = some (.map kdMap 14) ∧ Below w.heap.size w w' := by
  have HG : Hid ((w.alloc (.map #[] 0)).heap[4]? = some (.cells sgCells t fr)) := (Below.heap_alloc w _ 4 (lt_of_heap hg)).trans hg
  obtain ⟨cs, hcs⟩ : ∃ cs, cs = sgCells := ⟨_, rfl⟩
  have hix : ∀ k : Nat, k < 14 → ∀ W, (Instr.index 176 (.agg cs) (.int .i64 (k : Int))).run Tryz.prog W = .ok (sgV (sgs.getD k ⟨noText, 0, 0, 0⟩)) W := by rw [hcs]; exact sgIdx
  have hsz : cs.size = 56 := by rw [hcs]; exact sgSize
  rw [← hcs] at HG
  have HIX := hide hix
  have Hsz := hide hsz
  have hmk := mkMap 85
  clear hg hix hcs hsz
  go_enter Tryz.func114, Tryz.ntmps114
  go_wp2_with (refine wpList_load_row rfl 176 _ rfl 4 rfl t cs fr _ (unhide HG) Tryz.underlying176 rfl (by rw [unhide Hsz]; kernel_rfl) ?_)
  go_loopw [6] (fun i wr => ∃ j : Nat, j ≤ 14 ∧ i = .int .i64 j ∧ wr.heap[w.heap.size]? = some (.map (mapI (sgLK j)) j) ∧ Below w.heap.size w wr) (fun i _ => 14 - (intOf i).toNat)
  case atStart => exact ⟨0, Nat.zero_le _, rfl, heap_new _ _, (Below.refl _ _).alloc (Nat.le_refl _) _⟩
  case round =>
    obtain ⟨j, hj, rfl, hm, hb⟩ := hrel
    have HM := hide hm
    have HB := hide hb
    clear hm hb
    by_cases hlt : j < 14
    · have hck := unhide HIX j hlt
      obtain ⟨x, hx⟩ : ∃ x, x = sgs.getD j ⟨noText, 0, 0, 0⟩ := ⟨_, rfl⟩
      have hm2 : (wr.alloc (.cells #[.string x.tx, .int .i64 x.kd, .int .i64 x.parts, .int .i64 x.str] 175)).heap[w.heap.size]? = some (.map (mapI (sgLK j)) (sgLK j).length) := by
        rw [sgLK_len (by omega)]
        exact (Below.heap_alloc _ _ _ (lt_of_heap (unhide HM))).trans (unhide HM)
      have hup := updateI_new 85 175 w.heap.size (sgLK j) x.kd (sgV x) _ Tryz.underlying85 hm2 (by rw [hx]; exact sgLK_new hlt)
      rw [← hx] at hck
      have HX := hide hx
      have HM2 := hide hm2
      simp only [sgV] at hck hup
      clear hx hm2
      go_wp2_with fail
      go_roundw
      case rel =>
        refine ⟨j + 1, by omega, by go_num, ?_, setMap_below ((unhide HB).alloc (unhide HB).size _) (Nat.le_refl _)⟩
        rw [setMap_at (by simp; have := (unhide HB).size; omega), sgLK_next hlt, ← unhide HX, sgLK_len (by omega)]
        rfl
      case measure => simp [intOf]; omega
    · have hj14 : j = 14 := by omega
      subst hj14
      go_wp2_with fail
      go_ret
      exact ⟨rfl, unhide HM, unhide HB⟩

theorem newWriter_any (w : World) (t : TypeId) (fr : Nat × Nat) (hg : w.heap[4]? = some (.cells sgCells t fr)) :
    Calls Tryz.prog 54 #[] w fun e w' => ∃ b m, e = .returned (wPtr b) ∧ Wrt w.heap.size b m [] ⟨#[]⟩ w' ∧ w'.heap[m]? = some (.map kdMap 14) ∧ m ≠ b ∧ Below w.heap.size w w' := by
  have HC := hide (signsByKind_any w t fr hg)
  clear hg
  go_enter Tryz.func54, Tryz.ntmps54
  go_wp2_with fail
  refine Calls.mono HC.out ?_
  rintro e w1 ⟨rfl, hm, hb⟩
  have HM := hide hm
  have HB := hide hb
  have HZ := hide (lt_of_heap hm)
  clear hm hb HC
  go_wp2_with fail
  go_ret
  refine ⟨w1.heap.size, w.heap.size, rfl, Or.inl ⟨(unhide HB).size, .slice none 0 0, heap_new _ _, ⟨rfl, Or.inl ⟨rfl, rfl⟩⟩, by simp [Value.ownBlock]⟩, ?_, ?_, (unhide HB).alloc (unhide HB).size _⟩
  · rw [Below.heap_alloc w1 _ _ (unhide HZ)]; exact unhide HM
  · have := unhide HZ; omega

/-- How strong a value is. -/
def strK (kd : Int) : Int := if kd = 24 then 1 else if kd = 35 ∨ kd = 36 then 9 else match sgK kd with | some s => s.str | none => 10

theorem look_kinds (m : Nat) (s : Int) (W : World) (h : W.heap[m]? = some (.map kdMap 14)) :
    (Instr.lookup 85 (.map (some m)) (.int .i64 s) true).run Tryz.prog W = .ok (.tuple #[sgVO (sgK s), .bool (sgK s).isSome]) W := by
  rw [lookup_mapI 85 175 m 14 _ s noSg W Tryz.underlying85 h (by kernel_rfl)]
  unfold sgK
  rw [List.find?_map]
  simp only [Function.comp_def]
  cases sgs.find? (fun e => decide (s = e.kd)) <;> rfl

theorem strength_any {B b m : Nat} {out : List UInt8} {last : ByteArray} {w : World} (h : Wrt B b m out last w) (hm : w.heap[m]? = some (.map kdMap 14)) (p : Nat) (kd : Int) (hp : w.cell? ⟨p, 0, none⟩ = some (.int .i64 kd)) (hpl : p < w.heap.size) :
    Calls Tryz.prog 228 #[wPtr b, nPtr p] w fun e w' => e = .returned (.int .i64 (strK kd)) ∧ Below w.heap.size w w' := by
  obtain ⟨_, c3, _⟩ := h.cells
  have hbl := h.lt
  have hml := lt_of_heap hm
  clear h
  by_cases h24 : kd = 24
  · subst h24
    clear hm
    go_enter Tryz.func228, Tryz.ntmps228
    go_wp2_with fail
    go_ret
    exact ⟨rfl, Below.refl _ _⟩
  · have e24 : (kd == 24) = false := beq_eq_false_iff_ne.2 h24
    by_cases h35 : kd = 35
    · subst h35
      clear hm
      go_enter Tryz.func228, Tryz.ntmps228
      go_wp2_with fail
      go_ret
      exact ⟨rfl, Below.refl _ _⟩
    · have e35 : (kd == 35) = false := beq_eq_false_iff_ne.2 h35
      by_cases h36 : kd = 36
      · subst h36
        clear hm
        go_enter Tryz.func228, Tryz.ntmps228
        go_wp2_with fail
        go_ret
        exact ⟨rfl, Below.refl _ _⟩
      · have e36 : (kd == 36) = false := beq_eq_false_iff_ne.2 h36
        have hk : strK kd = match sgK kd with | some s => s.str | none => 10 := by
          unfold strK
          rw [if_neg h24, if_neg (by omega)]
        have l1 := look_kinds m kd w.drew hm
        have l2 := fun o => look_kinds m kd (w.alloc o).drew ((Below.heap_alloc w o m hml).trans hm)
        have HK := hide hk
        clear hm h24 h35 h36 hk
        cases hs : sgK kd with
        | none =>
          rw [hs] at l1 l2 HK
          simp only [sgVO, noSg, Option.isSome_none] at l1 l2
          clear hs
          go_enter Tryz.func228, Tryz.ntmps228
          go_wp2_with fail
          go_region
          all_goals
            go_wp2_with fail
            go_ret
            exact ⟨by rw [unhide HK]; rfl, (Below.refl _ _).drew.alloc (Nat.le_refl _) _⟩
        | some x =>
          rw [hs] at l1 l2 HK
          simp only [sgVO, sgV, Option.isSome_some] at l1 l2
          clear hs
          go_enter Tryz.func228, Tryz.ntmps228
          go_wp2_with fail
          go_region
          all_goals
            go_wp2_with fail
            go_ret
            exact ⟨by rw [unhide HK]; rfl, (Below.refl _ _).drew.alloc (Nat.le_refl _) _⟩
end Go.Proofs.YtodmgaikhbmlnaaGreatDoor
namespace Go.Proofs.YtodmgaikhbmlnaaGreatDoor

def noTr : Tr := .mk 0 noText 0 []
def Tr.kid (t : Tr) (j : Nat) : Tr := t.kids.getD j noTr
def itoaB (n : Int) : ByteArray := ⟨(Lib.itoa n).toArray⟩
/-- A string's byte, as it is written. -/
def quoteC (c : UInt8) : List UInt8 := if c = 10 then [92, 110] else if c = 39 ∨ c = 92 then [92, c] else [c]
def quoteL (l : List UInt8) : List UInt8 := [39] ++ l.flatMap quoteC ++ [39]
def quoteB (s : ByteArray) : ByteArray := ⟨(quoteL s.data.toList).toArray⟩
def hdText (k : Int) : ByteArray := ((hds.find? (fun e => decide (e.2 = k))).map (·.1)).getD noText

structure WF where
  vl : Tr → Int → WS → WS
  st : Tr → WS → WS

section
variable (F : WF)
def parW (t : Tr) (s : WS) : WS := putsS [tShut] (F.vl t 1 (putsS [tOpen] s))
def commasW : Bool → List Tr → WS → WS
  | _, [], s => s
  | f, t :: ts, s => commasW false ts (F.vl t 1 (if f then s else putsS [tComma] s))
def listW (opn shut : ByteArray) (ts : List Tr) (s : WS) : WS := putsS [shut] (commasW F true ts (closeS opn s))
def objectW (t : Tr) (s : WS) : WS := putsS [tRBrace] (commasW F true t.kids (putsS [tLBrace] s))
def stsW (ts : List Tr) (s : WS) : WS := ts.foldl (fun s k => F.st k s) s
def vlsW (ts : List Tr) (s : WS) : WS := ts.foldl (fun s k => F.vl k 1 s) s
def blockW (t : Tr) (s : WS) : WS := putsS [tRBrace] (stsW F t.kids (putsS [tLBrace] s))
def functionW (t : Tr) (s : WS) : WS :=
  blockW F (t.kid 1) (listW F tOpen tShut (t.kid 0).kids (if t.tx = noText then putsS [tFunction] s else putsS [t.tx] (putsS [tFunction] s)))
def signedW (t : Tr) (g : Sg) (s : WS) : WS :=
  if g.parts = 2 then F.vl (t.kid 1) (g.str + 1) (putsS [g.tx] (F.vl (t.kid 0) g.str s))
  else if g.parts = 1 then F.vl (t.kid 0) g.str (putsS [g.tx] s)
  else putsS [g.tx] s
def coreW (t : Tr) (s : WS) : WS :=
  match sgK t.kd with
  | some g => signedW F t g s
  | none =>
    if t.kd = 17 then putsS [itoaB t.n] s
    else if t.kd = 18 then putsS [quoteB t.tx] s
    else if t.kd = 23 then putsS [t.tx] s
    else if t.kd = 24 then F.vl (t.kid 1) 1 (putsS [tEq] (F.vl (t.kid 0) 9 s))
    else if t.kd = 36 then putsS [tDot, t.tx] (F.vl (t.kid 0) 9 s)
    else if t.kd = 35 then listW F tOpen tShut (t.kids.drop 1) (F.vl (t.kid 0) 9 s)
    else if t.kd = 37 then functionW F t s
    else if t.kd = 38 then objectW F t s
    else if t.kd = 39 then F.vl (t.kid 0) 1 (putsS [t.tx, tColon] s)
    else s
def valueW (t : Tr) (least : Int) (s : WS) : WS := if strK t.kd < least then parW F t s else coreW F t s
def lastW (t : Tr) (s : WS) : WS := putsS [tSemi] (vlsW F t.kids s)
def behindW (t : Tr) (s : WS) : WS :=
  let s2 := F.st (t.kid 1) (putsS [tShut] (F.vl (t.kid 0) 1 (putsS [hdText t.kd, tOpen] s)))
  if 2 < t.kids.length then F.st (t.kid 2) (putsS [tElse] s2) else s2
def tryW (k : Tr) (s : WS) : WS :=
  if k.kd = 6 then blockW F k s
  else if k.kd = 13 then blockW F (k.kid 0) (putsS [tCatch, tOpen, k.tx, tShut] s)
  else if k.kd = 14 then blockW F (k.kid 0) (putsS [tFinally] s)
  else s
def attemptW (t : Tr) (s : WS) : WS := t.kids.foldl (fun s k => tryW F k s) (putsS [tTry] s)
end

def opensK (kd : Int) : Bool := kd == 24 || kd == 36 || kd == 35 || kd == 25 || kd == 26 || kd == 27 || kd == 28 || kd == 29 || kd == 30 || kd == 31
/-- Does a value begin as another statement does? -/
def opensW : Nat → Tr → Bool
  | 0, _ => false
  | k + 1, t =>
    if t.kd = 37 ∨ t.kd = 38 then true
    else if opensK t.kd = true then (if strK (t.kid 0).kd < strK t.kd then false else opensW k (t.kid 0))
    else false

section
variable (F : WF)
def exprW (t : Tr) (s : WS) : WS := putsS [tSemi] (if opensW (t.kid 0).count (t.kid 0) then parW F (t.kid 0) s else F.vl (t.kid 0) 1 s)
def emptyW (s : WS) : WS := closeS tSemi (if openedB s.2 then s else blankS s)
def statementW (t : Tr) (s : WS) : WS :=
  if t.kd = 2 ∨ t.kd = 3 ∨ t.kd = 4 then lastW F t (if 0 < t.kids.length then putsS [tEq] (putsS [hdText t.kd, t.tx] s) else putsS [hdText t.kd, t.tx] s)
  else if t.kd = 10 ∨ t.kd = 11 then lastW F t (putsS [hdText t.kd] s)
  else if t.kd = 5 then functionW F t s
  else if t.kd = 6 then blockW F t s
  else if t.kd = 7 ∨ t.kd = 8 ∨ t.kd = 9 then behindW F t s
  else if t.kd = 12 then attemptW F t s
  else if t.kd = 15 then exprW F t s
  else if t.kd = 16 then emptyW s
  else s
end
def wf : Nat → WF
  | 0 => ⟨fun _ _ s => s, fun _ s => s⟩
  | k + 1 => ⟨valueW (wf k), statementW (wf k)⟩

def textW (F : WF) (t : Tr) : WS := t.kids.foldl (fun s k => endS (F.st k s)) ([], noText)

mutual
/-- More than what a part takes when it is written. -/
def Tr.cost : Tr → Nat
  | .mk _ tx _ ks => 80 + 3 * tx.size + Tr.costs ks
def Tr.costs : List Tr → Nat
  | [] => 0
  | t :: ts => t.cost + Tr.costs ts
end
end Go.Proofs.YtodmgaikhbmlnaaGreatDoor
namespace Go.Proofs.YtodmgaikhbmlnaaGreatDoor

abbrev TS := Int × ByteArray × Int
abbrev sgT (x : ByteArray) : TS := (5, x, 0)
abbrev wdT (x : ByteArray) : TS := (2, x, 0)
abbrev nmT (x : ByteArray) : TS := (1, x, 0)
def wordL : List ByteArray := [tTypeof, tDelete, tTrue, tFalse, tNull, tUndef]
/-- A sign's own token: a word or a sign. -/
def siT (x : ByteArray) : TS := if wordL.any (fun y => decide (x = y)) then (2, x, 0) else (5, x, 0)
def wrapT (c : Int × List TS) (least : Int) : List TS := if strK c.1 < least then sgT tOpen :: (c.2 ++ [sgT tShut]) else c.2
def commaT : List (List TS) → List TS
  | [] => []
  | [a] => a
  | a :: b :: r => a ++ sgT tComma :: commaT (b :: r)
def coreB (kd : Int) (tx : ByteArray) (n : Int) (ks : List Tr) (cs : List (Int × List TS)) : List TS :=
  let c0 := cs.getD 0 (0, [])
  let c1 := cs.getD 1 (0, [])
  let c2 := cs.getD 2 (0, [])
  match sgK kd with
  | some g => if g.parts = 2 then wrapT c0 g.str ++ siT g.tx :: wrapT c1 (g.str + 1) else if g.parts = 1 then siT g.tx :: wrapT c0 g.str else [siT g.tx]
  | none =>
    if kd = 17 then [(3, noText, n)]
    else if kd = 18 then [(4, tx, 0)]
    else if kd = 23 then [nmT tx]
    else if kd = 24 then wrapT c0 9 ++ sgT tEq :: wrapT c1 1
    else if kd = 36 then wrapT c0 9 ++ [sgT tDot, nmT tx]
    else if kd = 35 then wrapT c0 9 ++ sgT tOpen :: (commaT ((cs.drop 1).map fun c => wrapT c 1) ++ [sgT tShut])
    else if kd = 37 then wdT tFunction :: ((if tx = noText then [] else [nmT tx]) ++ c0.2 ++ c1.2)
    else if kd = 38 then sgT tLBrace :: (commaT (cs.map (·.2)) ++ [sgT tRBrace])
    else if kd = 39 then nmT tx :: sgT tColon :: wrapT c0 1
    else if kd = 40 then sgT tOpen :: (commaT (cs.map (·.2)) ++ [sgT tShut])
    else if kd = 2 ∨ kd = 3 ∨ kd = 4 then wdT (hdText kd) :: nmT tx :: ((if 0 < cs.length then sgT tEq :: wrapT c0 1 else []) ++ [sgT tSemi])
    else if kd = 10 ∨ kd = 11 then wdT (hdText kd) :: ((if 0 < cs.length then wrapT c0 1 else []) ++ [sgT tSemi])
    else if kd = 5 then wdT tFunction :: nmT tx :: (c0.2 ++ c1.2)
    else if kd = 6 then sgT tLBrace :: ((cs.map (·.2)).flatten ++ [sgT tRBrace])
    else if kd = 7 ∨ kd = 8 ∨ kd = 9 then wdT (hdText kd) :: sgT tOpen :: (wrapT c0 1 ++ sgT tShut :: (c1.2 ++ if 2 < cs.length then wdT tElse :: c2.2 else []))
    else if kd = 12 then wdT tTry :: (cs.map (·.2)).flatten
    else if kd = 13 then wdT tCatch :: sgT tOpen :: nmT tx :: sgT tShut :: c0.2
    else if kd = 14 then wdT tFinally :: c0.2
    else if kd = 15 then (if opensW ((ks.getD 0 noTr).count) (ks.getD 0 noTr) = true then sgT tOpen :: (c0.2 ++ [sgT tShut]) else wrapT c0 1) ++ [sgT tSemi]
    else if kd = 16 then [sgT tSemi]
    else (cs.map (·.2)).flatten
mutual
def Tr.toks : Tr → List TS
  | .mk kd tx n ks => coreB kd tx n ks (Tr.toksL ks)
def Tr.toksL : List Tr → List (Int × List TS)
  | [] => []
  | t :: ts => (t.kd, t.toks) :: Tr.toksL ts
end
theorem toks_mk (kd : Int) (tx : ByteArray) (n : Int) (ks : List Tr) : (Tr.mk kd tx n ks).toks = coreB kd tx n ks (Tr.toksL ks) := by rw [Tr.toks]
theorem toksL_nil : Tr.toksL [] = [] := by rw [Tr.toksL]
theorem toksL_cons (t : Tr) (ts : List Tr) : Tr.toksL (t :: ts) = (t.kd, t.toks) :: Tr.toksL ts := by rw [Tr.toksL]
theorem toksL_map : ∀ ts : List Tr, Tr.toksL ts = ts.map fun t => (t.kd, t.toks)
  | [] => toksL_nil
  | t :: ts => by rw [toksL_cons, toksL_map ts]; rfl
abbrev Tr.at (t : Tr) (least : Int) : List TS := wrapT (t.kd, t.toks) least

def Mt (k : Tk) (s : TS) : Prop := k.kd = s.1 ∧ (s.1 ≠ 3 → k.tx = s.2.1) ∧ (s.1 = 3 → k.n = s.2.2)
def At (l : List Tk) : Nat → List TS → Prop
  | _, [] => True
  | i, s :: ss => Mt (tkA l i) s ∧ At l (i + 1) ss
theorem At.app {l : List Tk} : ∀ {a : List TS} {i : Nat} {b : List TS}, At l i (a ++ b) → At l i a ∧ At l (i + a.length) b
  | [], i, b, h => ⟨trivial, by simpa using h⟩
  | s :: a, i, b, h => by
    obtain ⟨h1, h2⟩ := At.app (a := a) h.2
    refine ⟨⟨h.1, h1⟩, ?_⟩
    have : i + (s :: a).length = i + 1 + a.length := by simp; omega
    rw [this]; exact h2
theorem At.mid {l : List Tk} {a : List TS} {i : Nat} {s : TS} {b : List TS} (h : At l i (a ++ s :: b)) : At l i a ∧ Mt (tkA l (i + a.length)) s ∧ At l (i + a.length + 1) b := ⟨h.app.1, h.app.2.1, h.app.2.2⟩
theorem Mt.fx5 {l : List Tk} {i : Nat} {x : ByteArray} (h : Mt (tkA l i) (5, x, 0)) : fx l i = x := by
  unfold fx
  rw [h.1, if_pos (by simp)]
  exact h.2.1 (by simp)
theorem Mt.fx2 {l : List Tk} {i : Nat} {x : ByteArray} (h : Mt (tkA l i) (2, x, 0)) : fx l i = x := by
  unfold fx
  rw [h.1, if_pos (by simp)]
  exact h.2.1 (by simp)
theorem Mt.fxS {l : List Tk} {i : Nat} {x : ByteArray} (h : Mt (tkA l i) (siT x)) : fx l i = x := by
  unfold siT at h
  split at h
  · exact h.fx2
  · exact h.fx5
theorem Mt.tx2 {l : List Tk} {i : Nat} {x : ByteArray} (h : Mt (tkA l i) (2, x, 0)) : (tkA l i).tx = x := h.2.1 (by simp)
theorem Mt.fx0 {l : List Tk} {i : Nat} {s : TS} (h : Mt (tkA l i) s) (hs : s.1 = 1 ∨ s.1 = 3 ∨ s.1 = 4) : fx l i = noText := by
  unfold fx
  rw [h.1, if_neg]
  rcases hs with e | e | e <;> rw [e] <;> decide
theorem Mt.must {l : List Tk} {i : Nat} {x : ByteArray} (h : Mt (tkA l i) (5, x, 0)) : mustP l x i = .ok () (i + 1) := by unfold mustP; rw [if_pos h.fx5]
theorem Mt.must2 {l : List Tk} {i : Nat} {x : ByteArray} (h : Mt (tkA l i) (2, x, 0)) : mustP l x i = .ok () (i + 1) := by unfold mustP; rw [if_pos h.fx2]
theorem Mt.name {l : List Tk} {i : Nat} {x : ByteArray} (h : Mt (tkA l i) (1, x, 0)) : nameP l i = .ok x (i + 1) := by
  unfold nameP
  rw [if_pos h.1, h.2.1 (by simp)]

/-- What a reader answers of a part whose tokens lie there: it, or that it is too deep. -/
def Good {α : Type} (r : PR α) (t : α) (j : Nat) : Prop := r = .ok t j ∨ (∃ p, r = .bad 4 p) ∨ r = .out
theorem Good.ok {α : Type} {t : α} {j : Nat} : Good (.ok t j) t j := Or.inl rfl
theorem Good.bind {α β : Type} {r : PR α} {t : α} {j : Nat} {f : α → Nat → PR β} {u : β} {k : Nat} (h : Good r t j) (hf : Good (f t j) u k) : Good (r.bind f) u k := by
  rcases h with rfl | ⟨p, rfl⟩ | rfl
  · exact hf
  · exact Or.inr (Or.inl ⟨p, rfl⟩)
  · exact Or.inr (Or.inr rfl)
theorem Good.deep {l : List Tk} {f : Nat → Nat → PR Tr} {d i : Nat} {t : Tr} {j : Nat} (h : Good (f (d + 1) i) t j) : Good (deepP l f d i) t j := by
  unfold deepP
  split
  · exact Or.inr (Or.inl ⟨_, rfl⟩)
  · exact h
/-- What may stand behind a value: nothing that goes on it. -/
structure Stop (l : List Tk) (least : Int) (j : Nat) : Prop where
  sg : ∀ s, sgP 2 (fx l j) = some s → s.str < least
  dot : fx l j ≠ tDot
  opn : fx l j ≠ tOpen
theorem Stop.mono {l : List Tk} {a b : Int} {j : Nat} (h : Stop l a j) (hab : a ≤ b) : Stop l b j := ⟨fun s hs => by have := h.sg s hs; omega, h.dot, h.opn⟩
theorem Stop.of {l : List Tk} {j : Nat} {x : ByteArray} (h : fx l j = x) (h1 : sgP 2 x = none) (h2 : x ≠ tDot) (h3 : x ≠ tOpen) (least : Int) : Stop l least j :=
  ⟨fun s hs => (by rw [h, h1] at hs; cases hs), (by rw [h]; exact h2), (by rw [h]; exact h3)⟩
end Go.Proofs.YtodmgaikhbmlnaaGreatDoor
