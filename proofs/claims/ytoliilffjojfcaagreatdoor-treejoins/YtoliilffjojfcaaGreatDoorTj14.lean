/-
  Joined out of WrK, WrG, Shelf, WrV, WrO, WrS, Trd, AsF.
-/
import Derived.Test.YtoliilffjojfcaaGreatDoorTj13
import Derived.Test.YtoliilffjojfcaaGreatDoorTj2
import Derived.Test.YtoliilffjojfcaaGreatDoorTj7
import Derived.RegionTactic
import Derived.Test.YtoliilffjojfcaaGreatDoorTj11
import Derived.Lib.ItoaNum
import Derived.Shelf.Strconv.Itoa0
import Derived.Shelf.Strconv.Itoa1
import Derived.Shelf.LaysM
import Derived.Shelf.Strconv.Itoa2
import Derived.Shelf.Strconv.Itoa3
import Derived.Test.YtoliilffjojfcaaGreatDoorProg
import Derived.Deep.LoopGhost
import Derived.Test.YtoliilffjojfcaaGreatDoorTj12
import Derived.Test.YtoliilffjojfcaaGreatDoorTj0
import Derived.LaidEql
import Derived.Stop.Asserts
import Derived.RowKitTokens
/-
  WrK: The writer that is made: its signs by kind; how strong a value is; whether one begins as a statement does.
-/
namespace Go.Proofs.YtoliilffjojfcaaGreatDoor
open Go.RowKit

def mkEI (e : (Int × Value) × Nat) : MapEntry := { key := .int .i64 e.1.1, val := e.1.2, born := e.2 }
def mapI (l : List (Int × Value)) : Array MapEntry := ((l.zipIdx).map mkEI).toArray
def kdMap : Array MapEntry := mapI (sgs.map fun e => (e.kd, sgV e))
def sgK (k : Int) : Option Sg := sgs.find? (fun e => decide (k = e.kd))

theorem find_entI (s : Int) : ∀ (l : List (Int × Value)) (n i : Nat),
    ∃ o, Instr.findNow (.int .i64) (.int .i64 s) ((l.zipIdx n).map mkEI) i = some o ∧ o.map (·.2) = (l.find? (fun e => decide (s = e.1))).map (·.2)
  | [], n, i => ⟨none, rfl, rfl⟩
  | e :: l, n, i => by
    have hb : (s == e.1) = decide (s = e.1) := rfl
    simp only [List.zipIdx_cons, List.map_cons, Instr.findNow, mkEI, Instr.sameNow, if_true, hb, List.find?_cons]
    cases h : decide (s = e.1)
    · simp only
      exact find_entI s l (n + 1) (i + 1)
    · exact ⟨some (i, e.2), rfl, rfl⟩

theorem lookup_mapI (T E : TypeId) (m k : Nat) (l : List (Int × Value)) (s : Int) (z : Value) (W : World) (hT : Tryz.prog.underlying T = some (.map 3 E)) (hm : W.heap[m]? = some (.map (mapI l) k)) (hz : (zeroValue E).run Tryz.prog W = .ok z W) :
    (Instr.lookup T (.map (some m)) (.int .i64 s) true).run Tryz.prog W = .ok (.tuple #[((l.find? (fun e => decide (s = e.1))).map (·.2)).getD z, .bool (l.find? (fun e => decide (s = e.1))).isSome]) W := by
  obtain ⟨o, h1, h2⟩ := find_entI s l 0 0
  have h9 := Tryz.underlying3
  have h3 : (Instr.findKey 3 (.int .i64 s) (mapI l).toList).run Tryz.prog W = .ok o W := by
    unfold Instr.findKey
    rw [Sem.run_bind, run_underlying h9 W]
    simp only [Result.andThen_ok, mapI]
    rw [h1]
    rfl
  unfold Instr.lookup
  rw [Sem.run_bind, run_underlying hT W]
  have hck : ∀ b, (Instr.checkKey b 10000 3 (.int .i64 s)).run Tryz.prog W = .ok () W := by
    intro b
    rw [Instr.checkKey, Sem.run_bind, run_underlying h9 W]
    rfl
  have hg : (getObj m).run Tryz.prog W = .ok (.map (mapI l) k) W := by simp [getObj, Sem.run, hm]
  simp only [Result.andThen_ok, Sem.run_bind, hg, Sem.run_pure, hck, h3]
  cases o with
  | none =>
    cases hf : l.find? (fun e => decide (s = e.1)) with
    | none => simp [hz]
    | some x => rw [hf] at h2; simp at h2
  | some y =>
    cases hf : l.find? (fun e => decide (s = e.1)) with
    | none => rw [hf] at h2; simp at h2
    | some x => rw [hf] at h2; simp at h2; simp [h2]

theorem mapI_snoc (l : List (Int × Value)) (k : Int) (v : Value) : (mapI l).push { key := .int .i64 k, val := v, born := l.length } = mapI (l ++ [(k, v)]) := by
  unfold mapI
  rw [List.zipIdx_append, List.map_append]
  simp [mkEI, List.zipIdx]

theorem updateI_new (T E : TypeId) (m : Nat) (l : List (Int × Value)) (s : Int) (v : Value) (W : World) (hT : Tryz.prog.underlying T = some (.map 3 E)) (hm : W.heap[m]? = some (.map (mapI l) l.length)) (hn : l.find? (fun e => decide (s = e.1)) = none) :
    (Instr.mapUpdate T (.map (some m)) (.int .i64 s) v).run Tryz.prog W = .ok () (setMap W m (.map (mapI (l ++ [(s, v)])) (l.length + 1))) := by
  obtain ⟨o, h1, h2⟩ := find_entI s l 0 0
  have h9 := Tryz.underlying3
  have ho : o = none := by
    rw [hn] at h2
    cases o with
    | none => rfl
    | some y => simp at h2
  subst ho
  have h3 : (Instr.findKey 3 (.int .i64 s) (mapI l).toList).run Tryz.prog W = .ok none W := by
    unfold Instr.findKey
    rw [Sem.run_bind, run_underlying h9 W]
    simp only [Result.andThen_ok, mapI]
    rw [h1]
    rfl
  have hck : ∀ b, (Instr.checkKey b 10000 3 (.int .i64 s)).run Tryz.prog W = .ok () W := by
    intro b
    rw [Instr.checkKey, Sem.run_bind, run_underlying h9 W]
    rfl
  have hg : (getObj m).run Tryz.prog W = .ok (.map (mapI l) l.length) W := by simp [getObj, Sem.run, hm]
  unfold Instr.mapUpdate
  rw [Sem.run_bind, run_underlying hT W]
  simp only [Result.andThen_ok, Sem.run_bind, hg, hck, h3]
  rw [mapI_snoc]
  simp [setObj, Sem.run, hm, setMap]

def sgLK (j : Nat) : List (Int × Value) := (sgs.take j).map fun e => (e.kd, sgV e)
theorem sgLK_len {j : Nat} (hj : j ≤ 14) : (sgLK j).length = j := by
  unfold sgLK
  rw [List.length_map, List.length_take]
  have : sgs.length = 14 := rfl
  omega
theorem sgLK_next {j : Nat} (hj : j < 14) : sgLK (j + 1) = sgLK j ++ [((sgs.getD j ⟨noText, 0, 0, 0⟩).kd, sgV (sgs.getD j ⟨noText, 0, 0, 0⟩))] := by
  have h : j = 0 ∨ j = 1 ∨ j = 2 ∨ j = 3 ∨ j = 4 ∨ j = 5 ∨ j = 6 ∨ j = 7 ∨ j = 8 ∨ j = 9 ∨ j = 10 ∨ j = 11 ∨ j = 12 ∨ j = 13 := by omega
  rcases h with rfl | rfl | rfl | rfl | rfl | rfl | rfl | rfl | rfl | rfl | rfl | rfl | rfl | rfl <;> rfl
theorem sgLK_new {j : Nat} (hj : j < 14) : (sgLK j).find? (fun e => decide ((sgs.getD j ⟨noText, 0, 0, 0⟩).kd = e.1)) = none := by
  have key : ∀ j, j < 14 → ((sgs.take j).map (·.kd)).find? (fun e => decide ((sgs.getD j ⟨noText, 0, 0, 0⟩).kd = e)) = none := by decide +kernel
  have := key j hj
  unfold sgLK
  rw [List.find?_map] at this ⊢
  simpa [Function.comp_def] using this

set_option maxRecDepth 100000 in
set_option maxHeartbeats 1000000 in
theorem signsByKind_any (w : World) (t : TypeId) (fr : Nat × Nat) (hg : w.heap[3]? = some (.cells sgCells t fr)) :
    Calls Tryz.prog 91 #[] w fun e w' => e = .returned (.map (some w.heap.size)) ∧ w'.heap[w.heap.size]? = some (.map kdMap 14) ∧ Below w.heap.size w w' := by
  have HG : Hid ((w.alloc (.map #[] 0)).heap[3]? = some (.cells sgCells t fr)) := (Below.heap_alloc w _ 3 (lt_of_heap hg)).trans hg
  obtain ⟨cs, hcs⟩ : ∃ cs, cs = sgCells := ⟨_, rfl⟩
  have hix : ∀ k : Nat, k < 14 → ∀ W, (Instr.index 161 (.agg cs) (.int .i64 (k : Int))).run Tryz.prog W = .ok (sgV (sgs.getD k ⟨noText, 0, 0, 0⟩)) W := by rw [hcs]; exact sgIdx
  have hsz : cs.size = 56 := by rw [hcs]; exact sgSize
  rw [← hcs] at HG
  have HIX := hide hix
  have Hsz := hide hsz
  have hmk := mkMap 85
  clear hg hix hcs hsz
  go_enter Tryz.func91, Tryz.ntmps91
  go_wp2_with (refine wpList_load_row rfl 161 _ rfl 3 rfl t cs fr _ (unhide HG) Tryz.underlying161 rfl (by rw [unhide Hsz]; kernel_rfl) ?_)
  go_loopw [6] (fun i wr => ∃ j : Nat, j ≤ 14 ∧ i = .int .i64 j ∧ wr.heap[w.heap.size]? = some (.map (mapI (sgLK j)) j) ∧ Below w.heap.size w wr) (fun i _ => 14 - (intOf i).toNat)
  case atStart => exact ⟨0, Nat.zero_le _, rfl, heap_new _ _, (Below.refl _ _).alloc (Nat.le_refl _) _⟩
  case round =>
    obtain ⟨j, hj, rfl, hm, hb⟩ := hrel
    have HM := hide hm
    have HB := hide hb
    clear hm hb
    by_cases hlt : j < 14
    · have hck := unhide HIX j hlt
      obtain ⟨x, hx⟩ : ∃ x, x = sgs.getD j ⟨noText, 0, 0, 0⟩ := ⟨_, rfl⟩
      have hm2 : (wr.alloc (.cells #[.string x.tx, .int .i64 x.kd, .int .i64 x.parts, .int .i64 x.str] 160)).heap[w.heap.size]? = some (.map (mapI (sgLK j)) (sgLK j).length) := by
        rw [sgLK_len (by omega)]
        exact (Below.heap_alloc _ _ _ (lt_of_heap (unhide HM))).trans (unhide HM)
      have hup := updateI_new 85 160 w.heap.size (sgLK j) x.kd (sgV x) _ Tryz.underlying85 hm2 (by rw [hx]; exact sgLK_new hlt)
      rw [← hx] at hck
      have HX := hide hx
      have HM2 := hide hm2
      simp only [sgV] at hck hup
      clear hx hm2
      go_wp2_with fail
      go_roundw
      case rel =>
        refine ⟨j + 1, by omega, by go_num, ?_, setMap_below ((unhide HB).alloc (unhide HB).size _) (Nat.le_refl _)⟩
        rw [setMap_at (by simp; have := (unhide HB).size; omega), sgLK_next hlt, ← unhide HX, sgLK_len (by omega)]
        rfl
      case measure => simp [intOf]; omega
    · have hj14 : j = 14 := by omega
      subst hj14
      go_wp2_with fail
      go_ret
      exact ⟨rfl, unhide HM, unhide HB⟩

set_option maxRecDepth 100000 in
set_option maxHeartbeats 1000000 in
theorem newWriter_any (w : World) (t : TypeId) (fr : Nat × Nat) (hg : w.heap[3]? = some (.cells sgCells t fr)) :
    Calls Tryz.prog 49 #[] w fun e w' => ∃ b m, e = .returned (wPtr b) ∧ Wrt w.heap.size b m [] ⟨#[]⟩ w' ∧ w'.heap[m]? = some (.map kdMap 14) ∧ m ≠ b ∧ Below w.heap.size w w' := by
  have HC := hide (signsByKind_any w t fr hg)
  clear hg
  go_enter Tryz.func49, Tryz.ntmps49
  go_wp2_with fail
  refine Calls.mono HC.out ?_
  rintro e w1 ⟨rfl, hm, hb⟩
  have HM := hide hm
  have HB := hide hb
  have HZ := hide (lt_of_heap hm)
  clear hm hb HC
  go_wp2_with fail
  go_ret
  refine ⟨w1.heap.size, w.heap.size, rfl, Or.inl ⟨(unhide HB).size, .slice none 0 0, heap_new _ _, ⟨rfl, Or.inl ⟨rfl, rfl⟩⟩, by simp [Value.ownBlock]⟩, ?_, ?_, (unhide HB).alloc (unhide HB).size _⟩
  · rw [Below.heap_alloc w1 _ _ (unhide HZ)]; exact unhide HM
  · have := unhide HZ; omega

/-- How strong a value is. -/
def strK (kd : Int) : Int := if kd = 24 then 1 else if kd = 35 ∨ kd = 36 then 9 else match sgK kd with | some s => s.str | none => 10

theorem look_kinds (m : Nat) (s : Int) (W : World) (h : W.heap[m]? = some (.map kdMap 14)) :
    (Instr.lookup 85 (.map (some m)) (.int .i64 s) true).run Tryz.prog W = .ok (.tuple #[sgVO (sgK s), .bool (sgK s).isSome]) W := by
  rw [lookup_mapI 85 160 m 14 _ s noSg W Tryz.underlying85 h (by kernel_rfl)]
  unfold sgK
  rw [List.find?_map]
  simp only [Function.comp_def]
  cases sgs.find? (fun e => decide (s = e.kd)) <;> rfl

set_option maxRecDepth 100000 in
set_option maxHeartbeats 1000000 in
theorem strength_any {B b m : Nat} {out : List UInt8} {last : ByteArray} {w : World} (h : Wrt B b m out last w) (hm : w.heap[m]? = some (.map kdMap 14)) (p : Nat) (kd : Int) (hp : w.cell? ⟨p, 0, none⟩ = some (.int .i64 kd)) (hpl : p < w.heap.size) :
    Calls Tryz.prog 185 #[wPtr b, nPtr p] w fun e w' => e = .returned (.int .i64 (strK kd)) ∧ Below w.heap.size w w' := by
  obtain ⟨_, c3, _⟩ := h.cells
  have hbl := h.lt
  have hml := lt_of_heap hm
  clear h
  by_cases h24 : kd = 24
  · subst h24
    clear hm
    go_enter Tryz.func185, Tryz.ntmps185
    go_wp2_with fail
    go_ret
    exact ⟨rfl, Below.refl _ _⟩
  · have e24 : (kd == 24) = false := beq_eq_false_iff_ne.2 h24
    by_cases h35 : kd = 35
    · subst h35
      clear hm
      go_enter Tryz.func185, Tryz.ntmps185
      go_wp2_with fail
      go_ret
      exact ⟨rfl, Below.refl _ _⟩
    · have e35 : (kd == 35) = false := beq_eq_false_iff_ne.2 h35
      by_cases h36 : kd = 36
      · subst h36
        clear hm
        go_enter Tryz.func185, Tryz.ntmps185
        go_wp2_with fail
        go_ret
        exact ⟨rfl, Below.refl _ _⟩
      · have e36 : (kd == 36) = false := beq_eq_false_iff_ne.2 h36
        have hk : strK kd = match sgK kd with | some s => s.str | none => 10 := by
          unfold strK
          rw [if_neg h24, if_neg (by omega)]
        have l1 := look_kinds m kd w.drew hm
        have l2 := fun o => look_kinds m kd (w.alloc o).drew ((Below.heap_alloc w o m hml).trans hm)
        have HK := hide hk
        clear hm h24 h35 h36 hk
        cases hs : sgK kd with
        | none =>
          rw [hs] at l1 l2 HK
          simp only [sgVO, noSg, Option.isSome_none] at l1 l2
          clear hs
          go_enter Tryz.func185, Tryz.ntmps185
          go_wp2_with fail
          go_region
          all_goals
            go_wp2_with fail
            go_ret
            exact ⟨by rw [unhide HK]; rfl, (Below.refl _ _).drew.alloc (Nat.le_refl _) _⟩
        | some x =>
          rw [hs] at l1 l2 HK
          simp only [sgVO, sgV, Option.isSome_some] at l1 l2
          clear hs
          go_enter Tryz.func185, Tryz.ntmps185
          go_wp2_with fail
          go_region
          all_goals
            go_wp2_with fail
            go_ret
            exact ⟨by rw [unhide HK]; rfl, (Below.refl _ _).drew.alloc (Nat.le_refl _) _⟩
end Go.Proofs.YtoliilffjojfcaaGreatDoor

/-
  WrG: What the writer writes of a program, as a function of it: plain, with a bound on the recursion.
-/
namespace Go.Proofs.YtoliilffjojfcaaGreatDoor

def noTr : Tr := .mk 0 noText 0 []
def Tr.kid (t : Tr) (j : Nat) : Tr := t.kids.getD j noTr
def itoaB (n : Int) : ByteArray := ⟨(Lib.itoa n).toArray⟩
/-- A string's byte, as it is written. -/
def quoteC (c : UInt8) : List UInt8 := if c = 10 then [92, 110] else if c = 39 ∨ c = 92 then [92, c] else [c]
def quoteL (l : List UInt8) : List UInt8 := [39] ++ l.flatMap quoteC ++ [39]
def quoteB (s : ByteArray) : ByteArray := ⟨(quoteL s.data.toList).toArray⟩
def hdText (k : Int) : ByteArray := ((hds.find? (fun e => decide (e.2 = k))).map (·.1)).getD noText

structure WF where
  vl : Tr → Int → WS → WS
  st : Tr → WS → WS

section
variable (F : WF)
def parW (t : Tr) (s : WS) : WS := putsS [tShut] (F.vl t 1 (putsS [tOpen] s))
def commasW : Bool → List Tr → WS → WS
  | _, [], s => s
  | f, t :: ts, s => commasW false ts (F.vl t 1 (if f then s else putsS [tComma] s))
def listW (opn shut : ByteArray) (ts : List Tr) (s : WS) : WS := putsS [shut] (commasW F true ts (closeS opn s))
def objectW (t : Tr) (s : WS) : WS := putsS [tRBrace] (commasW F true t.kids (putsS [tLBrace] s))
def stsW (ts : List Tr) (s : WS) : WS := ts.foldl (fun s k => F.st k s) s
def vlsW (ts : List Tr) (s : WS) : WS := ts.foldl (fun s k => F.vl k 1 s) s
def blockW (t : Tr) (s : WS) : WS := putsS [tRBrace] (stsW F t.kids (putsS [tLBrace] s))
def functionW (t : Tr) (s : WS) : WS :=
  blockW F (t.kid 1) (listW F tOpen tShut (t.kid 0).kids (if t.tx = noText then putsS [tFunction] s else putsS [t.tx] (putsS [tFunction] s)))
def signedW (t : Tr) (g : Sg) (s : WS) : WS :=
  if g.parts = 2 then F.vl (t.kid 1) (g.str + 1) (putsS [g.tx] (F.vl (t.kid 0) g.str s))
  else if g.parts = 1 then F.vl (t.kid 0) g.str (putsS [g.tx] s)
  else putsS [g.tx] s
def coreW (t : Tr) (s : WS) : WS :=
  match sgK t.kd with
  | some g => signedW F t g s
  | none =>
    if t.kd = 17 then putsS [itoaB t.n] s
    else if t.kd = 18 then putsS [quoteB t.tx] s
    else if t.kd = 23 then putsS [t.tx] s
    else if t.kd = 24 then F.vl (t.kid 1) 1 (putsS [tEq] (F.vl (t.kid 0) 9 s))
    else if t.kd = 36 then putsS [tDot, t.tx] (F.vl (t.kid 0) 9 s)
    else if t.kd = 35 then listW F tOpen tShut (t.kids.drop 1) (F.vl (t.kid 0) 9 s)
    else if t.kd = 37 then functionW F t s
    else if t.kd = 38 then objectW F t s
    else if t.kd = 39 then F.vl (t.kid 0) 1 (putsS [t.tx, tColon] s)
    else s
def valueW (t : Tr) (least : Int) (s : WS) : WS := if strK t.kd < least then parW F t s else coreW F t s
def lastW (t : Tr) (s : WS) : WS := putsS [tSemi] (vlsW F t.kids s)
def behindW (t : Tr) (s : WS) : WS :=
  let s2 := F.st (t.kid 1) (putsS [tShut] (F.vl (t.kid 0) 1 (putsS [hdText t.kd, tOpen] s)))
  if 2 < t.kids.length then F.st (t.kid 2) (putsS [tElse] s2) else s2
def tryW (k : Tr) (s : WS) : WS :=
  if k.kd = 6 then blockW F k s
  else if k.kd = 13 then blockW F (k.kid 0) (putsS [tCatch, tOpen, k.tx, tShut] s)
  else if k.kd = 14 then blockW F (k.kid 0) (putsS [tFinally] s)
  else s
def attemptW (t : Tr) (s : WS) : WS := t.kids.foldl (fun s k => tryW F k s) (putsS [tTry] s)
end

def opensK (kd : Int) : Bool := kd == 24 || kd == 36 || kd == 35 || kd == 25 || kd == 26 || kd == 27 || kd == 28 || kd == 29 || kd == 30 || kd == 31
/-- Does a value begin as another statement does? -/
def opensW : Nat → Tr → Bool
  | 0, _ => false
  | k + 1, t =>
    if t.kd = 37 ∨ t.kd = 38 then true
    else if opensK t.kd = true then (if strK (t.kid 0).kd < strK t.kd then false else opensW k (t.kid 0))
    else false

section
variable (F : WF)
def exprW (t : Tr) (s : WS) : WS := putsS [tSemi] (if opensW (t.kid 0).count (t.kid 0) then parW F (t.kid 0) s else F.vl (t.kid 0) 1 s)
def emptyW (s : WS) : WS := closeS tSemi (if openedB s.2 then s else blankS s)
def statementW (t : Tr) (s : WS) : WS :=
  if t.kd = 2 ∨ t.kd = 3 ∨ t.kd = 4 then lastW F t (if 0 < t.kids.length then putsS [tEq] (putsS [hdText t.kd, t.tx] s) else putsS [hdText t.kd, t.tx] s)
  else if t.kd = 10 ∨ t.kd = 11 then lastW F t (putsS [hdText t.kd] s)
  else if t.kd = 5 then functionW F t s
  else if t.kd = 6 then blockW F t s
  else if t.kd = 7 ∨ t.kd = 8 ∨ t.kd = 9 then behindW F t s
  else if t.kd = 12 then attemptW F t s
  else if t.kd = 15 then exprW F t s
  else if t.kd = 16 then emptyW s
  else s
end
def wf : Nat → WF
  | 0 => ⟨fun _ _ s => s, fun _ s => s⟩
  | k + 1 => ⟨valueW (wf k), statementW (wf k)⟩

def textW (F : WF) (t : Tr) : WS := t.kids.foldl (fun s k => endS (F.st k s)) ([], noText)

mutual
/-- More than what a part takes when it is written. -/
def Tr.cost : Tr → Nat
  | .mk _ tx _ ks => 80 + 3 * tx.size + Tr.costs ks
def Tr.costs : List Tr → Nat
  | [] => 0
  | t :: ts => t.cost + Tr.costs ts
end
end Go.Proofs.YtoliilffjojfcaaGreatDoor

/-
  Shelf: strconv.Itoa at this program's numbers, by the library's own contract.
-/
namespace Go.Proofs
open Go.Shelf
def Tryz.laysM171_ren : Go.Shelf.Ren := ⟨fun | 171 => 54 | 243 => 104 | 246 => 154 | 283 => 191 | 284 => 192 | 285 => 193 | 286 => 194 | 129 => 206 | 317 => 219 | 318 => 220 | 319 => 221 | 320 => 222 | 337 => 234 | 338 => 235 | n => n, fun | 3 => 3 | 9 => 9 | 2 => 2 | 4 => 4 | 171 => 209 | 0 => 0 | 53 => 210 | 37 => 82 | 5 => 5 | 173 => 213 | 212 => 234 | 51 => 225 | 20 => 20 | 213 => 235 | 46 => 185 | 232 => 251 | 233 => 252 | n => n, fun | 17 => 9 | 18 => 11 | 19 => 12 | n => n⟩
theorem Tryz.laysM171 : Go.Proofs.LaysM.n171 Tryz.prog Tryz.laysM171_ren := {
  mixed := by kernel_rfl
  f129 := Tryz.func206.trans (congrArg some (by kernel_rfl))
  f171 := Tryz.func54.trans (congrArg some (by kernel_rfl))
  f243 := Tryz.func104.trans (congrArg some (by kernel_rfl))
  f246 := Tryz.func154.trans (congrArg some (by kernel_rfl))
  f283 := Tryz.func191.trans (congrArg some (by kernel_rfl))
  f284 := Tryz.func192.trans (congrArg some (by kernel_rfl))
  f285 := Tryz.func193.trans (congrArg some (by kernel_rfl))
  f286 := Tryz.func194.trans (congrArg some (by kernel_rfl))
  f317 := Tryz.func219.trans (congrArg some (by kernel_rfl))
  f318 := Tryz.func220.trans (congrArg some (by kernel_rfl))
  f319 := Tryz.func221.trans (congrArg some (by kernel_rfl))
  f320 := Tryz.func222.trans (congrArg some (by kernel_rfl))
  f337 := Tryz.func234.trans (congrArg some (by kernel_rfl))
  f338 := Tryz.func235.trans (congrArg some (by kernel_rfl))
  t0 := Tryz.underlying0
  a0 := Tryz.isAgg0
  z0 := Tryz.sizeOf0
  v0 := Tryz.zeroValue0
  t2 := Tryz.underlying2
  a2 := Tryz.isAgg2
  z2 := Tryz.sizeOf2
  v2 := Tryz.zeroValue2
  t3 := Tryz.underlying3
  a3 := Tryz.isAgg3
  z3 := Tryz.sizeOf3
  v3 := Tryz.zeroValue3
  t4 := Tryz.underlying4
  a4 := Tryz.isAgg4
  z4 := Tryz.sizeOf4
  v4 := Tryz.zeroValue4
  t5 := Tryz.underlying5
  a5 := Tryz.isAgg5
  z5 := Tryz.sizeOf5
  v5 := Tryz.zeroValue5
  t9 := Tryz.underlying9
  a9 := Tryz.isAgg9
  z9 := Tryz.sizeOf9
  v9 := Tryz.zeroValue9
  t20 := Tryz.underlying20
  a20 := Tryz.isAgg20
  z20 := Tryz.sizeOf20
  v20 := Tryz.zeroValue20
  t37 := Tryz.underlying82
  a37 := Tryz.isAgg82
  z37 := Tryz.sizeOf82
  v37 := Tryz.zeroValue82
  t46 := Tryz.underlying185
  a46 := Tryz.isAgg185
  z46 := Tryz.sizeOf185
  v46 := Tryz.zeroValue185
  t51 := Tryz.underlying225
  a51 := Tryz.isAgg225
  z51 := Tryz.sizeOf225
  v51 := Tryz.zeroValue225
  t53 := Tryz.underlying210
  a53 := Tryz.isAgg210
  z53 := Tryz.sizeOf210
  v53 := Tryz.zeroValue210
  t171 := Tryz.underlying209
  a171 := Tryz.isAgg209
  z171 := Tryz.sizeOf209
  v171 := Tryz.zeroValue209
  t173 := Tryz.underlying213
  a173 := Tryz.isAgg213
  z173 := Tryz.sizeOf213
  v173 := Tryz.zeroValue213
  t212 := Tryz.underlying234
  a212 := Tryz.isAgg234
  z212 := Tryz.sizeOf234
  v212 := Tryz.zeroValue234
  t213 := Tryz.underlying235
  a213 := Tryz.isAgg235
  z213 := Tryz.sizeOf235
  t232 := Tryz.underlying251
  a232 := Tryz.isAgg251
  z232 := Tryz.sizeOf251
  v232 := Tryz.zeroValue251
  t233 := Tryz.underlying252
  a233 := Tryz.isAgg252
  z233 := Tryz.sizeOf252
  v233 := Tryz.zeroValue252
  g17 := by kernel_rfl
  g18 := by kernel_rfl
  g19 := by kernel_rfl
  i0 := by kernel_rfl
  i2 := by kernel_rfl
  i3 := by kernel_rfl
  i4 := by kernel_rfl
  i5 := by kernel_rfl
  i9 := by kernel_rfl
  i20 := by kernel_rfl
  i37 := by kernel_rfl
  i46 := by kernel_rfl
  i51 := by kernel_rfl
  i53 := by kernel_rfl
  i171 := by kernel_rfl
  i173 := by kernel_rfl
  i212 := by kernel_rfl
  i232 := by kernel_rfl
  i233 := by kernel_rfl
  m17 := by kernel_rfl
  m18 := by kernel_rfl
  m19 := by kernel_rfl }
open Go.RowKit Go.Sort Go.Lib in
theorem Tryz.strconv_Itoa (n : Int) (h0 : -9223372036854775808 ≤ n) (h1 : n ≤ 9223372036854775807) (w : World) (htab : Lib.TabIs Tryz.prog w "internal/strconv.uint64pow10" .u64 Lib.pow10Tab) :
    Calls Tryz.prog 54 #[.int .i64 n] w fun e w' => e = .returned (.string ⟨(Lib.itoa n).toArray⟩) ∧ ∃ k os, w' = grow (w.drewN k) os := Any.strconv_Itoa Tryz.laysM171 n h0 h1 w htab
def Tryz.lays171_ren : Go.Shelf.Ren := ⟨fun | 171 => 54 | 243 => 104 | 246 => 154 | 283 => 191 | 284 => 192 | 285 => 193 | 286 => 194 | 129 => 206 | 317 => 219 | 318 => 220 | 319 => 221 | 320 => 222 | 337 => 234 | 338 => 235 | n => n, fun | 3 => 3 | 9 => 9 | 2 => 2 | 4 => 4 | 171 => 209 | 0 => 0 | 53 => 210 | 37 => 82 | 5 => 5 | 173 => 213 | 212 => 234 | 51 => 225 | 20 => 20 | 213 => 235 | 46 => 185 | 232 => 251 | 233 => 252 | n => n, fun | 17 => 9 | 18 => 11 | 19 => 12 | n => n⟩
theorem Tryz.lays171 : Go.Proofs.Lays.n171 Tryz.prog Tryz.lays171_ren := {
  mixed := by kernel_rfl
  f129 := Tryz.func206.trans (congrArg some (by kernel_rfl))
  f171 := Tryz.func54.trans (congrArg some (by kernel_rfl))
  f243 := Tryz.func104.trans (congrArg some (by kernel_rfl))
  f246 := Tryz.func154.trans (congrArg some (by kernel_rfl))
  f283 := Tryz.func191.trans (congrArg some (by kernel_rfl))
  f284 := Tryz.func192.trans (congrArg some (by kernel_rfl))
  f285 := Tryz.func193.trans (congrArg some (by kernel_rfl))
  f286 := Tryz.func194.trans (congrArg some (by kernel_rfl))
  f317 := Tryz.func219.trans (congrArg some (by kernel_rfl))
  f318 := Tryz.func220.trans (congrArg some (by kernel_rfl))
  f319 := Tryz.func221.trans (congrArg some (by kernel_rfl))
  f320 := Tryz.func222.trans (congrArg some (by kernel_rfl))
  f337 := Tryz.func234.trans (congrArg some (by kernel_rfl))
  f338 := Tryz.func235.trans (congrArg some (by kernel_rfl))
  t0 := Tryz.underlying0
  a0 := Tryz.isAgg0
  z0 := Tryz.sizeOf0
  v0 := Tryz.zeroValue0
  t2 := Tryz.underlying2
  a2 := Tryz.isAgg2
  z2 := Tryz.sizeOf2
  v2 := Tryz.zeroValue2
  t3 := Tryz.underlying3
  a3 := Tryz.isAgg3
  z3 := Tryz.sizeOf3
  v3 := Tryz.zeroValue3
  t4 := Tryz.underlying4
  a4 := Tryz.isAgg4
  z4 := Tryz.sizeOf4
  v4 := Tryz.zeroValue4
  t5 := Tryz.underlying5
  a5 := Tryz.isAgg5
  z5 := Tryz.sizeOf5
  v5 := Tryz.zeroValue5
  t9 := Tryz.underlying9
  a9 := Tryz.isAgg9
  z9 := Tryz.sizeOf9
  v9 := Tryz.zeroValue9
  t20 := Tryz.underlying20
  a20 := Tryz.isAgg20
  z20 := Tryz.sizeOf20
  v20 := Tryz.zeroValue20
  t37 := Tryz.underlying82
  a37 := Tryz.isAgg82
  z37 := Tryz.sizeOf82
  v37 := Tryz.zeroValue82
  t46 := Tryz.underlying185
  a46 := Tryz.isAgg185
  z46 := Tryz.sizeOf185
  v46 := Tryz.zeroValue185
  t51 := Tryz.underlying225
  a51 := Tryz.isAgg225
  z51 := Tryz.sizeOf225
  v51 := Tryz.zeroValue225
  t53 := Tryz.underlying210
  a53 := Tryz.isAgg210
  z53 := Tryz.sizeOf210
  v53 := Tryz.zeroValue210
  t171 := Tryz.underlying209
  a171 := Tryz.isAgg209
  z171 := Tryz.sizeOf209
  v171 := Tryz.zeroValue209
  t173 := Tryz.underlying213
  a173 := Tryz.isAgg213
  z173 := Tryz.sizeOf213
  v173 := Tryz.zeroValue213
  t212 := Tryz.underlying234
  a212 := Tryz.isAgg234
  z212 := Tryz.sizeOf234
  v212 := Tryz.zeroValue234
  t213 := Tryz.underlying235
  a213 := Tryz.isAgg235
  z213 := Tryz.sizeOf235
  t232 := Tryz.underlying251
  a232 := Tryz.isAgg251
  z232 := Tryz.sizeOf251
  v232 := Tryz.zeroValue251
  t233 := Tryz.underlying252
  a233 := Tryz.isAgg252
  z233 := Tryz.sizeOf252
  v233 := Tryz.zeroValue252
  g17 := by kernel_rfl
  g18 := by kernel_rfl
  g19 := by kernel_rfl }
open Go.RowKit Go.Sort Go.Lib in
theorem Tryz.strconv_Itoa_small (i : Nat) (hi : i < 100) (w : World) :
    Calls Tryz.prog 54 #[.int .i64 i] w fun e w' => e = .returned (.string ⟨(Lib.decDigits i).toArray⟩) ∧ w' = w := Any.strconv_Itoa_small Tryz.lays171 i hi w
end Go.Proofs

/-
  WrV: Values that the writer puts: what each kind of value does, out of what its parts do.
-/
namespace Go.Proofs.YtoliilffjojfcaaGreatDoor
open Go.RowKit

/-- The writer, with its signs. -/
structure Wt (B b m : Nat) (s : WS) (w : World) : Prop where
  wr : Wrt B b m s.1 s.2 w
  signs : w.heap[m]? = some (.map kdMap 14)
  ne : m ≠ b

theorem Wt.stay {B b m : Nat} {s : WS} {w w' : World} (h : Wt B b m s w) (hs : ∀ k, k < w.heap.size → w'.heap[k]? = w.heap[k]?) : Wt B b m s w' :=
  ⟨h.wr.stay hs, by rw [hs m (lt_of_heap h.signs)]; exact h.signs, h.ne⟩
theorem Wt.alloc {B b m : Nat} {s : WS} {w : World} (h : Wt B b m s w) (o : Obj) : Wt B b m s (w.alloc o) := h.stay fun k hk => Below.heap_alloc w o k hk
theorem Wt.drew {B b m : Nat} {s : WS} {w : World} (h : Wt B b m s w) : Wt B b m s w.drew := h.stay fun _ _ => rfl
theorem Wt.below {B b m : Nat} {s : WS} {w w' : World} (h : Wt B b m s w) (hb : Below w.heap.size w w') : Wt B b m s w' := h.stay fun k hk => hb.block k hk
theorem Wt.later {B b m : Nat} {s s' : WS} {w w' : World} (h : Wt B b m s w) (h1 : Wrt B b m s'.1 s'.2 w') (k : Kp B b w w') : Wt B b m s' w' :=
  ⟨h1, k.kept m _ h.signs (by simpa using h.ne) (by intro c fz e; cases e), h.ne⟩
theorem Wt.size {B b m : Nat} {s : WS} {w : World} (h : Wt B b m s w) : B ≤ w.heap.size := by have h1 := h.wr.lt; have h2 := h.wr.lo; omega
theorem Kp.of {B b : Nat} {w w' : World} (hB : B ≤ w.heap.size) (h : Below w.heap.size w w') : Kp B b w w' :=
  ⟨h.mono hB, fun k o hk _ _ => by rw [h.block k (lt_of_heap hk)]; exact hk⟩

/-- A program's part, in blocks that were there ahead of the writer's. -/
def NB (B : Nat) (w : World) (t : Tr) (p : Nat) : Prop := NAt (fun k => k < B) w t p
theorem NB.later {B : Nat} {w w' : World} {t : Tr} {p : Nat} (h : NB B w t p) (hb : Below B w w') : NB B w' t p := NAt.later (fun k hk _ => hb.block k hk) _ _ h
theorem NB.lt {B : Nat} {w : World} {t : Tr} {p : Nat} (h : NB B w t p) : p < B := by
  cases t with
  | mk kd tx n ks =>
    unfold NB at h
    rw [NAt] at h
    exact h.1
theorem NB.cells {B : Nat} {w : World} {t : Tr} {p : Nat} (h : NB B w t p) : w.cell? ⟨p, 0, none⟩ = some (.int .i64 t.kd) ∧ w.cell? ⟨p, 1, none⟩ = some (.string t.tx) ∧ w.cell? ⟨p, 2, none⟩ = some (.int .i64 t.n) := by
  obtain ⟨u, ps, hb, _⟩ := NAt.opens2 h
  obtain ⟨h0, h1, h2, _⟩ := node_cells hb
  exact ⟨h0, h1, h2⟩
/-- Its row of parts. -/
theorem NB.row {B : Nat} {w : World} {t : Tr} {p : Nat} (h : NB B w t p) (h0 : 0 < t.kids.length) :
    ∃ (g c : Nat) (ps : List Nat), w.cell? ⟨p, 3, none⟩ = some (.slice (some ⟨g, 0, none⟩) t.kids.length c) ∧ g < B ∧ ps.length = t.kids.length ∧ ∀ j (hj : j < t.kids.length) (hp : j < ps.length), w.cell? ⟨g, j, none⟩ = some (nPtr ps[j]) ∧ NB B w t.kids[j] ps[j] := by
  obtain ⟨u, ps, hb, hr, hI, hk⟩ := NAt.opens2 h
  obtain ⟨_, _, _, h3, _⟩ := node_cells hb
  have hl := NAts.length _ _ hk
  obtain ⟨g, c, rfl, hc⟩ := row_open hr (by omega)
  rw [hl] at h3
  refine ⟨g, c, ps, h3, hI g rfl, hl, fun j hj hp => ⟨hc j hp, ?_⟩⟩
  obtain ⟨hp', hn⟩ := NAts.get _ _ hk j hj
  exact hn
theorem NB.rowLen {B : Nat} {w : World} {t : Tr} {p : Nat} (h : NB B w t p) : ∃ a c, w.cell? ⟨p, 3, none⟩ = some (.slice a t.kids.length c) := by
  obtain ⟨u, ps, hb, hr, hI, hk⟩ := NAt.opens2 h
  obtain ⟨_, _, _, h3, _⟩ := node_cells hb
  obtain ⟨a, c, hu⟩ := row_shut hr
  exact ⟨a, c, by rw [h3, hu, NAts.length _ _ hk]⟩

theorem NB.kid {B : Nat} {w : World} {t : Tr} {p : Nat} (h : NB B w t p) (j : Nat) (hj : j < t.kids.length) :
    ∃ g c q, w.cell? ⟨p, 3, none⟩ = some (.slice (some ⟨g, 0, none⟩) t.kids.length c) ∧ g < B ∧ w.cell? ⟨g, j, none⟩ = some (nPtr q) ∧ NB B w t.kids[j] q := by
  obtain ⟨g, c, ps, h1, h2, h3, h4⟩ := h.row (by omega)
  obtain ⟨h5, h6⟩ := h4 j hj (by omega)
  exact ⟨g, c, _, h1, h2, h5, h6⟩

def WPost (B b m : Nat) (s : WS) (w : World) (e : Ending) (w' : World) : Prop := e = .returned (.tuple #[]) ∧ Wt B b m s w' ∧ Kp B b w w'

/-- Tokens put, in a world that has grown. -/
theorem put_at {B b m : Nat} {s : WS} {w W : World} (ts : List ByteArray) (g n : Nat) (hn : n = ts.length) (cs : Array Value) (hcs : cs.toList = ts.map Value.string) (hg : W.heap[g]? = some (.cells cs 9 (0, 0))) (h : Wt B b m s W) (hk : Kp B b w W) (hlen : s.1.length + sumT ts ≤ 100000000) :
    Calls Tryz.prog 92 #[wPtr b, .slice (some ⟨g, 0, none⟩) n n] W (WPost B b m (putsS ts s) w) := by
  have hgb : g ≠ b := by
    intro e
    subst e
    rcases h.wr with h1 | h1 <;>
    · obtain ⟨_, v, hb, _⟩ := h1
      rw [hg] at hb
      simp at hb
  refine (put_any ts g n hn cs hcs hg hgb h.wr hlen).mono ?_
  rintro e w' ⟨rfl, h1, h2⟩
  exact ⟨rfl, h.later h1 h2, hk.trans h2⟩
theorem new_at {w : World} {o : Obj} {g : Nat} (hg : g = w.heap.size) : (w.alloc o).heap[g]? = some o := by subst hg; exact heap_new _ _

/-- What 'value' does with a part. -/
def VC (B b m : Nat) (t : Tr) (least : Int) (s s' : WS) : Prop :=
  ∀ w p, Wt B b m s w → NB B w t p → Calls Tryz.prog 146 #[wPtr b, nPtr p, .int .i64 least] w (WPost B b m s' w)
/-- What 'statement' does with a part. -/
def SC (B b m : Nat) (t : Tr) (s s' : WS) : Prop :=
  ∀ w p, Wt B b m s w → NB B w t p → Calls Tryz.prog 50 #[wPtr b, nPtr p] w (WPost B b m s' w)


/-- Behind the look at a kind that is no sign. -/
theorem kind_none {B b m : Nat} {s : WS} {w1 : World} (kd : Int) (h : Wt B b m s w1) (hk : sgK kd = none) :
    (Instr.lookup 85 (.map (some m)) (.int .i64 kd) true).run Tryz.prog w1.drew = .ok (.tuple #[.agg #[.string ⟨#[]⟩, .int .i64 0, .int .i64 0, .int .i64 0], .bool false]) w1.drew
    ∧ ∀ o, (Instr.lookup 85 (.map (some m)) (.int .i64 kd) true).run Tryz.prog (w1.alloc o).drew = .ok (.tuple #[.agg #[.string ⟨#[]⟩, .int .i64 0, .int .i64 0, .int .i64 0], .bool false]) (w1.alloc o).drew := by
  have h1 := look_kinds m kd w1.drew h.signs
  have h2 := fun o => look_kinds m kd (w1.alloc o).drew (h.alloc o).signs
  rw [hk] at h1 h2
  exact ⟨h1, h2⟩

set_option maxRecDepth 100000 in
set_option maxHeartbeats 1000000 in
theorem value_name {B b m : Nat} (tx : ByteArray) (n : Int) (ks : List Tr) (least : Int) (s : WS) (hl : ¬ (10 : Int) < least) (hlen : s.1.length + sumT [tx] ≤ 100000000) :
    VC B b m (.mk 23 tx n ks) least s (putsS [tx] s) := by
  intro w p hW hN
  have HW0 := hide hW
  have HN := hide hN
  have HK0 := hide (Kp.refl B b w)
  clear hW hN
  obtain ⟨d0, d1, d2⟩ := ((unhide HN).later (unhide HK0).below).cells
  simp only [Tr.kd, Tr.tx, Tr.n] at d0 d1 d2
  have hpl : p < w.heap.size := by have h1 := (unhide HN).lt; have h2 := (unhide HW0).size; simp at h2 ⊢; omega
  go_enter Tryz.func146, Tryz.ntmps146
  have hk : strK 23 = 10 := by decide +kernel
  have HC := hide (strength_any (unhide HW0).wr (unhide HW0).signs p 23 d0 hpl)
  rw [hk] at HC
  clear hk
  clear d0 d1 d2 hpl
  go_wp2_with fail
  refine Calls.mono HC.out ?_
  rintro e w1 ⟨rfl, hb⟩
  have HW1 := hide ((unhide HW0).below hb)
  have HK1 := hide ((unhide HK0).trans (Kp.of (b := b) (unhide HW0).size hb))
  clear hb HC HW0 HK0
  obtain ⟨l1, l2⟩ := kind_none 23 (unhide HW1) (by decide +kernel)
  obtain ⟨d0, d1, d2⟩ := ((unhide HN).later (unhide HK1).below).cells
  simp only [Tr.kd, Tr.tx, Tr.n] at d0 d1 d2
  have hpl : p < w1.heap.size := by have h1 := (unhide HN).lt; have h2 := (unhide HW1).size; simp at h2 ⊢; omega
  obtain ⟨e2, e3, ef⟩ := (unhide HW1).wr.cells
  have hbl := (unhide HW1).wr.lt
  have HW2 := hide ((unhide HW1).alloc (.cells #[.string ⟨#[]⟩, .int .i64 0, .int .i64 0, .int .i64 0] 160)).drew
  have HK2 := hide ((unhide HK1).alloc (unhide HW1).size (.cells #[.string ⟨#[]⟩, .int .i64 0, .int .i64 0, .int .i64 0] 160)).drew
  have HWi := hide ((unhide HW1).alloc (.cells #[.string ⟨#[]⟩, .int .i64 0, .int .i64 0, .int .i64 0] 160))
  have HKi := hide ((unhide HK1).alloc (unhide HW1).size (.cells #[.string ⟨#[]⟩, .int .i64 0, .int .i64 0, .int .i64 0] 160))
  go_wp2_with fail
  go_region
  go_wp2_with fail
  refine Calls.mono (put_at (s := s) (w := w) [tx] _ 1 rfl #[.string tx] rfl (by exact new_at (by simp)) (by exact ((unhide HWi).alloc _).drew) (by exact ((unhide HKi).alloc (unhide HWi).size _).drew) hlen) ?_
  intro e w3 hp
  obtain ⟨rfl, g1, g2⟩ := hp
  have HW3 := hide g1
  have HK3 := hide g2
  clear g1 g2 HW1 HK1
  go_wp2_with fail
  go_end0
  exact ⟨rfl, unhide HW3, unhide HK3⟩

set_option maxRecDepth 100000 in
set_option maxHeartbeats 1000000 in
theorem value_num {B b m : Nat} (tx : ByteArray) (n : Int) (ks : List Tr) (least : Int) (s : WS) (hl : ¬ (10 : Int) < least) (hit : ∀ W : World, B ≤ W.heap.size → Calls Tryz.prog 54 #[.int .i64 n] W fun e w' => e = .returned (.string (itoaB n)) ∧ Below W.heap.size W w') (hlen : s.1.length + sumT [itoaB n] ≤ 100000000) :
    VC B b m (.mk 17 tx n ks) least s (putsS [itoaB n] s) := by
  have HHIT := hide hit
  clear hit
  intro w p hW hN
  have HW0 := hide hW
  have HN := hide hN
  have HK0 := hide (Kp.refl B b w)
  clear hW hN
  obtain ⟨d0, d1, d2⟩ := ((unhide HN).later (unhide HK0).below).cells
  simp only [Tr.kd, Tr.tx, Tr.n] at d0 d1 d2
  have hpl : p < w.heap.size := by have h1 := (unhide HN).lt; have h2 := (unhide HW0).size; simp at h2 ⊢; omega
  go_enter Tryz.func146, Tryz.ntmps146
  have hk : strK 17 = 10 := by decide +kernel
  have HC := hide (strength_any (unhide HW0).wr (unhide HW0).signs p 17 d0 hpl)
  rw [hk] at HC
  clear hk
  clear d0 d1 d2 hpl
  go_wp2_with fail
  refine Calls.mono HC.out ?_
  rintro e w1 ⟨rfl, hb⟩
  have HW1 := hide ((unhide HW0).below hb)
  have HK1 := hide ((unhide HK0).trans (Kp.of (b := b) (unhide HW0).size hb))
  clear hb HC HW0 HK0
  obtain ⟨l1, l2⟩ := kind_none 17 (unhide HW1) (by decide +kernel)
  obtain ⟨d0, d1, d2⟩ := ((unhide HN).later (unhide HK1).below).cells
  simp only [Tr.kd, Tr.tx, Tr.n] at d0 d1 d2
  have hpl : p < w1.heap.size := by have h1 := (unhide HN).lt; have h2 := (unhide HW1).size; simp at h2 ⊢; omega
  obtain ⟨e2, e3, ef⟩ := (unhide HW1).wr.cells
  have hbl := (unhide HW1).wr.lt
  have HW2 := hide ((unhide HW1).alloc (.cells #[.string ⟨#[]⟩, .int .i64 0, .int .i64 0, .int .i64 0] 160)).drew
  have HK2 := hide ((unhide HK1).alloc (unhide HW1).size (.cells #[.string ⟨#[]⟩, .int .i64 0, .int .i64 0, .int .i64 0] 160)).drew
  clear HW1 HK1
  have HC := hide ((unhide HHIT) (w1.alloc (.cells #[.string ⟨#[]⟩, .int .i64 0, .int .i64 0, .int .i64 0] 160)).drew (unhide HW2).size)
  go_wp2_with fail
  go_region
  go_wp2_with fail
  refine Calls.mono HC.out ?_
  rintro e w3 ⟨rfl, hb⟩
  have HW3 := hide ((unhide HW2).below hb)
  have HK3 := hide ((unhide HK2).trans (Kp.of (b := b) (unhide HW2).size hb))
  clear hb HC HW2 HK2
  clear d0 d1 d2 hpl e2 e3 ef hbl l1 l2
  go_wp2_with fail
  refine Calls.mono (put_at (s := s) (w := w) [itoaB n] _ 1 rfl #[.string (itoaB n)] rfl (by exact new_at (by simp)) (by exact (unhide HW3).alloc _) (by exact (unhide HK3).alloc (unhide HW3).size _) hlen) ?_
  intro e w4 hp
  obtain ⟨rfl, g1, g2⟩ := hp
  have HW4 := hide g1
  have HK4 := hide g2
  clear g1 g2 HW3 HK3
  go_wp2_with fail
  go_end0
  exact ⟨rfl, unhide HW4, unhide HK4⟩

set_option maxRecDepth 100000 in
set_option maxHeartbeats 1000000 in
theorem value_assign {B b m : Nat} (tx : ByteArray) (n : Int) (t0 t1 : Tr) (ks : List Tr) (least : Int) (s s1 s2 : WS) (hl : ¬ (1 : Int) < least) (h0 : VC B b m t0 9 s s1) (h1 : VC B b m t1 1 (putsS [tEq] s1) s2) (hlen : s1.1.length + sumT [tEq] ≤ 100000000) :
    VC B b m (.mk 24 tx n (t0 :: t1 :: ks)) least s s2 := by
  have HH0 := hide h0
  have HH1 := hide h1
  clear h0 h1
  intro w p hW hN
  have HW0 := hide hW
  have HN := hide hN
  have HK0 := hide (Kp.refl B b w)
  clear hW hN
  obtain ⟨d0, d1, d2⟩ := ((unhide HN).later (unhide HK0).below).cells
  simp only [Tr.kd, Tr.tx, Tr.n] at d0 d1 d2
  have hpl : p < w.heap.size := by have h1 := (unhide HN).lt; have h2 := (unhide HW0).size; simp at h2 ⊢; omega
  go_enter Tryz.func146, Tryz.ntmps146
  have hk : strK 24 = 1 := by decide +kernel
  have HC := hide (strength_any (unhide HW0).wr (unhide HW0).signs p 24 d0 hpl)
  rw [hk] at HC
  clear hk
  clear d0 d1 d2 hpl
  go_wp2_with fail
  refine Calls.mono HC.out ?_
  rintro e w1 ⟨rfl, hb⟩
  have HW1 := hide ((unhide HW0).below hb)
  have HK1 := hide ((unhide HK0).trans (Kp.of (b := b) (unhide HW0).size hb))
  clear hb HC HW0 HK0
  obtain ⟨l1, l2⟩ := kind_none 24 (unhide HW1) (by decide +kernel)
  obtain ⟨d0, d1, d2⟩ := ((unhide HN).later (unhide HK1).below).cells
  simp only [Tr.kd, Tr.tx, Tr.n] at d0 d1 d2
  have hpl : p < w1.heap.size := by have h1 := (unhide HN).lt; have h2 := (unhide HW1).size; simp at h2 ⊢; omega
  obtain ⟨e2, e3, ef⟩ := (unhide HW1).wr.cells
  have hbl := (unhide HW1).wr.lt
  have HW2 := hide ((unhide HW1).alloc (.cells #[.string ⟨#[]⟩, .int .i64 0, .int .i64 0, .int .i64 0] 160)).drew
  have HK2 := hide ((unhide HK1).alloc (unhide HW1).size (.cells #[.string ⟨#[]⟩, .int .i64 0, .int .i64 0, .int .i64 0] 160)).drew
  obtain ⟨g3, cc3, q3, rr3, hg3, rk3, hq3⟩ := ((unhide HN).later (unhide HK1).below).kid 0 (by simp [Tr.kids])
  simp only [Tr.kids, List.length_cons] at rr3
  have HQ3 : Hid (NB B w1 t0 q3) := hq3
  have hgl3 : g3 < w1.heap.size := by have h2 := (unhide HW1).size; simp at h2 ⊢; omega
  clear hq3
  have HQN : Hid (NB B (w1.alloc (.cells #[.string ⟨#[]⟩, .int .i64 0, .int .i64 0, .int .i64 0] 160)).drew t0 q3) := (unhide HQ3).later (((Below.refl B w1).alloc (unhide HW1).size (.cells #[.string ⟨#[]⟩, .int .i64 0, .int .i64 0, .int .i64 0] 160)).drew)
  clear HW1 HK1
  have HC := hide ((unhide HH0) (w1.alloc (.cells #[.string ⟨#[]⟩, .int .i64 0, .int .i64 0, .int .i64 0] 160)).drew q3 (unhide HW2) (unhide HQN))
  go_wp2_with fail
  go_region
  go_wp2_with fail
  refine Calls.mono HC.out ?_
  intro e w4 hp
  obtain ⟨rfl, g1, g2⟩ := hp
  have HW4 := hide g1
  have HK4 := hide ((unhide HK2).trans g2)
  clear g1 g2 HC HW2 HK2
  clear d0 d1 d2 hpl e2 e3 ef hbl l1 l2 rr3 hg3 rk3 HQ3 hgl3 HQN
  go_wp2_with fail
  refine Calls.mono (put_at (s := s1) (w := w) [tEq] _ 1 rfl #[.string tEq] rfl (by exact new_at (by simp)) (by exact (unhide HW4).alloc _) (by exact (unhide HK4).alloc (unhide HW4).size _) hlen) ?_
  intro e w5 hp
  obtain ⟨rfl, g1, g2⟩ := hp
  have HW5 := hide g1
  have HK5 := hide g2
  clear g1 g2 HW4 HK4
  obtain ⟨d0, d1, d2⟩ := ((unhide HN).later (unhide HK5).below).cells
  simp only [Tr.kd, Tr.tx, Tr.n] at d0 d1 d2
  have hpl : p < w5.heap.size := by have h1 := (unhide HN).lt; have h2 := (unhide HW5).size; simp at h2 ⊢; omega
  obtain ⟨g6, cc6, q6, rr6, hg6, rk6, hq6⟩ := ((unhide HN).later (unhide HK5).below).kid 1 (by simp [Tr.kids])
  simp only [Tr.kids, List.length_cons] at rr6
  have HQ6 : Hid (NB B w5 t1 q6) := hq6
  have hgl6 : g6 < w5.heap.size := by have h2 := (unhide HW5).size; simp at h2 ⊢; omega
  clear hq6
  have HC := hide ((unhide HH1) w5 q6 (unhide HW5) (unhide HQ6))
  go_wp2_with fail
  refine Calls.mono HC.out ?_
  intro e w7 hp
  obtain ⟨rfl, g1, g2⟩ := hp
  have HW7 := hide g1
  have HK7 := hide ((unhide HK5).trans g2)
  clear g1 g2 HC HW5 HK5
  clear d0 d1 d2 hpl rr6 hg6 rk6 HQ6 hgl6
  go_wp2_with fail
  go_end0
  exact ⟨rfl, unhide HW7, unhide HK7⟩

end Go.Proofs.YtoliilffjojfcaaGreatDoor

/-
  WrO: Whether a value begins as another statement does.
-/
namespace Go.Proofs.YtoliilffjojfcaaGreatDoor
open Go.RowKit

/-- How many parts a kind has at least. -/
def needK (kd : Int) : Nat :=
  if kd = 24 ∨ (25 ≤ kd ∧ kd ≤ 31) ∨ kd = 37 ∨ kd = 5 ∨ kd = 7 ∨ kd = 8 ∨ kd = 9 then 2
  else if (32 ≤ kd ∧ kd ≤ 36) ∨ kd = 39 ∨ kd = 15 ∨ kd = 13 ∨ kd = 14 then 1 else 0
mutual
/-- A part with the parts that its kind asks for. -/
def okT : Tr → Prop
  | .mk kd _ _ ks => needK kd ≤ ks.length ∧ okTs ks
def okTs : List Tr → Prop
  | [] => True
  | t :: ts => okT t ∧ okTs ts
end
theorem okT.need {t : Tr} (h : okT t) : needK t.kd ≤ t.kids.length := by
  cases t with
  | mk kd tx n ks => rw [okT] at h; exact h.1
theorem okTs.get : ∀ {ts : List Tr}, okTs ts → ∀ j (hj : j < ts.length), okT ts[j]
  | [], _, j, hj => absurd hj (by simp)
  | t :: ts, h, j, hj => by
    rw [okTs] at h
    cases j with
    | zero => exact h.1
    | succ j => exact okTs.get h.2 j (by simpa using hj)
theorem okT.kids {t : Tr} (h : okT t) : okTs t.kids := by
  cases t with
  | mk kd tx n ks => rw [okT] at h; exact h.2

theorem kid_get {t : Tr} {j : Nat} (hj : j < t.kids.length) : t.kid j = t.kids[j] := by
  unfold Tr.kid
  rw [List.getD_eq_getElem?_getD, List.getElem?_eq_getElem hj]
  rfl
theorem count_kid {t : Tr} {j : Nat} (hj : j < t.kids.length) : t.kids[j].count + 1 ≤ t.count := by
  cases t with
  | mk kd tx n ks =>
    have := counts_le ks j hj
    rw [count_mk]
    simp only [Tr.kids]
    omega

theorem opensK_cases {kd : Int} (h : opensK kd = true) : kd = 24 ∨ kd = 36 ∨ kd = 35 ∨ kd = 25 ∨ kd = 26 ∨ kd = 27 ∨ kd = 28 ∨ kd = 29 ∨ kd = 30 ∨ kd = 31 := by
  unfold opensK at h
  simpa [or_assoc] using h
theorem opensK_not {kd : Int} (h : ¬ opensK kd = true) : kd ≠ 24 ∧ kd ≠ 36 ∧ kd ≠ 35 ∧ kd ≠ 25 ∧ kd ≠ 26 ∧ kd ≠ 27 ∧ kd ≠ 28 ∧ kd ≠ 29 ∧ kd ≠ 30 ∧ kd ≠ 31 := by
  unfold opensK at h
  simpa [not_or, and_assoc] using h

theorem strK_bounds (kd : Int) : 1 ≤ strK kd ∧ strK kd ≤ 10 := by
  have key : ∀ s ∈ sgs, 1 ≤ s.str ∧ s.str ≤ 10 := by decide +kernel
  unfold strK
  split
  · omega
  · split
    · omega
    · split
      · rename_i s hs
        exact key s (List.mem_of_find?_eq_some hs)
      · omega

set_option maxRecDepth 100000 in
set_option maxHeartbeats 4000000 in
theorem opens_any {B b m : Nat} {s : WS} {w : World} (t : Tr) (p : Nat) (hW : Wt B b m s w) (hN : NB B w t p) (hok : okT t) :
    Calls Tryz.prog 148 #[wPtr b, nPtr p] w fun e w' => e = .returned (.bool (opensW t.count t)) ∧ Below w.heap.size w w' := by
  have HW := hide hW
  have HN := hide hN
  have HO := hide hok
  clear hW hN hok
  go_enter Tryz.func148, Tryz.ntmps148
  go_wp2_with fail
  go_loopg [1] t.count (fun k n wr => ∃ u q, n = nPtr q ∧ NB B wr u q ∧ okT u ∧ u.count ≤ k ∧ opensW t.count t = opensW k u ∧ Wt B b m s wr ∧ Below w.heap.size w wr)
  case atStart => exact ⟨t, p, rfl, unhide HN, unhide HO, Nat.le_refl _, rfl, unhide HW, Below.refl _ _⟩
  case round =>
    obtain ⟨u, q, rfl, hN, hok, hc, he, hW, hB⟩ := hrel
    obtain ⟨k, rfl⟩ : ∃ k, gk = k + 1 := ⟨gk - 1, by have := count_pos u; omega⟩
    obtain ⟨d0, _, _⟩ := hN.cells
    have hql : q < wr.heap.size := by have h1 := hN.lt; have h2 := hW.size; omega
    have HC := hide (strength_any hW.wr hW.signs q u.kd d0 hql)
    have HN1 := hide hN
    have HW1 := hide hW
    have HB1 := hide hB
    have HE := hide he
    have HOK := hide hok
    have HCT := hide hc
    clear hN hW hB he hok hc d0 HN HW HO
    go_wp2_with fail
    refine Calls.mono HC.out ?_
    rintro e w1 ⟨rfl, hb⟩
    have HN2 := hide ((unhide HN1).later (hb.mono (unhide HW1).size))
    have HW2 := hide ((unhide HW1).below hb)
    have HB2 := hide ((unhide HB1).trans (hb.mono (unhide HB1).size))
    obtain ⟨d0, _, _⟩ := (unhide HN2).cells
    have hql : q < w1.heap.size := by have h1 := hb.size; omega
    clear hb HC HN1 HW1 HB1
    by_cases h37 : u.kd = 37
    · have hv : opensW t.count t = true := by rw [unhide HE, opensW, if_pos (Or.inl h37)]
      have HV := hide hv
      rw [h37] at d0
      clear hv h37
      go_wp2_with fail
      go_ret
      exact ⟨by rw [unhide HV]; rfl, unhide HB2⟩
    · by_cases h38 : u.kd = 38
      · have hv : opensW t.count t = true := by rw [unhide HE, opensW, if_pos (Or.inr h38)]
        have HV := hide hv
        rw [h38] at d0
        clear hv h37 h38
        go_wp2_with fail
        go_ret
        exact ⟨by rw [unhide HV]; rfl, unhide HB2⟩
      · have hv : opensW t.count t = if opensK u.kd = true then (if strK (u.kid 0).kd < strK u.kd then false else opensW k (u.kid 0)) else false := by rw [unhide HE, opensW, if_neg (by omega)]
        by_cases hk : opensK u.kd = true
        · rw [if_pos hk] at hv
          have hcs := opensK_cases hk
          have hlen : 0 < u.kids.length := by
            have h1 := (unhide HOK).need
            have h2 : 1 ≤ needK u.kd := by rcases hcs with h | h | h | h | h | h | h | h | h | h <;> rw [h] <;> decide
            omega
          obtain ⟨g, c, q0, r3, hgB, r0, hq0⟩ := (unhide HN2).kid 0 hlen
          rw [← kid_get hlen] at hq0
          have hct := count_kid hlen
          rw [← kid_get hlen] at hct
          have hok0 : okT (u.kid 0) := by rw [kid_get hlen]; exact okTs.get (unhide HOK).kids 0 hlen
          have hgl : g < w1.heap.size := by have h2 := (unhide HW2).size; omega
          obtain ⟨f0, _, _⟩ := hq0.cells
          have hq0l : q0 < w1.heap.size := by have h1 := hq0.lt; have h2 := (unhide HW2).size; omega
          have HC := hide (strength_any (unhide HW2).wr (unhide HW2).signs q0 (u.kid 0).kd f0 hq0l)
          have HQ := hide hq0
          have HV := hide hv
          have HO0 := hide hok0
          have HCT0 : Hid ((u.kid 0).count ≤ k) := by have := unhide HCT; show _ ≤ _; omega
          have sb1 := strK_bounds u.kd
          have sb2 := strK_bounds (u.kid 0).kd
          generalize strK (u.kid 0).kd = st0 at HC HV sb2
          generalize strK u.kd = st at HV sb1 ⊢
          clear hq0 hv hok0 hct hk h37 h38 f0 HE
          have hlen' : (0 : Int) < (u.kids.length : Int) := by omega
          rcases hcs with h | h | h | h | h | h | h | h | h | h
          all_goals
            rw [h] at d0
            clear h
            go_wp2_with fail
            refine Calls.mono HC.out ?_
            rintro e w2 ⟨rfl, hb⟩
            have HN3 := hide ((unhide HQ).later (hb.mono (unhide HW2).size))
            have HW3 := hide ((unhide HW2).below hb)
            have HB3 := hide ((unhide HB2).trans (hb.mono (unhide HB2).size))
            clear hb HC
            by_cases hlt : st0 < st
            · have hv2 : opensW t.count t = false := by rw [unhide HV, if_pos hlt]
              have HV2 := hide hv2
              clear hv2
              go_wp2_with fail
              go_ret
              exact ⟨by rw [unhide HV2]; rfl, unhide HB3⟩
            · have hv2 : opensW t.count t = opensW k (u.kid 0) := by rw [unhide HV, if_neg hlt]
              have HV2 := hide hv2
              clear hv2
              go_wp2_with fail
              go_roundg k
              case measure => omega
              case rel => exact ⟨u.kid 0, q0, rfl, unhide HN3, unhide HO0, unhide HCT0, unhide HV2, unhide HW3, unhide HB3⟩
        · rw [if_neg hk] at hv
          obtain ⟨n1, n2, n3, n4, n5, n6, n7, n8, n9, n10⟩ := opensK_not hk
          have HV := hide hv
          clear hv hk
          go_wp2_with fail
          go_ret
          exact ⟨by rw [unhide HV]; rfl, unhide HB2⟩
end Go.Proofs.YtoliilffjojfcaaGreatDoor

/-
  WrS: Statements that the writer puts; a program's text.
-/
namespace Go.Proofs.YtoliilffjojfcaaGreatDoor
open Go.RowKit

set_option maxRecDepth 100000 in
set_option maxHeartbeats 1000000 in
theorem wrPar_any {B b m : Nat} (t : Tr) (s s' : WS) (h : VC B b m t 1 (putsS [tOpen] s) s') (hl1 : s.1.length + sumT [tOpen] ≤ 100000000) (hl2 : s'.1.length + sumT [tShut] ≤ 100000000) :
    ∀ w p, Wt B b m s w → NB B w t p → Calls Tryz.prog 149 #[wPtr b, nPtr p] w (WPost B b m (putsS [tShut] s') w) := by
  have HH := hide h
  clear h
  intro w p hW hN
  have HW0 := hide hW
  have HN := hide hN
  have HK0 := hide (Kp.refl B b w)
  clear hW hN
  go_enter Tryz.func149, Tryz.ntmps149
  go_wp2_with fail
  refine Calls.mono (put_at (s := s) (w := w) [tOpen] _ 1 rfl #[.string tOpen] rfl (by exact new_at (by simp)) (by exact (unhide HW0).alloc _) (by exact (unhide HK0).alloc (unhide HW0).size _) hl1) ?_
  intro e w1 hp
  obtain ⟨rfl, g1, g2⟩ := hp
  have HW1 := hide g1
  have HK1 := hide g2
  clear g1 g2 HW0 HK0
  have HQ := hide ((unhide HN).later (unhide HK1).below)
  have HC := hide ((unhide HH) w1 p (unhide HW1) (unhide HQ))
  go_wp2_with fail
  refine Calls.mono HC.out ?_
  intro e w2 hp
  obtain ⟨rfl, g1, g2⟩ := hp
  have HW2 := hide g1
  have HK2 := hide ((unhide HK1).trans g2)
  clear g1 g2 HC HW1 HK1
  go_wp2_with fail
  refine Calls.mono (put_at (s := s') (w := w) [tShut] _ 1 rfl #[.string tShut] rfl (by exact new_at (by simp)) (by exact (unhide HW2).alloc _) (by exact (unhide HK2).alloc (unhide HW2).size _) hl2) ?_
  intro e w3 hp
  obtain ⟨rfl, g1, g2⟩ := hp
  have HW3 := hide g1
  have HK3 := hide g2
  clear g1 g2 HW2 HK2
  go_wp2_with fail
  go_end0
  exact ⟨rfl, unhide HW3, unhide HK3⟩

set_option maxRecDepth 100000 in
set_option maxHeartbeats 1000000 in
theorem expr_plain {B b m : Nat} (tx : ByteArray) (n : Int) (t0 : Tr) (ks : List Tr) (s s' : WS) (hop : opensW t0.count t0 = false) (hok : okT t0) (h : VC B b m t0 1 s s') (hl : s'.1.length + sumT [tSemi] ≤ 100000000) :
    ∀ w p, Wt B b m s w → NB B w (.mk 15 tx n (t0 :: ks)) p → Calls Tryz.prog 99 #[wPtr b, nPtr p] w (WPost B b m (putsS [tSemi] s') w) := by
  have HHOP := hide hop
  have HHOK := hide hok
  have HH := hide h
  clear hop hok h
  intro w p hW hN
  have HW0 := hide hW
  have HN := hide hN
  have HK0 := hide (Kp.refl B b w)
  clear hW hN
  obtain ⟨g1, cc1, q1, rr1, hg1, rk1, hq1⟩ := ((unhide HN).later (unhide HK0).below).kid 0 (by simp [Tr.kids])
  simp only [Tr.kids, List.length_cons] at rr1
  have HQ1 : Hid (NB B w t0 q1) := hq1
  have hgl1 : g1 < w.heap.size := by have h2 := (unhide HW0).size; simp at h2 ⊢; omega
  clear hq1
  have HC := hide (opens_any t0 q1 (unhide HW0) (unhide HQ1) (unhide HHOK))
  rw [unhide HHOP] at HC
  go_enter Tryz.func99, Tryz.ntmps99
  go_wp2_with fail
  refine Calls.mono HC.out ?_
  rintro e w9 ⟨rfl, hb⟩
  have HW9 := hide ((unhide HW0).below hb)
  have HK9 := hide ((unhide HK0).trans (Kp.of (b := b) (unhide HW0).size hb))
  have HQ9 := hide ((unhide HQ1).later (hb.mono (unhide HW0).size))
  clear hb HC
  clear rr1 hg1 rk1 HQ1 hgl1
  have HC := hide ((unhide HH) w9 q1 (unhide HW9) (unhide HQ9))
  go_wp2_with fail
  refine Calls.mono HC.out ?_
  intro e w2 hp
  obtain ⟨rfl, g1, g2⟩ := hp
  have HW2 := hide g1
  have HK2 := hide ((unhide HK9).trans g2)
  clear g1 g2 HC HW9 HK9
  go_wp2_with fail
  refine Calls.mono (put_at (s := s') (w := w) [tSemi] _ 1 rfl #[.string tSemi] rfl (by exact new_at (by simp)) (by exact (unhide HW2).alloc _) (by exact (unhide HK2).alloc (unhide HW2).size _) hl) ?_
  intro e w3 hp
  obtain ⟨rfl, g1, g2⟩ := hp
  have HW3 := hide g1
  have HK3 := hide g2
  clear g1 g2 HW2 HK2
  go_wp2_with fail
  go_end0
  exact ⟨rfl, unhide HW3, unhide HK3⟩

set_option maxRecDepth 100000 in
set_option maxHeartbeats 1000000 in
theorem expr_par {B b m : Nat} (tx : ByteArray) (n : Int) (t0 : Tr) (ks : List Tr) (s s' : WS) (hop : opensW t0.count t0 = true) (hok : okT t0) (h : ∀ w p, Wt B b m s w → NB B w t0 p → Calls Tryz.prog 149 #[wPtr b, nPtr p] w (WPost B b m s' w)) (hl : s'.1.length + sumT [tSemi] ≤ 100000000) :
    ∀ w p, Wt B b m s w → NB B w (.mk 15 tx n (t0 :: ks)) p → Calls Tryz.prog 99 #[wPtr b, nPtr p] w (WPost B b m (putsS [tSemi] s') w) := by
  have HHOP := hide hop
  have HHOK := hide hok
  have HH := hide h
  clear hop hok h
  intro w p hW hN
  have HW0 := hide hW
  have HN := hide hN
  have HK0 := hide (Kp.refl B b w)
  clear hW hN
  obtain ⟨g1, cc1, q1, rr1, hg1, rk1, hq1⟩ := ((unhide HN).later (unhide HK0).below).kid 0 (by simp [Tr.kids])
  simp only [Tr.kids, List.length_cons] at rr1
  have HQ1 : Hid (NB B w t0 q1) := hq1
  have hgl1 : g1 < w.heap.size := by have h2 := (unhide HW0).size; simp at h2 ⊢; omega
  clear hq1
  have HC := hide (opens_any t0 q1 (unhide HW0) (unhide HQ1) (unhide HHOK))
  rw [unhide HHOP] at HC
  go_enter Tryz.func99, Tryz.ntmps99
  go_wp2_with fail
  refine Calls.mono HC.out ?_
  rintro e w9 ⟨rfl, hb⟩
  have HW9 := hide ((unhide HW0).below hb)
  have HK9 := hide ((unhide HK0).trans (Kp.of (b := b) (unhide HW0).size hb))
  have HQ9 := hide ((unhide HQ1).later (hb.mono (unhide HW0).size))
  clear hb HC
  clear rr1 hg1 rk1 HQ1 hgl1
  have HC := hide ((unhide HH) w9 q1 (unhide HW9) (unhide HQ9))
  go_wp2_with fail
  refine Calls.mono HC.out ?_
  intro e w2 hp
  obtain ⟨rfl, g1, g2⟩ := hp
  have HW2 := hide g1
  have HK2 := hide ((unhide HK9).trans g2)
  clear g1 g2 HC HW9 HK9
  go_wp2_with fail
  refine Calls.mono (put_at (s := s') (w := w) [tSemi] _ 1 rfl #[.string tSemi] rfl (by exact new_at (by simp)) (by exact (unhide HW2).alloc _) (by exact (unhide HK2).alloc (unhide HW2).size _) hl) ?_
  intro e w3 hp
  obtain ⟨rfl, g1, g2⟩ := hp
  have HW3 := hide g1
  have HK3 := hide g2
  clear g1 g2 HW2 HK2
  go_wp2_with fail
  go_end0
  exact ⟨rfl, unhide HW3, unhide HK3⟩

set_option maxRecDepth 100000 in
set_option maxHeartbeats 1000000 in
theorem st_func {B b m : Nat} (tx : ByteArray) (n : Int) (ks : List Tr) (s s' : WS) (h : ∀ w p, Wt B b m s w → NB B w (.mk 5 tx n ks) p → Calls Tryz.prog 95 #[wPtr b, nPtr p] w (WPost B b m s' w)) : SC B b m (.mk 5 tx n ks) s s' := by
  have HH := hide h
  clear h
  intro w p hW hN
  have HW0 := hide hW
  have HN := hide hN
  have HK0 := hide (Kp.refl B b w)
  clear hW hN
  obtain ⟨d0, d1, d2⟩ := ((unhide HN).later (unhide HK0).below).cells
  simp only [Tr.kd, Tr.tx, Tr.n] at d0 d1 d2
  have hpl : p < w.heap.size := by have h1 := (unhide HN).lt; have h2 := (unhide HW0).size; simp at h2 ⊢; omega
  have HC := hide ((unhide HH) w p (unhide HW0) (unhide HN))
  go_enter Tryz.func50, Tryz.ntmps50
  go_wp2_with fail
  refine Calls.mono HC.out ?_
  intro e w1 hp
  obtain ⟨rfl, g1, g2⟩ := hp
  have HW1 := hide g1
  have HK1 := hide ((unhide HK0).trans g2)
  clear g1 g2 HC HW0 HK0
  clear d0 d1 d2 hpl
  go_wp2_with fail
  go_end0
  exact ⟨rfl, unhide HW1, unhide HK1⟩

set_option maxRecDepth 100000 in
set_option maxHeartbeats 1000000 in
theorem st_block {B b m : Nat} (tx : ByteArray) (n : Int) (ks : List Tr) (s s' : WS) (h : ∀ w p, Wt B b m s w → NB B w (.mk 6 tx n ks) p → Calls Tryz.prog 96 #[wPtr b, nPtr p] w (WPost B b m s' w)) : SC B b m (.mk 6 tx n ks) s s' := by
  have HH := hide h
  clear h
  intro w p hW hN
  have HW0 := hide hW
  have HN := hide hN
  have HK0 := hide (Kp.refl B b w)
  clear hW hN
  obtain ⟨d0, d1, d2⟩ := ((unhide HN).later (unhide HK0).below).cells
  simp only [Tr.kd, Tr.tx, Tr.n] at d0 d1 d2
  have hpl : p < w.heap.size := by have h1 := (unhide HN).lt; have h2 := (unhide HW0).size; simp at h2 ⊢; omega
  have HC := hide ((unhide HH) w p (unhide HW0) (unhide HN))
  go_enter Tryz.func50, Tryz.ntmps50
  go_wp2_with fail
  refine Calls.mono HC.out ?_
  intro e w1 hp
  obtain ⟨rfl, g1, g2⟩ := hp
  have HW1 := hide g1
  have HK1 := hide ((unhide HK0).trans g2)
  clear g1 g2 HC HW0 HK0
  clear d0 d1 d2 hpl
  go_wp2_with fail
  go_end0
  exact ⟨rfl, unhide HW1, unhide HK1⟩

set_option maxRecDepth 100000 in
set_option maxHeartbeats 1000000 in
theorem st_if {B b m : Nat} (tx : ByteArray) (n : Int) (ks : List Tr) (s s' : WS) (h : ∀ w p, Wt B b m s w → NB B w (.mk 7 tx n ks) p → Calls Tryz.prog 97 #[wPtr b, nPtr p] w (WPost B b m s' w)) : SC B b m (.mk 7 tx n ks) s s' := by
  have HH := hide h
  clear h
  intro w p hW hN
  have HW0 := hide hW
  have HN := hide hN
  have HK0 := hide (Kp.refl B b w)
  clear hW hN
  obtain ⟨d0, d1, d2⟩ := ((unhide HN).later (unhide HK0).below).cells
  simp only [Tr.kd, Tr.tx, Tr.n] at d0 d1 d2
  have hpl : p < w.heap.size := by have h1 := (unhide HN).lt; have h2 := (unhide HW0).size; simp at h2 ⊢; omega
  have HC := hide ((unhide HH) w p (unhide HW0) (unhide HN))
  go_enter Tryz.func50, Tryz.ntmps50
  go_wp2_with fail
  refine Calls.mono HC.out ?_
  intro e w1 hp
  obtain ⟨rfl, g1, g2⟩ := hp
  have HW1 := hide g1
  have HK1 := hide ((unhide HK0).trans g2)
  clear g1 g2 HC HW0 HK0
  clear d0 d1 d2 hpl
  go_wp2_with fail
  go_end0
  exact ⟨rfl, unhide HW1, unhide HK1⟩

set_option maxRecDepth 100000 in
set_option maxHeartbeats 1000000 in
theorem st_while {B b m : Nat} (tx : ByteArray) (n : Int) (ks : List Tr) (s s' : WS) (h : ∀ w p, Wt B b m s w → NB B w (.mk 8 tx n ks) p → Calls Tryz.prog 97 #[wPtr b, nPtr p] w (WPost B b m s' w)) : SC B b m (.mk 8 tx n ks) s s' := by
  have HH := hide h
  clear h
  intro w p hW hN
  have HW0 := hide hW
  have HN := hide hN
  have HK0 := hide (Kp.refl B b w)
  clear hW hN
  obtain ⟨d0, d1, d2⟩ := ((unhide HN).later (unhide HK0).below).cells
  simp only [Tr.kd, Tr.tx, Tr.n] at d0 d1 d2
  have hpl : p < w.heap.size := by have h1 := (unhide HN).lt; have h2 := (unhide HW0).size; simp at h2 ⊢; omega
  have HC := hide ((unhide HH) w p (unhide HW0) (unhide HN))
  go_enter Tryz.func50, Tryz.ntmps50
  go_wp2_with fail
  refine Calls.mono HC.out ?_
  intro e w1 hp
  obtain ⟨rfl, g1, g2⟩ := hp
  have HW1 := hide g1
  have HK1 := hide ((unhide HK0).trans g2)
  clear g1 g2 HC HW0 HK0
  clear d0 d1 d2 hpl
  go_wp2_with fail
  go_end0
  exact ⟨rfl, unhide HW1, unhide HK1⟩

set_option maxRecDepth 100000 in
set_option maxHeartbeats 1000000 in
theorem st_with {B b m : Nat} (tx : ByteArray) (n : Int) (ks : List Tr) (s s' : WS) (h : ∀ w p, Wt B b m s w → NB B w (.mk 9 tx n ks) p → Calls Tryz.prog 97 #[wPtr b, nPtr p] w (WPost B b m s' w)) : SC B b m (.mk 9 tx n ks) s s' := by
  have HH := hide h
  clear h
  intro w p hW hN
  have HW0 := hide hW
  have HN := hide hN
  have HK0 := hide (Kp.refl B b w)
  clear hW hN
  obtain ⟨d0, d1, d2⟩ := ((unhide HN).later (unhide HK0).below).cells
  simp only [Tr.kd, Tr.tx, Tr.n] at d0 d1 d2
  have hpl : p < w.heap.size := by have h1 := (unhide HN).lt; have h2 := (unhide HW0).size; simp at h2 ⊢; omega
  have HC := hide ((unhide HH) w p (unhide HW0) (unhide HN))
  go_enter Tryz.func50, Tryz.ntmps50
  go_wp2_with fail
  refine Calls.mono HC.out ?_
  intro e w1 hp
  obtain ⟨rfl, g1, g2⟩ := hp
  have HW1 := hide g1
  have HK1 := hide ((unhide HK0).trans g2)
  clear g1 g2 HC HW0 HK0
  clear d0 d1 d2 hpl
  go_wp2_with fail
  go_end0
  exact ⟨rfl, unhide HW1, unhide HK1⟩

set_option maxRecDepth 100000 in
set_option maxHeartbeats 1000000 in
theorem st_try {B b m : Nat} (tx : ByteArray) (n : Int) (ks : List Tr) (s s' : WS) (h : ∀ w p, Wt B b m s w → NB B w (.mk 12 tx n ks) p → Calls Tryz.prog 98 #[wPtr b, nPtr p] w (WPost B b m s' w)) : SC B b m (.mk 12 tx n ks) s s' := by
  have HH := hide h
  clear h
  intro w p hW hN
  have HW0 := hide hW
  have HN := hide hN
  have HK0 := hide (Kp.refl B b w)
  clear hW hN
  obtain ⟨d0, d1, d2⟩ := ((unhide HN).later (unhide HK0).below).cells
  simp only [Tr.kd, Tr.tx, Tr.n] at d0 d1 d2
  have hpl : p < w.heap.size := by have h1 := (unhide HN).lt; have h2 := (unhide HW0).size; simp at h2 ⊢; omega
  have HC := hide ((unhide HH) w p (unhide HW0) (unhide HN))
  go_enter Tryz.func50, Tryz.ntmps50
  go_wp2_with fail
  refine Calls.mono HC.out ?_
  intro e w1 hp
  obtain ⟨rfl, g1, g2⟩ := hp
  have HW1 := hide g1
  have HK1 := hide ((unhide HK0).trans g2)
  clear g1 g2 HC HW0 HK0
  clear d0 d1 d2 hpl
  go_wp2_with fail
  go_end0
  exact ⟨rfl, unhide HW1, unhide HK1⟩

set_option maxRecDepth 100000 in
set_option maxHeartbeats 1000000 in
theorem st_expr {B b m : Nat} (tx : ByteArray) (n : Int) (ks : List Tr) (s s' : WS) (h : ∀ w p, Wt B b m s w → NB B w (.mk 15 tx n ks) p → Calls Tryz.prog 99 #[wPtr b, nPtr p] w (WPost B b m s' w)) : SC B b m (.mk 15 tx n ks) s s' := by
  have HH := hide h
  clear h
  intro w p hW hN
  have HW0 := hide hW
  have HN := hide hN
  have HK0 := hide (Kp.refl B b w)
  clear hW hN
  obtain ⟨d0, d1, d2⟩ := ((unhide HN).later (unhide HK0).below).cells
  simp only [Tr.kd, Tr.tx, Tr.n] at d0 d1 d2
  have hpl : p < w.heap.size := by have h1 := (unhide HN).lt; have h2 := (unhide HW0).size; simp at h2 ⊢; omega
  have HC := hide ((unhide HH) w p (unhide HW0) (unhide HN))
  go_enter Tryz.func50, Tryz.ntmps50
  go_wp2_with fail
  refine Calls.mono HC.out ?_
  intro e w1 hp
  obtain ⟨rfl, g1, g2⟩ := hp
  have HW1 := hide g1
  have HK1 := hide ((unhide HK0).trans g2)
  clear g1 g2 HC HW0 HK0
  clear d0 d1 d2 hpl
  go_wp2_with fail
  go_end0
  exact ⟨rfl, unhide HW1, unhide HK1⟩

set_option maxRecDepth 100000 in
set_option maxHeartbeats 1000000 in
/-- A program's text, out of what is written of each of its statements: 'f j' is what stands behind j of them. -/
theorem text_any (tx : ByteArray) (n : Int) (ks : List Tr) (f : Nat → WS) (B p : Nat) (w : World) (hB : B = w.heap.size) (hN : NB B w (.mk 1 tx n ks) p) (hk0 : 0 < ks.length) (hkl : ks.length ≤ 100000) (t : TypeId) (fr : Nat × Nat) (hg : w.heap[3]? = some (.cells sgCells t fr)) (h0 : f 0 = ([], noText))
    (hst : ∀ b m j (hj : j < ks.length), ∃ s', SC B b m ks[j] (f j) s' ∧ s'.1.length + 1 ≤ 100000000 ∧ f (j + 1) = endS s') (hl : (f ks.length).1.length ≤ 100000000) (hne : (f ks.length).1 ≠ []) :
    Calls Tryz.prog 14 #[nPtr p] w fun e w' => e = .returned (.string ⟨(f ks.length).1.toArray⟩) ∧ Below w.heap.size w w' := by
  have HST := hide hst
  have HN := hide hN
  have HL := hide hl
  have HNE := hide hne
  have H0 := hide h0
  have HC := hide (newWriter_any w t fr hg)
  obtain ⟨d0, _, _⟩ := hN.cells
  simp only [Tr.kd] at d0
  have hpl : p < w.heap.size := by have h1 := hN.lt; omega
  have HBE := hide hB
  clear hst hN hl hne hg h0 hB
  go_enter Tryz.func14, Tryz.ntmps14
  go_wp2_with fail
  refine Calls.mono HC.out ?_
  rintro e w1 ⟨b, m, rfl, hwr, hm, hne, hb⟩
  have HW1 : Hid (Wt B b m (f 0) w1) := by rw [unhide HBE, unhide H0]; exact ⟨hwr, hm, hne⟩
  have HB1 := hide hb
  have HN1 := hide ((unhide HN).later (by rw [unhide HBE]; exact hb))
  clear hwr hm hne hb HC d0 hpl
  obtain ⟨g, c, ps, r3, hgB, hpsl, hcell⟩ := (unhide HN1).row (by simpa [Tr.kids] using hk0)
  simp only [Tr.kids] at r3 hpsl
  have hpl : p < w1.heap.size := by have h1 := (unhide HN1).lt; have h2 := (unhide HW1).size; omega
  have HCELL := hide hcell
  have HPSL := hide hpsl
  have HGB := hide hgB
  clear hcell hpsl hgB
  go_wp2_with fail
  clear r3
  go_loopw [21] (fun i wr => ∃ k : Nat, k ≤ ks.length ∧ i = .int .i64 k ∧ Wt B b m (f k) wr ∧ Below B w1 wr) (fun i _ => ks.length - (intOf i).toNat)
  case atStart => exact ⟨0, Nat.zero_le _, rfl, unhide HW1, Below.refl _ _⟩
  case round =>
    obtain ⟨k, hk, rfl, hw, hbw⟩ := hrel
    have HW := hide hw
    have HBW := hide hbw
    clear hw hbw
    by_cases hlt : k < ks.length
    · obtain ⟨s', hsc, hls, hfn⟩ := (unhide HST) b m k hlt
      obtain ⟨rk, hnk⟩ := (unhide HCELL) k (by simpa [Tr.kids] using hlt) (by rw [unhide HPSL]; exact hlt)
      generalize ps[k]'(by rw [unhide HPSL]; exact hlt) = q at rk hnk
      have rk2 : wr.cell? ⟨g, k, none⟩ = some (nPtr q) := by rw [(unhide HBW).cell (p := ⟨g, k, none⟩) (unhide HGB)]; exact rk
      have HC := hide (hsc wr q (unhide HW) (hnk.later (unhide HBW)))
      have HFN := hide hfn
      have hgl : g < wr.heap.size := by have h1 := unhide HGB; have h2 := (unhide HW).size; omega
      clear hsc hfn rk hnk
      go_wp2_with fail
      refine Calls.mono HC.out ?_
      intro e w2 hp
      obtain ⟨rfl, g1, g2⟩ := hp
      have HW2 := hide g1
      have HB2 := hide ((unhide HBW).trans g2.below)
      clear g1 g2 HC rk2
      have HC := hide (endLine_any (unhide HW2).wr hls)
      go_wp2_with fail
      refine Calls.mono HC.out ?_
      rintro e w3 ⟨rfl, h3, k3⟩
      have HW3 : Hid (Wt B b m (f (k + 1)) w3) := by rw [unhide HFN]; exact (unhide HW2).later h3 k3
      have HB3 := hide ((unhide HB2).trans k3.below)
      clear h3 k3 HC
      go_wp2_with fail
      go_roundw
      case rel => exact ⟨k + 1, by omega, by go_num, unhide HW3, unhide HB3⟩
      case measure => simp [intOf]; omega
    · have hk2 : k = ks.length := by omega
      subst hk2
      have HC := hide (string_any (unhide HW).wr (unhide HNE) (unhide HL))
      go_wp2_with fail
      refine Calls.mono HC.out ?_
      rintro e w2 ⟨rfl, hb2⟩
      have HB2 : Hid (Below w.heap.size w w2) := by
        have h1 := (unhide HBW).trans hb2
        rw [unhide HBE] at h1
        exact (unhide HB1).trans h1
      clear hb2 HC
      go_wp2_with fail
      go_ret
      exact ⟨rfl, unhide HB2⟩
end Go.Proofs.YtoliilffjojfcaaGreatDoor

/-
  Trd: The fact 'treed': one small program, read and written.
-/
namespace Go.Proofs.YtoliilffjojfcaaGreatDoor
open Go.RowKit

abbrev sA1 : ByteArray := ⟨#[97, 32, 61, 32, 49, 59]⟩
abbrev tA : ByteArray := ⟨#[97]⟩
def lA1 : List Tk := [⟨1, tA, 0, 0⟩, ⟨5, tEq, 0, 2⟩, ⟨3, noText, 1, 4⟩, ⟨5, tSemi, 0, 5⟩, ⟨6, noText, 0, 6⟩]
def trA1 : Tr := .mk 1 noText 0 [.mk 15 noText 0 [.mk 24 noText 0 [.mk 23 tA 0 [], .mk 17 noText 1 []]]]

theorem toks_a1 : toksR wordsS signsS sA1 (pastN gapB sA1 0) [] = .ok lA1 := by
  have e0 : pastN gapB sA1 0 = 0 := by decide +kernel
  rw [e0, toksR_go wordsS signsS sA1 0 [] 1 0 tA 1 (by decide) (by kernel_rfl) (by decide)]
  have e1 : pastN gapB sA1 1 = 2 := by decide +kernel
  rw [e1, toksR_go wordsS signsS sA1 2 _ 5 0 tEq 3 (by decide) (by kernel_rfl) (by decide)]
  have e2 : pastN gapB sA1 3 = 4 := by decide +kernel
  rw [e2, toksR_go wordsS signsS sA1 4 _ 3 1 noText 5 (by decide) (by kernel_rfl) (by decide)]
  have e3 : pastN gapB sA1 5 = 5 := by decide +kernel
  rw [e3, toksR_go wordsS signsS sA1 5 _ 5 0 tSemi 6 (by decide) (by kernel_rfl) (by decide)]
  have e4 : pastN gapB sA1 6 = 6 := by decide +kernel
  rw [e4, toksR_end wordsS signsS sA1 6 _ (by decide)]
  rfl
theorem parse_a1 : parseS wordsS signsS sA1 = .ok trA1 := by
  have h1 : progP lA1 (fns lA1 KK) = .ok trA1 4 := by kernel_rfl
  have h2 : trA1.count = 5 := by decide +kernel
  unfold parseS
  rw [if_neg (by decide), toks_a1]
  simp only
  rw [h1]
  simp only
  rw [h2, if_neg (by decide)]

theorem itoa1 : itoaB 1 = ⟨#[49]⟩ := by unfold itoaB; rw [show Lib.itoa 1 = [49] by decide +kernel]
theorem itoa_one (W : World) : Calls Tryz.prog 54 #[.int .i64 1] W fun e w' => e = .returned (.string (itoaB 1)) ∧ Below W.heap.size W w' := by
  have h := Tryz.strconv_Itoa_small 1 (by decide) W
  refine Calls.mono h ?_
  rintro e w' ⟨rfl, rfl⟩
  exact ⟨rfl, Below.refl _ _⟩

def fA1 (j : Nat) : WS := if j = 0 then ([], noText) else endS (putsS [tSemi] (putsS [itoaB 1] (putsS [tEq] (putsS [tA] ([], noText)))))
theorem fA1_one : (fA1 1).1 = [97, 32, 61, 32, 49, 59, 10] := by
  unfold fA1
  rw [itoa1]
  decide +kernel

theorem step_a1 (B b m : Nat) : SC B b m (.mk 15 noText 0 [.mk 24 noText 0 [.mk 23 tA 0 [], .mk 17 noText 1 []]]) (fA1 0) (putsS [tSemi] (putsS [itoaB 1] (putsS [tEq] (putsS [tA] ([], noText))))) := by
  refine st_expr _ _ _ _ _ (expr_plain _ _ _ _ _ _ (by decide +kernel) ?_ ?_ ?_)
  · simp [okT, okTs, needK]
  · refine value_assign _ _ _ _ _ _ _ (putsS [tA] ([], noText)) _ (by decide) (value_name _ _ _ _ _ (by decide) (by decide +kernel)) (value_num _ _ _ _ _ (by decide) (fun W _ => itoa_one W) ?_) (by decide +kernel)
    rw [itoa1]
    decide +kernel
  · rw [itoa1]
    decide +kernel

set_option maxRecDepth 100000 in
set_option maxHeartbeats 1000000 in
theorem treed_any (w : World) (hL : Lists wordsS signsS w) (hgs : ∀ g ∈ signsS, 1 ≤ g.size) (hT : Tabs w) : Calls Tryz.prog 23 #[] w fun e w' => e = .returned (.bool true) ∧ Below w.heap.size w w' := by
  have hr := read_any22 wordsS signsS sA1 w hL hgs hT
  rw [parse_a1] at hr
  have HR := hide hr
  have HT := hide hT
  clear hr hT hL hgs
  go_enter Tryz.func23, Tryz.ntmps23
  go_wp2_with fail
  refine Calls.mono HR.out ?_
  rintro e w1 ⟨p, rfl, hn, hb⟩
  have hN : NB w1.heap.size w1 trA1 p := NAt.mono (fun b _ hl => hl) _ _ hn
  obtain ⟨t, fr, hg⟩ := ((unhide HT).later hb).signs
  have HB := hide hb
  have HC := hide (text_any noText 0 _ fA1 w1.heap.size p w1 rfl hN (by decide) (by decide) t fr hg rfl (fun b m j hj => by
    have hj0 : j = 0 := by simpa using hj
    subst hj0
    exact ⟨_, step_a1 _ b m, by rw [itoa1]; decide +kernel, rfl⟩) (by show (fA1 1).1.length ≤ _; rw [fA1_one]; decide) (by show (fA1 1).1 ≠ _; rw [fA1_one]; decide))
  have hpl : p < w1.heap.size := hN.lt
  obtain ⟨g, c, q, r3, hgB, r0, hq⟩ := hN.kid 0 (by decide)
  obtain ⟨d0, _, _⟩ := hq.cells
  have e0 : w1.cell? ⟨q, 0, none⟩ = some (.int .i64 15) := d0
  have e3 : w1.cell? ⟨p, 3, none⟩ = some (.slice (some ⟨g, 0, none⟩) 1 c) := r3
  have hql : q < w1.heap.size := hq.lt
  clear hb hn hN hg HR r3 d0 hq
  go_wp2_with fail
  refine Calls.mono HC.out ?_
  rintro e w2 ⟨rfl, hb2⟩
  have HB2 := hide ((unhide HB).trans (hb2.mono (unhide HB).size))
  have hf : (⟨(fA1 1).1.toArray⟩ : ByteArray) = ⟨#[97, 32, 61, 32, 49, 59, 10]⟩ := by rw [fA1_one]
  have hf2 : (⟨(fA1 [Tr.mk 15 noText 0 [.mk 24 noText 0 [.mk 23 tA 0 [], .mk 17 noText 1 []]]].length).1.toArray⟩ : ByteArray) = ⟨#[97, 32, 61, 32, 49, 59, 10]⟩ := hf
  rw [hf2]
  clear hb2 hf hf2 HC
  go_wp2_with fail
  go_ret
  exact ⟨rfl, unhide HB2⟩

theorem treed_all (w : World) (hL : Lists wordsS signsS w) (hgs : ∀ g ∈ signsS, 1 ≤ g.size) (hT : Tabs w) : Treed w := fun W hW => treed_any W (hL.later hW) hgs (hT.later hW)
end Go.Proofs.YtoliilffjojfcaaGreatDoor

/-
  AsF: Closed facts on the entries of internal/reflectlite at this program's types (23: Errno, 77: its pointer, 58: the pointer to At, 30: error, 105: rtype).
-/
namespace Go.Proofs.YtoliilffjojfcaaGreatDoor
open Go.RowKit Go.Extern.Stop Go.Stop Go.Extern

theorem R9.valueOf77 (t : Addr) (w : World) : (ReflectliteValue.unpack (.iface 92 (.pointer (some t)))).run Tryz.prog w
    = .ok (.agg #[.pointer (some ⟨13, 92, none⟩), .pointer (some ⟨w.heap.size, 0, none⟩), .int .u64 150]) (w.alloc (.cells #[.pointer (some t)] 92)) := by kernel_rfl
theorem R9.valueOf23 (n : Int) (w : World) : (ReflectliteValue.unpack (.iface 23 (.int .i64 n))).run Tryz.prog w
    = .ok (.agg #[.pointer (some ⟨13, 23, none⟩), .pointer (some ⟨w.heap.size, 0, none⟩), .int .u64 130]) (w.alloc (.cells #[.int .i64 n] 23)) := by kernel_rfl
theorem R9.type77 (a : Addr) (w : World) : (ReflectliteValue.methodAny (ReflectliteValue.valueError "reflectlite.Value.Type" 0) (fun t _ _ _ => ReflectliteType.toType t) #[.agg #[.pointer (some ⟨13, 92, none⟩), .pointer (some a), .int .u64 150]]).run Tryz.prog w
    = .ok (.iface 172 (.agg #[.pointer (some ⟨13, 92, none⟩)])) w := by kernel_rfl
theorem R9.kind77 (w : World) : ((ReflectliteType.abiMethod fun t => (fun a : Nat => Value.int IntKind.u8 (a : Int)) <$> Rtype.kind t) #[.pointer (some ⟨13, 92, none⟩)]).run Tryz.prog w = .ok (.int .u8 22) w := by kernel_rfl
theorem R9.kind23 (w : World) : ((ReflectliteType.abiMethod fun t => (fun a : Nat => Value.int IntKind.u8 (a : Int)) <$> Rtype.kind t) #[.pointer (some ⟨13, 23, none⟩)]).run Tryz.prog w = .ok (.int .u8 2) w := by kernel_rfl
/-- The two matches on a list of arguments that is written out. -/
theorem at_one (v : Value) (f : Value → Sem Value) (g : Array Value → Sem Value) : @ReflectliteValue.method.match_2 (fun _ => Sem Value) #[v] f g = f v := rfl
theorem at_two (v x : Value) (f : Value → Value → Sem Value) (g : Array Value → Sem Value) : @ReflectliteValue.set.match_3 (fun _ => Sem Value) #[v, x] f g = f v x := rfl
theorem R9.parts77 (a : Addr) (w : World) : (ReflectliteValue.parts (.agg #[.pointer (some ⟨13, 92, none⟩), .pointer (some a), .int .u64 150])).run Tryz.prog w = .ok (some (92, a, 150)) w := by kernel_rfl
theorem R9.isNil77 (a p : Addr) (W : World) (ha : W.cell? a = some (.pointer (some p))) :
    (ReflectliteValue.method (ReflectliteValue.valueError "reflectlite.Value.IsNil" 0) ReflectliteValue.isNil #[.agg #[.pointer (some ⟨13, 92, none⟩), .pointer (some a), .int .u64 150]]).run Tryz.prog W = .ok (.bool false) W := by
  delta ReflectliteValue.method
  rw [at_one]
  simp only [Sem.run_bind, R9.parts77, Result.andThen]
  simp [ReflectliteValue.isNil, loadVar, isAgg, underlying, Tryz.underlying92, ha, Result.andThen]
theorem R9.elem77 (w : World) : (ReflectliteType.method ReflectliteType.elem #[.agg #[.pointer (some ⟨13, 92, none⟩)]]).run Tryz.prog w = .ok (.iface 172 (.agg #[.pointer (some ⟨13, 23, none⟩)])) w := by kernel_rfl
theorem R9.implements23 (w : World) : (ReflectliteType.relation "Implements" ReflectliteType.implements_ #[.agg #[.pointer (some ⟨13, 23, none⟩)], .iface 172 (.agg #[.pointer (some ⟨13, 29, none⟩)])]).run Tryz.prog w = .ok (.bool true) w := by kernel_rfl
theorem R9.typeOf23 (v : Value) (w : World) : (ReflectliteType.typeOf #[.iface 23 v]).run Tryz.prog w = .ok (.iface 172 (.agg #[.pointer (some ⟨13, 23, none⟩)])) w := by kernel_rfl
theorem R9.typeOf58 (v : Value) (w : World) : (ReflectliteType.typeOf #[.iface 119 v]).run Tryz.prog w = .ok (.iface 172 (.agg #[.pointer (some ⟨13, 119, none⟩)])) w := by kernel_rfl
theorem R9.assignable23 (w : World) : (ReflectliteType.relation "AssignableTo" ReflectliteType.assignableTo #[.agg #[.pointer (some ⟨13, 23, none⟩)], .iface 172 (.agg #[.pointer (some ⟨13, 23, none⟩)])]).run Tryz.prog w = .ok (.bool true) w := by kernel_rfl
theorem R9.assignable58 (w : World) : (ReflectliteType.relation "AssignableTo" ReflectliteType.assignableTo #[.agg #[.pointer (some ⟨13, 119, none⟩)], .iface 172 (.agg #[.pointer (some ⟨13, 23, none⟩)])]).run Tryz.prog w = .ok (.bool false) w := by kernel_rfl
theorem R9.elemOf77 (w : World) : (Rtype.elem? 92).run Tryz.prog w = .ok (some 23) w := by kernel_rfl
theorem R9.mk23 (p : Addr) (w : World) : (ReflectliteValue.mk 23 p ReflectliteValue.flagAddr).run Tryz.prog w = .ok (.agg #[.pointer (some ⟨13, 23, none⟩), .pointer (some p), .int .u64 386]) w := by kernel_rfl
theorem R9.elemV77 (a p : Addr) (W : World) (ha : W.cell? a = some (.pointer (some p))) :
    (ReflectliteValue.method (ReflectliteValue.valueError "reflectlite.Value.Elem" 0) ReflectliteValue.elem #[.agg #[.pointer (some ⟨13, 92, none⟩), .pointer (some a), .int .u64 150]]).run Tryz.prog W
      = .ok (.agg #[.pointer (some ⟨13, 23, none⟩), .pointer (some p), .int .u64 386]) W := by
  delta ReflectliteValue.method
  rw [at_one]
  simp only [Sem.run_bind, R9.parts77, Result.andThen]
  simp [ReflectliteValue.elem, loadVar, isAgg, underlying, Tryz.underlying92, ha, Result.andThen, R9.elemOf77, R9.mk23]
theorem R9.parts23a (a : Addr) (w : World) : (ReflectliteValue.parts (.agg #[.pointer (some ⟨13, 23, none⟩), .pointer (some a), .int .u64 386])).run Tryz.prog w = .ok (some (23, a, 386)) w := by kernel_rfl
theorem R9.parts23 (a : Addr) (w : World) : (ReflectliteValue.parts (.agg #[.pointer (some ⟨13, 23, none⟩), .pointer (some a), .int .u64 130])).run Tryz.prog w = .ok (some (23, a, 130)) w := by kernel_rfl
theorem R9.direct23 (w : World) : (Rtype.directlyAssignable 23 23).run Tryz.prog w = .ok true w := by kernel_rfl
theorem R9.set23 (ta b : Addr) (n : Int) (old : Value) (W : World) (hb : W.cell? b = some (.int .i64 n)) (ht : W.cell? ta = some old) (hf : W.frozen? ta = false) :
    (ReflectliteValue.set #[.agg #[.pointer (some ⟨13, 23, none⟩), .pointer (some ta), .int .u64 386], .agg #[.pointer (some ⟨13, 23, none⟩), .pointer (some b), .int .u64 130]]).run Tryz.prog W
      = .ok (.tuple #[]) (W.setCell ta (.int .i64 n)) := by
  delta ReflectliteValue.set
  rw [at_two]
  simp only [Sem.run_bind, R9.parts23a, R9.parts23, Result.andThen]
  simp [ReflectliteValue.flagAddr, loadVar, isAgg, underlying, Tryz.underlying23, hb, Result.andThen, R9.direct23, storeVar, Value.cells, storeCells, Addr.add]
  rw [run_store Tryz.prog W ta _ _ (by rfl)]
  simp [ht, hf]
theorem R9.mKind (h : Value) (w : World) : (Go.method 379 172 (.agg #[h]) "Kind").run Tryz.prog w = .ok (255, h) w := by kernel_rfl
theorem R9.mElem (h : Value) (w : World) : (Go.method 379 172 (.agg #[h]) "Elem").run Tryz.prog w = .ok (268, .agg #[h]) w := by kernel_rfl
theorem R9.mImpl (h : Value) (w : World) : (Go.method 379 172 (.agg #[h]) "Implements").run Tryz.prog w = .ok (269, .agg #[h]) w := by kernel_rfl
theorem R9.mAssign (h : Value) (w : World) : (Go.method 379 172 (.agg #[h]) "AssignableTo").run Tryz.prog w = .ok (266, .agg #[h]) w := by kernel_rfl
theorem R9.mUnwrap (a : Addr) (w : World) : (Go.method 379 119 (.pointer (some a)) "Unwrap").run Tryz.prog w = .ok (261, .pointer (some a)) w := by kernel_rfl


end Go.Proofs.YtoliilffjojfcaaGreatDoor
