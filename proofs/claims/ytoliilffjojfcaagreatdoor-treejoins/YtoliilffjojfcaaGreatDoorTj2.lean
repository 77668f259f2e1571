/-
  Joined out of Rd2, Maps, Rd3, Rd4, Rd5, Rd6, Rd7, Rd8.
-/
import Derived.Test.YtoliilffjojfcaaGreatDoorTj1
import Derived.Deep.RegionWith
import Derived.Deep.DrawnRows
import Derived.Deep.RegionHeld
import Derived.Deep.AppendLies
/-
  Rd2: The reader's faults; what is taken, what must be; names; a new node.
-/
namespace Go.Proofs.YtoliilffjojfcaaGreatDoor
open Go.RowKit

theorem ppBad {α : Type} {c : Ctx} {w w' : World} {d : Nat} {V : World → α → Value → Prop} {r : PR α} {er : Int} {p : Nat} (hr : r = .bad er p) (ha : Ap c.R w.heap.size w w') :
    PPost c w d V r (.panicked (faultV er p)) w' := by rw [hr]; exact ⟨rfl, ha⟩
theorem ppOk {α : Type} {c : Ctx} {w w' : World} {d : Nat} {V : World → α → Value → Prop} {r : PR α} {x : α} {j : Nat} {v : Value} (hr : r = .ok x j) (hv : V w' x v) (hd : Rdr c w' j d) (ha : Ap c.R w.heap.size w w') :
    PPost c w d V r (.returned v) w' := by rw [hr]; exact ⟨⟨v, rfl, hv⟩, hd, ha⟩

set_option maxRecDepth 100000 in
set_option maxHeartbeats 1000000 in
theorem failAt_any (c : Ctx) (er : Int) (t : Tk) (w : World) :
    Calls Tryz.prog 216 #[rPtr c, .int .i64 er, tkV t] w fun e w' => e = .panicked (faultV er t.pl) ∧ Below w.heap.size w w' := by
  unfold tkV
  go_enter Tryz.func216, Tryz.ntmps216
  go_wp2_with fail
  exact ⟨rfl, rfl, (Below.refl _ _).alloc (Nat.le_refl _) _⟩

set_option maxRecDepth 100000 in
set_option maxHeartbeats 1000000 in
theorem fault_any (c : Ctx) (er : Int) (w : World) (i d : Nat) (h : Rdr c w i d) :
    Calls Tryz.prog 177 #[rPtr c, .int .i64 er] w fun e w' => e = .panicked (faultV er (tkA c.l i).pl) ∧ Below w.heap.size w w' := by
  have HT := hide (token_any c w i d h)
  clear h
  go_enter Tryz.func177, Tryz.ntmps177
  go_wp2_with fail
  refine Calls.mono HT.out ?_
  rintro e w1 ⟨rfl, hb⟩
  have HB := hide hb
  clear hb
  have HF := hide (failAt_any c er (tkA c.l i) w1)
  go_wp2_with fail
  refine Calls.mono HF.out ?_
  rintro e w2 ⟨rfl, hb2⟩
  exact ⟨rfl, rfl, (unhide HB).trans (hb2.mono (unhide HB).size)⟩

theorem Rdr.go2 {c : Ctx} {w : World} {i d : Nat} (h : Rdr c w i d) (j : Nat) (hj : j < c.l.length) {v : Int} (hv : v = (j : Int)) : Rdr c (w.setCell ⟨c.R, 1, none⟩ (.int .i64 v)) j d := by
  subst hv; exact h.go j hj
theorem ap_next {c : Ctx} {w w1 : World} (hb : Below w.heap.size w w1) (v : Value) (o : Nat) : Ap c.R w.heap.size w (w1.setCell ⟨c.R, o, none⟩ v) :=
  Ap.setCell (R := c.R) (Ap.of hb) (p := ⟨c.R, o, none⟩) (Or.inr rfl) _

set_option maxRecDepth 100000 in
set_option maxHeartbeats 1000000 in
theorem take_yes (c : Ctx) (s : ByteArray) (w : World) (i d : Nat) (h : Rdr c w i d) (hs : fx c.l i = s) (hn : s ≠ noText) :
    Calls Tryz.prog 178 #[rPtr c, .string s] w fun e w' => e = .returned (.bool true) ∧ Rdr c w' (i + 1) d ∧ Ap c.R w.heap.size w w' := by
  have HT := hide (fixed_any c w i d h)
  have HR := hide h
  have hi : i + 1 < c.l.length := fx_lt h.base.ends h.lt hs hn
  have hL := h.base.len
  subst hs
  clear h hn
  go_enter Tryz.func178, Tryz.ntmps178
  go_wp2_with fail
  refine Calls.mono HT.out ?_
  rintro e w1 ⟨rfl, hb⟩
  have HB := hide hb
  have HR1 := hide ((unhide HR).later hb)
  have h1 := (unhide HR1).c1
  have hz := (unhide HR1).fz
  clear hb
  go_wp2_with fail
  go_ret
  exact ⟨rfl, (unhide HR1).go2 (i + 1) hi (by omega), ap_next (unhide HB) _ _⟩

set_option maxRecDepth 100000 in
set_option maxHeartbeats 1000000 in
theorem take_not (c : Ctx) (s : ByteArray) (w : World) (i d : Nat) (h : Rdr c w i d) (hs : fx c.l i ≠ s) :
    Calls Tryz.prog 178 #[rPtr c, .string s] w fun e w' => e = .returned (.bool false) ∧ Below w.heap.size w w' := by
  have HT := hide (fixed_any c w i d h)
  clear h
  have hs1 := tl_ne hs
  clear hs
  go_enter Tryz.func178, Tryz.ntmps178
  go_wp2_with fail
  refine Calls.mono HT.out ?_
  rintro e w1 ⟨rfl, hb⟩
  have HB := hide hb
  clear hb
  go_wp2_with fail
  go_ret
  exact ⟨rfl, unhide HB⟩

abbrev UV : World → Unit → Value → Prop := fun _ _ v => v = .tuple #[]

set_option maxRecDepth 100000 in
set_option maxHeartbeats 1000000 in
theorem must_any (c : Ctx) (s : ByteArray) (w : World) (i d : Nat) (h : Rdr c w i d) (hn : s ≠ noText) :
    Calls Tryz.prog 180 #[rPtr c, .string s] w (PPost c w d UV (mustP c.l s i)) := by
  by_cases hs : fx c.l i = s
  · have HT := hide (take_yes c s w i d h hs hn)
    have hm : mustP c.l s i = .ok () (i + 1) := by unfold mustP; rw [if_pos hs]
    rw [hm]
    clear h hn hs hm
    go_enter Tryz.func180, Tryz.ntmps180
    go_wp2_with fail
    refine Calls.mono HT.out ?_
    rintro e w1 ⟨rfl, hr, ha⟩
    have HR := hide hr
    have HA := hide ha
    clear hr ha
    go_wp2_with fail
    go_end0
    exact ppOk rfl rfl (unhide HR) (unhide HA)
  · have HT := hide (take_not c s w i d h hs)
    have hm : mustP c.l s i = .bad 3 (tkA c.l i).pl := by unfold mustP; rw [if_neg hs]; rfl
    rw [hm]
    have HR := hide h
    clear h hn hs hm
    go_enter Tryz.func180, Tryz.ntmps180
    go_wp2_with fail
    refine Calls.mono HT.out ?_
    rintro e w1 ⟨rfl, hb⟩
    have HB := hide hb
    have HF := hide (fault_any c 3 w1 i d ((unhide HR).later hb))
    clear hb
    go_wp2_with fail
    refine Calls.mono HF.out ?_
    rintro e w2 ⟨rfl, hb2⟩
    exact ⟨rfl, ppBad rfl (Ap.of ((unhide HB).trans (hb2.mono (unhide HB).size)))⟩

theorem fldKind (t : Tk) (W : World) : (Instr.field 113 (.agg #[.int .i64 t.kd, .string t.tx, .int .i64 t.n, .int .i64 (t.pl : Int)]) 0).run Tryz.prog W = .ok (.int .i64 t.kd) W := by kernel_rfl
theorem fldText (t : Tk) (W : World) : (Instr.field 113 (.agg #[.int .i64 t.kd, .string t.tx, .int .i64 t.n, .int .i64 (t.pl : Int)]) 1).run Tryz.prog W = .ok (.string t.tx) W := by kernel_rfl

set_option maxRecDepth 100000 in
set_option maxHeartbeats 1000000 in
theorem atName_any (c : Ctx) (w : World) (i d : Nat) (h : Rdr c w i d) :
    Calls Tryz.prog 183 #[rPtr c] w fun e w' => e = .returned (.bool (isName c.l i)) ∧ Below w.heap.size w w' := by
  have HT := hide (token_any c w i d h)
  clear h
  go_enter Tryz.func183, Tryz.ntmps183
  go_wp2_with fail
  refine Calls.mono HT.out ?_
  rintro e w1 ⟨rfl, hb⟩
  have HB := hide hb
  clear hb
  have hfl := fldKind (tkA c.l i)
  unfold tkV
  go_wp2_with fail
  go_ret
  exact ⟨rfl, unhide HB⟩

abbrev SV : World → ByteArray → Value → Prop := fun _ s v => v = .string s

set_option maxRecDepth 100000 in
set_option maxHeartbeats 1000000 in
theorem name_any (c : Ctx) (w : World) (i d : Nat) (h : Rdr c w i d) :
    Calls Tryz.prog 175 #[rPtr c] w (PPost c w d SV (nameP c.l i)) := by
  have HN := hide (atName_any c w i d h)
  by_cases hs : (tkA c.l i).kd = 1
  · have hm : nameP c.l i = .ok (tkA c.l i).tx (i + 1) := by unfold nameP; rw [if_pos hs]
    have hi : i + 1 < c.l.length := next_lt h.base.ends h.lt (by rw [hs]; decide)
    have hL := h.base.len
    have hk : isName c.l i = true := by unfold isName; rw [hs]; rfl
    rw [hm]
    rw [hk] at HN
    have HR := hide h
    clear h hs hm hk
    go_enter Tryz.func175, Tryz.ntmps175
    go_wp2_with fail
    refine Calls.mono HN.out ?_
    rintro e w1 ⟨rfl, hb⟩
    have HB := hide hb
    have HR1 := hide ((unhide HR).later hb)
    have HT := hide (token_any c w1 i d (unhide HR1))
    clear hb
    go_wp2_with fail
    refine Calls.mono HT.out ?_
    rintro e w2 ⟨rfl, hb⟩
    have HB2 := hide ((unhide HB).trans (hb.mono (unhide HB).size))
    have HR2 := hide ((unhide HR1).later hb)
    have h1 := (unhide HR2).c1
    have hz := (unhide HR2).fz
    clear hb
    have hfl := fldText (tkA c.l i)
    unfold tkV
    go_wp2_with fail
    go_ret
    exact ppOk rfl rfl ((unhide HR2).go2 (i + 1) hi (by omega)) (ap_next (unhide HB2) _ _)
  · have hm : nameP c.l i = .bad 3 (tkA c.l i).pl := by unfold nameP; rw [if_neg hs]; rfl
    have hk : isName c.l i = false := by unfold isName; exact beq_eq_false_iff_ne.2 hs
    rw [hm]
    rw [hk] at HN
    have HR := hide h
    clear h hs hm hk
    go_enter Tryz.func175, Tryz.ntmps175
    go_wp2_with fail
    refine Calls.mono HN.out ?_
    rintro e w1 ⟨rfl, hb⟩
    have HB := hide hb
    have HF := hide (fault_any c 3 w1 i d ((unhide HR).later hb))
    clear hb
    go_wp2_with fail
    refine Calls.mono HF.out ?_
    rintro e w2 ⟨rfl, hb2⟩
    exact ⟨rfl, ppBad rfl (Ap.of ((unhide HB).trans (hb2.mono (unhide HB).size)))⟩

set_option maxRecDepth 100000 in
set_option maxHeartbeats 1000000 in
theorem node_any (kd : Int) (tx : ByteArray) (v : Value) (w : World) (hv : ∃ a n cap, v = .slice a n cap) :
    Calls Tryz.prog 142 #[.int .i64 kd, .string tx, v] w fun e w' => e = .returned (nPtr w.heap.size) ∧ w' = w.alloc (nodeObj kd tx 0 v) := by
  obtain ⟨a, n, cap, rfl⟩ := hv
  go_enter Tryz.func142, Tryz.ntmps142
  go_wp2_with fail
  go_ret
  exact ⟨rfl, rfl⟩
end Go.Proofs.YtoliilffjojfcaaGreatDoor

/-
  Maps: What is found in the reader's maps.
-/
namespace Go.Proofs.YtoliilffjojfcaaGreatDoor
open Go.RowKit

theorem beq_bytes (a b : ByteArray) : (a == b) = decide (a = b) := by
  by_cases h : a = b
  · subst h
    rw [decide_eq_true rfl]
    cases a with
    | mk a =>
      show (a == a) = true
      exact beq_self_eq_true _
  · rw [decide_eq_false h]
    cases a with
    | mk a => cases b with
      | mk b =>
        show (a == b) = false
        rw [beq_eq_false_iff_ne]
        exact fun e => h (by rw [e])

theorem find_ents (s : ByteArray) : ∀ (l : List (ByteArray × Value)) (n i : Nat),
    ∃ o, Instr.findNow .string (.string s) ((l.zipIdx n).map mkE) i = some o ∧ o.map (·.2) = (l.find? (fun e => decide (s = e.1))).map (·.2)
  | [], n, i => ⟨none, rfl, rfl⟩
  | e :: l, n, i => by
    simp only [List.zipIdx_cons, List.map_cons, Instr.findNow, mkE, Instr.sameNow, beq_bytes, List.find?_cons]
    cases h : decide (s = e.1)
    · simp only
      exact find_ents s l (n + 1) (i + 1)
    · exact ⟨some (i, e.2), rfl, rfl⟩

theorem lookup_map (T E : TypeId) (m k : Nat) (l : List (ByteArray × Value)) (s : ByteArray) (z : Value) (W : World) (hT : Tryz.prog.underlying T = some (.map 9 E)) (hm : W.heap[m]? = some (.map (mapOf l) k)) (hz : (zeroValue E).run Tryz.prog W = .ok z W) :
    (Instr.lookup T (.map (some m)) (.string s) true).run Tryz.prog W = .ok (.tuple #[((l.find? (fun e => decide (s = e.1))).map (·.2)).getD z, .bool (l.find? (fun e => decide (s = e.1))).isSome]) W := by
  obtain ⟨o, h1, h2⟩ := find_ents s l 0 0
  have h9 := Tryz.underlying9
  have h3 : (Instr.findKey 9 (.string s) (mapOf l).toList).run Tryz.prog W = .ok o W := by
    unfold Instr.findKey
    rw [Sem.run_bind, run_underlying h9 W]
    simp only [Result.andThen_ok, mapOf]
    rw [h1]
    rfl
  unfold Instr.lookup
  rw [Sem.run_bind, run_underlying hT W]
  have hck : ∀ b, (Instr.checkKey b 10000 9 (.string s)).run Tryz.prog W = .ok () W := by
    intro b
    rw [Instr.checkKey, Sem.run_bind, run_underlying h9 W]
    rfl
  have hg : (getObj m).run Tryz.prog W = .ok (.map (mapOf l) k) W := by simp [getObj, Sem.run, hm]
  simp only [Result.andThen_ok, Sem.run_bind, hg, Sem.run_pure, hck, h3]
  cases o with
  | none =>
    cases hf : l.find? (fun e => decide (s = e.1)) with
    | none => simp [hz]
    | some x => rw [hf] at h2; simp at h2
  | some y =>
    cases hf : l.find? (fun e => decide (s = e.1)) with
    | none => rw [hf] at h2; simp at h2
    | some x => rw [hf] at h2; simp at h2; simp [h2]

theorem look2_map {β : Type} (ks : List (ByteArray × β)) (f : β → Value) (s : ByteArray) : ((ks.map fun e => (e.1, f e.2)).find? (fun e => decide (s = e.1))).map (·.2) = (look2 ks s).map f := by
  unfold look2
  rw [List.find?_map]
  simp [Function.comp_def]

def noSg : Value := .agg #[.string ⟨#[]⟩, .int .i64 0, .int .i64 0, .int .i64 0]
def sgVO (o : Option Sg) : Value := match o with | some s => sgV s | none => noSg

theorem look_signs (c : Ctx) (s : ByteArray) (W : World) (h : W.heap[c.mS]? = some (.map sgMap 14)) :
    (Instr.lookup 150 (.map (some c.mS)) (.string s) true).run Tryz.prog W = .ok (.tuple #[sgVO (sgOf s), .bool (sgOf s).isSome]) W := by
  rw [lookup_map 150 160 c.mS 14 _ s noSg W Tryz.underlying150 h (by kernel_rfl)]
  unfold sgOf
  rw [List.find?_map]
  simp only [Function.comp_def]
  cases sgs.find? (fun e => decide (s = e.tx)) <;> rfl

def stVO (R : Nat) (o : Option Nat) : Value := match o with | some q => boundV R (stFn q) | none => .nilFunc
def vlVO (R : Nat) (o : Option Nat) : Value := match o with | some q => boundV R (vlFn q) | none => .nilFunc

theorem look_stms (c : Ctx) (s : ByteArray) (W : World) (h : W.heap[c.mT]? = some (.map (stMap c.R) 12)) :
    (Instr.lookup 152 (.map (some c.mT)) (.string s) true).run Tryz.prog W = .ok (.tuple #[stVO c.R (look2 stKeys s), .bool (look2 stKeys s).isSome]) W := by
  rw [lookup_map 152 201 c.mT 12 _ s .nilFunc W Tryz.underlying152 h (by kernel_rfl)]
  unfold look2
  rw [List.find?_map]
  simp only [Function.comp_def]
  cases stKeys.find? (fun e => decide (s = e.1)) <;> rfl
theorem look_vals (c : Ctx) (s : ByteArray) (W : World) (h : W.heap[c.mV]? = some (.map (vlMap c.R) 3)) :
    (Instr.lookup 152 (.map (some c.mV)) (.string s) true).run Tryz.prog W = .ok (.tuple #[vlVO c.R (look2 vlKeys s), .bool (look2 vlKeys s).isSome]) W := by
  rw [lookup_map 152 201 c.mV 3 _ s .nilFunc W Tryz.underlying152 h (by kernel_rfl)]
  unfold look2
  rw [List.find?_map]
  simp only [Function.comp_def]
  cases vlKeys.find? (fun e => decide (s = e.1)) <;> rfl
end Go.Proofs.YtoliilffjojfcaaGreatDoor

/-
  Rd3: A statement's first word; one deeper; strict code; the signs.
-/
namespace Go.Proofs.YtoliilffjojfcaaGreatDoor
open Go.RowKit

theorem hdSize : hdCells.size = 16 := by decide +kernel
theorem hdIdx (k : Nat) (hk : k < 8) (W : World) : (Instr.index 164 (.agg hdCells) (.int .i64 (k : Int))).run Tryz.prog W = .ok (.agg #[.string (hds.getD k (noText, 0)).1, .int .i64 (hds.getD k (noText, 0)).2]) W := by
  have h : k = 0 ∨ k = 1 ∨ k = 2 ∨ k = 3 ∨ k = 4 ∨ k = 5 ∨ k = 6 ∨ k = 7 := by omega
  rcases h with rfl | rfl | rfl | rfl | rfl | rfl | rfl | rfl <;> (show _ = _; kernel_rfl)

theorem hd_hit {s : ByteArray} {j : Nat} (hj : j < 8) (h0 : ∀ q, q < j → s ≠ (hds.getD q (noText, 0)).1) (h : s = (hds.getD j (noText, 0)).1) : hdKind s = (hds.getD j (noText, 0)).2 := by
  have key : ∀ (l : List (ByteArray × Int)) (j : Nat), j < l.length → (∀ q, q < j → s ≠ (l.getD q (noText, 0)).1) → s = (l.getD j (noText, 0)).1 → (look2 l s).getD 0 = (l.getD j (noText, 0)).2 := by
    intro l
    induction l with
    | nil => intro j hj; exact absurd hj (by simp)
    | cons e l ih =>
      intro j hj h0 h
      unfold look2
      rw [List.find?_cons]
      cases j with
      | zero =>
        simp only [List.getD_cons_zero] at h ⊢
        rw [decide_eq_true h]
        rfl
      | succ j =>
        have := h0 0 (by omega)
        simp only [List.getD_cons_zero] at this
        rw [decide_eq_false this]
        exact ih j (by simpa using hj) (fun q hq => by simpa using h0 (q + 1) (by omega)) (by simpa using h)
  exact key hds j (by simpa [hds] using hj) h0 h
theorem hd_none {s : ByteArray} (h0 : ∀ q, q < 8 → s ≠ (hds.getD q (noText, 0)).1) : hdKind s = 0 := by
  unfold hdKind look2
  have : hds.find? (fun e => decide (s = e.1)) = none := by
    rw [List.find?_eq_none]
    intro e he
    obtain ⟨q, hq, rfl⟩ := List.getElem_of_mem he
    have hq8 : q < 8 := by simpa [hds] using hq
    have := h0 q hq8
    rw [List.getD_eq_getElem?_getD, List.getElem?_eq_getElem hq] at this
    simpa using this
  rw [this]
  rfl

set_option maxRecDepth 100000 in
set_option maxHeartbeats 1000000 in
theorem headKind_any (s : ByteArray) (w : World) (t : TypeId) (fr : Nat × Nat) (hg : w.heap[4]? = some (.cells hdCells t fr)) :
    Calls Tryz.prog 215 #[.string s] w fun e w' => e = .returned (.int .i64 (hdKind s)) ∧ Below w.heap.size w w' := by
  have HG := hide hg
  obtain ⟨cs, hcs⟩ : ∃ cs, cs = hdCells := ⟨_, rfl⟩
  have hix : ∀ k : Nat, k < 8 → ∀ W, (Instr.index 164 (.agg cs) (.int .i64 (k : Int))).run Tryz.prog W = .ok (.agg #[.string (hds.getD k (noText, 0)).1, .int .i64 (hds.getD k (noText, 0)).2]) W := by rw [hcs]; exact hdIdx
  have hsz : cs.size = 16 := by rw [hcs]; exact hdSize
  rw [← hcs] at HG
  have HIX := hide hix
  have Hsz := hide hsz
  clear hg hix hcs hsz
  go_enter Tryz.func215, Tryz.ntmps215
  go_wp2_with (refine wpList_load_row rfl 164 _ rfl 4 rfl t cs fr _ (unhide HG) Tryz.underlying164 rfl (by rw [unhide Hsz]; kernel_rfl) ?_)
  go_loopw [6] (fun i wr => ∃ j : Nat, j ≤ 8 ∧ i = .int .i64 j ∧ (∀ q, q < j → s ≠ (hds.getD q (noText, 0)).1) ∧ Below w.heap.size w wr) (fun i _ => 8 - (intOf i).toNat)
  case atStart => exact ⟨0, Nat.zero_le _, rfl, fun q hq => absurd hq (Nat.not_lt_zero _), Below.refl _ _⟩
  case round =>
    obtain ⟨j, hj, rfl, he, hbel⟩ := hrel
    have HE := hide he
    have HB := hide hbel
    clear he hbel
    by_cases hlt : j < 8
    · have hck := unhide HIX j hlt
      obtain ⟨g, hg⟩ : ∃ g, g = (hds.getD j (noText, 0)).1 := ⟨_, rfl⟩
      obtain ⟨n, hn⟩ : ∃ n, n = (hds.getD j (noText, 0)).2 := ⟨_, rfl⟩
      rw [← hg, ← hn] at hck
      have HGJ := hide hg
      have HNJ := hide hn
      clear hg hn
      by_cases hp : g = s
      · have hb := tl_eq hp
        have HP := hide hp
        clear hp
        go_wp2_with fail
        go_ret
        refine ⟨ret_int ?_, (unhide HB).alloc (unhide HB).size _⟩
        rw [hd_hit hlt (unhide HE) (by rw [← unhide HGJ]; exact (unhide HP).symm), unhide HNJ]
      · have hb := tl_ne hp
        have HP := hide hp
        clear hp
        go_wp2_with fail
        go_roundw
        case rel => exact ⟨j + 1, by omega, by go_num, fun q hq => by (by_cases hqj : q = j); (rw [hqj, ← unhide HGJ]; exact fun e => unhide HP e.symm); exact unhide HE q (by omega), (unhide HB).alloc (unhide HB).size _⟩
        case measure => simp [intOf]; omega
    · go_wp2_with fail
      go_ret
      exact ⟨ret_int (hd_none (fun q hq => unhide HE q (by omega))).symm, unhide HB⟩

set_option maxRecDepth 100000 in
set_option maxHeartbeats 1000000 in
theorem kind_any (c : Ctx) (w : World) (i d : Nat) (h : Rdr c w i d) (hk : (tkA c.l i).kd ≠ 6) :
    Calls Tryz.prog 174 #[rPtr c] w fun e w' => e = .returned (.int .i64 (hdKind (tkA c.l i).tx)) ∧ Rdr c w' (i + 1) d ∧ Ap c.R w.heap.size w w' := by
  have HT := hide (token_any c w i d h)
  have hi : i + 1 < c.l.length := next_lt h.base.ends h.lt hk
  have hL := h.base.len
  have HR := hide h
  clear h hk
  go_enter Tryz.func174, Tryz.ntmps174
  go_wp2_with fail
  refine Calls.mono HT.out ?_
  rintro e w1 ⟨rfl, hb⟩
  have HB := hide hb
  have HR1 := hide ((unhide HR).later hb)
  obtain ⟨t, fr, h4⟩ := (unhide HR1).base.heads
  have HK := hide (headKind_any (tkA c.l i).tx w1 t fr h4)
  have hfl := fldText (tkA c.l i)
  clear hb h4
  unfold tkV
  go_wp2_with fail
  refine Calls.mono HK.out ?_
  rintro e w2 ⟨rfl, hb⟩
  have HB2 := hide ((unhide HB).trans (hb.mono (unhide HB).size))
  have HR2 := hide ((unhide HR1).later hb)
  have h1 := (unhide HR2).c1
  have hz := (unhide HR2).fz
  clear hb
  go_wp2_with fail
  go_ret
  exact ⟨rfl, (unhide HR2).go2 (i + 1) hi (by omega), ap_next (unhide HB2) _ _⟩

/-- What a part's function does, at every token and depth. -/
def Does (c : Ctx) (f : Nat) (V : Nat → World → Tr → Value → Prop) (sp : Nat → Nat → PR Tr) : Prop :=
  ∀ w d i r, sp d i = r → r ≠ .out → Rdr c w i d → Calls Tryz.prog f #[rPtr c] w (PPost c w d (V w.heap.size) r)

theorem mf_bound (R f : Nat) (W : World) : (Instr.makeFunc (.func f) #[.pointer (some ⟨R, 0, none⟩)] #[]).run Tryz.prog W = .ok (boundV R f) W := rfl

theorem Rdr.dive2 {c : Ctx} {w : World} {i d : Nat} (h : Rdr c w i d) (e : Nat) (he : e ≤ 30) {v : Int} (hv : v = (e : Int)) : Rdr c (w.setCell ⟨c.R, 2, none⟩ (.int .i64 v)) i e := by
  subst hv; exact h.dive e he

set_option maxRecDepth 100000 in
set_option maxHeartbeats 1000000 in
theorem deeper_any (c : Ctx) (f : Nat) (sp : Nat → Nat → PR Tr) (hf : Does c f NV sp) (hen : ∀ args W, (callFunc f args).run Tryz.prog W = .ok (.enter f args) W)
    (w : World) (d i : Nat) (r : PR Tr) (hr : deepP c.l sp d i = r) (ho : r ≠ .out) (h : Rdr c w i d) : Calls Tryz.prog 139 #[rPtr c, boundV c.R f] w (PPost c w d (NV w.heap.size) r) := by
  have HR := hide h
  have h2 := h.c2
  have hz := h.fz
  have hd := h.deep
  by_cases h30 : d = 30
  · have HF := hide (fault_any c 4 w i d h)
    subst h30
    unfold deepP at hr
    rw [if_pos rfl] at hr
    have HS := hide hr
    clear hr h ho hf hen hd
    go_enter Tryz.func139, Tryz.ntmps139
    go_wp2_with fail
    refine Calls.mono HF.out ?_
    rintro e w1 ⟨rfl, hb⟩
    exact ⟨rfl, ppBad (unhide HS).symm (Ap.of hb)⟩
  · unfold deepP at hr
    rw [if_neg h30] at hr
    have h30' : ((d : Int) == 30) = false := beq_eq_false_iff_ne.2 (by omega)
    have HC : Hid _ := hf (w.setCell ⟨c.R, 2, none⟩ (.int .i64 ((d : Int) + 1))) (d + 1) i r hr ho (h.dive2 (d + 1) (by omega) (by omega))
    have HO := hide ho
    have HZ := hide hz
    clear hr h ho hf
    unfold boundV
    go_enter Tryz.func139, Tryz.ntmps139
    go_wp2_with fail
    refine Calls.mono HC.out ?_
    clear HC
    intro e w1 hp
    cases r with
    | out => exact absurd rfl (unhide HO)
    | bad er p =>
      obtain ⟨rfl, ha⟩ := hp
      refine ⟨rfl, ppBad rfl ?_⟩
      exact (ap_next (c := c) (Below.refl _ w) _ 2).trans (by simpa using ha)
    | ok x j =>
      obtain ⟨⟨v, rfl, hv⟩, hrd, ha⟩ := hp
      have HV := hide hv
      have HR1 := hide hrd
      have HA := hide ((ap_next (c := c) (Below.refl _ w) (.int .i64 ((d : Int) + 1)) 2).trans (by simpa using ha))
      have g2 := hrd.c2
      have gz := hrd.fz
      clear hv hrd ha hz h2 HO
      go_wp2_with fail
      go_ret
      have HA2 := fun v => (unhide HA).trans (Ap.setCell (R := c.R) (B := w.heap.size) (Ap.refl _ _ _) (p := ⟨c.R, 2, none⟩) (Or.inr rfl) v)
      have hlt := (unhide HR).rlt
      refine ppOk rfl ?_ ((unhide HR1).dive2 d hd (by omega)) (HA2 _)
      exact NV.later (R := c.R) (by simpa using unhide HV) (Ap.setCell (R := c.R) (Ap.refl _ _ _) (p := ⟨c.R, 2, none⟩) (Or.inr rfl) _) hlt
end Go.Proofs.YtoliilffjojfcaaGreatDoor

/-
  Rd4: Strict code; the signs; a statement's parts.
-/
namespace Go.Proofs.YtoliilffjojfcaaGreatDoor
open Go.RowKit

theorem row_open {w : World} {B : Nat} {u : Value} {ps : List Nat} (h : w.ownsRow B 22 1 u ps.length (ps.map nPtr)) (hne : 0 < ps.length) :
    ∃ g cap, u = .slice (some ⟨g, 0, none⟩) ps.length cap ∧ ∀ j, (hj : j < ps.length) → w.cell? ⟨g, j, none⟩ = some (nPtr ps[j]) := by
  rcases h.2 with hn | ⟨g, cap, cur, hv, hb, hg, h1, h2, h3, h4⟩
  · omega
  · refine ⟨g, cap, hv, fun j hj => ?_⟩
    rw [cell_of hg, ← Array.getElem?_toList]
    have : (cur.toList.take (ps.length * 1))[j]? = (ps.map nPtr)[j]? := by rw [h4]
    rw [List.getElem?_take_of_lt (by omega)] at this
    rw [this, List.getElem?_map, List.getElem?_eq_getElem hj]
    rfl
theorem row_shut {w : World} {B : Nat} {u : Value} {n : Nat} {xs : List Value} (h : w.ownsRow B 22 1 u n xs) : ∃ a cap, u = .slice a n cap := by
  rcases h.2 with hn | ⟨g, cap, cur, hv, _⟩
  · exact ⟨none, 0, by rw [hn.1, hn.2]⟩
  · exact ⟨_, cap, hv⟩

theorem codeT_same {t : Tr} (h : ∀ k1 r k2 r1, t.kids = k1 :: r → k1.kids = k2 :: r1 → k1.kd = 15 → k2.kd = 18 → k2.tx ≠ tUse) : codeT t = t := by
  unfold codeT
  split
  · rename_i kd tx n k1 t1 n1 k2 t2 n2 l2 r1 r
    rw [if_neg]
    rintro ⟨a, b, e⟩
    exact h _ _ _ _ rfl rfl a b e
  · rfl
theorem codeT_strict {t k1 k2 : Tr} {r r1 : List Tr} (h1 : t.kids = k1 :: r) (h2 : k1.kids = k2 :: r1) (h3 : k1.kd = 15) (h4 : k2.kd = 18) (h5 : k2.tx = tUse) : codeT t = .mk t.kd tStrict t.n t.kids := by
  cases t with
  | mk kd tx n ks =>
    simp only [Tr.kids] at h1
    subst h1
    cases k1 with
    | mk a b c ds =>
      simp only [Tr.kids] at h2
      subst h2
      cases k2 with
      | mk a2 b2 c2 d2 =>
        simp only [Tr.kd, Tr.tx] at h3 h4 h5
        simp only [codeT, Tr.kd, Tr.n, Tr.kids]
        rw [if_pos ⟨h3, h4, h5⟩]

theorem EV.text {B : Nat} {w : World} {t : Tr} {p : Nat} (h : EV B w t (nPtr p)) (s : ByteArray) : EV B (w.setCell ⟨p, 1, none⟩ (.string s)) (.mk t.kd s t.n t.kids) (nPtr p) := by
  obtain ⟨p', u, ps, he, hp, hb, hr, hu, hk⟩ := h
  have : p' = p := by simpa [nPtr] using he.symm
  subst this
  have hs : ∀ b, b ≠ p' → (w.setCell ⟨p', 1, none⟩ (.string s)).heap[b]? = w.heap[b]? := fun b hb => Below.heap_setCell w ⟨p', 1, none⟩ _ b hb
  refine ⟨p', u, ps, rfl, hp, by rw [heap_set hb]; rfl, ?_, hu, NAts.later (fun b h _ => hs b h.2.1) _ _ hk⟩
  exact owns_stay (I := fun b => b ≠ p') (fun b h _ => hs b h) (fun g hg e => hu (by rw [hg, e])) hr

theorem node_cells {w : World} {p : Nat} {kd n : Int} {tx : ByteArray} {u : Value} (h : w.heap[p]? = some (nodeObj kd tx n u)) :
    w.cell? ⟨p, 0, none⟩ = some (.int .i64 kd) ∧ w.cell? ⟨p, 1, none⟩ = some (.string tx) ∧ w.cell? ⟨p, 2, none⟩ = some (.int .i64 n) ∧ w.cell? ⟨p, 3, none⟩ = some u ∧ (∀ o, w.frozen? ⟨p, o, none⟩ = false) :=
  ⟨by rw [cell_of h]; rfl, by rw [cell_of h]; rfl, by rw [cell_of h]; rfl, by rw [cell_of h]; rfl, frozen_of h⟩

theorem NAt.opens {I : Nat → Prop} {w : World} {t : Tr} {p : Nat} (h : NAt I w t p) : ∃ u ps, w.heap[p]? = some (nodeObj t.kd t.tx t.n u) ∧ w.ownsRow 0 22 1 u ps.length (ps.map nPtr) ∧ NAts I w t.kids ps := by
  cases t with
  | mk kd tx n ks =>
    rw [NAt] at h
    obtain ⟨_, u, ps, h1, h2, h3⟩ := h
    exact ⟨u, ps, h1, h2.1, h3⟩
theorem NAts.head {I : Nat → Prop} {w : World} {t : Tr} {ts : List Tr} {ps : List Nat} (h : NAts I w (t :: ts) ps) : ∃ p ps', ps = p :: ps' ∧ NAt I w t p := by
  rw [NAts] at h
  obtain ⟨p, ps', e, h1, _⟩ := h
  exact ⟨p, ps', e, h1⟩

/-- What is strict code's mark must have a value to look at. -/
def ExprOk (t : Tr) : Prop := ∀ k1 r, t.kids = k1 :: r → k1.kd = 15 → ∃ k2 r1, k1.kids = k2 :: r1

set_option maxRecDepth 100000 in
set_option maxHeartbeats 2000000 in
theorem code_any (B : Nat) (t : Tr) (v : Value) (w : World) (h : EV B w t v) (he : ExprOk t) :
    Calls Tryz.prog 141 #[v] w fun e w' => e = .returned v ∧ EV B w' (codeT t) v ∧ Below B w w' := by
  have HE := hide h
  obtain ⟨p, u, ps, rfl, hp, hb, hr, hu, hk⟩ := h
  obtain ⟨_, _, _, f3, fz⟩ := node_cells hb
  have HP := hide hp
  have hlen := NAts.length _ _ hk
  cases hks : t.kids with
  | nil =>
    rw [hks] at hlen
    have h0 : ps.length = 0 := hlen
    obtain ⟨a, cap, hus⟩ := row_shut hr
    rw [h0] at hus
    subst hus
    have HC := hide (codeT_same (t := t) (fun k1 r k2 r1 e => by rw [hks] at e; cases e))
    clear hb hr hu hk hlen he hks h0 hp fz
    go_enter Tryz.func141, Tryz.ntmps141
    go_wp2_with fail
    go_ret
    exact ⟨rfl, by rw [unhide HC]; exact unhide HE, Below.refl _ _⟩
  | cons k1 r =>
    rw [hks] at hlen hk
    have h0 : 0 < ps.length := by rw [hlen]; simp
    obtain ⟨g, cap, hus, hcell⟩ := row_open hr h0
    subst hus
    obtain ⟨p1, ps1, hps, hn1⟩ := NAts.head hk
    have c0 : w.cell? ⟨g, 0, none⟩ = some (nPtr p1) := by
      rw [hcell 0 h0]; simp [hps]
    obtain ⟨u1, qs, hb1, hr1, hk1⟩ := hn1.opens
    obtain ⟨f10, _, _, f13, _⟩ := node_cells hb1
    have h0i : (0 : Int) < (ps.length : Int) := by omega
    by_cases h15 : k1.kd = 15
    · obtain ⟨k2, r1, hk2⟩ := he k1 r hks h15
      rw [hk2] at hk1
      have hlen1 := NAts.length _ _ hk1
      have h01 : 0 < qs.length := by rw [hlen1]; simp
      obtain ⟨g1, cap1, hus1, hcell1⟩ := row_open hr1 h01
      subst hus1
      obtain ⟨p2, ps2, hps2, hn2⟩ := NAts.head hk1
      have d0 : w.cell? ⟨g1, 0, none⟩ = some (nPtr p2) := by
        rw [hcell1 0 h01]; simp [hps2]
      obtain ⟨u2, qs2, hb2, _, _⟩ := hn2.opens
      obtain ⟨f20, f21, _, _, _⟩ := node_cells hb2
      have h01i : (0 : Int) < (qs.length : Int) := by omega
      have b15 : (k1.kd == 15) = true := beq_iff_eq.2 h15
      by_cases h18 : k2.kd = 18
      · have b18 : (k2.kd == 18) = true := beq_iff_eq.2 h18
        by_cases hus : k2.tx = tUse
        · have HC := hide (codeT_strict hks hk2 h15 h18 hus)
          have bu : (k2.tx.toList == [117, 115, 101, 32, 115, 116, 114, 105, 99, 116]) = true := tl_eqL (b := tUse) rfl hus
          clear hb hr hu hk hlen he hks hp hb1 hr1 hk1 hb2 hn1 hn2 hcell hcell1 hlen1 hk2 h15 h18 hus hps hps2
          go_enter Tryz.func141, Tryz.ntmps141
          go_wp2_with fail
          go_ret
          exact ⟨rfl, by rw [unhide HC]; exact (unhide HE).text _, (Below.refl _ _).setCell (p := ⟨p, 1, none⟩) (unhide HP) _⟩
        · have HC := hide (codeT_same (t := t) (fun a1 r' a2 r1' e1 e2 _ _ e => by rw [hks] at e1; cases e1; rw [hk2] at e2; cases e2; exact hus e))
          have bu : (k2.tx.toList == [117, 115, 101, 32, 115, 116, 114, 105, 99, 116]) = false := tl_neL (b := tUse) rfl hus
          clear hb hr hu hk hlen he hks hp hb1 hr1 hk1 hb2 hn1 hn2 hcell hcell1 hlen1 hk2 h15 h18 hus hps hps2
          go_enter Tryz.func141, Tryz.ntmps141
          go_wp2_with fail
          go_ret
          exact ⟨rfl, by rw [unhide HC]; exact unhide HE, Below.refl _ _⟩
      · have b18 : (k2.kd == 18) = false := beq_eq_false_iff_ne.2 h18
        have HC := hide (codeT_same (t := t) (fun a1 r' a2 r1' e1 e2 _ e => by rw [hks] at e1; cases e1; rw [hk2] at e2; cases e2; exact absurd e h18))
        clear hb hr hu hk hlen he hks hp hb1 hr1 hk1 hb2 hn1 hn2 hcell hcell1 hlen1 hk2 h15 h18 hps hps2
        go_enter Tryz.func141, Tryz.ntmps141
        go_wp2_with fail
        go_ret
        exact ⟨rfl, by rw [unhide HC]; exact unhide HE, Below.refl _ _⟩
    · have b15 : (k1.kd == 15) = false := beq_eq_false_iff_ne.2 h15
      have HC := hide (codeT_same (t := t) (fun a1 r' a2 r1' e1 _ e => by rw [hks] at e1; cases e1; exact absurd e h15))
      clear hb hr hu hk hlen he hks hp hb1 hr1 hk1 hn1 hcell h15 hps
      go_enter Tryz.func141, Tryz.ntmps141
      go_wp2_with fail
      go_ret
      exact ⟨rfl, by rw [unhide HC]; exact unhide HE, Below.refl _ _⟩
end Go.Proofs.YtoliilffjojfcaaGreatDoor

/-
  Rd5: The signs that make a value of so many parts.
-/
namespace Go.Proofs.YtoliilffjojfcaaGreatDoor
open Go.RowKit

theorem Rdr.drew {c : Ctx} {w : World} {i d : Nat} (h : Rdr c w i d) : Rdr c w.drew i d := h.later (Below.refl _ _).drew
theorem Rdr.alloc {c : Ctx} {w : World} {i d : Nat} (h : Rdr c w i d) (o : Obj) : Rdr c (w.alloc o) i d := h.later ((Below.refl _ _).alloc (Nat.le_refl _) _)

abbrev O160 : Obj := .cells #[.string ⟨#[]⟩, .int .i64 0, .int .i64 0, .int .i64 0] 160

theorem set4 {w : World} {b : Nat} {a0 a1 a2 a3 : Value} {t : TypeId} {fr : Nat × Nat} (h : w.heap[b]? = some (.cells #[a0, a1, a2, a3] t fr)) (v0 v1 v2 v3 : Value) :
    ((((w.setCell ⟨b, 0, none⟩ v0).setCell ⟨b, 1, none⟩ v1).setCell ⟨b, 2, none⟩ v2).setCell ⟨b, 3, none⟩ v3).heap[b]? = some (.cells #[v0, v1, v2, v3] t fr) := by
  rw [heap_set (heap_set (heap_set (heap_set h v0) v1) v2) v3]
  rfl
def C160 (b : Nat) (w1 : World) (v0 v1 v2 v3 : Value) : Prop :=
  w1.cell? ⟨b, 0, none⟩ = some v0 ∧ w1.cell? ⟨b, 1, none⟩ = some v1 ∧ w1.cell? ⟨b, 2, none⟩ = some v2 ∧ w1.cell? ⟨b, 3, none⟩ = some v3 ∧ (∀ o, w1.frozen? ⟨b, o, none⟩ = false) ∧ b < w1.heap.size
theorem c160 {b : Nat} {w1 : World} {v0 v1 v2 v3 : Value} (p0 : w1.heap[b]? = some (.cells #[v0, v1, v2, v3] 160)) : C160 b w1 v0 v1 v2 v3 :=
  ⟨by rw [cell_of p0]; rfl, by rw [cell_of p0]; rfl, by rw [cell_of p0]; rfl, by rw [cell_of p0]; rfl, frozen_of p0, lt_of_heap p0⟩

theorem sf_one {c : Ctx} {w w1 : World} {i d : Nat} (h : Rdr c w i d) (hb : Below (w.alloc O160).drew.heap.size (w.alloc O160).drew w1) :
    Rdr c w1 i d ∧ Below w.heap.size w w1 ∧ w1.heap[w.heap.size]? = some O160 :=
  ⟨(h.alloc O160).drew.later hb, (((Below.refl _ _).alloc (Nat.le_refl _) O160).drew).trans (hb.mono (by simp)), (hb.block _ (by simp)).trans (heap_new w O160)⟩
theorem sf_two {c : Ctx} {w w1 : World} {i d : Nat} (h : Rdr c w i d) (hb : Below ((w.alloc O160).alloc O160).drew.heap.size ((w.alloc O160).alloc O160).drew w1) :
    Rdr c w1 i d ∧ Below w.heap.size w w1 ∧ w1.heap[w.heap.size]? = some O160 ∧ w1.heap[w.heap.size + 1]? = some O160 := by
  refine ⟨((h.alloc O160).alloc O160).drew.later hb, ((((Below.refl _ _).alloc (Nat.le_refl _) O160).alloc (by simp) O160).drew).trans (hb.mono (by simp; omega)), (hb.block _ (by simp; omega)).trans ((Below.heap_alloc (w.alloc O160) O160 w.heap.size (by simp)).trans (heap_new w O160)), ?_⟩
  have := heap_new (w.alloc O160) O160
  simp only [World.size_alloc] at this
  exact (hb.block _ (by simp)).trans this
/-- Behind the store into the new variable. -/
theorem w2_any {c : Ctx} {w w1 W2 : World} {i d : Nat} {v0 v1 v2 v3 : Value} (h : Rdr c w1 i d) (hlo : c.lo ≤ w.heap.size) (p0 : w1.heap[w.heap.size]? = some O160) (p1 : w1.heap[w.heap.size + 1]? = some O160) (hb : Below w.heap.size w w1)
    (hW : W2 = (((w1.setCell ⟨w.heap.size + 1, 0, none⟩ v0).setCell ⟨w.heap.size + 1, 1, none⟩ v1).setCell ⟨w.heap.size + 1, 2, none⟩ v2).setCell ⟨w.heap.size + 1, 3, none⟩ v3) :
    Rdr c W2 i d ∧ Below w.heap.size w W2 ∧ C160 w.heap.size W2 (.string ⟨#[]⟩) (.int .i64 0) (.int .i64 0) (.int .i64 0) ∧ C160 (w.heap.size + 1) W2 v0 v1 v2 v3 := by
  have hB : Below (w.heap.size + 1) w1 W2 := by
    rw [hW]
    exact ((((Below.refl _ w1).setCell (p := ⟨w.heap.size + 1, 0, none⟩) (Nat.le_refl _) v0).setCell (p := ⟨w.heap.size + 1, 1, none⟩) (Nat.le_refl _) v1).setCell (p := ⟨w.heap.size + 1, 2, none⟩) (Nat.le_refl _) v2).setCell (p := ⟨w.heap.size + 1, 3, none⟩) (Nat.le_refl _) v3
  refine ⟨h.ap hB (by omega), hb.trans (hB.mono (by omega)), c160 ((hB.block _ (by omega)).trans p0), c160 ?_⟩
  rw [hW]
  exact set4 p1 v0 v1 v2 v3
theorem w1_any {c : Ctx} {w w1 W2 : World} {i d : Nat} {v0 v1 v2 v3 : Value} (h : Rdr c w1 i d) (p0 : w1.heap[w.heap.size]? = some O160) (hb : Below w.heap.size w w1) (hW : W2 = w1.alloc (.cells #[v0, v1, v2, v3] 160)) :
    Rdr c W2 i d ∧ Below w.heap.size w W2 ∧ C160 w.heap.size W2 (.string ⟨#[]⟩) (.int .i64 0) (.int .i64 0) (.int .i64 0) ∧ C160 w1.heap.size W2 v0 v1 v2 v3 := by
  subst hW
  exact ⟨h.alloc _, hb.alloc hb.size _, c160 ((Below.heap_alloc _ _ _ (lt_of_heap p0)).trans p0), c160 (heap_new _ _)⟩
theorem below4 {w W2 : World} {b : Nat} (hb : Below w.heap.size w W2) (h : w.heap.size ≤ b) (v0 v1 v2 v3 : Value) :
    Below w.heap.size w ((((W2.setCell ⟨b, 0, none⟩ v0).setCell ⟨b, 1, none⟩ v1).setCell ⟨b, 2, none⟩ v2).setCell ⟨b, 3, none⟩ v3) :=
  (((hb.setCell (p := ⟨b, 0, none⟩) h _).setCell (p := ⟨b, 1, none⟩) h _).setCell (p := ⟨b, 2, none⟩) h _).setCell (p := ⟨b, 3, none⟩) h _

set_option maxRecDepth 100000 in
set_option maxHeartbeats 1000000 in
theorem sign_none (c : Ctx) (k : Int) (s : ByteArray) (w : World) (i d : Nat) (h : Rdr c w i d) (hs : s = fx c.l i) (ho : sgOf s = none) :
    Calls Tryz.prog 233 #[rPtr c, .int .i64 k] w fun e w' => e = .returned (.tuple #[noSg, .bool false]) ∧ Below w.heap.size w w' := by
  have HR0 := hide h
  have HR := hide ((h.alloc O160).drew)
  have HR' := hide (((h.alloc O160).alloc O160).drew)
  have HL : Hid (∀ W : World, Rdr c W i d → (Instr.lookup 150 (.map (some c.mS)) (.string s) true).run Tryz.prog W = .ok (.tuple #[.agg #[.string ⟨#[]⟩, .int .i64 0, .int .i64 0, .int .i64 0], .bool false]) W) := fun W hW => by
    have := look_signs c s W hW.base.signs
    rw [ho] at this
    exact this
  have hlt := h.rlt
  have HT : Hid (∀ (w : World), Rdr c w i d → Calls Tryz.prog 176 #[rPtr c] w fun e w' => e = .returned (.string s) ∧ Below w.heap.size w w') := fun w h => by rw [hs]; exact fixed_any c w i d h
  clear h hs ho
  go_enter Tryz.func233, Tryz.ntmps233
  go_wp2_with fail
  refine wp_region_held (S := fun W => Rdr c W i d) (by kernel_rfl) ?_
  change wpAnyH _ _ _ _ _ _ _ _ (World.drew _)
  refine wpAnyH_take (i := 0) (v := rPtr c) rfl (by kernel_rfl) (by kernel_rfl) (by kernel_rfl) (fun _ _ _ h => h) (Or.inl ⟨by kernel_rfl, fun W _ => by go_simp⟩) (unhide HR) ?_
  refine wpAnyH_take (i := 1) (v := rPtr c) rfl (by kernel_rfl) (by kernel_rfl) (by kernel_rfl) (fun _ _ _ h => h) (Or.inl ⟨by kernel_rfl, fun W _ => by go_simp⟩) (unhide HR) ?_
  refine wpAnyH_take (i := 2) (v := .pointer (some ⟨c.R, 3, none⟩)) rfl (by kernel_rfl) (by kernel_rfl) (by kernel_rfl) (fun _ _ _ h => h) (Or.inl ⟨by kernel_rfl, fun W _ => by go_simp⟩) (unhide HR) ?_
  refine wpAnyH_take (i := 3) (v := .map (some c.mS)) rfl (by kernel_rfl) (by kernel_rfl) (by kernel_rfl) (fun _ _ _ h => h) (Or.inl ⟨by kernel_rfl, fun W hW => by have hh := Rdr.c3 hW; go_simp⟩) (unhide HR) ?_
  refine wpAnyH_take (i := 4) (v := rPtr c) rfl (by kernel_rfl) (by kernel_rfl) (by kernel_rfl) (fun _ _ _ h => h) (Or.inl ⟨by kernel_rfl, fun W _ => by go_simp⟩) (unhide HR) ?_
  refine wpAnyH_ready (rs := [5, 10]) (by kernel_rfl) (by simp) (AllReadyH.cons rfl (fun K hK => ?_) (AllReadyH.cons rfl (fun K hK => ?_) AllReadyH.nil))
  · go_simp
    refine Calls.mono (HT.out _ (unhide HR)) ?_
    rintro e w1 ⟨rfl, hb⟩
    obtain ⟨hr1, hbw, p0⟩ := sf_one (unhide HR0) hb
    have HR1 := hide hr1
    have HW := hide hbw
    have P0 := hide p0
    clear hb hr1 hbw p0
    refine hK.out _ _ (unhide HR1) (fun _ => ?_)
    clear hK K
    refine wpAnyH_take (i := 6) (v := .tuple #[.agg #[.string ⟨#[]⟩, .int .i64 0, .int .i64 0, .int .i64 0], .bool false]) rfl (by kernel_rfl) (by kernel_rfl) (by kernel_rfl) (fun _ _ _ h => h) (Or.inl ⟨by kernel_rfl, fun W hW => by have hh := (unhide HL) W hW; go_simp⟩) (unhide HR1) ?_
    refine wpAnyH_take (i := 7) (v := .tuple #[.agg #[.string ⟨#[]⟩, .int .i64 0, .int .i64 0, .int .i64 0], .bool false]) rfl (by kernel_rfl) (by kernel_rfl) (by kernel_rfl) (fun _ _ _ h => h) (Or.inl ⟨by kernel_rfl, fun W _ => by go_simp⟩) (unhide HR1) ?_
    refine wpAnyH_take (i := 8) (v := .agg #[.string ⟨#[]⟩, .int .i64 0, .int .i64 0, .int .i64 0]) rfl (by kernel_rfl) (by kernel_rfl) (by kernel_rfl) (fun _ _ _ h => h) (Or.inl ⟨by kernel_rfl, fun W _ => by go_simp⟩) (unhide HR1) ?_
    refine wpAnyH_take (i := 9) (v := .bool false) rfl (by kernel_rfl) (by kernel_rfl) (by kernel_rfl) (fun _ _ _ h => h) (Or.inl ⟨by kernel_rfl, fun W _ => by go_simp⟩) (unhide HR1) ?_
    refine wpAnyH_ready (rs := [10]) (by kernel_rfl) (by simp) (AllReadyH.cons rfl (fun K hK => ?_) AllReadyH.nil)
    go_simp
    refine hK.out _ _ ((unhide HR1).alloc O160) (fun _ => ?_)
    clear hK K
    refine wpAnyH_ready (rs := [11]) (by kernel_rfl) (by simp) (AllReadyH.cons rfl (fun K hK => ?_) AllReadyH.nil)
    go_simp
    obtain ⟨W2, hW2⟩ : ∃ W2, W2 = w1.alloc (.cells #[.string ⟨#[]⟩, .int .i64 0, .int .i64 0, .int .i64 0] 160) := ⟨_, rfl⟩
    obtain ⟨hr2, hb2, ⟨q0, q1, q2, q3, qf, qlt⟩, ⟨s0, s1, s2, s3, sf, slt⟩⟩ := w1_any (v0 := .string ⟨#[]⟩) (v1 := .int .i64 0) (v2 := .int .i64 0) (v3 := .int .i64 0) (unhide HR1) (unhide P0) (unhide HW) hW2
    have HR2 := hide hr2
    have HW2 := hide hb2
    rw [← hW2]
    clear hW2 hr2 hb2
    refine hK.out _ _ (unhide HR2) (fun _ => ?_)
    clear hK K
    refine wpAnyH_take (i := 12) (v := .bool false) rfl (by kernel_rfl) (by kernel_rfl) (by kernel_rfl) (fun _ _ _ h => h) (Or.inl ⟨by kernel_rfl, fun W _ => by go_simp⟩) (unhide HR2) ?_
    refine wpAnyH_done (by kernel_rfl) ?_ _
    go_simp
    go_wp2_with fail
    exact bodyPost_ret (v := .tuple #[.agg #[.string ⟨#[]⟩, .int .i64 0, .int .i64 0, .int .i64 0], .bool false]) (by simp [results, Tryz.results233, go_sem, q0, q1, q2, q3]) rfl ⟨rfl, below4 (unhide HW2) (Nat.le_refl _) _ _ _ _⟩
  · go_simp
    refine hK.out _ _ (unhide HR') (fun _ => ?_)
    clear hK K
    refine wpAnyH_ready (rs := [5]) (by kernel_rfl) (by simp) (AllReadyH.cons rfl (fun K hK => ?_) AllReadyH.nil)
    go_simp
    refine Calls.mono (HT.out _ (unhide HR')) ?_
    rintro e w1 ⟨rfl, hb⟩
    obtain ⟨hr1, hbw, p0, p1⟩ := sf_two (unhide HR0) hb
    obtain ⟨r0, r1, r2, r3, rf, rlt⟩ := c160 p1
    have HR1 := hide hr1
    have HW := hide hbw
    have P0 := hide p0
    have P1 := hide p1
    clear hb hr1 hbw p0 p1
    refine hK.out _ _ (unhide HR1) (fun _ => ?_)
    clear hK K
    refine wpAnyH_take (i := 6) (v := .tuple #[.agg #[.string ⟨#[]⟩, .int .i64 0, .int .i64 0, .int .i64 0], .bool false]) rfl (by kernel_rfl) (by kernel_rfl) (by kernel_rfl) (fun _ _ _ h => h) (Or.inl ⟨by kernel_rfl, fun W hW => by have hh := (unhide HL) W hW; go_simp⟩) (unhide HR1) ?_
    refine wpAnyH_take (i := 7) (v := .tuple #[.agg #[.string ⟨#[]⟩, .int .i64 0, .int .i64 0, .int .i64 0], .bool false]) rfl (by kernel_rfl) (by kernel_rfl) (by kernel_rfl) (fun _ _ _ h => h) (Or.inl ⟨by kernel_rfl, fun W _ => by go_simp⟩) (unhide HR1) ?_
    refine wpAnyH_take (i := 8) (v := .agg #[.string ⟨#[]⟩, .int .i64 0, .int .i64 0, .int .i64 0]) rfl (by kernel_rfl) (by kernel_rfl) (by kernel_rfl) (fun _ _ _ h => h) (Or.inl ⟨by kernel_rfl, fun W _ => by go_simp⟩) (unhide HR1) ?_
    refine wpAnyH_take (i := 9) (v := .bool false) rfl (by kernel_rfl) (by kernel_rfl) (by kernel_rfl) (fun _ _ _ h => h) (Or.inl ⟨by kernel_rfl, fun W _ => by go_simp⟩) (unhide HR1) ?_
    refine wpAnyH_ready (rs := [11]) (by kernel_rfl) (by simp) (AllReadyH.cons rfl (fun K hK => ?_) AllReadyH.nil)
    go_simp
    clear r0 r1 r2 r3 rf rlt
    obtain ⟨W2, hW2⟩ : ∃ W2, W2 = (((w1.setCell ⟨w.heap.size + 1, 0, none⟩ (.string ⟨#[]⟩)).setCell ⟨w.heap.size + 1, 1, none⟩ (.int .i64 0)).setCell ⟨w.heap.size + 1, 2, none⟩ (.int .i64 0)).setCell ⟨w.heap.size + 1, 3, none⟩ (.int .i64 0) := ⟨_, rfl⟩
    obtain ⟨hr2, hb2, ⟨q0, q1, q2, q3, qf, qlt⟩, ⟨s0, s1, s2, s3, sf, slt⟩⟩ := w2_any (v0 := .string ⟨#[]⟩) (v1 := .int .i64 0) (v2 := .int .i64 0) (v3 := .int .i64 0) (unhide HR1) (unhide HR0).base.size (unhide P0) (unhide P1) (unhide HW) hW2
    have HR2 := hide hr2
    have HW2 := hide hb2
    rw [← hW2]
    clear hW2 hr2 hb2
    refine hK.out _ _ (unhide HR2) (fun _ => ?_)
    clear hK K
    refine wpAnyH_take (i := 12) (v := .bool false) rfl (by kernel_rfl) (by kernel_rfl) (by kernel_rfl) (fun _ _ _ h => h) (Or.inl ⟨by kernel_rfl, fun W _ => by go_simp⟩) (unhide HR2) ?_
    refine wpAnyH_done (by kernel_rfl) ?_ _
    go_simp
    go_wp2_with fail
    exact bodyPost_ret (v := .tuple #[.agg #[.string ⟨#[]⟩, .int .i64 0, .int .i64 0, .int .i64 0], .bool false]) (by simp [results, Tryz.results233, go_sem, q0, q1, q2, q3]) rfl ⟨rfl, below4 (unhide HW2) (Nat.le_refl _) _ _ _ _⟩

set_option maxRecDepth 100000 in
set_option maxHeartbeats 1000000 in
theorem sign_other (c : Ctx) (k : Int) (s : ByteArray) (x : Sg) (w : World) (i d : Nat) (h : Rdr c w i d) (hs : s = fx c.l i) (ho : sgOf s = some x) (hk : (x.parts == k) = false) :
    Calls Tryz.prog 233 #[rPtr c, .int .i64 k] w fun e w' => e = .returned (.tuple #[noSg, .bool false]) ∧ Below w.heap.size w w' := by
  have HR0 := hide h
  have HR := hide ((h.alloc O160).drew)
  have HR' := hide (((h.alloc O160).alloc O160).drew)
  have HL : Hid (∀ W : World, Rdr c W i d → (Instr.lookup 150 (.map (some c.mS)) (.string s) true).run Tryz.prog W = .ok (.tuple #[.agg #[.string x.tx, .int .i64 x.kd, .int .i64 x.parts, .int .i64 x.str], .bool true]) W) := fun W hW => by
    have := look_signs c s W hW.base.signs
    rw [ho] at this
    exact this
  have hlt := h.rlt
  have HT : Hid (∀ (w : World), Rdr c w i d → Calls Tryz.prog 176 #[rPtr c] w fun e w' => e = .returned (.string s) ∧ Below w.heap.size w w') := fun w h => by rw [hs]; exact fixed_any c w i d h
  clear h hs ho
  go_enter Tryz.func233, Tryz.ntmps233
  go_wp2_with fail
  refine wp_region_held (S := fun W => Rdr c W i d) (by kernel_rfl) ?_
  change wpAnyH _ _ _ _ _ _ _ _ (World.drew _)
  refine wpAnyH_take (i := 0) (v := rPtr c) rfl (by kernel_rfl) (by kernel_rfl) (by kernel_rfl) (fun _ _ _ h => h) (Or.inl ⟨by kernel_rfl, fun W _ => by go_simp⟩) (unhide HR) ?_
  refine wpAnyH_take (i := 1) (v := rPtr c) rfl (by kernel_rfl) (by kernel_rfl) (by kernel_rfl) (fun _ _ _ h => h) (Or.inl ⟨by kernel_rfl, fun W _ => by go_simp⟩) (unhide HR) ?_
  refine wpAnyH_take (i := 2) (v := .pointer (some ⟨c.R, 3, none⟩)) rfl (by kernel_rfl) (by kernel_rfl) (by kernel_rfl) (fun _ _ _ h => h) (Or.inl ⟨by kernel_rfl, fun W _ => by go_simp⟩) (unhide HR) ?_
  refine wpAnyH_take (i := 3) (v := .map (some c.mS)) rfl (by kernel_rfl) (by kernel_rfl) (by kernel_rfl) (fun _ _ _ h => h) (Or.inl ⟨by kernel_rfl, fun W hW => by have hh := Rdr.c3 hW; go_simp⟩) (unhide HR) ?_
  refine wpAnyH_take (i := 4) (v := rPtr c) rfl (by kernel_rfl) (by kernel_rfl) (by kernel_rfl) (fun _ _ _ h => h) (Or.inl ⟨by kernel_rfl, fun W _ => by go_simp⟩) (unhide HR) ?_
  refine wpAnyH_ready (rs := [5, 10]) (by kernel_rfl) (by simp) (AllReadyH.cons rfl (fun K hK => ?_) (AllReadyH.cons rfl (fun K hK => ?_) AllReadyH.nil))
  · go_simp
    refine Calls.mono (HT.out _ (unhide HR)) ?_
    rintro e w1 ⟨rfl, hb⟩
    obtain ⟨hr1, hbw, p0⟩ := sf_one (unhide HR0) hb
    have HR1 := hide hr1
    have HW := hide hbw
    have P0 := hide p0
    clear hb hr1 hbw p0
    refine hK.out _ _ (unhide HR1) (fun _ => ?_)
    clear hK K
    refine wpAnyH_take (i := 6) (v := .tuple #[.agg #[.string x.tx, .int .i64 x.kd, .int .i64 x.parts, .int .i64 x.str], .bool true]) rfl (by kernel_rfl) (by kernel_rfl) (by kernel_rfl) (fun _ _ _ h => h) (Or.inl ⟨by kernel_rfl, fun W hW => by have hh := (unhide HL) W hW; go_simp⟩) (unhide HR1) ?_
    refine wpAnyH_take (i := 7) (v := .tuple #[.agg #[.string x.tx, .int .i64 x.kd, .int .i64 x.parts, .int .i64 x.str], .bool true]) rfl (by kernel_rfl) (by kernel_rfl) (by kernel_rfl) (fun _ _ _ h => h) (Or.inl ⟨by kernel_rfl, fun W _ => by go_simp⟩) (unhide HR1) ?_
    refine wpAnyH_take (i := 8) (v := .agg #[.string x.tx, .int .i64 x.kd, .int .i64 x.parts, .int .i64 x.str]) rfl (by kernel_rfl) (by kernel_rfl) (by kernel_rfl) (fun _ _ _ h => h) (Or.inl ⟨by kernel_rfl, fun W _ => by go_simp⟩) (unhide HR1) ?_
    refine wpAnyH_take (i := 9) (v := .bool true) rfl (by kernel_rfl) (by kernel_rfl) (by kernel_rfl) (fun _ _ _ h => h) (Or.inl ⟨by kernel_rfl, fun W _ => by go_simp⟩) (unhide HR1) ?_
    refine wpAnyH_ready (rs := [10]) (by kernel_rfl) (by simp) (AllReadyH.cons rfl (fun K hK => ?_) AllReadyH.nil)
    go_simp
    refine hK.out _ _ ((unhide HR1).alloc O160) (fun _ => ?_)
    clear hK K
    refine wpAnyH_ready (rs := [11]) (by kernel_rfl) (by simp) (AllReadyH.cons rfl (fun K hK => ?_) AllReadyH.nil)
    go_simp
    obtain ⟨W2, hW2⟩ : ∃ W2, W2 = w1.alloc (.cells #[.string x.tx, .int .i64 x.kd, .int .i64 x.parts, .int .i64 x.str] 160) := ⟨_, rfl⟩
    obtain ⟨hr2, hb2, ⟨q0, q1, q2, q3, qf, qlt⟩, ⟨s0, s1, s2, s3, sf, slt⟩⟩ := w1_any (v0 := .string x.tx) (v1 := .int .i64 x.kd) (v2 := .int .i64 x.parts) (v3 := .int .i64 x.str) (unhide HR1) (unhide P0) (unhide HW) hW2
    have HR2 := hide hr2
    have HW2 := hide hb2
    rw [← hW2]
    clear hW2 hr2 hb2
    refine hK.out _ _ (unhide HR2) (fun _ => ?_)
    clear hK K
    refine wpAnyH_take (i := 12) (v := .bool true) rfl (by kernel_rfl) (by kernel_rfl) (by kernel_rfl) (fun _ _ _ h => h) (Or.inl ⟨by kernel_rfl, fun W _ => by go_simp⟩) (unhide HR2) ?_
    refine wpAnyH_done (by kernel_rfl) ?_ _
    go_simp
    go_wp2_with fail
    exact bodyPost_ret (v := .tuple #[.agg #[.string ⟨#[]⟩, .int .i64 0, .int .i64 0, .int .i64 0], .bool false]) (by simp [results, Tryz.results233, go_sem, q0, q1, q2, q3]) rfl ⟨rfl, below4 (unhide HW2) (Nat.le_refl _) _ _ _ _⟩
  · go_simp
    refine hK.out _ _ (unhide HR') (fun _ => ?_)
    clear hK K
    refine wpAnyH_ready (rs := [5]) (by kernel_rfl) (by simp) (AllReadyH.cons rfl (fun K hK => ?_) AllReadyH.nil)
    go_simp
    refine Calls.mono (HT.out _ (unhide HR')) ?_
    rintro e w1 ⟨rfl, hb⟩
    obtain ⟨hr1, hbw, p0, p1⟩ := sf_two (unhide HR0) hb
    obtain ⟨r0, r1, r2, r3, rf, rlt⟩ := c160 p1
    have HR1 := hide hr1
    have HW := hide hbw
    have P0 := hide p0
    have P1 := hide p1
    clear hb hr1 hbw p0 p1
    refine hK.out _ _ (unhide HR1) (fun _ => ?_)
    clear hK K
    refine wpAnyH_take (i := 6) (v := .tuple #[.agg #[.string x.tx, .int .i64 x.kd, .int .i64 x.parts, .int .i64 x.str], .bool true]) rfl (by kernel_rfl) (by kernel_rfl) (by kernel_rfl) (fun _ _ _ h => h) (Or.inl ⟨by kernel_rfl, fun W hW => by have hh := (unhide HL) W hW; go_simp⟩) (unhide HR1) ?_
    refine wpAnyH_take (i := 7) (v := .tuple #[.agg #[.string x.tx, .int .i64 x.kd, .int .i64 x.parts, .int .i64 x.str], .bool true]) rfl (by kernel_rfl) (by kernel_rfl) (by kernel_rfl) (fun _ _ _ h => h) (Or.inl ⟨by kernel_rfl, fun W _ => by go_simp⟩) (unhide HR1) ?_
    refine wpAnyH_take (i := 8) (v := .agg #[.string x.tx, .int .i64 x.kd, .int .i64 x.parts, .int .i64 x.str]) rfl (by kernel_rfl) (by kernel_rfl) (by kernel_rfl) (fun _ _ _ h => h) (Or.inl ⟨by kernel_rfl, fun W _ => by go_simp⟩) (unhide HR1) ?_
    refine wpAnyH_take (i := 9) (v := .bool true) rfl (by kernel_rfl) (by kernel_rfl) (by kernel_rfl) (fun _ _ _ h => h) (Or.inl ⟨by kernel_rfl, fun W _ => by go_simp⟩) (unhide HR1) ?_
    refine wpAnyH_ready (rs := [11]) (by kernel_rfl) (by simp) (AllReadyH.cons rfl (fun K hK => ?_) AllReadyH.nil)
    go_simp
    clear r0 r1 r2 r3 rf rlt
    obtain ⟨W2, hW2⟩ : ∃ W2, W2 = (((w1.setCell ⟨w.heap.size + 1, 0, none⟩ (.string x.tx)).setCell ⟨w.heap.size + 1, 1, none⟩ (.int .i64 x.kd)).setCell ⟨w.heap.size + 1, 2, none⟩ (.int .i64 x.parts)).setCell ⟨w.heap.size + 1, 3, none⟩ (.int .i64 x.str) := ⟨_, rfl⟩
    obtain ⟨hr2, hb2, ⟨q0, q1, q2, q3, qf, qlt⟩, ⟨s0, s1, s2, s3, sf, slt⟩⟩ := w2_any (v0 := .string x.tx) (v1 := .int .i64 x.kd) (v2 := .int .i64 x.parts) (v3 := .int .i64 x.str) (unhide HR1) (unhide HR0).base.size (unhide P0) (unhide P1) (unhide HW) hW2
    have HR2 := hide hr2
    have HW2 := hide hb2
    rw [← hW2]
    clear hW2 hr2 hb2
    refine hK.out _ _ (unhide HR2) (fun _ => ?_)
    clear hK K
    refine wpAnyH_take (i := 12) (v := .bool true) rfl (by kernel_rfl) (by kernel_rfl) (by kernel_rfl) (fun _ _ _ h => h) (Or.inl ⟨by kernel_rfl, fun W _ => by go_simp⟩) (unhide HR2) ?_
    refine wpAnyH_done (by kernel_rfl) ?_ _
    go_simp
    go_wp2_with fail
    exact bodyPost_ret (v := .tuple #[.agg #[.string ⟨#[]⟩, .int .i64 0, .int .i64 0, .int .i64 0], .bool false]) (by simp [results, Tryz.results233, go_sem, q0, q1, q2, q3]) rfl ⟨rfl, below4 (unhide HW2) (Nat.le_refl _) _ _ _ _⟩

set_option maxRecDepth 100000 in
set_option maxHeartbeats 1000000 in
theorem sign_some (c : Ctx) (k : Int) (s : ByteArray) (x : Sg) (w : World) (i d : Nat) (h : Rdr c w i d) (hs : s = fx c.l i) (ho : sgOf s = some x) (hk : (x.parts == k) = true) :
    Calls Tryz.prog 233 #[rPtr c, .int .i64 k] w fun e w' => e = .returned (.tuple #[sgV x, .bool true]) ∧ Below w.heap.size w w' := by
  have HR0 := hide h
  have HR := hide ((h.alloc O160).drew)
  have HR' := hide (((h.alloc O160).alloc O160).drew)
  have HL : Hid (∀ W : World, Rdr c W i d → (Instr.lookup 150 (.map (some c.mS)) (.string s) true).run Tryz.prog W = .ok (.tuple #[.agg #[.string x.tx, .int .i64 x.kd, .int .i64 x.parts, .int .i64 x.str], .bool true]) W) := fun W hW => by
    have := look_signs c s W hW.base.signs
    rw [ho] at this
    exact this
  have hlt := h.rlt
  have HT : Hid (∀ (w : World), Rdr c w i d → Calls Tryz.prog 176 #[rPtr c] w fun e w' => e = .returned (.string s) ∧ Below w.heap.size w w') := fun w h => by rw [hs]; exact fixed_any c w i d h
  clear h hs ho
  go_enter Tryz.func233, Tryz.ntmps233
  go_wp2_with fail
  refine wp_region_held (S := fun W => Rdr c W i d) (by kernel_rfl) ?_
  change wpAnyH _ _ _ _ _ _ _ _ (World.drew _)
  refine wpAnyH_take (i := 0) (v := rPtr c) rfl (by kernel_rfl) (by kernel_rfl) (by kernel_rfl) (fun _ _ _ h => h) (Or.inl ⟨by kernel_rfl, fun W _ => by go_simp⟩) (unhide HR) ?_
  refine wpAnyH_take (i := 1) (v := rPtr c) rfl (by kernel_rfl) (by kernel_rfl) (by kernel_rfl) (fun _ _ _ h => h) (Or.inl ⟨by kernel_rfl, fun W _ => by go_simp⟩) (unhide HR) ?_
  refine wpAnyH_take (i := 2) (v := .pointer (some ⟨c.R, 3, none⟩)) rfl (by kernel_rfl) (by kernel_rfl) (by kernel_rfl) (fun _ _ _ h => h) (Or.inl ⟨by kernel_rfl, fun W _ => by go_simp⟩) (unhide HR) ?_
  refine wpAnyH_take (i := 3) (v := .map (some c.mS)) rfl (by kernel_rfl) (by kernel_rfl) (by kernel_rfl) (fun _ _ _ h => h) (Or.inl ⟨by kernel_rfl, fun W hW => by have hh := Rdr.c3 hW; go_simp⟩) (unhide HR) ?_
  refine wpAnyH_take (i := 4) (v := rPtr c) rfl (by kernel_rfl) (by kernel_rfl) (by kernel_rfl) (fun _ _ _ h => h) (Or.inl ⟨by kernel_rfl, fun W _ => by go_simp⟩) (unhide HR) ?_
  refine wpAnyH_ready (rs := [5, 10]) (by kernel_rfl) (by simp) (AllReadyH.cons rfl (fun K hK => ?_) (AllReadyH.cons rfl (fun K hK => ?_) AllReadyH.nil))
  · go_simp
    refine Calls.mono (HT.out _ (unhide HR)) ?_
    rintro e w1 ⟨rfl, hb⟩
    obtain ⟨hr1, hbw, p0⟩ := sf_one (unhide HR0) hb
    have HR1 := hide hr1
    have HW := hide hbw
    have P0 := hide p0
    clear hb hr1 hbw p0
    refine hK.out _ _ (unhide HR1) (fun _ => ?_)
    clear hK K
    refine wpAnyH_take (i := 6) (v := .tuple #[.agg #[.string x.tx, .int .i64 x.kd, .int .i64 x.parts, .int .i64 x.str], .bool true]) rfl (by kernel_rfl) (by kernel_rfl) (by kernel_rfl) (fun _ _ _ h => h) (Or.inl ⟨by kernel_rfl, fun W hW => by have hh := (unhide HL) W hW; go_simp⟩) (unhide HR1) ?_
    refine wpAnyH_take (i := 7) (v := .tuple #[.agg #[.string x.tx, .int .i64 x.kd, .int .i64 x.parts, .int .i64 x.str], .bool true]) rfl (by kernel_rfl) (by kernel_rfl) (by kernel_rfl) (fun _ _ _ h => h) (Or.inl ⟨by kernel_rfl, fun W _ => by go_simp⟩) (unhide HR1) ?_
    refine wpAnyH_take (i := 8) (v := .agg #[.string x.tx, .int .i64 x.kd, .int .i64 x.parts, .int .i64 x.str]) rfl (by kernel_rfl) (by kernel_rfl) (by kernel_rfl) (fun _ _ _ h => h) (Or.inl ⟨by kernel_rfl, fun W _ => by go_simp⟩) (unhide HR1) ?_
    refine wpAnyH_take (i := 9) (v := .bool true) rfl (by kernel_rfl) (by kernel_rfl) (by kernel_rfl) (fun _ _ _ h => h) (Or.inl ⟨by kernel_rfl, fun W _ => by go_simp⟩) (unhide HR1) ?_
    refine wpAnyH_ready (rs := [10]) (by kernel_rfl) (by simp) (AllReadyH.cons rfl (fun K hK => ?_) AllReadyH.nil)
    go_simp
    refine hK.out _ _ ((unhide HR1).alloc O160) (fun _ => ?_)
    clear hK K
    refine wpAnyH_ready (rs := [11]) (by kernel_rfl) (by simp) (AllReadyH.cons rfl (fun K hK => ?_) AllReadyH.nil)
    go_simp
    obtain ⟨W2, hW2⟩ : ∃ W2, W2 = w1.alloc (.cells #[.string x.tx, .int .i64 x.kd, .int .i64 x.parts, .int .i64 x.str] 160) := ⟨_, rfl⟩
    obtain ⟨hr2, hb2, ⟨q0, q1, q2, q3, qf, qlt⟩, ⟨s0, s1, s2, s3, sf, slt⟩⟩ := w1_any (v0 := .string x.tx) (v1 := .int .i64 x.kd) (v2 := .int .i64 x.parts) (v3 := .int .i64 x.str) (unhide HR1) (unhide P0) (unhide HW) hW2
    have HR2 := hide hr2
    have HW2 := hide hb2
    rw [← hW2]
    clear hW2 hr2 hb2
    refine hK.out _ _ (unhide HR2) (fun _ => ?_)
    clear hK K
    refine wpAnyH_take (i := 12) (v := .bool true) rfl (by kernel_rfl) (by kernel_rfl) (by kernel_rfl) (fun _ _ _ h => h) (Or.inl ⟨by kernel_rfl, fun W _ => by go_simp⟩) (unhide HR2) ?_
    refine wpAnyH_done (by kernel_rfl) ?_ _
    go_simp
    go_wp2_with fail
    exact bodyPost_ret (v := .tuple #[.agg #[.string x.tx, .int .i64 x.kd, .int .i64 x.parts, .int .i64 x.str], .bool true]) (by simp [results, Tryz.results233, go_sem, q0, q1, q2, q3]) rfl ⟨rfl, below4 (unhide HW2) (Nat.le_refl _) _ _ _ _⟩
  · go_simp
    refine hK.out _ _ (unhide HR') (fun _ => ?_)
    clear hK K
    refine wpAnyH_ready (rs := [5]) (by kernel_rfl) (by simp) (AllReadyH.cons rfl (fun K hK => ?_) AllReadyH.nil)
    go_simp
    refine Calls.mono (HT.out _ (unhide HR')) ?_
    rintro e w1 ⟨rfl, hb⟩
    obtain ⟨hr1, hbw, p0, p1⟩ := sf_two (unhide HR0) hb
    obtain ⟨r0, r1, r2, r3, rf, rlt⟩ := c160 p1
    have HR1 := hide hr1
    have HW := hide hbw
    have P0 := hide p0
    have P1 := hide p1
    clear hb hr1 hbw p0 p1
    refine hK.out _ _ (unhide HR1) (fun _ => ?_)
    clear hK K
    refine wpAnyH_take (i := 6) (v := .tuple #[.agg #[.string x.tx, .int .i64 x.kd, .int .i64 x.parts, .int .i64 x.str], .bool true]) rfl (by kernel_rfl) (by kernel_rfl) (by kernel_rfl) (fun _ _ _ h => h) (Or.inl ⟨by kernel_rfl, fun W hW => by have hh := (unhide HL) W hW; go_simp⟩) (unhide HR1) ?_
    refine wpAnyH_take (i := 7) (v := .tuple #[.agg #[.string x.tx, .int .i64 x.kd, .int .i64 x.parts, .int .i64 x.str], .bool true]) rfl (by kernel_rfl) (by kernel_rfl) (by kernel_rfl) (fun _ _ _ h => h) (Or.inl ⟨by kernel_rfl, fun W _ => by go_simp⟩) (unhide HR1) ?_
    refine wpAnyH_take (i := 8) (v := .agg #[.string x.tx, .int .i64 x.kd, .int .i64 x.parts, .int .i64 x.str]) rfl (by kernel_rfl) (by kernel_rfl) (by kernel_rfl) (fun _ _ _ h => h) (Or.inl ⟨by kernel_rfl, fun W _ => by go_simp⟩) (unhide HR1) ?_
    refine wpAnyH_take (i := 9) (v := .bool true) rfl (by kernel_rfl) (by kernel_rfl) (by kernel_rfl) (fun _ _ _ h => h) (Or.inl ⟨by kernel_rfl, fun W _ => by go_simp⟩) (unhide HR1) ?_
    refine wpAnyH_ready (rs := [11]) (by kernel_rfl) (by simp) (AllReadyH.cons rfl (fun K hK => ?_) AllReadyH.nil)
    go_simp
    clear r0 r1 r2 r3 rf rlt
    obtain ⟨W2, hW2⟩ : ∃ W2, W2 = (((w1.setCell ⟨w.heap.size + 1, 0, none⟩ (.string x.tx)).setCell ⟨w.heap.size + 1, 1, none⟩ (.int .i64 x.kd)).setCell ⟨w.heap.size + 1, 2, none⟩ (.int .i64 x.parts)).setCell ⟨w.heap.size + 1, 3, none⟩ (.int .i64 x.str) := ⟨_, rfl⟩
    obtain ⟨hr2, hb2, ⟨q0, q1, q2, q3, qf, qlt⟩, ⟨s0, s1, s2, s3, sf, slt⟩⟩ := w2_any (v0 := .string x.tx) (v1 := .int .i64 x.kd) (v2 := .int .i64 x.parts) (v3 := .int .i64 x.str) (unhide HR1) (unhide HR0).base.size (unhide P0) (unhide P1) (unhide HW) hW2
    have HR2 := hide hr2
    have HW2 := hide hb2
    rw [← hW2]
    clear hW2 hr2 hb2
    refine hK.out _ _ (unhide HR2) (fun _ => ?_)
    clear hK K
    refine wpAnyH_take (i := 12) (v := .bool true) rfl (by kernel_rfl) (by kernel_rfl) (by kernel_rfl) (fun _ _ _ h => h) (Or.inl ⟨by kernel_rfl, fun W _ => by go_simp⟩) (unhide HR2) ?_
    refine wpAnyH_done (by kernel_rfl) ?_ _
    go_simp
    go_wp2_with fail
    exact bodyPost_ret (v := .tuple #[.agg #[.string x.tx, .int .i64 x.kd, .int .i64 x.parts, .int .i64 x.str], .bool true]) (by simp [results, Tryz.results233, go_sem, q0, q1, q2, q3]) rfl ⟨rfl, below4 (unhide HW2) (Nat.le_refl _) _ _ _ _⟩

theorem sign_any (c : Ctx) (k : Int) (w : World) (i d : Nat) (h : Rdr c w i d) :
    Calls Tryz.prog 233 #[rPtr c, .int .i64 k] w fun e w' => e = .returned (.tuple #[sgVO (sgP k (fx c.l i)), .bool (sgP k (fx c.l i)).isSome]) ∧ Below w.heap.size w w' := by
  cases ho : sgOf (fx c.l i) with
  | none =>
    have : sgP k (fx c.l i) = none := by simp [sgP, ho]
    rw [this]
    exact sign_none c k _ w i d h rfl ho
  | some x =>
    cases hk : x.parts == k with
    | false =>
      have : sgP k (fx c.l i) = none := by simp [sgP, ho, Option.filter, hk]
      rw [this]
      exact sign_other c k _ x w i d h rfl ho hk
    | true =>
      have : sgP k (fx c.l i) = some x := by simp [sgP, ho, Option.filter, hk]
      rw [this]
      exact sign_some c k _ x w i d h rfl ho hk
end Go.Proofs.YtoliilffjojfcaaGreatDoor

/-
  Rd6: What the parts that ask for each other do, at a bound; a node of parts that are there; a value in parentheses.
-/
namespace Go.Proofs.YtoliilffjojfcaaGreatDoor
open Go.RowKit

/-- The parts at a bound do what the grammar says. -/
structure FC (c : Ctx) (F : Fns) : Prop where
  st : Does c 140 NV F.st
  vl : Does c 179 NV F.vl
  pr : ∀ b : Int, 2 ≤ b → b ≤ 8 → ∀ w d i r, F.pr b d i = r → r ≠ .out → Rdr c w i d → Calls Tryz.prog 217 #[rPtr c, .int .i64 b] w (PPost c w d (NV w.heap.size) r)
  sg : Does c 232 NV F.sg

theorem en140 : ∀ args W, (callFunc 140 args).run Tryz.prog W = .ok (.enter 140 args) W := fun _ _ => by kernel_rfl
theorem en179 : ∀ args W, (callFunc 179 args).run Tryz.prog W = .ok (.enter 179 args) W := fun _ _ => by kernel_rfl
theorem en232 : ∀ args W, (callFunc 232 args).run Tryz.prog W = .ok (.enter 232 args) W := fun _ _ => by kernel_rfl

theorem deepV {c : Ctx} {F : Fns} (hF : FC c F) (w : World) (d i : Nat) (h : Rdr c w i d) (ho : deepP c.l F.vl d i ≠ .out) : Calls Tryz.prog 139 #[rPtr c, boundV c.R 179] w (PPost c w d (NV w.heap.size) (deepP c.l F.vl d i)) :=
  deeper_any c 179 F.vl hF.vl en179 w d i _ rfl ho h
theorem deepS {c : Ctx} {F : Fns} (hF : FC c F) (w : World) (d i : Nat) (h : Rdr c w i d) (ho : deepP c.l F.st d i ≠ .out) : Calls Tryz.prog 139 #[rPtr c, boundV c.R 140] w (PPost c w d (NV w.heap.size) (deepP c.l F.st d i)) :=
  deeper_any c 140 F.st hF.st en140 w d i _ rfl ho h
theorem deepG {c : Ctx} {F : Fns} (hF : FC c F) (w : World) (d i : Nat) (h : Rdr c w i d) (ho : deepP c.l F.sg d i ≠ .out) : Calls Tryz.prog 139 #[rPtr c, boundV c.R 232] w (PPost c w d (NV w.heap.size) (deepP c.l F.sg d i)) :=
  deeper_any c 232 F.sg hF.sg en232 w d i _ rfl ho h

theorem bind_ok {α β : Type} (x : α) (i : Nat) (f : α → Nat → PR β) : (PR.ok x i).bind f = f x i := rfl
theorem bind_bad {α β : Type} (er : Int) (p : Nat) (f : α → Nat → PR β) : (PR.bad er p : PR α).bind f = .bad er p := rfl
theorem bind_out {α β : Type} (f : α → Nat → PR β) : (PR.out : PR α).bind f = .out := rfl

abbrev From (B : Nat) : Nat → Prop := fun b => B ≤ b
theorem nat_later {c : Ctx} {B : Nat} {w w' : World} {t : Tr} {p : Nat} (h : NAt (From B) w t p) (ha : Ap c.R w.heap.size w w') (hB : c.R < B) : NAt (From B) w' t p :=
  NAt.later (Stay.of_ap ha hB fun _ h => h) _ _ h
theorem nat_mono {B B' : Nat} {w : World} {t : Tr} {p : Nat} (h : NAt (From B) w t p) (hB : B' ≤ B) : NAt (From B') w t p := NAt.mono (fun _ h _ => Nat.le_trans hB h) _ _ h
theorem nats_later {c : Ctx} {B : Nat} {w w' : World} {t : List Tr} {p : List Nat} (h : NAts (From B) w t p) (ha : Ap c.R w.heap.size w w') (hB : c.R < B) : NAts (From B) w' t p :=
  NAts.later (Stay.of_ap ha hB fun _ h => h) _ _ h

/-- A new row and a new node of parts that are there. -/
theorem made {c : Ctx} {w W : World} {j d : Nat} {ts : List Tr} {ps : List Nat} (hR : Rdr c W j d) (hA : Ap c.R w.heap.size w W) (hn : NAts (From w.heap.size) W ts ps) (hl : ps.length ≤ maxLen) (cs : Array Value) (hc : cs.toList = ps.map nPtr) (n : Nat) (hlen : ps.length = n) (kd : Int) (tx : ByteArray) (q : Nat) (hq : q = W.heap.size + 1) :
    EV w.heap.size ((W.alloc (.cells cs 22)).alloc (nodeObj kd tx 0 (.slice (some ⟨W.heap.size, 0, none⟩) n n))) (.mk kd tx 0 ts) (nPtr q) ∧
    Rdr c ((W.alloc (.cells cs 22)).alloc (nodeObj kd tx 0 (.slice (some ⟨W.heap.size, 0, none⟩) n n))) j d ∧
    Ap c.R w.heap.size w ((W.alloc (.cells cs 22)).alloc (nodeObj kd tx 0 (.slice (some ⟨W.heap.size, 0, none⟩) n n))) := by
  subst hlen
  have hs : q = (W.alloc (.cells cs 22)).heap.size := by rw [hq]; simp
  rw [hs]
  exact ⟨EV.new (KV.row hn hA.size hl cs hc) (by simp; have := hA.size; omega) kd tx 0, (hR.alloc _).alloc _, (hA.alloc hA.size _).alloc (by simp; have := hA.size; omega) _⟩
/-- A new node without parts, or of a row that is there. -/
theorem made0 {c : Ctx} {w W : World} {j d : Nat} {ts : List Tr} {v : Value} (hR : Rdr c W j d) (hA : Ap c.R w.heap.size w W) (hn : KV w.heap.size W ts v) (kd : Int) (tx : ByteArray) (q : Nat) (hq : q = W.heap.size) :
    EV w.heap.size (W.alloc (nodeObj kd tx 0 v)) (.mk kd tx 0 ts) (nPtr q) ∧ Rdr c (W.alloc (nodeObj kd tx 0 v)) j d ∧ Ap c.R w.heap.size w (W.alloc (nodeObj kd tx 0 v)) := by
  subst hq
  exact ⟨EV.new hn hA.size kd tx 0, hR.alloc _, hA.alloc hA.size _⟩
end Go.Proofs.YtoliilffjojfcaaGreatDoor

/-
  Rd7: A value in parentheses; a property; an argument; a parameter.
-/
namespace Go.Proofs.YtoliilffjojfcaaGreatDoor
open Go.RowKit

set_option maxRecDepth 100000 in
set_option maxHeartbeats 1000000 in
theorem inPar_any {c : Ctx} {F : Fns} (hF : FC c F) : Does c 135 NV (inParP c.l F) := by
  have hmf := mf_bound c.R 179
  intro w d i r hs ho h
  have HR0 := hide h
  have HA0 := hide (Ap.refl c.R w.heap.size w)
  have HLT := hide h.rlt
  unfold inParP at hs
  have HS := hide hs
  have HO := hide ho
  clear h hs ho
  go_enter Tryz.func135, Tryz.ntmps135
  cases hr : mustP c.l tOpen i with
  | out =>
    rw [hr] at HS
    simp only [bind_out] at HS
    exact absurd (unhide HS).symm (unhide HO)
  | bad er p =>
    have HC := hide (must_any c tOpen w i d (unhide HR0) (by decide))
    rw [hr] at HC HS
    simp only [bind_bad] at HS
    clear hr
    go_wp2_with fail
    refine Calls.mono HC.out ?_
    intro e w' hp
    obtain ⟨rfl, ha⟩ := hp
    exact ⟨rfl, ppBad (unhide HS).symm ((unhide HA0).next ha)⟩
  | ok x1 j1 =>
    have HC := hide (must_any c tOpen w i d (unhide HR0) (by decide))
    rw [hr] at HC HS
    simp only [bind_ok] at HS
    clear hr
    go_wp2_with fail
    refine Calls.mono HC.out ?_
    intro e w1 hp
    obtain ⟨⟨v1, rfl, rfl⟩, hrd, ha⟩ := hp
    clear HC
    have HA1 := hide ((unhide HA0).next ha)
    have HR1 := hide hrd
    clear hrd ha HA0 HR0
    cases hr : deepP c.l F.vl d j1 with
    | out =>
      rw [hr] at HS
      simp only [bind_out] at HS
      exact absurd (unhide HS).symm (unhide HO)
    | bad er p =>
      have HC := hide (deepV hF w1 d j1 (unhide HR1) (by rw [hr]; nofun))
      rw [hr] at HC HS
      simp only [bind_bad] at HS
      clear hr
      go_wp2_with fail
      refine Calls.mono HC.out ?_
      intro e w' hp
      obtain ⟨rfl, ha⟩ := hp
      exact ⟨rfl, ppBad (unhide HS).symm ((unhide HA1).next ha)⟩
    | ok x2 j2 =>
      have HC := hide (deepV hF w1 d j1 (unhide HR1) (by rw [hr]; nofun))
      rw [hr] at HC HS
      simp only [bind_ok] at HS
      clear hr
      go_wp2_with fail
      refine Calls.mono HC.out ?_
      intro e w2 hp
      obtain ⟨⟨v2, rfl, p2, rfl, hn2⟩, hrd, ha⟩ := hp
      clear HC
      have HA2 := hide ((unhide HA1).next ha)
      have HR2 := hide hrd
      have HN2 := hide (nat_mono hn2 (unhide HA1).size)
      clear hn2
      clear hrd ha HA1 HR1
      cases hr : mustP c.l tShut j2 with
      | out =>
        rw [hr] at HS
        simp only [bind_out] at HS
        exact absurd (unhide HS).symm (unhide HO)
      | bad er p =>
        have HC := hide (must_any c tShut w2 j2 d (unhide HR2) (by decide))
        rw [hr] at HC HS
        simp only [bind_bad] at HS
        clear hr
        go_wp2_with fail
        refine Calls.mono HC.out ?_
        intro e w' hp
        obtain ⟨rfl, ha⟩ := hp
        exact ⟨rfl, ppBad (unhide HS).symm ((unhide HA2).next ha)⟩
      | ok x3 j3 =>
        have HC := hide (must_any c tShut w2 j2 d (unhide HR2) (by decide))
        rw [hr] at HC HS
        simp only [bind_ok] at HS
        clear hr
        go_wp2_with fail
        refine Calls.mono HC.out ?_
        intro e w3 hp
        obtain ⟨⟨v3, rfl, rfl⟩, hrd, ha⟩ := hp
        clear HC
        have HA3 := hide ((unhide HA2).next ha)
        have HR3 := hide hrd
        replace HN2 := hide (nat_later (unhide HN2) ha (unhide HLT))
        clear hrd ha HA2 HR2
        go_wp2_with fail
        go_ret
        exact ppOk (unhide HS).symm ⟨p2, rfl, unhide HN2⟩ (unhide HR3) (unhide HA3)

end Go.Proofs.YtoliilffjojfcaaGreatDoor

/-
  Rd8: Rows of parts that grow; blocks; lists.
-/
namespace Go.Proofs.YtoliilffjojfcaaGreatDoor
open Go.RowKit

theorem info22 : (Tryz.prog.info? 22).map (fun i => (i.zero, i.size, i.bytes)) = some (some (.pointer none), 1, 8) := by kernel_rfl

theorem KV.shape {B : Nat} {w : World} {ts : List Tr} {v : Value} (h : KV B w ts v) : ∃ a cap, v = .slice a ts.length cap := by
  obtain ⟨ps, hr, hk⟩ := h
  rw [← NAts.length _ _ hk]
  exact row_shut hr
theorem KV.own {B : Nat} {w : World} {ts : List Tr} {v : Value} (h : KV B w ts v) (g : Nat) (hg : v.ownBlock = some g) : g < w.heap.size ∧ B ≤ g := by
  obtain ⟨ps, hr, _⟩ := h
  exact own_lt hr g hg
theorem KV.mono {B B' : Nat} {w : World} {ts : List Tr} {v : Value} (h : KV B w ts v) (hB : B' ≤ B) : KV B' w ts v := by
  obtain ⟨ps, hr, hk⟩ := h
  refine ⟨ps, ⟨hr.1, ?_⟩, NAts.mono (fun b h _ => ⟨by omega, h.2⟩) _ _ hk⟩
  rcases hr.2 with hn | ⟨g, cap, cur, hv, hb, rest⟩
  · exact Or.inl hn
  · exact Or.inr ⟨g, cap, cur, hv, by omega, rest⟩

/-- One part more. -/
theorem kv_push {B : Nat} {w1 w3 : World} {ts us : List Tr} {v : Value} {ps qs : List Nat} {g cap n : Nat} {o : Obj} (hk : NAts (fun b => B ≤ b ∧ v.ownBlock ≠ some b) w1 ts ps)
    (ht : NAts (fun b => B ≤ b ∧ v.ownBlock ≠ some b) w1 us qs) (hown : w3.ownsRow B 22 1 (.slice (some ⟨g, 0, none⟩) n cap) n ((ps ++ qs).map nPtr)) (hn : n = (ps ++ qs).length) (hgr : (w1.alloc o).grownBy w3 v.ownBlock)
    (hg : v.ownBlock = some g ∨ g = w1.heap.size + 1) : KV B w3 (ts ++ us) (.slice (some ⟨g, 0, none⟩) n cap) := by
  subst hn
  refine ⟨ps ++ qs, hown, ?_⟩
  have hs : Stay (fun b => B ≤ b ∧ b ≠ g ∧ v.ownBlock ≠ some b) w1 w3 := by
    intro b hb hl
    have h1 : Below w1.heap.size w1 (w1.alloc o) := (Below.refl _ _).alloc (Nat.le_refl _) _
    rw [← h1.block b hl]
    exact hgr.block b (by simp; omega) (fun e => hb.2.2 e.symm)
  have h0 := NAts.mono (J := fun b => B ≤ b ∧ b ≠ g ∧ v.ownBlock ≠ some b) (fun b hb hl => ⟨hb.1, fun e => by (rcases hg with hg | hg); (exact hb.2 (by rw [hg, e])); omega, hb.2⟩) _ _ (NAts.append ht _ _ hk)
  exact NAts.mono (fun b hb _ => ⟨hb.1, fun e => by simp only [Value.ownBlock, Option.some.injEq] at e; exact hb.2.1 e.symm⟩) _ _ (NAts.later hs _ _ h0)

def nxt (c : Ctx) (w : World) : Nat := match w.cell? ⟨c.R, 1, none⟩ with | some (.int _ v) => v.toNat | _ => 0
theorem nxt_eq {c : Ctx} {w : World} {i d : Nat} (h : Rdr c w i d) : nxt c w = i := by unfold nxt; rw [h.c1]; rfl

theorem one_cells (w : World) (p H : Nat) (h : w.heap.size = H) : ∀ j u, [nPtr p][j]? = some u → (w.alloc (.cells #[nPtr p] 22)).cell? ((⟨H, 0, none⟩ : Addr).add j) = some u := by
  intro j u hj
  match j, hj with
  | 0, hj =>
    simp only [List.getElem?_cons_zero, Option.some.injEq] at hj
    subst hj; subst h
    rw [show (⟨w.heap.size, 0, none⟩ : Addr).add 0 = ⟨w.heap.size, 0, none⟩ from rfl, cell_of (heap_new _ _)]
    rfl
  | j + 1, hj => simp at hj
theorem one_one (p : Nat) : ∀ u ∈ [nPtr p], u.oneCell' = true := by
  intro u hu
  simp only [List.mem_singleton] at hu
  subst hu; rfl

theorem apart_own {B : Nat} {w w1 : World} {ts : List Tr} {v : Value} {t : Tr} {p : Nat} (hk : KV B w ts v) (hB : B ≤ w.heap.size) (hn : NAt (From w.heap.size) w1 t p) : NAt (fun b => B ≤ b ∧ v.ownBlock ≠ some b) w1 t p :=
  NAt.mono (fun b hb _ => ⟨Nat.le_trans hB hb, fun e => by have := (hk.own b e).1; have : w.heap.size ≤ b := hb; omega⟩) _ _ hn

set_option maxRecDepth 100000 in
set_option maxHeartbeats 2000000 in
theorem block_any {c : Ctx} {F : Fns} (hF : FC c F) (hN : ∃ k, FNx c.l k F) : Does c 129 EV (blockP c.l F) := by
  have hmf := mf_bound c.R 140
  intro w d i r hs ho h
  have HR0 := hide h
  have HE := hide h.base.ends
  have HL := hide h.base.len
  have HLO := hide h.base.size
  obtain ⟨i0, hi0, hz0, hz1, hz2⟩ := info_parts info22
  have HA0 := hide (Ap.refl c.R w.heap.size w)
  have HLT := hide h.rlt
  have HFC := hide hF
  have HNX := hide hN
  unfold blockP at hs
  have HS := hide hs
  have HO := hide ho
  clear h hs ho hF hN
  go_enter Tryz.func129, Tryz.ntmps129
  cases hr : mustP c.l tLBrace i with
  | out =>
    rw [hr] at HS
    simp only [bind_out] at HS
    exact absurd (unhide HS).symm (unhide HO)
  | bad er p =>
    have HC := hide (must_any c tLBrace w i d (unhide HR0) (by decide))
    rw [hr] at HC HS
    simp only [bind_bad] at HS
    clear hr
    go_wp2_with fail
    refine Calls.mono HC.out ?_
    intro e w' hp
    obtain ⟨rfl, ha⟩ := hp
    exact ⟨rfl, ppBad (unhide HS).symm ((unhide HA0).next ha)⟩
  | ok x1 j1 =>
    have HC := hide (must_any c tLBrace w i d (unhide HR0) (by decide))
    rw [hr] at HC HS
    simp only [bind_ok] at HS
    clear hr
    go_wp2_with fail
    refine Calls.mono HC.out ?_
    intro e w1 hp
    obtain ⟨⟨v1, rfl, rfl⟩, hrd, ha⟩ := hp
    have HA1 := hide ((unhide HA0).next ha)
    have HR1 := hide hrd
    clear hrd ha HC HA0 HR0
    go_wp2_with fail
    go_loopw [3] (fun v wr => ∃ k acc j, (blockLoop c.l F d k acc j).bind (fun ts i2 => PR.ok (.mk 6 noText 0 ts) i2) = r ∧ Rdr c wr j d ∧ Ap c.R w.heap.size w wr ∧ KV w.heap.size wr acc v ∧ acc.length ≤ j) (fun _ wr => c.l.length - nxt c wr)
    case atStart => exact ⟨F.fuel, [], j1, unhide HS, unhide HR1, unhide HA1, KV.nil _ _, Nat.zero_le _⟩
    case round =>
      obtain ⟨k, acc, j, hq, hrd, hap, hkv, hle⟩ := hrel
      cases k with
      | zero => exact absurd hq.symm (unhide HO)
      | succ k =>
        have hL := unhide HL
        have hjl := hrd.lt
        have HR2 := hide hrd
        have HRM := hide hrd
        have HA2 := hide hap
        have HK2 := hide hkv
        have HLE := hide hle
        by_cases hx : fx c.l j = tRBrace
        · have HQ : Hid (PR.ok (.mk 6 noText 0 acc) (j + 1) = r) := by
            unfold blockLoop at hq
            rw [if_pos hx, bind_ok] at hq
            exact hq
          have HC := hide (take_yes c tRBrace wr j d hrd hx (by decide))
          obtain ⟨va, vc, rfl⟩ := hkv.shape
          clear hq hrd hap hkv hle hx
          go_wp2_with fail
          refine Calls.mono HC.out ?_
          rintro e w3 ⟨rfl, hr3, ha3⟩
          have HA3 := hide ((unhide HA2).next ha3)
          have HR3 := hide hr3
          have HK3 := hide (KV.later (unhide HK2) ha3 (unhide HLT))
          clear hr3 ha3 HC HA2 HR2 HK2
          have HC := hide (node_any 6 noText (.slice va acc.length vc) w3 ⟨_, _, _, rfl⟩)
          go_wp2_with fail
          refine Calls.mono HC.out ?_
          rintro e wn ⟨rfl, rfl⟩
          clear HC
          go_wp2_with fail
          go_ret
          obtain ⟨m1, m2, m3⟩ := made0 (unhide HR3) (unhide HA3) (unhide HK3) 6 noText _ rfl
          exact ppOk (unhide HQ).symm m1 m2 m3
        · have HQ : Hid ((deepP c.l F.st d j).bind (fun t i1 => (blockLoop c.l F d k (acc ++ [t]) i1).bind fun ts i2 => PR.ok (.mk 6 noText 0 ts) i2) = r) := by
            unfold blockLoop at hq
            rw [if_neg hx] at hq
            rw [← hq]
            cases deepP c.l F.st d j <;> rfl
          have HC := hide (take_not c tRBrace wr j d hrd hx)
          clear hq hrd hap hkv hle hx
          cases hr : deepP c.l F.st d j with
          | out =>
            rw [hr] at HQ
            simp only [bind_out] at HQ
            exact absurd (unhide HQ).symm (unhide HO)
          | bad er p =>
            have HRR := hide hr
            rw [hr] at HQ
            simp only [bind_bad] at HQ
            clear hr
            go_wp2_with fail
            refine Calls.mono HC.out ?_
            rintro e w3 ⟨rfl, hb3⟩
            have HA3 := hide ((unhide HA2).next (Ap.of hb3))
            have HR3 := hide ((unhide HR2).later hb3)
            clear hb3 HC HA2 HR2
            have HC := hide (deepS (unhide HFC) w3 d j (unhide HR3) (by rw [unhide HRR]; nofun))
            rw [unhide HRR] at HC
            go_wp2_with fail
            refine Calls.mono HC.out ?_
            intro e w' hp
            obtain ⟨rfl, ha⟩ := hp
            exact ⟨rfl, ppBad (unhide HQ).symm ((unhide HA3).next ha)⟩
          | ok t j2 =>
            have HRR := hide hr
            rw [hr] at HQ
            simp only [bind_ok] at HQ
            clear hr
            go_wp2_with fail
            refine Calls.mono HC.out ?_
            rintro e w3 ⟨rfl, hb3⟩
            have HA3 := hide ((unhide HA2).next (Ap.of hb3))
            have HR3 := hide ((unhide HR2).later hb3)
            have HK3 := hide (KV.later (unhide HK2) (Ap.of hb3) (unhide HLT))
            clear hb3 HC HA2 HR2 HK2
            have HC := hide (deepS (unhide HFC) w3 d j (unhide HR3) (by rw [unhide HRR]; nofun))
            rw [unhide HRR] at HC
            go_wp2_with fail
            refine Calls.mono HC.out ?_
            intro e w4 hp
            obtain ⟨⟨v4, rfl, p4, rfl, hn4⟩, hrd, ha⟩ := hp
            have HA4 := hide ((unhide HA3).next ha)
            have HR4 := hide hrd
            have HN4 := hide (apart_own (unhide HK3) (unhide HA3).size hn4)
            have HK4 := hide (KV.later (unhide HK3) ha (unhide HLT))
            have hlt2 := hrd.lt
            have hgt : j < j2 := by
              obtain ⟨kk, hkk⟩ := unhide HNX
              exact ((deepP_nx (l := c.l) (d := d) (hkk.st (d + 1) j hjl)).2 t j2 (unhide HRR)).1
            clear hrd ha hn4 HC HA3 HR3 HK3
            obtain ⟨ps, hown, hk4⟩ := unhide HK4
            have hlen := NAts.length _ _ hk4
            have hOB := own_lt hown
            rw [hlen] at hown
            have HOWN := hide hown
            have HLEN := hide hlen
            have HKK := hide hk4
            have hsz := (unhide HA4).size
            have hle := unhide HLE
            have HOB := hide hOB
            clear hown hk4 HK4 hOB hlen
            go_wp2_with (at_builtin; refine wpList_append_lies _ rfl _ _ 36 rfl w.heap.size 22 i0 (.pointer none) 1 8 Tryz.underlying36 hi0 hz0 hz1 hz2 rfl (by decide) _ _ _ rfl ((unhide HOWN).alloc _) ⟨w4.heap.size, 0, none⟩ 1 1 [nPtr p4] rfl rfl (one_cells w4 p4 _ rfl) (one_one p4) (by decide) (by unfold maxLen; omega) (by omega) (by simp; omega) (w4.heap.size + 1) (by simp) ?_)
            intro g cap w5 hown' hgrow hg _
            have HK5 : Hid (KV w.heap.size w5 (acc ++ [t]) (.slice (some ⟨g, 0, none⟩) (acc.length + 1) cap)) := kv_push (unhide HKK) (NAts.cons (unhide HN4) NAts.nil) (by rw [List.map_append]; exact hown') (by simp [unhide HLEN]) hgrow hg
            have HA5 := hide (((unhide HA4).alloc hsz (.cells #[nPtr p4] 22)).grown hgrow (by simp; omega) (fun k hk => (unhide HOB k hk).2))
            have HR5 := hide ((unhide HR4).ap (((Below.refl w.heap.size w4).alloc hsz (.cells #[nPtr p4] 22)).grown hgrow (by simp; omega) (fun k hk => (unhide HOB k hk).2)) (unhide HLO))
            clear hown' hgrow hg HKK HOWN
            go_wp2_with fail
            go_roundw
            case rel => exact ⟨k, acc ++ [t], j2, unhide HQ, unhide HR5, unhide HA5, unhide HK5, by simp; omega⟩
            case measure => rw [nxt_eq (unhide HR5), nxt_eq (unhide HRM)]; omega
end Go.Proofs.YtoliilffjojfcaaGreatDoor
