/-
  The reader's faults; what is taken, what must be; names; a new node.
-/
import Derived.Test.YtoimgcjbcbhclaaGreatDoorAo1
import Derived.Test.YtoimgcjbcbhclaaGreatDoorAo0
import Derived.Test.YtoimgcjbcbhclaaGreatDoorAo4
import Derived.Deep.RegionWith
import Derived.Deep.DrawnRows
set_option maxRecDepth 100000
set_option maxHeartbeats 16000000
namespace Go.Proofs.YtoimgcjbcbhclaaGreatDoor
open Go.RowKit
section
variable {α : Type} {c : Ctx} {w w' : World} {d : Nat} {V : World → α → Value → Prop} {r : PR α}
include α c w w' d V r
theorem ppBad {er : Int} {p : Nat} (hr : r = .bad er p) (ha : Ap c.R w.heap.size w w') :
  PPost c w d V r (.panicked (faultV er p)) w' := by rw [hr]; exact ⟨rfl, ha⟩
theorem ppOk {x : α} {j : Nat} {v : Value} (hr : r = .ok x j) (hv : V w' x v) (hd : Rdr c w' j d) (ha : Ap c.R w.heap.size w w') :
  PPost c w d V r (.returned v) w' := by rw [hr]; exact ⟨⟨v, rfl, hv⟩, hd, ha⟩
end
theorem failAt_any (c : Ctx) (er : Int) (t : Tk) (w : World) :
  Calls Tryz.prog 280 #[rPtr c, .int .i64 er, tkV t] w fun e w' => e = .panicked (faultV er t.pl) ∧ Below w.heap.size w w' := by
 unfold tkV
 go_enter Tryz.func280, Tryz.ntmps280
 go_wp2_with fail
 exact ⟨rfl, rfl, (Below.refl _ _).alloc (Nat.le_refl _) _⟩
theorem fault_any (c : Ctx) (er : Int) (w : World) (i d : Nat) (h : Rdr c w i d) :
  Calls Tryz.prog 241 #[rPtr c, .int .i64 er] w fun e w' => e = .panicked (faultV er (tkA c.l i).pl) ∧ Below w.heap.size w w' := by
 have HT := hide (token_any c w i d h)
 clear h
 go_enter Tryz.func241, Tryz.ntmps241
 go_wp2_with fail
 refine cm HT.out ?_
 rintro e w1 ⟨rfl, hb⟩
 have HB := hide hb
 clear hb
 have HF := hide (failAt_any c er (tkA c.l i) w1)
 go_wp2_with fail
 refine cm HF.out ?_
 rintro e w2 ⟨rfl, hb2⟩
 exact ⟨rfl, rfl, HB.out.trans (hb2.mono HB.out.size)⟩
theorem Rdr.go2 {c : Ctx} {w : World} {i d : Nat} (h : Rdr c w i d) (j : Nat) (hj : j < c.l.length) {v : Int} (hv : v = (j : Int)) : Rdr c (w.setCell ⟨c.R, 1, none⟩ (.int .i64 v)) j d := by
 subst hv; exact h.go j hj
theorem ap_next {c : Ctx} {w w1 : World} (hb : Below w.heap.size w w1) (v : Value) (o : Nat) : Ap c.R w.heap.size w (w1.setCell ⟨c.R, o, none⟩ v) :=
 Ap.setCell (R := c.R) (Ap.of hb) (p := ⟨c.R, o, none⟩) (Or.inr rfl) _
section
variable (c : Ctx) (s : ByteArray) (w : World) (i d : Nat) (h : Rdr c w i d)
include c s w i d h
theorem take_yes (hs : fx c.l i = s) (hn : s ≠ noText) :
  Calls Tryz.prog 242 #[rPtr c, .string s] w fun e w' => e = .returned (.bool true) ∧ Rdr c w' (i + 1) d ∧ Ap c.R w.heap.size w w' := by
 have HT := hide (fixed_any c w i d h)
 have HR := hide h
 have hi : i + 1 < c.l.length := fx_lt h.base.ends h.lt hs hn
 have hL := h.base.len
 subst hs
 clear h hn
 go_enter Tryz.func242, Tryz.ntmps242
 go_wp2_with fail
 refine cm HT.out ?_
 rintro e w1 ⟨rfl, hb⟩
 have HB := hide hb
 have HR1 := hide (HR.out.later hb)
 have h1 := HR1.out.c1
 have hz := HR1.out.fz
 clear hb
 go_wp2_with fail
 go_ret
 exact ⟨rfl, HR1.out.go2 (i + 1) hi (by omega), ap_next HB.out _ _⟩
theorem take_not (hs : fx c.l i ≠ s) :
  Calls Tryz.prog 242 #[rPtr c, .string s] w fun e w' => e = .returned (.bool false) ∧ Below w.heap.size w w' := by
 have HT := hide (fixed_any c w i d h)
 clear h
 have hs1 := tl_ne hs
 clear hs
 go_enter Tryz.func242, Tryz.ntmps242
 go_wp2_with fail
 refine cm HT.out ?_
 rintro e w1 ⟨rfl, hb⟩
 have HB := hide hb
 clear hb
 go_wp2_with fail
 go_ret
 exact ⟨rfl, HB.out⟩
end
abbrev UV : World → Unit → Value → Prop := fun _ _ v => v = .tuple #[]
theorem must_any (c : Ctx) (s : ByteArray) (w : World) (i d : Nat) (h : Rdr c w i d) (hn : s ≠ noText) :
  Calls Tryz.prog 244 #[rPtr c, .string s] w (PPost c w d UV (mustP c.l s i)) := by
 by_cases hs : fx c.l i = s
 ·
  have HT := hide (take_yes c s w i d h hs hn); have hm : mustP c.l s i = .ok () (i + 1) := by unfold mustP; rw [if_pos hs]
  rw [hm]; clear h hn hs hm; go_enter Tryz.func244, Tryz.ntmps244; go_wp2_with fail; refine cm HT.out ?_; rintro e w1 ⟨rfl, hr, ha⟩; have HR := hide hr; have HA := hide ha; clear hr ha; go_wp2_with fail
  go_end0
  exact ppOk rfl rfl HR.out HA.out
 ·
  have HT := hide (take_not c s w i d h hs); have hm : mustP c.l s i = .bad 3 (tkA c.l i).pl := by unfold mustP; rw [if_neg hs]; rfl
  rw [hm]; have HR := hide h; clear h hn hs hm; go_enter Tryz.func244, Tryz.ntmps244; go_wp2_with fail; refine cm HT.out ?_; exact zbdv
theorem fldKind (t : Tk) (W : World) : (Instr.field 138 (.agg #[.int .i64 t.kd, .string t.tx, .int .i64 t.n, .int .i64 (t.pl : Int)]) 0).run Tryz.prog W = .ok (.int .i64 t.kd) W := by kernel_rfl
theorem fldText (t : Tk) (W : World) : (Instr.field 138 (.agg #[.int .i64 t.kd, .string t.tx, .int .i64 t.n, .int .i64 (t.pl : Int)]) 1).run Tryz.prog W = .ok (.string t.tx) W := by kernel_rfl
theorem atName_any (c : Ctx) (w : World) (i d : Nat) (h : Rdr c w i d) :
  Calls Tryz.prog 247 #[rPtr c] w fun e w' => e = .returned (.bool (isName c.l i)) ∧ Below w.heap.size w w' := by
 have HT := hide (token_any c w i d h)
 clear h
 go_enter Tryz.func247, Tryz.ntmps247
 go_wp2_with fail
 refine cm HT.out ?_
 rintro e w1 ⟨rfl, hb⟩
 have HB := hide hb
 clear hb
 have hfl := fldKind (tkA c.l i)
 unfold tkV
 go_wp2_with fail
 go_ret
 exact ⟨rfl, HB.out⟩
abbrev SV : World → ByteArray → Value → Prop := fun _ s v => v = .string s
theorem name_any (c : Ctx) (w : World) (i d : Nat) (h : Rdr c w i d) :
  Calls Tryz.prog 239 #[rPtr c] w (PPost c w d SV (nameP c.l i)) := by
 have HN := hide (atName_any c w i d h)
 by_cases hs : (tkA c.l i).kd = 1
 ·
  have hm : nameP c.l i = .ok (tkA c.l i).tx (i + 1) := by unfold nameP; rw [if_pos hs]
  have hi : i + 1 < c.l.length := next_lt h.base.ends h.lt (by rw [hs]; decide)
  have hL := h.base.len; have hk : isName c.l i = true := by unfold isName; rw [hs]; rfl
  rw [hm]; rw [hk] at HN; have HR := hide h; clear h hs hm hk; go_enter Tryz.func239, Tryz.ntmps239; go_wp2_with fail; refine cm HN.out ?_; rintro e w1 ⟨rfl, hb⟩; have HB := hide hb; have HR1 := hide (HR.out.later hb)
  have HT := hide (token_any c w1 i d HR1.out); clear hb; go_wp2_with fail; refine cm HT.out ?_; rintro e w2 ⟨rfl, hb⟩; have HB2 := hide (HB.out.trans (hb.mono HB.out.size)); have HR2 := hide (HR1.out.later hb)
  have h1 := HR2.out.c1; have hz := HR2.out.fz; clear hb; have hfl := fldText (tkA c.l i); unfold tkV; go_wp2_with fail; go_ret; exact ppOk rfl rfl (HR2.out.go2 (i + 1) hi (by omega)) (ap_next HB2.out _ _)
 ·
  have hm : nameP c.l i = .bad 3 (tkA c.l i).pl := by unfold nameP; rw [if_neg hs]; rfl
  have hk : isName c.l i = false := by unfold isName; exact beq_eq_false_iff_ne.2 hs
  rw [hm]; rw [hk] at HN; have HR := hide h; clear h hs hm hk; go_enter Tryz.func239, Tryz.ntmps239; go_wp2_with fail; refine cm HN.out ?_; exact zbdv
theorem node_any (kd : Int) (tx : ByteArray) (v : Value) (w : World) (hv : ∃ a n cap, v = .slice a n cap) :
  Calls Tryz.prog 178 #[.int .i64 kd, .string tx, v] w fun e w' => e = .returned (nPtr w.heap.size) ∧ w' = w.alloc (nodeObj kd tx 0 v) := by
 obtain ⟨a, n, cap, rfl⟩ := hv
 go_enter Tryz.func178, Tryz.ntmps178
 go_wp2_with fail
 go_ret
 exact ⟨rfl, rfl⟩
theorem beq_bytes (a b : ByteArray) : (a == b) = decide (a = b) := by
 by_cases h : a = b
 ·
  subst h; rw [decide_eq_true rfl]
  cases a with
  | mk a =>
   show (a == a) = true
   exact beq_self_eq_true _
 ·
  rw [decide_eq_false h]
  cases a with
  | mk a => cases b with
   | mk b =>
    show (a == b) = false
    rw [beq_eq_false_iff_ne]; exact fun e => h (by rw [e])
theorem find_ents (s : ByteArray) : ∀ (l : List (ByteArray × Value)) (n i : Nat),
  ∃ o, Instr.findNow .string (.string s) ((l.zipIdx n).map mkE) i = some o ∧ o.map (·.2) = (l.find? (fun e => decide (s = e.1))).map (·.2)
 | [], n, i => ⟨none, rfl, rfl⟩
 | e :: l, n, i => by
  simp only [List.zipIdx_cons, List.map_cons, Instr.findNow, mkE, Instr.sameNow, beq_bytes, List.find?_cons]
  cases h : decide (s = e.1)
  ·
   simp only; exact find_ents s l (n + 1) (i + 1)
  ·
   exact ⟨some (i, e.2), rfl, rfl⟩
theorem lookup_map (T E : TypeId) (m k : Nat) (l : List (ByteArray × Value)) (s : ByteArray) (z : Value) (W : World) (hT : Tryz.prog.underlying T = some (.map 9 E)) (hm : W.heap[m]? = some (.map (mapOf l) k)) (hz : (zeroValue E).run Tryz.prog W = .ok z W) :
  (Instr.lookup T (.map (some m)) (.string s) true).run Tryz.prog W = .ok (.tuple #[((l.find? (fun e => decide (s = e.1))).map (·.2)).getD z, .bool (l.find? (fun e => decide (s = e.1))).isSome]) W := by
 exact zbbo
def noSg : Value := .agg #[.string ⟨#[]⟩, .int .i64 0, .int .i64 0, .int .i64 0]
def sgVO (o : Option Sg) : Value := match o with | some s => sgV s | none => noSg
theorem look_signs (c : Ctx) (s : ByteArray) (W : World) (h : W.heap[c.mS]? = some (.map sgMap 14)) :
  (Instr.lookup 199 (.map (some c.mS)) (.string s) true).run Tryz.prog W = .ok (.tuple #[sgVO (sgOf s), .bool (sgOf s).isSome]) W := by
 rw [lookup_map 199 189 c.mS 14 _ s noSg W Tryz.underlying199 h (by kernel_rfl)]
 unfold sgOf
 rw [List.find?_map]
 simp only [Function.comp_def]
 cases sgs.find? (fun e => decide (s = e.tx)) <;> rfl
def stVO (R : Nat) (o : Option Nat) : Value := match o with | some q => boundV R (stFn q) | none => .nilFunc
def vlVO (R : Nat) (o : Option Nat) : Value := match o with | some q => boundV R (vlFn q) | none => .nilFunc
section
variable (c : Ctx) (s : ByteArray) (W : World)
include c s W
theorem look_stms (h : W.heap[c.mT]? = some (.map (stMap c.R) 12)) :
  (Instr.lookup 201 (.map (some c.mT)) (.string s) true).run Tryz.prog W = .ok (.tuple #[stVO c.R (look2 stKeys s), .bool (look2 stKeys s).isSome]) W := by
 rw [lookup_map 201 261 c.mT 12 _ s .nilFunc W Tryz.underlying201 h (by kernel_rfl)]
 unfold look2
 rw [List.find?_map]
 simp only [Function.comp_def]
 cases stKeys.find? (fun e => decide (s = e.1)) <;> rfl
theorem look_vals (h : W.heap[c.mV]? = some (.map (vlMap c.R) 3)) :
  (Instr.lookup 201 (.map (some c.mV)) (.string s) true).run Tryz.prog W = .ok (.tuple #[vlVO c.R (look2 vlKeys s), .bool (look2 vlKeys s).isSome]) W := by
 rw [lookup_map 201 261 c.mV 3 _ s .nilFunc W Tryz.underlying201 h (by kernel_rfl)]
 unfold look2
 rw [List.find?_map]
 simp only [Function.comp_def]
 cases vlKeys.find? (fun e => decide (s = e.1)) <;> rfl
end
theorem hdSize : hdCells.size = 16 := by decide +kernel
theorem hdIdx (k : Nat) (hk : k < 8) (W : World) : (Instr.index 194 (.agg hdCells) (.int .i64 (k : Int))).run Tryz.prog W = .ok (.agg #[.string (hds.getD k (noText, 0)).1, .int .i64 (hds.getD k (noText, 0)).2]) W := by
 have h : k = 0 ∨ k = 1 ∨ k = 2 ∨ k = 3 ∨ k = 4 ∨ k = 5 ∨ k = 6 ∨ k = 7 := by omega
 rcases h with rfl | rfl | rfl | rfl | rfl | rfl | rfl | rfl <;> (show _ = _; kernel_rfl)
theorem hd_hit {s : ByteArray} {j : Nat} (hj : j < 8) (h0 : ∀ q, q < j → s ≠ (hds.getD q (noText, 0)).1) (h : s = (hds.getD j (noText, 0)).1) : hdKind s = (hds.getD j (noText, 0)).2 := by
 have key : ∀ (l : List (ByteArray × Int)) (j : Nat), j < l.length → (∀ q, q < j → s ≠ (l.getD q (noText, 0)).1) → s = (l.getD j (noText, 0)).1 → (look2 l s).getD 0 = (l.getD j (noText, 0)).2 := by
  intro l
  induction l with
  | nil => intro j hj; exact absurd hj (by simp)
  | cons e l ih =>
   intro j hj h0 h; unfold look2; rw [List.find?_cons]
   cases j with
   | zero =>
    simp only [List.getD_cons_zero] at h ⊢; rw [decide_eq_true h]; rfl
   | succ j =>
    have := h0 0 (by omega); simp only [List.getD_cons_zero] at this; rw [decide_eq_false this]; exact ih j (by simpa using hj) (fun q hq => by simpa using h0 (q + 1) (by omega)) (by simpa using h)
 exact key hds j (by simpa [hds] using hj) h0 h
theorem hd_none {s : ByteArray} (h0 : ∀ q, q < 8 → s ≠ (hds.getD q (noText, 0)).1) : hdKind s = 0 := by
 unfold hdKind look2
 have : hds.find? (fun e => decide (s = e.1)) = none := by
  rw [List.find?_eq_none]; intro e he; obtain ⟨q, hq, rfl⟩ := List.getElem_of_mem he; have hq8 : q < 8 := by simpa [hds] using hq
  have := h0 q hq8; rw [List.getD_eq_getElem?_getD, List.getElem?_eq_getElem hq] at this; simpa using this
 rw [this]
 rfl
theorem headKind_any (s : ByteArray) (w : World) (t : TypeId) (fr : Nat × Nat) (hg : w.heap[3]? = some (.cells hdCells t fr)) :
  Calls Tryz.prog 279 #[.string s] w fun e w' => e = .returned (.int .i64 (hdKind s)) ∧ Below w.heap.size w w' := by
 have HG := hide hg
 obtain ⟨cs, hcs⟩ : ∃ cs, cs = hdCells := ⟨_, rfl⟩
 have hix : ∀ k : Nat, k < 8 → ∀ W, (Instr.index 194 (.agg cs) (.int .i64 (k : Int))).run Tryz.prog W = .ok (.agg #[.string (hds.getD k (noText, 0)).1, .int .i64 (hds.getD k (noText, 0)).2]) W := by rw [hcs]; exact hdIdx
 have hsz : cs.size = 16 := by rw [hcs]; exact hdSize
 rw [← hcs] at HG
 have HIX := hide hix
 have Hsz := hide hsz
 clear hg hix hcs hsz
 go_enter Tryz.func279, Tryz.ntmps279
 go_wp2_with (refine wpList_load_row rfl 194 _ rfl 3 rfl t cs fr _ HG.out Tryz.underlying194 rfl (by rw [Hsz.out]; kernel_rfl) ?_)
 go_loopw [6] (fun i wr => ∃ j : Nat, j ≤ 8 ∧ i = .int .i64 j ∧ (∀ q, q < j → s ≠ (hds.getD q (noText, 0)).1) ∧ Below w.heap.size w wr) (fun i _ => 8 - (intOf i).toNat)
 case atStart => exact ⟨0, Nat.zero_le _, rfl, fun q hq => absurd hq (Nat.not_lt_zero _), Below.refl _ _⟩
 case round =>
  obtain ⟨j, hj, rfl, he, hbel⟩ := hrel; have HE := hide he; have HB := hide hbel; clear he hbel
  by_cases hlt : j < 8
  ·
   have hck := unhide HIX j hlt; obtain ⟨g, hg⟩ : ∃ g, g = (hds.getD j (noText, 0)).1 := ⟨_, rfl⟩; obtain ⟨n, hn⟩ : ∃ n, n = (hds.getD j (noText, 0)).2 := ⟨_, rfl⟩; rw [← hg, ← hn] at hck; have HGJ := hide hg
   have HNJ := hide hn; clear hg hn
   by_cases hp : g = s
   ·
    have hb := tl_eq hp; have HP := hide hp; clear hp; go_wp2_with fail; go_ret; refine ⟨ret_int ?_, HB.out.alloc HB.out.size _⟩; rw [hd_hit hlt HE.out (by rw [← HGJ.out]; exact HP.out.symm), HNJ.out]
   ·
    have hb := tl_ne hp; have HP := hide hp; clear hp; go_wp2_with fail
    go_roundw
    case rel => exact ⟨j + 1, by omega, by go_num, fun q hq => by (by_cases hqj : q = j); (rw [hqj, ← HGJ.out]; exact fun e => unhide HP e.symm); exact unhide HE q (by omega), HB.out.alloc HB.out.size _⟩
    case measure => simp [intOf]; omega
  ·
   go_wp2_with fail; go_ret; exact ⟨ret_int (hd_none (fun q hq => unhide HE q (by omega))).symm, HB.out⟩
theorem kind_any (c : Ctx) (w : World) (i d : Nat) (h : Rdr c w i d) (hk : (tkA c.l i).kd ≠ 6) :
  Calls Tryz.prog 238 #[rPtr c] w fun e w' => e = .returned (.int .i64 (hdKind (tkA c.l i).tx)) ∧ Rdr c w' (i + 1) d ∧ Ap c.R w.heap.size w w' := by
 have HT := hide (token_any c w i d h)
 have hi : i + 1 < c.l.length := next_lt h.base.ends h.lt hk
 have hL := h.base.len
 have HR := hide h
 clear h hk
 go_enter Tryz.func238, Tryz.ntmps238
 go_wp2_with fail
 refine cm HT.out ?_
 rintro e w1 ⟨rfl, hb⟩
 have HB := hide hb
 have HR1 := hide (HR.out.later hb)
 obtain ⟨t, fr, h4⟩ := HR1.out.base.heads
 have HK := hide (headKind_any (tkA c.l i).tx w1 t fr h4)
 have hfl := fldText (tkA c.l i)
 clear hb h4
 unfold tkV
 go_wp2_with fail
 refine cm HK.out ?_
 rintro e w2 ⟨rfl, hb⟩
 have HB2 := hide (HB.out.trans (hb.mono HB.out.size))
 have HR2 := hide (HR1.out.later hb)
 have h1 := HR2.out.c1
 have hz := HR2.out.fz
 clear hb
 go_wp2_with fail
 go_ret
 exact ⟨rfl, HR2.out.go2 (i + 1) hi (by omega), ap_next HB2.out _ _⟩
def Does (c : Ctx) (f : Nat) (V : Nat → World → Tr → Value → Prop) (sp : Nat → Nat → PR Tr) : Prop :=
 ∀ w d i r, sp d i = r → r ≠ .out → Rdr c w i d → Calls Tryz.prog f #[rPtr c] w (PPost c w d (V w.heap.size) r)
theorem mf_bound (R f : Nat) (W : World) : (Instr.makeFunc (.func f) #[.pointer (some ⟨R, 0, none⟩)] #[]).run Tryz.prog W = .ok (boundV R f) W := rfl
theorem Rdr.dive2 {c : Ctx} {w : World} {i d : Nat} (h : Rdr c w i d) (e : Nat) (he : e ≤ 30) {v : Int} (hv : v = (e : Int)) : Rdr c (w.setCell ⟨c.R, 2, none⟩ (.int .i64 v)) i e := by
 subst hv; exact h.dive e he
theorem deeper_any (c : Ctx) (f : Nat) (sp : Nat → Nat → PR Tr) (hf : Does c f NV sp) (hen : ∀ args W, (callFunc f args).run Tryz.prog W = .ok (.enter f args) W)
  (w : World) (d i : Nat) (r : PR Tr) (hr : deepP c.l sp d i = r) (ho : r ≠ .out) (h : Rdr c w i d) : Calls Tryz.prog 175 #[rPtr c, boundV c.R f] w (PPost c w d (NV w.heap.size) r) := by
 have HR := hide h
 have h2 := h.c2
 have hz := h.fz
 have hd := h.deep
 by_cases h30 : d = 30
 ·
  have HF := hide (fault_any c 4 w i d h); subst h30; unfold deepP at hr; rw [if_pos rfl] at hr; have HS := hide hr; clear hr h ho hf hen hd; go_enter Tryz.func175, Tryz.ntmps175; go_wp2_with fail; refine cm HF.out ?_
  rintro e w1 ⟨rfl, hb⟩; exact ⟨rfl, ppBad HS.out.symm (Ap.of hb)⟩
 ·
  unfold deepP at hr; rw [if_neg h30] at hr; have h30' : ((d : Int) == 30) = false := beq_eq_false_iff_ne.2 (by omega)
  have HC : Hid _ := hf (w.setCell ⟨c.R, 2, none⟩ (.int .i64 ((d : Int) + 1))) (d + 1) i r hr ho (h.dive2 (d + 1) (by omega) (by omega)); have HO := hide ho; have HZ := hide hz; clear hr h ho hf; unfold boundV
  go_enter Tryz.func175, Tryz.ntmps175; go_wp2_with fail; refine cm HC.out ?_; clear HC; intro e w1 hp
  cases r with
  | out => exact absurd rfl HO.out
  | bad er p =>
   obtain ⟨rfl, ha⟩ := hp; refine ⟨rfl, ppBad rfl ?_⟩; exact (ap_next (c := c) (Below.refl _ w) _ 2).trans (by simpa using ha)
  | ok x j =>
   obtain ⟨⟨v, rfl, hv⟩, hrd, ha⟩ := hp; have HV := hide hv; have HR1 := hide hrd; have HA := hide ((ap_next (c := c) (Below.refl _ w) (.int .i64 ((d : Int) + 1)) 2).trans (by simpa using ha)); have g2 := hrd.c2
   have gz := hrd.fz; clear hv hrd ha hz h2 HO; go_wp2_with fail; go_ret; have HA2 := fun v => HA.out.trans (Ap.setCell (R := c.R) (B := w.heap.size) (Ap.refl _ _ _) (p := ⟨c.R, 2, none⟩) (Or.inr rfl) v)
   have hlt := HR.out.rlt; refine ppOk rfl ?_ (HR1.out.dive2 d hd (by omega)) (HA2 _); exact NV.later (R := c.R) (by simpa using HV.out) (Ap.setCell (R := c.R) (Ap.refl _ _ _) (p := ⟨c.R, 2, none⟩) (Or.inr rfl) _) hlt
theorem row_open {w : World} {B : Nat} {u : Value} {ps : List Nat} (h : w.ownsRow B 22 1 u ps.length (ps.map nPtr)) (hne : 0 < ps.length) :
  ∃ g cap, u = .slice (some ⟨g, 0, none⟩) ps.length cap ∧ ∀ j, (hj : j < ps.length) → w.cell? ⟨g, j, none⟩ = some (nPtr ps[j]) := by
 rcases h.2 with hn | ⟨g, cap, cur, hv, hb, hg, h1, h2, h3, h4⟩
 ·
  omega
 ·
  refine ⟨g, cap, hv, fun j hj => ?_⟩; rw [cell_of hg, ← Array.getElem?_toList]; have : (cur.toList.take (ps.length * 1))[j]? = (ps.map nPtr)[j]? := by rw [h4]
  rw [List.getElem?_take_of_lt (by omega)] at this; rw [this, List.getElem?_map, List.getElem?_eq_getElem hj]; rfl
theorem row_shut {w : World} {B : Nat} {u : Value} {n : Nat} {xs : List Value} (h : w.ownsRow B 22 1 u n xs) : ∃ a cap, u = .slice a n cap := by
 rcases h.2 with hn | ⟨g, cap, cur, hv, _⟩
 ·
  exact ⟨none, 0, by rw [hn.1, hn.2]⟩
 ·
  exact ⟨_, cap, hv⟩
theorem codeT_same {t : Tr} (h : ∀ k1 r k2 r1, t.kids = k1 :: r → k1.kids = k2 :: r1 → k1.kd = 15 → k2.kd = 18 → k2.tx ≠ tUse) : codeT t = t := by
 unfold codeT
 split
 ·
  rename_i kd tx n k1 t1 n1 k2 t2 n2 l2 r1 r
  rw [if_neg]; rintro ⟨a, b, e⟩; exact h _ _ _ _ rfl rfl a b e
 ·
  rfl
theorem codeT_strict {t k1 k2 : Tr} {r r1 : List Tr} (h1 : t.kids = k1 :: r) (h2 : k1.kids = k2 :: r1) (h3 : k1.kd = 15) (h4 : k2.kd = 18) (h5 : k2.tx = tUse) : codeT t = .mk t.kd tStrict t.n t.kids := by
 cases t with
 | mk kd tx n ks =>
  simp only [Tr.kids] at h1; subst h1
  cases k1 with
  | mk a b c ds =>
   simp only [Tr.kids] at h2; subst h2
   cases k2 with
   | mk a2 b2 c2 d2 =>
    simp only [Tr.kd, Tr.tx] at h3 h4 h5; simp only [codeT, Tr.kd, Tr.n, Tr.kids]; rw [if_pos ⟨h3, h4, h5⟩]
theorem EV.text {B : Nat} {w : World} {t : Tr} {p : Nat} (h : EV B w t (nPtr p)) (s : ByteArray) : EV B (w.setCell ⟨p, 1, none⟩ (.string s)) (.mk t.kd s t.n t.kids) (nPtr p) := by
 obtain ⟨p', u, ps, he, hp, hb, hr, hu, hk⟩ := h
 have : p' = p := by simpa [nPtr] using he.symm
 subst this
 have hs : ∀ b, b ≠ p' → (w.setCell ⟨p', 1, none⟩ (.string s)).heap[b]? = w.heap[b]? := fun b hb => Below.heap_setCell w ⟨p', 1, none⟩ _ b hb
 refine ⟨p', u, ps, rfl, hp, by rw [heap_set hb]; rfl, ?_, hu, NAts.later (fun b h _ => hs b h.2.1) _ _ hk⟩
 exact owns_stay (I := fun b => b ≠ p') (fun b h _ => hs b h) (fun g hg e => hu (by rw [hg, e])) hr
theorem node_cells {w : World} {p : Nat} {kd n : Int} {tx : ByteArray} {u : Value} (h : w.heap[p]? = some (nodeObj kd tx n u)) :
  w.cell? ⟨p, 0, none⟩ = some (.int .i64 kd) ∧ w.cell? ⟨p, 1, none⟩ = some (.string tx) ∧ w.cell? ⟨p, 2, none⟩ = some (.int .i64 n) ∧ w.cell? ⟨p, 3, none⟩ = some u ∧ (∀ o, w.frozen? ⟨p, o, none⟩ = false) :=
 ⟨by rw [cell_of h]; rfl, by rw [cell_of h]; rfl, by rw [cell_of h]; rfl, by rw [cell_of h]; rfl, frozen_of h⟩
section
variable {I : Nat → Prop} {w : World} {t : Tr}
include I w t
theorem NAt.opens {p : Nat} (h : NAt I w t p) : ∃ u ps, w.heap[p]? = some (nodeObj t.kd t.tx t.n u) ∧ w.ownsRow 0 22 1 u ps.length (ps.map nPtr) ∧ NAts I w t.kids ps := by
 cases t with
 | mk kd tx n ks =>
  rw [NAt] at h; obtain ⟨_, u, ps, h1, h2, h3⟩ := h; exact ⟨u, ps, h1, h2.1, NAts.mono (fun b hb _ => hb.1) _ _ h3⟩
theorem NAts.head {ts : List Tr} {ps : List Nat} (h : NAts I w (t :: ts) ps) : ∃ p ps', ps = p :: ps' ∧ NAt I w t p := by
 obtain ⟨p, ps', e, h1, _⟩ := h.parts
 exact ⟨p, ps', e, h1⟩
end
def ExprOk (t : Tr) : Prop := ∀ k1 r, t.kids = k1 :: r → k1.kd = 15 → ∃ k2 r1, k1.kids = k2 :: r1
theorem code_any (B : Nat) (t : Tr) (v : Value) (w : World) (h : EV B w t v) (he : ExprOk t) :
  Calls Tryz.prog 177 #[v] w fun e w' => e = .returned v ∧ EV B w' (codeT t) v ∧ Below B w w' := by
 have HE := hide h
 obtain ⟨p, u, ps, rfl, hp, hb, hr, hu, hk⟩ := h
 obtain ⟨_, _, _, f3, fz⟩ := node_cells hb
 have HP := hide hp
 have hlen := NAts.length _ _ hk
 cases hks : t.kids with
 | nil =>
  rw [hks] at hlen; have h0 : ps.length = 0 := hlen; obtain ⟨a, cap, hus⟩ := row_shut hr; rw [h0] at hus; subst hus; have HC := hide (codeT_same (t := t) (fun k1 r k2 r1 e => by rw [hks] at e; cases e))
  clear hb hr hu hk hlen he hks h0 hp fz; exact zbdd
 | cons k1 r =>
  rw [hks] at hlen hk; have h0 : 0 < ps.length := by rw [hlen]; simp
  obtain ⟨g, cap, hus, hcell⟩ := row_open hr h0; subst hus; obtain ⟨p1, ps1, hps, hn1⟩ := NAts.head hk; have c0 : w.cell? ⟨g, 0, none⟩ = some (nPtr p1) := by
   rw [hcell 0 h0]; simp [hps]
  obtain ⟨u1, qs, hb1, hr1, hk1⟩ := hn1.opens; obtain ⟨f10, _, _, f13, _⟩ := node_cells hb1; have h0i : (0 : Int) < (ps.length : Int) := by omega
  by_cases h15 : k1.kd = 15
  ·
   obtain ⟨k2, r1, hk2⟩ := he k1 r hks h15; rw [hk2] at hk1; have hlen1 := NAts.length _ _ hk1; have h01 : 0 < qs.length := by rw [hlen1]; simp
   obtain ⟨g1, cap1, hus1, hcell1⟩ := row_open hr1 h01; subst hus1; obtain ⟨p2, ps2, hps2, hn2⟩ := NAts.head hk1; have d0 : w.cell? ⟨g1, 0, none⟩ = some (nPtr p2) := by
    rw [hcell1 0 h01]; simp [hps2]
   obtain ⟨u2, qs2, hb2, _, _⟩ := hn2.opens; obtain ⟨f20, f21, _, _, _⟩ := node_cells hb2; have h01i : (0 : Int) < (qs.length : Int) := by omega
   have b15 : (k1.kd == 15) = true := beq_iff_eq.2 h15
   by_cases h18 : k2.kd = 18
   ·
    have b18 : (k2.kd == 18) = true := beq_iff_eq.2 h18
    by_cases hus : k2.tx = tUse
    ·
     have HC := hide (codeT_strict hks hk2 h15 h18 hus); have bu : (k2.tx.toList == [117, 115, 101, 32, 115, 116, 114, 105, 99, 116]) = true := tl_eqL (b := tUse) rfl hus
     clear hb hr hu hk hlen he hks hp hb1 hr1 hk1 hb2 hn1 hn2 hcell hcell1 hlen1 hk2 h15 h18 hus hps hps2; go_enter Tryz.func177, Tryz.ntmps177; go_wp2_with fail; go_ret
     exact ⟨rfl, by rw [HC.out]; exact HE.out.text _, (Below.refl _ _).setCell (p := ⟨p, 1, none⟩) HP.out _⟩
    ·
     have HC := hide (codeT_same (t := t) (fun a1 r' a2 r1' e1 e2 _ _ e => by rw [hks] at e1; cases e1; rw [hk2] at e2; cases e2; exact hus e))
     have bu : (k2.tx.toList == [117, 115, 101, 32, 115, 116, 114, 105, 99, 116]) = false := tl_neL (b := tUse) rfl hus; clear hb hr hu hk hlen he hks hp hb1 hr1 hk1 hb2 hn1 hn2 hcell hcell1 hlen1 hk2 h15 h18 hus hps hps2
     exact zbdd
   ·
    have b18 : (k2.kd == 18) = false := beq_eq_false_iff_ne.2 h18; have HC := hide (codeT_same (t := t) (fun a1 r' a2 r1' e1 e2 _ e => by rw [hks] at e1; cases e1; rw [hk2] at e2; cases e2; exact absurd e h18))
    clear hb hr hu hk hlen he hks hp hb1 hr1 hk1 hb2 hn1 hn2 hcell hcell1 hlen1 hk2 h15 h18 hps hps2; exact zbdd
  ·
   have b15 : (k1.kd == 15) = false := beq_eq_false_iff_ne.2 h15; have HC := hide (codeT_same (t := t) (fun a1 r' a2 r1' e1 _ e => by rw [hks] at e1; cases e1; exact absurd e h15))
   clear hb hr hu hk hlen he hks hp hb1 hr1 hk1 hn1 hcell h15 hps; exact zbdd
end Go.Proofs.YtoimgcjbcbhclaaGreatDoor
