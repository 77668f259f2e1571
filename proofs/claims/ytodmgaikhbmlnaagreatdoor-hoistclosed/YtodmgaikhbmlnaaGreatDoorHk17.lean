/-
  Names of a node.
-/
import Derived.Test.YtodmgaikhbmlnaaGreatDoorHk16
set_option maxRecDepth 100000
set_option maxHeartbeats 16000000
namespace Go.Proofs.YtodmgaikhbmlnaaGreatDoor
open Go.RowKit
theorem run_app_none {P : Program} {w : World} (base : Nat) (t ty e : TypeId) (i : TypeInfo) (size : Nat) (ht : P.underlying t = some (.slice e)) (hi : P.info? e = some i)
  (v : Value) (n : Nat) (xs : List Value) (hown : w.ownsRow base e size v n xs) (ad : Option Addr) (k : Nat) :
  (Builtin.append_ #[t, t] ty #[v, .slice ad 0 k]).run P w = .ok v w := by
 cases ad <;> rcases hown.2 with ⟨rfl, rfl⟩ | ⟨g, cap, cur, rfl, _, _, hnc, _⟩ <;>
  simp [Builtin.append_, run_underlying ht, sizeOf, typeInfo, Builtin.lenOf, Builtin.firstCells, loadCells, loadCellsFrom, storeCells, *]
theorem wpList_app_row {P : Program} {w : World} {ops : Array Oper} {rest : List Oper} {o : Oper} {a : Act} {Q : Exit → Act → World → Prop} (hgd : o.guard = none) (s x : Operand) (t : TypeId)
  (ho : o.op = .call { callee := .builtin .append, args := #[s, x], argTypes := #[t, t] })
  (base B2 : Nat) (e : TypeId) (i : TypeInfo) (z : Value) (bytes : Nat) (ht : P.underlying t = some (.slice e)) (hi : P.info? e = some i) (hz : i.zero = some z)
  (hsize : i.size = 1) (hby : i.bytes = bytes) (hzs : z.cells.size = 1)
  (v : Value) (n : Nat) (xs : List Value) (hs : a.eval s = v) (hown : w.ownsRow base e 1 v n xs)
  (v2 : Value) (m : Nat) (news : List Value) (hx : a.eval x = v2) (hown2 : w.ownsRow B2 e 1 v2 m news) (h1 : ∀ u ∈ news, u.oneCell' = true)
  (h63 : n + m ≤ maxLen) (hbytes : (n + m) * bytes ≤ 140737488355328) (hbase : base ≤ w.heap.size)
  (h : ∀ v' w', w'.ownsRow base e 1 v' (n + m) (xs ++ news) → w.grownBy w' v.ownBlock → wpList P ops Q rest (a.put o.dst v') w') : wpList P ops Q (o :: rest) a w := by
 rcases Nat.eq_zero_or_pos m with rfl | hm
 ·
  have hnews : news = [] := List.length_eq_zero_iff.1 (by rw [hown2.1]); subst hnews; obtain ⟨ad, k, rfl⟩ := srow_form hown2
  have hk := h v w (by rw [List.append_nil]; exact hown) ⟨rfl, rfl, rfl, Nat.le_refl _, fun _ _ _ => rfl⟩
  refine wpList_plain hgd fun K hK => ?_; have hrun := run_app_none (P := P) (w := w) base t o.type e i 1 ht hi v n xs hown ad k; unfold Oper.wp; simp [execOp, ho, resolve, invoke, builtin, hs, hx, hrun, Result.andThen]
  exact hK _ _ hk
 ·
  obtain ⟨g, cap, rfl, _, _⟩ := hown2.form hm
  refine wpList_append_lies w hgd s x t ho base e i z 1 bytes ht hi hz hsize hby hzs (by decide) v n xs hs hown ⟨g, 0, none⟩ m cap news hx hown2.1 (fun j u hj => ?_) h1 hm h63 hbytes hbase _ rfl (fun g' cap' w' a b _ _ => h _ _ a b)
  have hl : j < m * 1 := by
   rw [← hown2.1]; exact (List.getElem?_eq_some_iff.1 hj).1
  have h4 : (⟨g, 0, none⟩ : Addr).add j = ⟨g, j, none⟩ := by simp [Addr.add]; exact Eq.symm
  rw [h4, hown2.cellAt j hl]; exact hj
def namesT (t : Tr) (body : Bool) : List ByteArray := onceL ((if body then varsT t else []) ++ (fnsT t).map Tr.tx ++ (letsT t).map Tr.tx)
theorem fns_len (t : Tr) : (fnsT t).length ≤ t.kids.length := List.length_filter_le _ _
theorem lets_len (t : Tr) : (letsT t).length ≤ t.kids.length := List.length_filter_le _ _
theorem vars_len (t : Tr) : (varsT t).length ≤ Tr.counts t.kids := Nat.le_trans (once_len _) (vws_len _)
theorem names_any (t : Tr) (p : Nat) (body : Bool) (w : World) (h : NTr w t p) (hc : t.count ≤ 20000) :
  Calls Tryz.prog 35 #[nPtr p, .bool body] w fun e w' => (∃ u, e = .returned u ∧ SRow w.heap.size w' u (namesT t body)) ∧ Below w.heap.size w w' := by
 obtain ⟨i0, hi0, hz0, hz1, hz2⟩ := info_parts info9
 have htc : t.count = 1 + Tr.counts t.kids := by cases t with | mk kd tx nn ks => exact count_mk _ _ _ _
 have hkl : t.kids.length ≤ 20000 := by have := counts_len t.kids; omega
 have hfl := fns_len t
 have hll := lets_len t
 have hvl := vars_len t
 have HN0 := hide h
 unfold namesT
 obtain ⟨F, hF⟩ : ∃ F, F = (fnsT t).map Tr.tx := ⟨_, rfl⟩
 have hFl : F.length ≤ 20000 := by rw [hF, List.length_map]; omega
 obtain ⟨G, hG⟩ : ∃ G, G = (letsT t).map Tr.tx := ⟨_, rfl⟩
 have hGl : G.length ≤ 20000 := by rw [hG, List.length_map]; omega
 rw [← hF, ← hG]
 have HFF := hide hF
 have HGG := hide hG
 clear hF hG
 cases body with
 | true =>
  have HC0 := hide (vars_any t p w h (by omega)); clear h; simp only [if_true]; obtain ⟨V, hV⟩ : ∃ V, V = varsT t := ⟨_, rfl⟩; have hVl : V.length ≤ 20000 := by rw [hV]; omega
  rw [← hV] at HC0 ⊢; clear hV htc hvl; obtain ⟨VF, hVF⟩ : ∃ VF, VF = V ++ F := ⟨_, rfl⟩; obtain ⟨VFG, hVFG⟩ : ∃ VFG, VFG = VF ++ G := ⟨_, rfl⟩; rw [← hVF, ← hVFG]
  have hvf : VF.length ≤ 40000 := by rw [hVF, List.length_append]; omega
  have hvfg : VFG.length ≤ 60000 := by rw [hVFG, List.length_append]; omega
  have HVF := hide hVF; have HVFG := hide hVFG; clear hVF hVFG; go_enter Tryz.func35, Tryz.ntmps35; go_wp2_with fail; refine cm HC0.out ?_; rintro e w1 ⟨⟨u1, rfl, hr1⟩, hb1⟩; obtain ⟨a1, c1, rfl⟩ := srow_form hr1
  have HB1 := hide hb1; have HN1 := hide (HN0.out.later hb1); have HV1 := hide hr1; clear HC0 hr1 hb1; have HC := hide (funcs_any t p w1 HN1.out (by omega)); go_wp2_with fail; refine cm HC.out ?_
  rintro e w2 ⟨⟨u2, rfl, hr2⟩, hb2⟩; obtain ⟨a2, c2, rfl⟩ := hr2.form; have HB2 := hide (HB1.out.trans (hb2.mono HB1.out.size)); have HN2 := hide (HN1.out.later hb2); have HV2 := hide (SRow.later HV1.out hb2)
  have HC2 := hide (texts_any (fnsT t) _ w2 hr2 (by omega)); clear HC hr2 hb2; go_wp2_with fail; refine cm HC2.out ?_; rintro e w3 ⟨⟨u3, rfl, hr3⟩, hb3⟩; rw [← HFF.out] at hr3; obtain ⟨a3, c3, rfl⟩ := srow_form hr3
  have HB3 := hide (HB2.out.trans (hb3.mono HB2.out.size)); have HN3 := hide (HN2.out.later hb3); have HV3 := hide (SRow.later HV2.out hb3); have HR3 := hide hr3; clear HC2 hr3 hb3
  go_wp2_with (at_builtin; refine wpList_app_row rfl _ _ 54 rfl w.heap.size _ 9 i0 (.string ByteArray.empty) 16 Tryz.underlying54 hi0 hz0 hz1 hz2 rfl _ _ _ rfl HV3.out _ _ _ rfl HR3.out (srow_ones F) (by unfold maxLen; omega) (by omega) HB3.out.size ?_)
  intro v4 w4 hown4 hgr4; have hsr4 : SRow w.heap.size w4 v4 VF := by
   show World.ownsRow _ _ _ _ _ _ _
   rw [HVF.out, List.length_append, List.map_append]; exact hown4
  have hob := fun k hk => (own_lt HV3.out k hk).2; have HB4 := hide (HB3.out.grown hgr4 HB3.out.size hob); have HN4 : Hid (NTr w4 t p) := NTr.later HN0.out HB4.out; obtain ⟨a4, c4, rfl⟩ := srow_form hsr4
  have HV4 := hide hsr4; clear hown4 hgr4 hsr4 hob; have HC := hide (lets_any t p w4 HN4.out (by omega)); go_wp2_with fail; refine cm HC.out ?_; rintro e w5 ⟨⟨u5, rfl, hr5⟩, hb5⟩; obtain ⟨a5, c5, rfl⟩ := hr5.form
  have HB5 := hide (HB4.out.trans (hb5.mono HB4.out.size)); have HV5 := hide (SRow.later HV4.out hb5); have HC2 := hide (texts_any (letsT t) _ w5 hr5 (by omega)); clear HC hr5 hb5; go_wp2_with fail; refine cm HC2.out ?_
  rintro e w6 ⟨⟨u6, rfl, hr6⟩, hb6⟩; rw [← HGG.out] at hr6; obtain ⟨a6, c6, rfl⟩ := srow_form hr6; have HB6 := hide (HB5.out.trans (hb6.mono HB5.out.size)); have HV6 := hide (SRow.later HV5.out hb6); have HR6 := hide hr6
  clear HC2 hr6 hb6
  go_wp2_with (at_builtin; refine wpList_app_row rfl _ _ 54 rfl w.heap.size _ 9 i0 (.string ByteArray.empty) 16 Tryz.underlying54 hi0 hz0 hz1 hz2 rfl _ _ _ rfl HV6.out _ _ _ rfl HR6.out (srow_ones G) (by unfold maxLen; omega) (by omega) HB6.out.size ?_)
  intro v7 w7 hown7 hgr7; have hsr7 : SRow w.heap.size w7 v7 VFG := by
   show World.ownsRow _ _ _ _ _ _ _
   rw [HVFG.out, List.length_append, List.map_append]; exact hown7
  have hob := fun k hk => (own_lt HV6.out k hk).2; have HB7 := hide (HB6.out.grown hgr7 HB6.out.size hob); obtain ⟨a7, c7, rfl⟩ := srow_form hsr7; have HC := hide (once_any VFG _ w7 hsr7 (by omega))
  clear hown7 hgr7 hsr7 hob; go_wp2_with fail; refine cm HC.out ?_; rintro e w8 ⟨⟨u8, rfl, hr8⟩, hb8⟩; obtain ⟨a8, c8, rfl⟩ := srow_form hr8; have HR8 := hide (srow_mono hr8 HB7.out.size)
  have HB8 := hide (HB7.out.trans (hb8.mono HB7.out.size)); clear HC hr8 hb8; go_wp2_with fail; go_ret; exact ⟨⟨_, rfl, HR8.out⟩, HB8.out⟩
 | false =>
  simp only [Bool.false_eq_true, if_false]; obtain ⟨V, hV⟩ : ∃ V : List ByteArray, V = [] := ⟨_, rfl⟩; have hVl : V.length ≤ 20000 := by rw [hV]; simp
  have HB1 : Hid (Below w.heap.size w w) := Below.refl _ _; have HN1 : Hid (NTr w t p) := h; have HV1 : Hid (SRow w.heap.size w (.slice none 0 0) V) := by rw [hV]; exact srow_nil _ _
  have HGO : Hid (∀ l, l = [] ++ F ++ G → l = V ++ F ++ G) := fun l hl => by rw [hl, hV]
  rw [unhide HGO _ rfl]; clear h hV htc hvl HGO; obtain ⟨VF, hVF⟩ : ∃ VF, VF = V ++ F := ⟨_, rfl⟩; obtain ⟨VFG, hVFG⟩ : ∃ VFG, VFG = VF ++ G := ⟨_, rfl⟩; rw [← hVF, ← hVFG]
  have hvf : VF.length ≤ 40000 := by rw [hVF, List.length_append]; omega
  have hvfg : VFG.length ≤ 60000 := by rw [hVFG, List.length_append]; omega
  have HVF := hide hVF; have HVFG := hide hVFG; clear hVF hVFG; go_enter Tryz.func35, Tryz.ntmps35; have HC := hide (funcs_any t p w HN1.out (by omega)); go_wp2_with fail; refine cm HC.out ?_
  rintro e w2 ⟨⟨u2, rfl, hr2⟩, hb2⟩; obtain ⟨a2, c2, rfl⟩ := hr2.form; have HB2 := hide (HB1.out.trans (hb2.mono HB1.out.size)); have HN2 := hide (HN1.out.later hb2); have HV2 := hide (SRow.later HV1.out hb2)
  have HC2 := hide (texts_any (fnsT t) _ w2 hr2 (by omega)); clear HC hr2 hb2; go_wp2_with fail; refine cm HC2.out ?_; rintro e w3 ⟨⟨u3, rfl, hr3⟩, hb3⟩; rw [← HFF.out] at hr3; obtain ⟨a3, c3, rfl⟩ := srow_form hr3
  have HB3 := hide (HB2.out.trans (hb3.mono HB2.out.size)); have HN3 := hide (HN2.out.later hb3); have HV3 := hide (SRow.later HV2.out hb3); have HR3 := hide hr3; clear HC2 hr3 hb3
  go_wp2_with (at_builtin; refine wpList_app_row rfl _ _ 54 rfl w.heap.size _ 9 i0 (.string ByteArray.empty) 16 Tryz.underlying54 hi0 hz0 hz1 hz2 rfl _ _ _ rfl HV3.out _ _ _ rfl HR3.out (srow_ones F) (by unfold maxLen; omega) (by omega) HB3.out.size ?_)
  intro v4 w4 hown4 hgr4; have hsr4 : SRow w.heap.size w4 v4 VF := by
   show World.ownsRow _ _ _ _ _ _ _
   rw [HVF.out, List.length_append, List.map_append]; exact hown4
  have hob := fun k hk => (own_lt HV3.out k hk).2; have HB4 := hide (HB3.out.grown hgr4 HB3.out.size hob); have HN4 : Hid (NTr w4 t p) := NTr.later HN0.out HB4.out; obtain ⟨a4, c4, rfl⟩ := srow_form hsr4
  have HV4 := hide hsr4; clear hown4 hgr4 hsr4 hob; have HC := hide (lets_any t p w4 HN4.out (by omega)); go_wp2_with fail; refine cm HC.out ?_; rintro e w5 ⟨⟨u5, rfl, hr5⟩, hb5⟩; obtain ⟨a5, c5, rfl⟩ := hr5.form
  have HB5 := hide (HB4.out.trans (hb5.mono HB4.out.size)); have HV5 := hide (SRow.later HV4.out hb5); have HC2 := hide (texts_any (letsT t) _ w5 hr5 (by omega)); clear HC hr5 hb5; go_wp2_with fail; refine cm HC2.out ?_
  rintro e w6 ⟨⟨u6, rfl, hr6⟩, hb6⟩; rw [← HGG.out] at hr6; obtain ⟨a6, c6, rfl⟩ := srow_form hr6; have HB6 := hide (HB5.out.trans (hb6.mono HB5.out.size)); have HV6 := hide (SRow.later HV5.out hb6); have HR6 := hide hr6
  clear HC2 hr6 hb6
  go_wp2_with (at_builtin; refine wpList_app_row rfl _ _ 54 rfl w.heap.size _ 9 i0 (.string ByteArray.empty) 16 Tryz.underlying54 hi0 hz0 hz1 hz2 rfl _ _ _ rfl HV6.out _ _ _ rfl HR6.out (srow_ones G) (by unfold maxLen; omega) (by omega) HB6.out.size ?_)
  intro v7 w7 hown7 hgr7; have hsr7 : SRow w.heap.size w7 v7 VFG := by
   show World.ownsRow _ _ _ _ _ _ _
   rw [HVFG.out, List.length_append, List.map_append]; exact hown7
  have hob := fun k hk => (own_lt HV6.out k hk).2; have HB7 := hide (HB6.out.grown hgr7 HB6.out.size hob); obtain ⟨a7, c7, rfl⟩ := srow_form hsr7; have HC := hide (once_any VFG _ w7 hsr7 (by omega))
  clear hown7 hgr7 hsr7 hob; go_wp2_with fail; refine cm HC.out ?_; rintro e w8 ⟨⟨u8, rfl, hr8⟩, hb8⟩; obtain ⟨a8, c8, rfl⟩ := srow_form hr8; have HR8 := hide (srow_mono hr8 HB7.out.size)
  have HB8 := hide (HB7.out.trans (hb8.mono HB7.out.size)); clear HC hr8 hb8; go_wp2_with fail; go_ret; exact ⟨⟨_, rfl, HR8.out⟩, HB8.out⟩
theorem cell_lt {w : World} {b o : Nat} {v : Value} (h : w.cell? ⟨b, o, none⟩ = some v) : b < w.heap.size := by
 rcases Nat.lt_or_ge b w.heap.size with h1 | h1
 ·
  exact h1
 ·
  have h2 : w.heap[b]? = none := Array.getElem?_eq_none h1; simp [World.cell?, h2] at h
theorem keepC {w X : World} {b o : Nat} {v : Value} (hb : Below w.heap.size w X) (h : w.cell? ⟨b, o, none⟩ = some v) : X.cell? ⟨b, o, none⟩ = some v :=
 (World.cell?_of_block (w := w) (a := ⟨b, o, none⟩) (hb.block b (cell_lt h))).trans h
abbrev tEval : ByteArray := ⟨#[101, 118, 97, 108]⟩
abbrev tArgs : ByteArray := ⟨#[97, 114, 103, 117, 109, 101, 110, 116, 115]⟩
def erV : Option Int → Value
 | none => .nilIface
 | some e => .iface 23 (.int .i64 e)
abbrev plV (s i b : Bool) : Value := .agg #[.bool s, .bool i, .bool b]
def isSp (x : ByteArray) : Bool := decide (x = tEval) || decide (x = tArgs)
def nmE (s : Bool) (x : ByteArray) : Option Int := if s && isSp x then some 5 else none
def strictT (t : Tr) : Bool := (t.kd == 1 || t.kd == 6) && decide (t.tx = tStrict)
def kidT (t : Tr) (k : Nat) : Tr := t.kids.getD k t
def declK (t : Tr) : Bool := t.kd == 3 || t.kd == 4 || t.kd == 5
theorem NAts.take {I : Nat → Prop} {w : World} : ∀ (ts : List Tr) (ps : List Nat), NAts I w ts ps → ∀ k, NAts I w (ts.take k) (ps.take k)
 | [], ps, h, k => by rw [NAts] at h; subst h; simpa using NAts.nil
 | t :: ts, ps, h, k => by
  rw [NAts] at h; obtain ⟨p, ps', rfl, h1, h2⟩ := h
  cases k with
  | zero => simpa using NAts.nil
  | succ k => simpa using NAts.cons h1 (NAts.take ts ps' h2 k)
theorem NRow.take {B : Nat} {w : World} {g cap : Nat} {ts : List Tr} (h : NRow B w (.slice (some ⟨g, 0, none⟩) ts.length cap) ts) (k : Nat) (hk : k ≤ ts.length) : NRow B w (.slice (some ⟨g, 0, none⟩) k cap) (ts.take k) := by
 obtain ⟨ps, h1, h2⟩ := h
 have hl := NAts.length _ _ h2
 refine ⟨ps.take k, ?_, NAts.take _ _ h2 k⟩
 have hlk : (ps.take k).length = k := by rw [List.length_take]; omega
 rw [hlk]
 refine ⟨by simp; omega, Or.inr ?_⟩
 rcases h1.2 with hn | ⟨g', cap', cur, hv, hb, hg, hc, hm, hz, hx⟩
 ·
  exact absurd hn.1 (by simp)
 ·
  simp only [Value.slice.injEq, Option.some.injEq, Addr.mk.injEq] at hv; obtain ⟨⟨rfl, _, _⟩, _, rfl⟩ := hv; refine ⟨g, cap, cur, rfl, hb, hg, by omega, hm, hz, ?_⟩; have h3 := congrArg (List.take k) hx
  rw [List.take_take, Nat.min_eq_left (by omega)] at h3; rw [Nat.mul_one, h3, ← List.map_take]
def txAt (l : List Tr) (i : Nat) : ByteArray := (l.map Tr.tx).getD i noText
def repF (l : List Tr) (i : Nat) : Bool := namedB (l.take i) (txAt l i)
def repB (l : List Tr) : Bool := (List.range l.length).any (repF l)
def brE (t : Tr) (s : Bool) : Option Int := if (t.kd == 9 && s) || t.kids.any declK then some 1 else none
def scT (t : Tr) : Bool := repB (letsT t) || (letsT t).any (fun k => namedB (fnsT t) k.tx) || (letsT t).any (fun k => hasB (varsT t) k.tx)
def scU (t : Tr) : Bool := repB (fnsT t) || (fnsT t).any (fun k => hasB (varsT t) k.tx)
def scE (t : Tr) (body : Bool) : Option Int := if scT t || (!body && scU t) then some 9 else none
structure ScAt (wA : World) (bV bF : Nat) (LV FV : Value) (r1 a1 a2 r2 a3 : Bool) : Prop where
 cF : wA.cell? ⟨bF, 0, none⟩ = some FV
 hr1 : ∀ W, Below wA.heap.size wA W → Calls Tryz.prog 248 #[LV] W fun e w' => e = .returned (.bool r1) ∧ Below W.heap.size W w'
 ha1 : ∀ W, Below wA.heap.size wA W → Calls Tryz.prog 249 #[LV, .func (.func 246) #[] #[.pointer (some ⟨bF, 0, none⟩)]] W fun e w' => e = .returned (.bool a1) ∧ Below W.heap.size W w'
 ha2 : ∀ W, Below wA.heap.size wA W → Calls Tryz.prog 249 #[LV, .func (.func 245) #[] #[.pointer (some ⟨bV, 0, none⟩)]] W fun e w' => e = .returned (.bool a2) ∧ Below W.heap.size W w'
 hr2 : ∀ W, Below wA.heap.size wA W → Calls Tryz.prog 248 #[FV] W fun e w' => e = .returned (.bool r2) ∧ Below W.heap.size W w'
 ha3 : ∀ W, Below wA.heap.size wA W → Calls Tryz.prog 249 #[FV, .func (.func 245) #[] #[.pointer (some ⟨bV, 0, none⟩)]] W fun e w' => e = .returned (.bool a3) ∧ Below W.heap.size W w'
def catchE (t : Tr) (s : Bool) : Option Int := match nmE s t.tx with
 | some e => some e
 | none => if hasB (namesT (kidT t 0) false) t.tx then some 9 else none
structure PlAt (b : Nat) (s i d : Bool) (w : World) : Prop where
 c0 : w.cell? ⟨b, 0, none⟩ = some (.bool s)
 c1 : w.cell? ⟨b, 1, none⟩ = some (.bool i)
 c2 : w.cell? ⟨b, 2, none⟩ = some (.bool d)
theorem PlAt.new (w : World) (s i d : Bool) : PlAt w.heap.size s i d (w.alloc (.cells #[.bool s, .bool i, .bool d] 112)) :=
 ⟨by rw [cell_of (heap_new _ _)]; rfl, by rw [cell_of (heap_new _ _)]; rfl, by rw [cell_of (heap_new _ _)]; rfl⟩
theorem PlAt.later {b : Nat} {s i d : Bool} {w X : World} (h : PlAt b s i d w) (hb : Below w.heap.size w X) : PlAt b s i d X := ⟨keepC hb h.c0, keepC hb h.c1, keepC hb h.c2⟩
def firstE (f : Nat → Option Int) : Nat → Option Int
 | 0 => none
 | n + 1 => match firstE f n with
  | some e => some e
  | none => f n
def parF (s : Bool) (ps : List Tr) (i : Nat) : Option Int := match nmE s (txAt ps i) with
 | some e => some e
 | none => if s && namedB (ps.take i) (txAt ps i) then some 9 else none
def parE (s : Bool) (ps : List Tr) : Option Int := firstE (parF s ps) ps.length
def letE (t : Tr) : Bool := (letsT (kidT t 1)).any fun k => namedB (kidT t 0).kids k.tx
def fnE (t : Tr) (s : Bool) : Option Int := match nmE s t.tx with
 | some e => some e
 | none => match parE s (kidT t 0).kids with
  | some e => some e
  | none => if letE t then some 9 else none
structure FnAt (t : Tr) (p bN bP : Nat) (s i b : Bool) (w : World) : Prop where
 nt : NTr w t p
 cN : w.cell? ⟨bN, 0, none⟩ = some (nPtr p)
 pl : PlAt bP s i b w
theorem FnAt.later {t : Tr} {p bN bP : Nat} {s i b : Bool} {w X : World} (h : FnAt t p bN bP s i b w) (hb : Below w.heap.size w X) : FnAt t p bN bP s i b X := ⟨h.nt.later hb, keepC hb h.cN, h.pl.later hb⟩
end Go.Proofs.YtodmgaikhbmlnaaGreatDoor
namespace Go.Proofs.YtodmgaikhbmlnaaGreatDoor
def need (kd : Int) : Nat := if kd = 5 ∨ kd = 37 then 2 else if kd = 13 ∨ kd = 24 ∨ kd = 34 ∨ kd = 35 then 1 else 0
def ar (kd : Int) (n : Nat) : Nat := if need kd ≤ n then 0 else 1
mutual
def Tr.ill : Tr → Nat
 | .mk kd _ _ ks => ar kd ks.length + Tr.ills ks
def Tr.ills : List Tr → Nat
 | [] => 0
 | t :: ts => t.ill + Tr.ills ts
end
theorem ill_mk (kd : Int) (tx : ByteArray) (n : Int) (ks : List Tr) : (Tr.mk kd tx n ks).ill = ar kd ks.length + Tr.ills ks := by rw [Tr.ill]
theorem need_two (kd : Int) : need kd ≤ 2 := by
 unfold need
 split
 ·
  omega
 ·
  split <;> omega
theorem ar_two (kd : Int) (n : Nat) (h : 2 ≤ n) : ar kd n = 0 := by
 unfold ar
 rw [if_pos (Nat.le_trans (need_two kd) h)]
theorem ar_small {kd : Int} (h : need kd = 0) (n : Nat) : ar kd n = 0 := by unfold ar; rw [h, if_pos (Nat.zero_le _)]
theorem ills_nil : Tr.ills [] = 0 := by rw [Tr.ills]
theorem ills_cons (t : Tr) (ts : List Tr) : Tr.ills (t :: ts) = t.ill + Tr.ills ts := by rw [Tr.ills]
theorem ills_app : ∀ (ts us : List Tr), Tr.ills (ts ++ us) = Tr.ills ts + Tr.ills us
 | [], us => by rw [List.nil_append, ills_nil, Nat.zero_add]
 | t :: ts, us => by rw [List.cons_append, ills_cons, ills_cons, ills_app ts us, Nat.add_assoc]
theorem code_ill (t : Tr) : (codeT t).ill = t.ill := by
 unfold codeT
 split
 ·
  rw [ill_mk, ill_mk]
 ·
  rfl
theorem sgP_ar {k : Int} {x : ByteArray} {s : Sg} (h : sgP k x = some s) : s ∈ sgs ∧ s.parts = k := by
 unfold sgP at h
 have h1 := Option.filter_eq_some_iff.1 h
 exact ⟨List.mem_of_find?_eq_some h1.1, by simpa using h1.2⟩
theorem sgP_ar0 {x : ByteArray} {s : Sg} (h : sgP 0 x = some s) : ar s.kd 0 = 0 := by
 have h1 := sgP_ar h
 have h2 : ∀ s ∈ sgs, s.parts = 0 → ar s.kd 0 = 0 := by decide +kernel
 exact h2 s h1.1 h1.2
theorem sgP_ar1 {x : ByteArray} {s : Sg} (h : sgP 1 x = some s) : ar s.kd 1 = 0 := by
 have h1 := sgP_ar h
 have h2 : ∀ s ∈ sgs, s.parts = 1 → ar s.kd 1 = 0 := by decide +kernel
 exact h2 s h1.1 h1.2
theorem hd_kw (x : ByteArray) (n : Nat) : ar (hdKind x) n = 0 := by
 refine ar_small ?_ n
 unfold hdKind look2
 cases h : hds.find? (fun e => decide (x = e.1)) with
 | none => decide
 | some e =>
  have h1 := List.mem_of_find?_eq_some h; have h2 : ∀ e ∈ hds, need e.2 = 0 := by decide +kernel
  exact h2 e h1
section
variable {l : List Tk}
def Kw (_ : Nat) (r : PR Tr) : Prop := ∀ t j, r = .ok t j → t.ill ≤ 0
def Kws (_ : Nat) (r : PR (List Tr)) : Prop := ∀ t j, r = .ok t j → Tr.ills t ≤ 0
theorem deep_kw {f : Nat → Nat → PR Tr} {d i : Nat} (h : Kw i (f (d + 1) i)) : Kw i (deepP l f d i) := by
 unfold deepP
 split
 ·
  intro t j e; cases e
 ·
  exact h
theorem listLoop_kw {shut : ByteArray} {begins : Nat → Bool} {part : Nat → PR Tr} (hp : ∀ i, Kw i (part i)) : ∀ k acc i t j, listLoop l shut begins part k acc i = .ok t j → Tr.ills t ≤ Tr.ills acc := by
 intro k
 induction k with
 | zero => intro acc i t j h; cases h
 | succ k ih =>
  intro acc i t j h; unfold listLoop at h
  split at h
  ·
   cases h
  ·
   obtain ⟨u, i1, h1, h⟩ := binds h; have := hp i u i1 h1
   split at h
   ·
    cases h; rw [ills_app, ills_cons, ills_nil]; first | omega | (simp [ar, need] <;> omega) | (simp [ar, need] at * <;> omega)
   ·
    obtain ⟨_, i2, h2, h⟩ := binds h; have h3 := must_eq h2; have h4 := ih _ _ _ _ h; rw [ills_app, ills_cons, ills_nil] at h4
    first | omega | (simp [ar, need] <;> omega) | (simp [ar, need] at * <;> omega)
theorem list_kw {opn shut : ByteArray} {begins : Nat → Bool} {part : Nat → PR Tr} (hp : ∀ i, Kw i (part i)) {k i j : Nat} {t : List Tr} (h : listP l opn shut begins part k i = .ok t j) : Tr.ills t ≤ 0 := by
 unfold listP at h
 obtain ⟨_, i1, h1, h⟩ := binds h
 have h2 := must_eq h1
 split at h
 ·
  cases h; rw [ills_nil]; first | omega | (simp [ar, need] <;> omega) | (simp [ar, need] at * <;> omega)
 ·
  have := listLoop_kw hp _ _ _ _ _ h; rw [ills_nil] at this
  first | omega | (simp [ar, need] <;> omega) | (simp [ar, need] at * <;> omega)
structure FKw (F : Fns) : Prop where
 st : ∀ d i, Kw i (F.st d i)
 vl : ∀ d i, Kw i (F.vl d i)
 pr : ∀ b d i, Kw i (F.pr b d i)
 sg : ∀ d i, Kw i (F.sg d i)
variable {F : Fns} (hF : FKw F)
include hF
theorem blockLoop_kw {d : Nat} : ∀ k acc i t j, blockLoop l F d k acc i = .ok t j → Tr.ills t ≤ Tr.ills acc := by
 intro k
 induction k with
 | zero => intro acc i t j h; cases h
 | succ k ih =>
  intro acc i t j h; unfold blockLoop at h
  split at h
  ·
   cases h; first | omega | (simp [ar, need] <;> omega) | (simp [ar, need] at * <;> omega)
  ·
   obtain ⟨u, i1, h1, h⟩ := binds h; have h2 := deep_kw (l := l) (hF.st _ _) u i1 h1; have h4 := ih _ _ _ _ h; rw [ills_app, ills_cons, ills_nil] at h4
   first | omega | (simp [ar, need] <;> omega) | (simp [ar, need] at * <;> omega)
theorem block_kw {d i j : Nat} {t : Tr} (h : blockP l F d i = .ok t j) : t.ill ≤ 0 := by
 unfold blockP at h
 obtain ⟨_, i1, h1, h⟩ := binds h
 obtain ⟨ts, i2, h2, h⟩ := binds h
 cases h
 have h3 := must_eq h1
 have h4 := blockLoop_kw hF _ _ _ _ _ h2
 rw [ills_nil] at h4
 rw [ill_mk]; first | omega | (simp [ar, need] <;> omega) | (simp [ar, need] at * <;> omega)
omit hF in
theorem param_kw (i : Nat) : Kw i (paramP l i) := by
 intro t j h
 unfold paramP at h
 obtain ⟨_, i1, h1, h⟩ := binds h
 cases h
 have := name_eq h1
 rw [ill_mk, ills_nil]; first | omega | (simp [ar, need] <;> omega) | (simp [ar, need] at * <;> omega)
omit hF in
theorem params_kw {i j : Nat} {t : Tr} (h : paramsP l F i = .ok t j) : t.ill ≤ 0 := by
 unfold paramsP at h
 obtain ⟨ts, i1, h1, h⟩ := binds h
 cases h
 have := list_kw param_kw h1
 rw [ill_mk]; first | omega | (simp [ar, need] <;> omega) | (simp [ar, need] at * <;> omega)
theorem arg_kw (d i : Nat) : Kw i (argP l F d i) := deep_kw (hF.vl _ _)
theorem prop_kw (d i : Nat) : Kw i (propP l F d i) := by
 intro t j h
 unfold propP at h
 obtain ⟨_, i1, h1, h⟩ := binds h
 obtain ⟨_, i2, h2, h⟩ := binds h
 obtain ⟨u, i3, h3, h⟩ := binds h
 cases h
 have e1 := name_eq h1
 have e2 := must_eq h2
 have e3 := deep_kw (l := l) (hF.vl _ _) u _ h3
 rw [ill_mk, ills_cons, ills_nil]; first | omega | (simp [ar, need] <;> omega) | (simp [ar, need] at * <;> omega)
theorem inPar_kw (d i : Nat) : Kw i (inParP l F d i) := by
 intro t j h
 unfold inParP at h
 obtain ⟨_, i1, h1, h⟩ := binds h
 obtain ⟨u, i2, h2, h⟩ := binds h
 obtain ⟨_, i3, h3, h⟩ := binds h
 cases h
 have e1 := must_eq h1
 have e2 := deep_kw (l := l) (hF.vl _ _) _ _ h2
 have e3 := must_eq h3
 first | omega | (simp [ar, need] <;> omega) | (simp [ar, need] at * <;> omega)
theorem object_kw (d i : Nat) : Kw i (objectP l F d i) := by
 intro t j h
 unfold objectP at h
 obtain ⟨ts, i1, h1, h⟩ := binds h
 cases h
 have := list_kw (prop_kw hF d) h1
 rw [ill_mk]; first | omega | (simp [ar, need] <;> omega) | (simp [ar, need] at * <;> omega)
theorem tail_kw {kd : Int} {s : ByteArray} {d i j : Nat} {t : Tr} (h : funcTail l F kd s d i = .ok t j) : t.ill ≤ 0 := by
 unfold funcTail at h
 obtain ⟨ps, i1, h1, h⟩ := binds h
 obtain ⟨b, i2, h2, h⟩ := binds h
 cases h
 have e1 := params_kw h1
 have e2 := block_kw hF h2
 rw [ill_mk, ills_cons, ills_cons, ills_nil, code_ill, ar_two _ _ (by simp)]; omega
theorem lambda_kw (d i : Nat) : Kw i (lambdaP l F d i) := by
 intro t j h
 unfold lambdaP at h
 obtain ⟨_, i1, h1, h⟩ := binds h
 have e1 := must_eq h1
 split at h
 ·
  obtain ⟨_, i2, h2, h⟩ := binds h; have e2 := name_eq h2; have := tail_kw hF h
  first | omega | (simp [ar, need] <;> omega) | (simp [ar, need] at * <;> omega)
 ·
  have := tail_kw hF h
  first | omega | (simp [ar, need] <;> omega) | (simp [ar, need] at * <;> omega)
theorem func_kw (d i : Nat) : Kw i (funcP l F d i) := by
 intro t j h
 unfold funcP at h
 obtain ⟨_, i1, h1, h⟩ := binds h
 obtain ⟨_, i2, h2, h⟩ := binds h
 have e1 := must_eq h1
 have e2 := name_eq h2
 have := tail_kw hF h
 first | omega | (simp [ar, need] <;> omega) | (simp [ar, need] at * <;> omega)
theorem alone_kw (d i : Nat) : Kw i (aloneP l F d i) := by
 unfold aloneP
 split
 ·
  exact inPar_kw hF d i
 ·
  exact object_kw hF d i
 ·
  exact lambda_kw hF d i
 ·
  split
  ·
   rename_i hsg; intro t j h; cases h; have h0 := sgP_ar0 hsg; rw [ill_mk, ills_nil]; show ar _ 0 + 0 ≤ 0; omega
  ·
   split
   ·
    intro t j h; cases h; rw [ill_mk, ills_nil]; first | omega | (simp [ar, need] <;> omega) | (simp [ar, need] at * <;> omega)
   ·
    split
    ·
     intro t j h; cases h; rw [ill_mk, ills_nil]; first | omega | (simp [ar, need] <;> omega) | (simp [ar, need] at * <;> omega)
    ·
     split
     ·
      intro t j h; cases h; rw [ill_mk, ills_nil]; first | omega | (simp [ar, need] <;> omega) | (simp [ar, need] at * <;> omega)
     ·
      intro t j h; cases h
theorem askedLoop_kw {d : Nat} : ∀ k u i t j, askedLoop l F d k u i = .ok t j → t.ill ≤ u.ill := by
 intro k
 induction k with
 | zero => intro u i t j h; cases h
 | succ k ih =>
  intro u i t j h; unfold askedLoop at h
  split at h
  ·
   obtain ⟨s, i1, h1, h⟩ := binds h; have e1 := name_eq h1; have e2 := ih _ _ _ _ h; rw [ill_mk, ills_cons, ills_nil] at e2; have hk36 : ∀ n, ar 36 n = 0 := ar_small (by decide); rw [hk36] at e2; omega
  ·
   split at h
   ·
    obtain ⟨ts, i1, h1, h⟩ := binds h; have e1 := list_kw (arg_kw hF d) h1; have e2 := ih _ _ _ _ h; rw [ill_mk, ills_cons] at e2
    have hk35 : ∀ n, ar 35 (n + 1) = 0 := (fun n => by simp [ar, need]); rw [List.length_cons, hk35] at e2; omega
   ·
    cases h; first | omega | (simp [ar, need] <;> omega) | (simp [ar, need] at * <;> omega)
theorem asked_kw (d i : Nat) : Kw i (askedP l F d i) := by
 intro t j h
 unfold askedP at h
 obtain ⟨u, i1, h1, h⟩ := binds h
 have e1 := alone_kw hF d i u i1 h1
 have e2 := askedLoop_kw hF _ _ _ _ _ h
 first | omega | (simp [ar, need] <;> omega) | (simp [ar, need] at * <;> omega)
theorem single_kw (d i : Nat) : Kw i (singleP l F d i) := by
 unfold singleP
 split
 ·
  rename_i hsg
  intro t j h; obtain ⟨u, i1, h1, h⟩ := binds h; cases h; have := deep_kw (l := l) (hF.sg _ _) u _ h1; have h0 := sgP_ar1 hsg; rw [ill_mk, ills_cons, ills_nil]; show ar _ 1 + _ ≤ 0; omega
 ·
  exact asked_kw hF d i
theorem pairLoop_kw {b : Int} {d : Nat} : ∀ k u i t j, pairLoop l F b d k u i = .ok t j → t.ill ≤ u.ill := by
 intro k
 induction k with
 | zero => intro u i t j h; cases h
 | succ k ih =>
  intro u i t j h; unfold pairLoop at h
  split at h
  ·
   cases h; first | omega | (simp [ar, need] <;> omega) | (simp [ar, need] at * <;> omega)
  ·
   rename_i hsg
   split at h
   ·
    cases h; first | omega | (simp [ar, need] <;> omega) | (simp [ar, need] at * <;> omega)
   ·
    obtain ⟨v, i1, h1, h⟩ := binds h; have e1 := hF.pr _ _ _ v i1 h1; have e2 := ih _ _ _ _ h; rw [ill_mk, ills_cons, ills_cons, ills_nil, ar_two _ _ (by simp)] at e2; omega
theorem pair_kw (b : Int) (d i : Nat) : Kw i (pairP l F b d i) := by
 intro t j h
 unfold pairP at h
 obtain ⟨u, i1, h1, h⟩ := binds h
 have e1 := hF.sg _ _ u i1 h1
 have e2 := pairLoop_kw hF _ _ _ _ _ h
 first | omega | (simp [ar, need] <;> omega) | (simp [ar, need] at * <;> omega)
theorem value_kw (d i : Nat) : Kw i (valueP l F d i) := by
 intro t j h
 unfold valueP at h
 obtain ⟨u, i1, h1, h⟩ := binds h
 have e1 := hF.pr _ _ _ u i1 h1
 split at h
 ·
  split at h
  ·
   obtain ⟨v, i2, h2, h⟩ := binds h; cases h; have e2 := deep_kw (l := l) (hF.vl _ _) v _ h2; rw [ill_mk, ills_cons, ills_cons, ills_nil]; first | omega | (simp [ar, need] <;> omega) | (simp [ar, need] at * <;> omega)
  ·
   cases h
 ·
  cases h; exact e1
theorem part_kw (d q i : Nat) : Kw i (partP l F d q i) := by
 intro t j h
 unfold partP at h
 split at h
 ·
  unfold declP at h; obtain ⟨s, i1, h1, h⟩ := binds h; have e1 := name_eq h1
  split at h
  ·
   cases h
  ·
   split at h
   ·
    obtain ⟨v, i2, h2, h⟩ := binds h; obtain ⟨_, i3, h3, h⟩ := binds h; cases h; have e2 := deep_kw (l := l) (hF.vl _ _) v _ h2; have e3 := must_eq h3; rw [ill_mk, ills_cons, ills_nil, hd_kw]; omega
   ·
    obtain ⟨_, i3, h3, h⟩ := binds h; cases h; have e3 := must_eq h3; rw [ill_mk, ills_nil, hd_kw]; omega
 ·
  exact func_kw hF d i t j h
 ·
  have := block_kw hF h; first | omega | (simp [ar, need] <;> omega) | (simp [ar, need] at * <;> omega)
 ·
  obtain ⟨_, i3, h3, h⟩ := binds h; cases h; have e3 := must_eq h3; rw [ill_mk, ills_nil]; first | omega | (simp [ar, need] <;> omega) | (simp [ar, need] at * <;> omega)
 ·
  unfold choiceP at h; obtain ⟨v, i1, h1, h⟩ := binds h; obtain ⟨s, i2, h2, h⟩ := binds h; have e1 := inPar_kw hF d _ v i1 h1; have e2 := deep_kw (l := l) (hF.st _ _) s _ h2
  split at h
  ·
   obtain ⟨s2, i3, h3, h⟩ := binds h; cases h; have e3 := deep_kw (l := l) (hF.st _ _) s2 _ h3; rw [ill_mk, ills_cons, ills_cons, ills_cons, ills_nil, hd_kw]; omega
  ·
   cases h; rw [ill_mk, ills_cons, ills_cons, ills_nil, hd_kw]; omega
 ·
  unfold behindP at h; obtain ⟨v, i1, h1, h⟩ := binds h; obtain ⟨s, i2, h2, h⟩ := binds h; cases h; have e1 := inPar_kw hF d _ v i1 h1; have e2 := deep_kw (l := l) (hF.st _ _) s _ h2
  rw [ill_mk, ills_cons, ills_cons, ills_nil, hd_kw]; omega
 ·
  unfold givingP at h
  split at h
  ·
   obtain ⟨v, i1, h1, h⟩ := binds h; obtain ⟨_, i2, h2, h⟩ := binds h; cases h; have e1 := deep_kw (l := l) (hF.vl _ _) v _ h1; have e2 := must_eq h2; rw [ill_mk, ills_cons, ills_nil, hd_kw]; omega
  ·
   obtain ⟨_, i2, h2, h⟩ := binds h; cases h; have e2 := must_eq h2; rw [ill_mk, ills_nil, hd_kw]; omega
 ·
  unfold attemptP at h; obtain ⟨_, i0, h0, h⟩ := binds h; obtain ⟨b, i1, h1, h⟩ := binds h; obtain ⟨c, i2, h2, h⟩ := binds h; obtain ⟨f, i3, h3, h⟩ := binds h; have e0 := must_eq h0; have e1 := block_kw hF h1
  have e2 : Tr.ills c ≤ 0 := by
   unfold catchP at h2
   split at h2
   ·
    obtain ⟨_, k1, g1, h2⟩ := binds h2; obtain ⟨_, k2, g2, h2⟩ := binds h2; obtain ⟨_, k3, g3, h2⟩ := binds h2; obtain ⟨bb, k4, g4, h2⟩ := binds h2; cases h2; have := must_eq g1; have := name_eq g2; have := must_eq g3
    have := block_kw hF g4; rw [ills_cons, ill_mk, ills_cons, ills_nil]; first | omega | (simp [ar, need] <;> omega) | (simp [ar, need] at * <;> omega)
   ·
    cases h2; rw [ills_nil]; first | omega | (simp [ar, need] <;> omega) | (simp [ar, need] at * <;> omega)
  have e3 : Tr.ills f ≤ 0 := by
   unfold finallyP at h3
   split at h3
   ·
    obtain ⟨bb, k4, g4, h3⟩ := binds h3; cases h3; have := block_kw hF g4; rw [ills_cons, ill_mk, ills_cons, ills_nil]; first | omega | (simp [ar, need] <;> omega) | (simp [ar, need] at * <;> omega)
   ·
    cases h3; rw [ills_nil]; first | omega | (simp [ar, need] <;> omega) | (simp [ar, need] at * <;> omega)
  split at h
  ·
   cases h
  ·
   cases h; rw [ill_mk, ills_cons, ills_app]; first | omega | (simp [ar, need] <;> omega) | (simp [ar, need] at * <;> omega)
theorem statement_kw (d i : Nat) : Kw i (statementP l F d i) := by
 unfold statementP
 split
 ·
  exact part_kw hF d _ i
 ·
  intro t j h; unfold exprP at h; obtain ⟨v, i1, h1, h⟩ := binds h; obtain ⟨_, i2, h2, h⟩ := binds h; cases h; have e1 := deep_kw (l := l) (hF.vl _ _) v _ h1; have e2 := must_eq h2
  rw [ill_mk, ills_cons, ills_nil]; first | omega | (simp [ar, need] <;> omega) | (simp [ar, need] at * <;> omega)
omit hF in
theorem fns_kw : ∀ k, FKw (fns l k) := by
 intro k
 induction k with
 | zero => exact ⟨fun _ _ _ _ h => by (cases h), fun _ _ _ _ h => by (cases h), fun _ _ _ _ _ h => by (cases h), fun _ _ _ _ h => by (cases h)⟩
 | succ k ih => exact ⟨statement_kw ih, value_kw ih, pair_kw ih, single_kw ih⟩
theorem progLoop_kw : ∀ k acc i t j, progLoop l F k acc i = .ok t j → Tr.ills t ≤ Tr.ills acc := by
 intro k
 induction k with
 | zero => intro acc i t j h; cases h
 | succ k ih =>
  intro acc i t j h; unfold progLoop at h
  split at h
  ·
   cases h; first | omega | (simp [ar, need] <;> omega) | (simp [ar, need] at * <;> omega)
  ·
   obtain ⟨u, i1, h1, h⟩ := binds h; have h2 := deep_kw (l := l) (hF.st _ _) u i1 h1; have h4 := ih _ _ _ _ h; rw [ills_app, ills_cons, ills_nil] at h4
   first | omega | (simp [ar, need] <;> omega) | (simp [ar, need] at * <;> omega)
theorem prog_kw {t : Tr} {j : Nat} (h : progP l F = .ok t j) : t.ill ≤ 0 := by
 unfold progP at h
 obtain ⟨ts, i1, h1, h⟩ := binds h
 cases h
 have := progLoop_kw hF _ _ _ _ _ h1
 rw [ills_nil] at this
 rw [code_ill, ill_mk]; first | omega | (simp [ar, need] <;> omega) | (simp [ar, need] at * <;> omega)
end
theorem ills_all : ∀ (ks : List Tr), Tr.ills ks = 0 → ∀ k ∈ ks, k.ill = 0
 | [], _ => fun k hk => absurd hk (by simp)
 | t :: ts, h => fun k hk => by
  rw [ills_cons] at h
  rcases List.mem_cons.1 hk with rfl | hk
  ·
   omega
  ·
   exact ills_all ts (by omega) k hk
theorem ill_of (t : Tr) (h : t.ill = 0) : need t.kd ≤ t.kids.length ∧ ∀ k ∈ t.kids, k.ill = 0 := by
 cases t with
 | mk kd tx n ks =>
  rw [ill_mk] at h; refine ⟨?_, ills_all ks (by omega)⟩; have h1 : ar kd ks.length = 0 := by omega
  unfold ar at h1
  split at h1
  ·
   assumption
  ·
   omega
theorem prog_ill {l : List Tk} {t : Tr} {j k : Nat} (h : progP l (fns l k) = .ok t j) : t.ill = 0 := by
 have h1 : t.ill ≤ 0 := prog_kw (fns_kw k) h
 exact Nat.le_zero.1 h1
theorem parse_ill {ws gs : List ByteArray} {s : ByteArray} {t : Tr} (h : parseS ws gs s = .ok t) : t.ill = 0 := by
 unfold parseS at h
 split at h
 ·
  cases h
 ·
  split at h
  ·
   cases h
  ·
   rename_i l _
   cases hp : progP l (fns l KK) with
   | out => rw [hp] at h; cases h
   | bad er p => rw [hp] at h; cases h
   | ok t2 j =>
    rw [hp] at h; simp only at h
    split at h
    ·
     cases h
    ·
     cases h; exact prog_ill hp
end Go.Proofs.YtodmgaikhbmlnaaGreatDoor
namespace Go.Proofs.YtodmgaikhbmlnaaGreatDoor
open Go.RowKit
def wrT (t : Tr) (s i b : Bool) : Option Int :=
 if t.kd = 1 then scE t true
 else if t.kd = 6 then scE t b
 else if t.kd = 5 ∨ t.kd = 37 then fnE t s
 else if t.kd = 2 ∨ t.kd = 3 ∨ t.kd = 4 then nmE s t.tx
 else if t.kd = 13 then catchE t s
 else if t.kd = 7 ∨ t.kd = 8 ∨ t.kd = 9 then brE t s
 else if t.kd = 10 then (if i then none else some 6)
 else if t.kd = 24 then (if (kidT t 0).kd = 23 then nmE s (kidT t 0).tx else none)
 else if t.kd = 34 then (if s && (kidT t 0).kd == 23 then some 1 else none)
 else none
section
variable (t : Tr) (p : Nat) (s i b : Bool) (w : World) (h : NTr w t p) (hc : t.count ≤ 20000)
include h hc
end
def s2 (t : Tr) (s : Bool) : Bool := if isFunT t then (s || strictT t) || strictT (kidT t 1) else s || strictT t
def i2 (t : Tr) (i : Bool) : Bool := if isFunT t then true else i
mutual
def chk : Tr → Bool → Bool → Bool → Option Int
 | .mk kd tx n ks, s, i, b => match wrT (.mk kd tx n ks) (s2 (.mk kd tx n ks) s) (i2 (.mk kd tx n ks) i) b with
  | some e => some e
  | none => chks ks (s2 (.mk kd tx n ks) s) (i2 (.mk kd tx n ks) i) (isFunT (.mk kd tx n ks))
def chks : List Tr → Bool → Bool → Bool → Option Int
 | [], _, _, _ => none
 | t :: ts, s, i, b => match chk t s i b with
  | some e => some e
  | none => chks ts s i b
end
abbrev PlB (b : Nat) (s i d : Bool) (w : World) : Prop := w.heap[b]? = some (.cells #[.bool s, .bool i, .bool d] 112 (0, 0))
theorem PlB.at {b : Nat} {s i d : Bool} {w : World} (h : PlB b s i d w) : PlAt b s i d w := ⟨by rw [cell_of h]; rfl, by rw [cell_of h]; rfl, by rw [cell_of h]; rfl⟩
def ChkAt (m : Nat) : Prop := ∀ (t : Tr), t.count ≤ m → t.ill = 0 → t.count ≤ 20000 → ∀ (p : Nat) (s i b : Bool) (w : World), NTr w t p →
  Calls Tryz.prog 87 #[nPtr p, plV s i b] w fun e w' => e = .returned (erV (chk t s i b)) ∧ Below w.heap.size w w'
section
variable {m : Nat} (ih : ChkAt m) (t : Tr) (ht : t.count ≤ m + 1) (hill : t.ill = 0) (hc : t.count ≤ 20000) (p : Nat) (i b : Bool) (w : World) (h : NTr w t p)
include ih ht hill hc h
end
theorem nmE_mono {s s' : Bool} {x : ByteArray} (hs : s' = true → s = true) (h : nmE s x = none) : nmE s' x = none := by
 unfold nmE at h ⊢
 cases s' with
 | false => rfl
 | true => rw [hs rfl] at h; exact h
theorem parF_mono {s s' : Bool} {P : List Tr} {k : Nat} (hs : s' = true → s = true) (h : parF s P k = none) : parF s' P k = none := by
 unfold parF at h ⊢
 cases h1 : nmE s (txAt P k) with
 | some e => rw [h1] at h; cases h
 | none =>
  rw [h1] at h; rw [nmE_mono hs h1]
  cases s' with
  | false => rfl
  | true => rw [hs rfl] at h; exact h
theorem firstE_mono {f g : Nat → Option Int} (hfg : ∀ k, f k = none → g k = none) : ∀ n, firstE f n = none → firstE g n = none
 | 0, _ => rfl
 | n + 1, h => by
  rw [firstE] at h ⊢
  cases h1 : firstE f n with
  | some e => rw [h1] at h; cases h
  | none =>
   rw [h1] at h; rw [firstE_mono hfg n h1]; exact hfg n h
theorem fnE_mono {s s' : Bool} {t : Tr} (hs : s' = true → s = true) (h : fnE t s = none) : fnE t s' = none := by
 unfold fnE at h ⊢
 cases h1 : nmE s t.tx with
 | some e => rw [h1] at h; cases h
 | none =>
  rw [h1] at h; rw [nmE_mono hs h1]
  cases h2 : parE s (kidT t 0).kids with
  | some e => simp only [h2] at h; cases h
  | none =>
   simp only [h2] at h; have h3 : parE s' (kidT t 0).kids = none := firstE_mono (fun k => parF_mono hs) _ h2; simp only [h3]; exact h
theorem catchE_mono {s s' : Bool} {t : Tr} (hs : s' = true → s = true) (h : catchE t s = none) : catchE t s' = none := by
 unfold catchE at h ⊢
 cases h1 : nmE s t.tx with
 | some e => rw [h1] at h; cases h
 | none =>
  rw [h1] at h; rw [nmE_mono hs h1]; exact h
theorem brE_mono {s s' : Bool} {t : Tr} (hs : s' = true → s = true) (h : brE t s = none) : brE t s' = none := by
 unfold brE at h ⊢
 cases s' with
 | true => rw [hs rfl] at h; exact h
 | false =>
  split at h
  ·
   cases h
  ·
   rename_i hn
   rw [if_neg]; intro hh; exact hn (by simp at hh ⊢; exact Or.inr hh)
theorem wrT_mono {t : Tr} {s s' i i' b : Bool} (hs : s' = true → s = true) (hi : i = true → i' = true) (h : wrT t s i b = none) : wrT t s' i' b = none := by
 unfold wrT at h ⊢
 split at h
 ·
  rename_i k; rw [if_pos k]; exact h
 rename_i k1; rw [if_neg k1]
 split at h
 ·
  rename_i k; rw [if_pos k]; exact h
 rename_i k2; rw [if_neg k2]
 split at h
 ·
  rename_i k; rw [if_pos k]; exact fnE_mono hs h
 rename_i k3; rw [if_neg k3]
 split at h
 ·
  rename_i k; rw [if_pos k]; exact nmE_mono hs h
 rename_i k4; rw [if_neg k4]
 split at h
 ·
  rename_i k; rw [if_pos k]; exact catchE_mono hs h
 rename_i k5; rw [if_neg k5]
 split at h
 ·
  rename_i k; rw [if_pos k]; exact brE_mono hs h
 rename_i k6; rw [if_neg k6]
 split at h
 ·
  rename_i k
  rw [if_pos k]
  split at h
  ·
   rename_i hh; rw [if_pos (hi hh)]
  ·
   cases h
 rename_i k7; rw [if_neg k7]
 split at h
 ·
  rename_i k
  rw [if_pos k]
  split at h
  ·
   rename_i hh; rw [if_pos hh]; exact nmE_mono hs h
  ·
   rename_i hh; rw [if_neg hh]
 rename_i k8; rw [if_neg k8]
 split at h
 ·
  rename_i k
  rw [if_pos k]
  cases s' with
  | false => rfl
  | true => rw [hs rfl] at h; exact h
 ·
  rename_i k; rw [if_neg k]
theorem s2_mono {t : Tr} {s s' : Bool} (hs : s' = true → s = true) : s2 t s' = true → s2 t s = true := by
 unfold s2
 cases s' with
 | false => cases s <;> cases isFunT t <;> simp <;> exact fun h => h
 | true => rw [hs rfl]; exact fun h => h
theorem i2_mono {t : Tr} {i i' : Bool} (hi : i = true → i' = true) : i2 t i = true → i2 t i' = true := by
 unfold i2
 cases isFunT t with
 | true => exact fun h => h
 | false => exact hi
mutual
theorem chk_mono : ∀ (t : Tr) {s s' i i' b : Bool}, (s' = true → s = true) → (i = true → i' = true) → chk t s i b = none → chk t s' i' b = none
 | .mk kd tx n ks, s, s', i, i', b, hs, hi, h => by
  rw [chk] at h ⊢
  cases h1 : wrT (.mk kd tx n ks) (s2 (.mk kd tx n ks) s) (i2 (.mk kd tx n ks) i) b with
  | some e => rw [h1] at h; cases h
  | none =>
   rw [h1] at h; rw [wrT_mono (s2_mono hs) (i2_mono hi) h1]; exact chks_mono ks (s2_mono hs) (i2_mono hi) h
theorem chks_mono : ∀ (ts : List Tr) {s s' i i' b : Bool}, (s' = true → s = true) → (i = true → i' = true) → chks ts s i b = none → chks ts s' i' b = none
 | [], _, _, _, _, _, _, _, _ => by rw [chks]
 | t :: ts, s, s', i, i', b, hs, hi, h => by
  rw [chks] at h ⊢
  cases h1 : chk t s i b with
  | some e => rw [h1] at h; cases h
  | none =>
   rw [h1] at h; rw [chk_mono t hs hi h1]; exact chks_mono ts hs hi h
end
end Go.Proofs.YtodmgaikhbmlnaaGreatDoor
