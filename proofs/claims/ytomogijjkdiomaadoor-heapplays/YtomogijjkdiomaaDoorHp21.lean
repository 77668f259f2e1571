/-
  The document's own heap: Drop.
-/
import Derived.Test.YtomogijjkdiomaaDoorHp20
set_option maxRecDepth 100000
set_option maxHeartbeats 16000000
namespace Go.Proofs.YtomogijjkdiomaaDoor
open Go.RowKit

section
variable {R : Nat} {w w1 : World} {M : Mo} {cv pv rv : Value} {ps rs : List Value} {K : Nat}
set_option maxRecDepth 100000
set_option maxHeartbeats 1000000
theorem fm_drop {α : Type} {f : α → List Value} {s : Nat} (hf : ∀ a, (f a).length = s) : ∀ (l : List α) (m j : Nat), (l.flatMap f)[m * s + j]? = ((l.drop m).flatMap f)[j]?
  | [], m, j => by simp
  | a :: l, 0, j => by simp
  | a :: l, m + 1, j => by
    have h := fm_drop hf l m j
    rw [List.flatMap_cons, show (m + 1) * s + j = (f a).length + (m * s + j) by rw [hf, Nat.add_mul]; omega, List.getElem?_append_right (by omega), Nat.add_sub_cancel_left, h, List.drop_succ_cons]
theorem ce_ones (l : List Ce) : ∀ u ∈ l.flatMap Ce.r, u.oneCell' = true := by
  intro u hu
  obtain ⟨c, _, hc⟩ := List.mem_flatMap.1 hu
  simp [Ce.r] at hc
  rcases hc with rfl | rfl | rfl | rfl <;> rfl
theorem run_app_zero {P : Program} {w : World} (base : Nat) (t ty e : TypeId) (i : TypeInfo) (size : Nat) (ht : P.underlying t = some (.slice e)) (hi : P.info? e = some i)
    (v : Value) (n : Nat) (xs : List Value) (hown : w.ownsRow base e size v n xs) (ad : Option Addr) (k : Nat) :
    (Builtin.append_ #[t, t] ty #[v, .slice ad 0 k]).run P w = .ok v w := by
  cases ad <;> rcases hown.2 with ⟨rfl, rfl⟩ | ⟨g, cap, cur, rfl, _, _, hnc, _⟩ <;>
    simp [Builtin.append_, run_underlying ht, sizeOf, typeInfo, Builtin.lenOf, Builtin.firstCells, loadCells, loadCellsFrom, storeCells, *]
/-- append of a row that may be empty. -/
theorem step_app_any {P : Program} (w : World) {ops : Array Oper} {o : Oper} {a : Act} {K : Act → World → Prop} {Q : Exit → Act → World → Prop} {E : Prop} (hgd : o.guard = none) (s x : Operand) (t : TypeId)
    (ho : o.op = .call { callee := .builtin .append, args := #[s, x], argTypes := #[t, t] })
    (base : Nat) (e : TypeId) (i : TypeInfo) (z : Value) (size bytes : Nat) (ht : P.underlying t = some (.slice e)) (hi : P.info? e = some i) (hz : i.zero = some z)
    (hsize : i.size = size) (hby : i.bytes = bytes) (hzs : z.cells.size = size) (hsz : 0 < size)
    (v : Value) (n : Nat) (xs : List Value) (gv capv : Nat) (hs : a.eval s = v) (hv : v = .slice (some ⟨gv, 0, none⟩) n capv) (hown : w.ownsRow base e size v n xs)
    (ad : Option Addr) (m c : Nat) (news : List Value) (hx : a.eval x = .slice ad m c) (hl : news.length = m * size) (hsrc : m = 0 ∨ ∃ ad', ad = some ad' ∧ ∀ j u, news[j]? = some u → w.cell? (ad'.add j) = some u) (h1 : ∀ u ∈ news, u.oneCell' = true)
    (h63 : n + m ≤ maxLen) (hbytes : (n + m) * bytes ≤ 140737488355328) (hbase : base ≤ w.heap.size)
    (h : ∀ g cap w', w'.ownsRow base e size (.slice (some ⟨g, 0, none⟩) (n + m) cap) (n + m) (xs ++ news) → w.grownBy w' v.ownBlock → (v.ownBlock = some g ∨ g = w.heap.size) → K (a.put o.dst (.slice (some ⟨g, 0, none⟩) (n + m) cap)) w') :
    if Region.wanted o (yielded ops a.tmps) = true then Oper.wp P o a w K Q else E := by
  rcases Nat.eq_zero_or_pos m with rfl | hm
  · have hnews : news = [] := List.length_eq_zero_iff.1 (by rw [hl]; simp)
    subst hnews
    have hw : Region.wanted o (yielded ops a.tmps) = true := by simp [Region.wanted, hgd]
    rw [if_pos hw]
    have hrun := run_app_zero (P := P) (w := w) base t o.type e i size ht hi v n xs hown ad c
    have hk := h gv capv w (by rw [List.append_nil]; rw [hv] at hown; exact hown) ⟨rfl, rfl, rfl, Nat.le_refl _, fun _ _ _ => rfl⟩ (.inl (by rw [hv]; rfl))
    rw [show (Value.slice (some ⟨gv, 0, none⟩) (n + 0) capv) = v by rw [hv]; rfl] at hk
    unfold Oper.wp
    simp [execOp, ho, resolve, invoke, builtin, hs, hx, hrun, Result.andThen]
    exact hk
  · rcases hsrc with h0 | ⟨ad', rfl, hnews⟩
    · omega
    exact step_append_lies w hgd s x t ho base e i z size bytes ht hi hz hsize hby hzs hsz v n xs hs hown ad' m c news hx hl hnews h1 hm h63 hbytes hbase w.heap.size rfl (fun g cap w' a b c _ => h g cap w' a b c)
theorem wrap_k1 {k : Nat} (h : k ≤ 100000) : IntKind.i64.wrap ((k : Int) + 1) = (k : Int) + 1 := by
  simp [IntKind.wrap, IntKind.bits, IntKind.signed]
  omega
theorem addr_add (b o j : Nat) : (⟨b, o, none⟩ : Addr).add j = ⟨b, o + j, none⟩ := by
  unfold Addr.add
  split <;> simp_all
theorem rdrop_no (h : WP R w M cv pv rv ps rs) (hs : M.Small K) (hK : K ≤ 1000) (ho : M.Ok) (s : Int) (nm : ByteArray) (hh : M.has s nm = false) :
    Calls Tryd.prog 19 #[.pointer (some ⟨R, 0, none⟩), .int .i64 s, .string nm] w fun e w' => e = .returned (.bool true) ∧ Below w.heap.size w w' := by
  have HS := hide (rhas_any h hs hK ho s nm)
  rw [hh] at HS
  clear h hs ho hh
  go_enter Tryd.func19, Tryd.ntmps19
  go_wp2_with fail
  refine Calls.mono HS.out ?_
  rintro e w2 ⟨rfl, hb⟩
  have HB := hide hb
  clear hb
  go_wp2_with fail
  go_ret
  exact ⟨rfl, HB.out⟩
theorem rdrop_prop (h : WP R w M cv pv rv ps rs) (hs : M.Small K) (hK : K ≤ 1000) (ho : M.Ok) (i : Nat) (y : Ro) (hi : M.rooms[i]? = some y) (nm : ByteArray) (hc : M.cel i nm = none) (hh : M.has i nm = true) (b : Bool) (M' : Mo)
    (hR : ∀ W, Below w.heap.size w W → Calls Tryd.prog 11 #[.pointer (some ⟨R, 0, none⟩), .int .i64 y.object, .string nm] W fun e w' => e = .returned (.bool b) ∧ HeapR R w' M' ∧ FrT Tr R W w') :
    Calls Tryd.prog 19 #[.pointer (some ⟨R, 0, none⟩), .int .i64 (i : Int), .string nm] w fun e w' => e = .returned (.bool b) ∧ HeapR R w' M' ∧ FrT Tr R w w' := by
  have HS := hide (rhas_any h hs hK ho i nm)
  rw [hh] at HS
  have HC : Hid (∀ W, Below w.heap.size w W → Calls Tryd.prog 47 #[.pointer (some ⟨R, 0, none⟩), .int .i64 (i : Int), .string nm] W fun e w' => e = .returned (.int .i64 (-1)) ∧ Below W.heap.size W w') := fun W hW => by
    have := rcell_any (h.later hW) hs hK ho i nm
    rw [plc_none hc] at this
    exact this
  have HP_ := hide hR
  have HH := hide h
  have HI := hide hi
  have HLR := hide (lt_of_block h.blk)
  clear h hs ho hi hc hh hR
  go_enter Tryd.func19, Tryd.ntmps19
  go_wp2_with fail
  refine Calls.mono HS.out ?_
  rintro e w2 ⟨rfl, hb⟩
  have HB := hide hb
  clear hb
  go_wp2_with fail
  refine Calls.mono (HC.out _ HB.out) ?_
  rintro e w3 ⟨rfl, hb3⟩
  have HB3 := hide (HB.out.trans (hb3.mono HB.out.size))
  clear hb3
  obtain ⟨h0, h1, h2, hl⟩ := (HH.out.later HB3.out).c
  obtain ⟨g, cap, v, rfl, hlt, hv, c0, c1, c2, hrow, hg, hB, hfz⟩ := rroom (HH.out.later HB3.out) HI.out
  clear hrow hv hfz
  go_wp2_with fail
  refine Calls.mono (HP_.out _ HB3.out) ?_
  rintro e w4 ⟨rfl, hh4, hf4⟩
  have HF := hide ((FrT.of HB3.out (Nat.le_of_lt HLR.out)).trans hf4)
  have H4 := hide hh4
  clear hh4 hf4 h0 h1 h2 c0 c1 c2
  go_wp2_with fail
  go_ret
  exact ⟨rfl, H4.out, HF.out⟩
theorem rdrop_kind (h : WP R w M cv pv rv ps rs) (hs : M.Small K) (hK : K ≤ 1000) (ho : M.Ok) (i : Nat) (x : Ro) (hi : M.rooms[i]? = some x) (nm : ByteArray) (k : Nat) (c : Ce) (hk : fC nm x.cs = some k) (hc : x.cs[k]? = some c) (q4 : c.kind ≠ 4) :
    Calls Tryd.prog 19 #[.pointer (some ⟨R, 0, none⟩), .int .i64 (i : Int), .string nm] w fun e w' => e = .returned (.bool false) ∧ Below w.heap.size w w' := by
  have HS := hide (rhas_any h hs hK ho i nm)
  rw [show M.has i nm = true by simp [Mo.has, cel_of hi hk hc]] at HS
  have HC : Hid (∀ W, Below w.heap.size w W → Calls Tryd.prog 47 #[.pointer (some ⟨R, 0, none⟩), .int .i64 (i : Int), .string nm] W fun e w' => e = .returned (.int .i64 (k : Int)) ∧ Below W.heap.size W w') := fun W hW => by
    have := rcell_any (h.later hW) hs hK ho i nm
    rw [plc_of hi hk] at this
    exact this
  have HH := hide h
  have HI := hide hi
  have HCC := hide hc
  have HLR := hide (lt_of_block h.blk)
  have HLEN := hide (hs.cs x (List.mem_of_getElem? hi))
  have hk0 : ¬ (k : Int) < 0 := by omega
  clear h hs ho hi hc hk
  go_enter Tryd.func19, Tryd.ntmps19
  go_wp2_with fail
  refine Calls.mono HS.out ?_
  rintro e w2 ⟨rfl, hb⟩
  have HB := hide hb
  clear hb
  go_wp2_with fail
  refine Calls.mono (HC.out _ HB.out) ?_
  rintro e w3 ⟨rfl, hb3⟩
  have HB3 := hide (HB.out.trans (hb3.mono HB.out.size))
  clear hb3
  have HH3 := hide (HH.out.later HB3.out)
  obtain ⟨h0, h1, h2, hl⟩ := HH3.out.c
  obtain ⟨g, cap, v, rfl, hlt, hv, c0, c1, c2, hrow, hg, hB, hfz⟩ := rroom HH3.out HI.out
  have hkl : k < x.cs.length := (List.getElem?_eq_some_iff.1 HCC.out).1
  rcases row_form hrow with ⟨rfl, hn⟩ | ⟨gb, capb, rfl⟩
  · omega
  have d2 := ratC hrow HCC.out rfl 2 _ rfl
  have hgb := (hrow.lt gb rfl).2
  have hfb := hrow.frozenAt
  have HROW := hide hrow
  have HV := hide hv
  have HFZ := hide hfz
  clear hrow hv hfz
  skip
  go_wp2_with fail
  go_ret
  exact ⟨rfl, HB3.out⟩
theorem rdrop_ok (h : WP R w M cv pv rv ps rs) (hs : M.Small K) (hK : K ≤ 1000) (ho : M.Ok) (i : Nat) (x : Ro) (hi : M.rooms[i]? = some x) (nm : ByteArray) (k : Nat) (c : Ce) (hk : fC nm x.cs = some k) (hc : x.cs[k]? = some c) (q4 : c.kind = 4) :
    Calls Tryd.prog 19 #[.pointer (some ⟨R, 0, none⟩), .int .i64 (i : Int), .string nm] w fun e w' => e = .returned (.bool true) ∧ (∃ rs', WP R w' (M.setRo i ⟨x.outer, x.object, x.cs.eraseIdx k⟩) cv pv rv ps rs') ∧ FrT Tr R w w' := by
  have HS := hide (rhas_any h hs hK ho i nm)
  rw [show M.has i nm = true by simp [Mo.has, cel_of hi hk hc]] at HS
  have HC : Hid (∀ W, Below w.heap.size w W → Calls Tryd.prog 47 #[.pointer (some ⟨R, 0, none⟩), .int .i64 (i : Int), .string nm] W fun e w' => e = .returned (.int .i64 (k : Int)) ∧ Below W.heap.size W w') := fun W hW => by
    have := rcell_any (h.later hW) hs hK ho i nm
    rw [plc_of hi hk] at this
    exact this
  have HH := hide h
  have HI := hide hi
  have HCC := hide hc
  have HLR := hide (lt_of_block h.blk)
  have HLEN := hide (hs.cs x (List.mem_of_getElem? hi))
  have hk0 : ¬ (k : Int) < 0 := by omega
  clear h hs ho hi hc hk
  go_enter Tryd.func19, Tryd.ntmps19
  go_wp2_with fail
  refine Calls.mono HS.out ?_
  rintro e w2 ⟨rfl, hb⟩
  have HB := hide hb
  clear hb
  go_wp2_with fail
  refine Calls.mono (HC.out _ HB.out) ?_
  rintro e w3 ⟨rfl, hb3⟩
  have HB3 := hide (HB.out.trans (hb3.mono HB.out.size))
  clear hb3
  have HH3 := hide (HH.out.later HB3.out)
  obtain ⟨h0, h1, h2, hl⟩ := HH3.out.c
  obtain ⟨g, cap, v, rfl, hlt, hv, c0, c1, c2, hrow, hg, hB, hfz⟩ := rroom HH3.out HI.out
  have hkl : k < x.cs.length := (List.getElem?_eq_some_iff.1 HCC.out).1
  rcases row_form hrow with ⟨rfl, hn⟩ | ⟨gb, capb, rfl⟩
  · omega
  have d2 := ratC hrow HCC.out rfl 2 _ rfl
  have hgb := (hrow.lt gb rfl).2
  have hfb := hrow.frozenAt
  have HROW := hide hrow
  have HV := hide hv
  have HFZ := hide hfz
  clear hrow hv hfz
  rw [q4] at d2
  go_wp2_with fail
  have hcap : x.cs.length ≤ capb := by
    rcases HROW.out.2 with ⟨h', _⟩ | ⟨g', cap', cur, h', _, _, hn, _⟩
    · simp at h'
    · simp only [Value.slice.injEq, Option.some.injEq, Addr.mk.injEq, and_true, true_and] at h'
      obtain ⟨rfl, rfl⟩ := h'
      exact hn
  have hkn : k + 1 ≤ x.cs.length := hkl
  have hln : x.cs.length ≤ 1000 := Nat.le_trans HLEN.out hK
  have hmx : capb ≤ maxLen := by
    rcases HROW.out.2 with ⟨h', _⟩ | ⟨g', cap', cur, h', _, _, hn, hm, _⟩
    · simp at h'
    · simp only [Value.slice.injEq, Option.some.injEq, Addr.mk.injEq, and_true, true_and] at h'
      obtain ⟨rfl, rfl⟩ := h'
      exact hm
  obtain ⟨ii, hi0, hz0, hz1, hz2⟩ := info_parts info100
  have hRw : R < w3.heap.size := hl
  have HC2 := hide c2
  have HS3 := hide h2
  obtain ⟨sv, hsv⟩ : ∃ sv, sv = Value.slice (if capb = k + 1 then some ⟨gb, 0, none⟩ else some ⟨gb, (k + 1) * 4, none⟩) (x.cs.length - (k + 1)) (capb - (k + 1)) := ⟨_, rfl⟩
  refine wp_region_held (S := fun W => W.cell? ⟨R, 2, none⟩ = some (.slice (some ⟨g, 0, none⟩) M.rooms.length cap)) (by kernel_rfl) ?_
  change wpAnyH _ _ _ _ _ _ _ _ (World.drew _)
  have HS : Hid (w3.drew.cell? ⟨R, 2, none⟩ = some (.slice (some ⟨g, 0, none⟩) M.rooms.length cap)) := h2
  refine wh 0 (.pointer (some ⟨R, 0, none⟩)) HS.out ?_
  refine wh 1 (.pointer (some ⟨R, 0, none⟩)) HS.out ?_
  refine wh 2 (.pointer (some ⟨R, 2, none⟩)) HS.out ?_
  refine wg 3 (.slice (some ⟨g, 0, none⟩) M.rooms.length cap) rfl (Or.inl ⟨by kernel_rfl, fun W hW => by go_simp⟩) HS.out ?_
  refine wh 4 (.int .i64 (i : Int)) HS.out ?_
  refine wh 6 (.slice (some ⟨gb, 0, none⟩) x.cs.length capb) HS.out ?_
  refine wh 7 (.int .i64 (k : Int)) HS.out ?_
  refine wg 8 (.slice (some ⟨gb, 0, none⟩) k capb) rfl (Or.inl ⟨by kernel_rfl, fun W hW => by go_simp; exact fun h => absurd h (by omega)⟩) HS.out ?_
  refine wh 10 (.slice (some ⟨gb, 0, none⟩) x.cs.length capb) HS.out ?_
  refine wh 11 (.int .i64 (k : Int)) HS.out ?_
  refine wg 12 (.int .i64 ((k + 1 : Nat) : Int)) rfl (Or.inl ⟨by kernel_rfl, fun W hW => by go_simp; exact wrap_k1 (by omega)⟩) HS.out ?_
  refine wg 13 sv rfl (Or.inl ⟨by kernel_rfl, fun W hW => by rw [hsv]; go_simp; all_goals (intro h; exact absurd (h (by omega)) (by omega))⟩) HS.out ?_
  refine wq1 5 fun K hK => ?_
  go_simp
  have HSA : Hid ((w3.alloc (.cells #[] 100)).drew.cell? ⟨R, 2, none⟩ = some (.slice (some ⟨g, 0, none⟩) M.rooms.length cap)) := by show (w3.alloc (.cells #[] 100)).cell? _ = _; rw [World.cell?_alloc_past _ _ _ (by exact hl)]; exact h2
  refine hK.out _ _ HSA.out (fun _ => ?_)
  clear hK K
  obtain ⟨W4, hW4⟩ : ∃ W4, W4 = (w3.alloc (.cells #[] 100)).drew := ⟨_, rfl⟩
  have hb4 : Below w3.heap.size w3 W4 := by rw [hW4]; exact ((Below.refl _ _).alloc (Nat.le_refl _) _).drew
  have how4 : W4.ownsRow w3.heap.size 100 4 (.slice (some ⟨w3.heap.size, 0, none⟩) 0 0) 0 [] := by rw [hW4]; exact (World.ownsRow_lit w3 #[] 0 (Nat.le_refl _) (by decide) rfl).drew
  have hrow4 := row_later HROW.out hb4
  rw [← hW4] at HSA ⊢
  refine wq1 9 fun K hK => ?_
  refine step_app_any _ rfl _ _ 40 rfl w3.heap.size 100 ii _ 4 40 Tryd.underlying40 hi0 hz0 hz1 hz2 rfl (by decide) (.slice (some ⟨w3.heap.size, 0, none⟩) 0 0) 0 [] w3.heap.size 0 rfl rfl how4 _ k _ ((x.cs.take k).flatMap Ce.r) rfl (by rw [fm_len (s := 4) (fun _ => rfl), List.length_take, Nat.min_eq_left (by omega)]) (.inr ⟨⟨gb, 0, none⟩, rfl, fun j u hj => ?_⟩) (ce_ones _) (by unfold maxLen; omega) (by omega) hb4.size ?_
  · rw [← fm_take (s := 4) (fun _ => rfl), List.getElem?_take] at hj
    split at hj
    · rw [addr_add, Nat.zero_add, hrow4.cellAt j (by omega)]
      exact hj
    · cases hj
  intro g5 cap5 w5 hown5 hgr5 hg5
  have hS5 : w5.cell? ⟨R, 2, none⟩ = some (.slice (some ⟨g, 0, none⟩) M.rooms.length cap) := (World.cell?_of_block (w := W4) (a := ⟨R, 2, none⟩) (hgr5.block R (by have := hb4.size; omega) (fun e => by simp [Value.ownBlock] at e; omega))).trans HSA.out
  have hb5 : Below w3.heap.size w3 w5 := hb4.grown hgr5 hb4.size (fun k hk => by simp [Value.ownBlock] at hk; omega)
  refine hK.out _ _ hS5 (fun _ => ?_)
  clear hK K
  have hrow5 := row_later HROW.out hb5
  refine wq1 14 fun K hK => ?_
  refine step_app_any _ rfl _ _ 40 rfl w3.heap.size 100 ii _ 4 40 Tryd.underlying40 hi0 hz0 hz1 hz2 rfl (by decide) (.slice (some ⟨g5, 0, none⟩) (0 + k) cap5) (0 + k) _ g5 cap5 rfl rfl hown5 _ (x.cs.length - (k + 1)) _ ((x.cs.drop (k + 1)).flatMap Ce.r) rfl (by rw [fm_len (s := 4) (fun _ => rfl), List.length_drop]) ?_ (ce_ones _) (by unfold maxLen; omega) (by omega) hb5.size ?_
  · by_cases hlast : x.cs.length = k + 1
    · left; omega
    · right
      refine ⟨⟨gb, (k + 1) * 4, none⟩, by rw [if_neg (by omega)], fun j u hj => ?_⟩
      rw [addr_add]
      have hjl : j < (x.cs.length - (k + 1)) * 4 := by
        have := (List.getElem?_eq_some_iff.1 hj).1
        rwa [fm_len (s := 4) (fun _ => rfl), List.length_drop] at this
      rw [hrow5.cellAt _ (by omega)]
      rw [← hj]
      exact fm_drop (s := 4) (fun _ => rfl) x.cs (k + 1) j
  intro g6 cap6 w6 hown6 hgr6 hg6
  have hg6' : ∀ q, Value.ownBlock (.slice (some ⟨g6, 0, none⟩) (0 + k + (x.cs.length - (k + 1))) cap6) = some q → (w3.heap.size ≤ q) := fun q hq => (hown6.lt q hq).1
  have hb6 : Below w3.heap.size w3 w6 := hb5.grown hgr6 hb5.size (fun k hk => (hown5.lt k hk).1)
  have hS6 : w6.cell? ⟨R, 2, none⟩ = some (.slice (some ⟨g, 0, none⟩) M.rooms.length cap) := (World.cell?_of_block (w := w5) (a := ⟨R, 2, none⟩) (hgr6.block R (by have := hb5.size; omega) (fun e => by have := (hown5.lt R e.symm).1; omega))).trans hS5
  have kg1 : w6.cell? ⟨g, i * 3 + 2, none⟩ = some (.slice (some ⟨gb, 0, none⟩) x.cs.length capb) := (cell_below hb6 (a := ⟨g, i * 3 + 2, none⟩) hg).trans c2
  have kg2 : w6.frozen? ⟨g, i * 3 + 2, none⟩ = false := (World.frozen?_of_block (w := w3) (a := ⟨g, i * 3 + 2, none⟩) (hb6.block g hg)).trans (HFZ.out _)
  have hel : (x.cs.eraseIdx k).length = 0 + k + (x.cs.length - (k + 1)) := by rw [List.length_eraseIdx, if_pos hkl]; omega
  have HZ := hide (HH3.out.growC (x' := ⟨x.outer, x.object, x.cs.eraseIdx k⟩) HI.out HV.out rfl (w1 := w6) ⟨hb6.os, hb6.tape, hb6.output, hb6.size, fun j hj _ => hb6.block j hj⟩ (v' := .slice (some ⟨g6, 0, none⟩) (0 + k + (x.cs.length - (k + 1))) cap6) (by
    show w6.ownsRow R 100 4 _ (x.cs.eraseIdx k).length ((x.cs.eraseIdx k).flatMap Ce.r)
    rw [hel, List.eraseIdx_eq_take_drop_succ, List.flatMap_append]
    exact row_base (by simpa using hown6) (Nat.le_of_lt hl)) (fun q hq => .inr (hg6' q hq)) ⟨rfl, rfl⟩)
  have hRg : R ≠ g := by
    obtain ⟨cd, hcd⟩ := row_tag HH3.out.ro.row (k := g) rfl
    exact tags_ne HH3.out.blk hcd (by decide)
  refine hK.out _ _ hS6 (fun _ => ?_)
  clear hK K hgr5 hown5 hgr6 hown6 hg5 hg6 hg6' hrow4 hrow5 how4 c2 hel
  refine wh 15 (.pointer (some ⟨g, i * 3, none⟩)) hS6 ?_
  refine wh 16 (.pointer (some ⟨g, i * 3 + 2, none⟩)) hS6 ?_
  refine wq1 17 fun K hK => ?_
  go_simp
  refine hK.out _ _ (by show World.cell? _ _ = _; rw [World.cell?_setCell_far _ _ _ _ (by exact hRg.symm)]; exact hS6) (fun _ => ?_)
  clear hK K
  refine wpAnyH_done (by kernel_rfl) ?_ _
  go_simp
  rw [Nat.zero_add] at HZ
  go_wp2_with fail
  all_goals go_ret
  all_goals exact ⟨rfl, ⟨_, HZ.out.1⟩, (FrT.of HB3.out (Nat.le_of_lt HLR.out)).trans HZ.out.2⟩
end
end Go.Proofs.YtomogijjkdiomaaDoor
