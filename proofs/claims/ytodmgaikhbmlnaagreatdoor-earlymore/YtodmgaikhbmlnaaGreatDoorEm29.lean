/-
  Names of a node.
-/
import Derived.Test.YtodmgaikhbmlnaaGreatDoorEm28
set_option maxRecDepth 100000
set_option maxHeartbeats 16000000
namespace Go.Proofs.YtodmgaikhbmlnaaGreatDoor
open Go.RowKit

theorem run_app_none {P : Program} {w : World} (base : Nat) (t ty e : TypeId) (i : TypeInfo) (size : Nat) (ht : P.underlying t = some (.slice e)) (hi : P.info? e = some i)
    (v : Value) (n : Nat) (xs : List Value) (hown : w.ownsRow base e size v n xs) (ad : Option Addr) (k : Nat) :
    (Builtin.append_ #[t, t] ty #[v, .slice ad 0 k]).run P w = .ok v w := by
  cases ad <;> rcases hown.2 with ⟨rfl, rfl⟩ | ⟨g, cap, cur, rfl, _, _, hnc, _⟩ <;>
    simp [Builtin.append_, run_underlying ht, sizeOf, typeInfo, Builtin.lenOf, Builtin.firstCells, loadCells, loadCellsFrom, storeCells, *]

/-- append of a row that may be empty to a row that may be empty. -/
theorem wpList_app_row {P : Program} {w : World} {ops : Array Oper} {rest : List Oper} {o : Oper} {a : Act} {Q : Exit → Act → World → Prop} (hgd : o.guard = none) (s x : Operand) (t : TypeId)
    (ho : o.op = .call { callee := .builtin .append, args := #[s, x], argTypes := #[t, t] })
    (base B2 : Nat) (e : TypeId) (i : TypeInfo) (z : Value) (bytes : Nat) (ht : P.underlying t = some (.slice e)) (hi : P.info? e = some i) (hz : i.zero = some z)
    (hsize : i.size = 1) (hby : i.bytes = bytes) (hzs : z.cells.size = 1)
    (v : Value) (n : Nat) (xs : List Value) (hs : a.eval s = v) (hown : w.ownsRow base e 1 v n xs)
    (v2 : Value) (m : Nat) (news : List Value) (hx : a.eval x = v2) (hown2 : w.ownsRow B2 e 1 v2 m news) (h1 : ∀ u ∈ news, u.oneCell' = true)
    (h63 : n + m ≤ maxLen) (hbytes : (n + m) * bytes ≤ 140737488355328) (hbase : base ≤ w.heap.size)
    (h : ∀ v' w', w'.ownsRow base e 1 v' (n + m) (xs ++ news) → w.grownBy w' v.ownBlock → wpList P ops Q rest (a.put o.dst v') w') : wpList P ops Q (o :: rest) a w := by
  rcases Nat.eq_zero_or_pos m with rfl | hm
  · have hnews : news = [] := List.length_eq_zero_iff.1 (by rw [hown2.1])
    subst hnews
    obtain ⟨ad, k, rfl⟩ := srow_form hown2
    have hk := h v w (by rw [List.append_nil]; exact hown) ⟨rfl, rfl, rfl, Nat.le_refl _, fun _ _ _ => rfl⟩
    refine wpList_plain hgd fun K hK => ?_
    have hrun := run_app_none (P := P) (w := w) base t o.type e i 1 ht hi v n xs hown ad k
    unfold Oper.wp
    simp [execOp, ho, resolve, invoke, builtin, hs, hx, hrun, Result.andThen]
    exact hK _ _ hk
  · obtain ⟨g, cap, rfl, _, _⟩ := hown2.form hm
    refine wpList_append_lies w hgd s x t ho base e i z 1 bytes ht hi hz hsize hby hzs (by decide) v n xs hs hown ⟨g, 0, none⟩ m cap news hx hown2.1 (fun j u hj => ?_) h1 hm h63 hbytes hbase _ rfl (fun g' cap' w' a b _ _ => h _ _ a b)
    have hl : j < m * 1 := by
      rw [← hown2.1]
      exact (List.getElem?_eq_some_iff.1 hj).1
    have h4 : (⟨g, 0, none⟩ : Addr).add j = ⟨g, j, none⟩ := by simp [Addr.add]; exact Eq.symm
    rw [h4, hown2.cellAt j hl]
    exact hj

def namesT (t : Tr) (body : Bool) : List ByteArray := onceL ((if body then varsT t else []) ++ (fnsT t).map Tr.tx ++ (letsT t).map Tr.tx)
theorem fns_len (t : Tr) : (fnsT t).length ≤ t.kids.length := List.length_filter_le _ _
theorem lets_len (t : Tr) : (letsT t).length ≤ t.kids.length := List.length_filter_le _ _
theorem vars_len (t : Tr) : (varsT t).length ≤ Tr.counts t.kids := Nat.le_trans (once_len _) (vws_len _)

theorem names_any (t : Tr) (p : Nat) (body : Bool) (w : World) (h : NTr w t p) (hc : t.count ≤ 20000) :
    Calls Tryz.prog 35 #[nPtr p, .bool body] w fun e w' => (∃ u, e = .returned u ∧ SRow w.heap.size w' u (namesT t body)) ∧ Below w.heap.size w w' := by
  obtain ⟨i0, hi0, hz0, hz1, hz2⟩ := info_parts info9
  have htc : t.count = 1 + Tr.counts t.kids := by cases t with | mk kd tx nn ks => exact count_mk _ _ _ _
  have hkl : t.kids.length ≤ 20000 := by have := counts_len t.kids; omega
  have hfl := fns_len t
  have hll := lets_len t
  have hvl := vars_len t
  have HN0 := hide h
  unfold namesT
  obtain ⟨F, hF⟩ : ∃ F, F = (fnsT t).map Tr.tx := ⟨_, rfl⟩
  have hFl : F.length ≤ 20000 := by rw [hF, List.length_map]; omega
  obtain ⟨G, hG⟩ : ∃ G, G = (letsT t).map Tr.tx := ⟨_, rfl⟩
  have hGl : G.length ≤ 20000 := by rw [hG, List.length_map]; omega
  rw [← hF, ← hG]
  have HFF := hide hF
  have HGG := hide hG
  clear hF hG
  cases body with
  | true =>
    have HC0 := hide (vars_any t p w h (by omega))
    clear h
    simp only [if_true]
    obtain ⟨V, hV⟩ : ∃ V, V = varsT t := ⟨_, rfl⟩
    have hVl : V.length ≤ 20000 := by rw [hV]; omega
    rw [← hV] at HC0 ⊢
    clear hV htc hvl
    obtain ⟨VF, hVF⟩ : ∃ VF, VF = V ++ F := ⟨_, rfl⟩
    obtain ⟨VFG, hVFG⟩ : ∃ VFG, VFG = VF ++ G := ⟨_, rfl⟩
    rw [← hVF, ← hVFG]
    have hvf : VF.length ≤ 40000 := by rw [hVF, List.length_append]; omega
    have hvfg : VFG.length ≤ 60000 := by rw [hVFG, List.length_append]; omega
    have HVF := hide hVF
    have HVFG := hide hVFG
    clear hVF hVFG
    go_enter Tryz.func35, Tryz.ntmps35
    go_wp2_with fail
    refine Calls.mono HC0.out ?_
    rintro e w1 ⟨⟨u1, rfl, hr1⟩, hb1⟩
    obtain ⟨a1, c1, rfl⟩ := srow_form hr1
    have HB1 := hide hb1
    have HN1 := hide ((unhide HN0).later hb1)
    have HV1 := hide hr1
    clear HC0 hr1 hb1
    have HC := hide (funcs_any t p w1 (unhide HN1) (by omega))
    go_wp2_with fail
    refine Calls.mono HC.out ?_
    rintro e w2 ⟨⟨u2, rfl, hr2⟩, hb2⟩
    obtain ⟨a2, c2, rfl⟩ := hr2.form
    have HB2 := hide ((unhide HB1).trans (hb2.mono (unhide HB1).size))
    have HN2 := hide ((unhide HN1).later hb2)
    have HV2 := hide (SRow.later (unhide HV1) hb2)
    have HC2 := hide (texts_any (fnsT t) _ w2 hr2 (by omega))
    clear HC hr2 hb2
    go_wp2_with fail
    refine Calls.mono HC2.out ?_
    rintro e w3 ⟨⟨u3, rfl, hr3⟩, hb3⟩
    rw [← unhide HFF] at hr3
    obtain ⟨a3, c3, rfl⟩ := srow_form hr3
    have HB3 := hide ((unhide HB2).trans (hb3.mono (unhide HB2).size))
    have HN3 := hide ((unhide HN2).later hb3)
    have HV3 := hide (SRow.later (unhide HV2) hb3)
    have HR3 := hide hr3
    clear HC2 hr3 hb3
    go_wp2_with (at_builtin; refine wpList_app_row rfl _ _ 54 rfl w.heap.size _ 9 i0 (.string ByteArray.empty) 16 Tryz.underlying54 hi0 hz0 hz1 hz2 rfl _ _ _ rfl (unhide HV3) _ _ _ rfl (unhide HR3) (srow_ones F) (by unfold maxLen; omega) (by omega) (unhide HB3).size ?_)
    intro v4 w4 hown4 hgr4
    have hsr4 : SRow w.heap.size w4 v4 VF := by
      show World.ownsRow _ _ _ _ _ _ _
      rw [unhide HVF, List.length_append, List.map_append]
      exact hown4
    have hob := fun k hk => (own_lt (unhide HV3) k hk).2
    have HB4 := hide ((unhide HB3).grown hgr4 (unhide HB3).size hob)
    have HN4 : Hid (NTr w4 t p) := NTr.later (unhide HN0) (unhide HB4)
    obtain ⟨a4, c4, rfl⟩ := srow_form hsr4
    have HV4 := hide hsr4
    clear hown4 hgr4 hsr4 hob
    have HC := hide (lets_any t p w4 (unhide HN4) (by omega))
    go_wp2_with fail
    refine Calls.mono HC.out ?_
    rintro e w5 ⟨⟨u5, rfl, hr5⟩, hb5⟩
    obtain ⟨a5, c5, rfl⟩ := hr5.form
    have HB5 := hide ((unhide HB4).trans (hb5.mono (unhide HB4).size))
    have HV5 := hide (SRow.later (unhide HV4) hb5)
    have HC2 := hide (texts_any (letsT t) _ w5 hr5 (by omega))
    clear HC hr5 hb5
    go_wp2_with fail
    refine Calls.mono HC2.out ?_
    rintro e w6 ⟨⟨u6, rfl, hr6⟩, hb6⟩
    rw [← unhide HGG] at hr6
    obtain ⟨a6, c6, rfl⟩ := srow_form hr6
    have HB6 := hide ((unhide HB5).trans (hb6.mono (unhide HB5).size))
    have HV6 := hide (SRow.later (unhide HV5) hb6)
    have HR6 := hide hr6
    clear HC2 hr6 hb6
    go_wp2_with (at_builtin; refine wpList_app_row rfl _ _ 54 rfl w.heap.size _ 9 i0 (.string ByteArray.empty) 16 Tryz.underlying54 hi0 hz0 hz1 hz2 rfl _ _ _ rfl (unhide HV6) _ _ _ rfl (unhide HR6) (srow_ones G) (by unfold maxLen; omega) (by omega) (unhide HB6).size ?_)
    intro v7 w7 hown7 hgr7
    have hsr7 : SRow w.heap.size w7 v7 VFG := by
      show World.ownsRow _ _ _ _ _ _ _
      rw [unhide HVFG, List.length_append, List.map_append]
      exact hown7
    have hob := fun k hk => (own_lt (unhide HV6) k hk).2
    have HB7 := hide ((unhide HB6).grown hgr7 (unhide HB6).size hob)
    obtain ⟨a7, c7, rfl⟩ := srow_form hsr7
    have HC := hide (once_any VFG _ w7 hsr7 (by omega))
    clear hown7 hgr7 hsr7 hob
    go_wp2_with fail
    refine Calls.mono HC.out ?_
    rintro e w8 ⟨⟨u8, rfl, hr8⟩, hb8⟩
    obtain ⟨a8, c8, rfl⟩ := srow_form hr8
    have HR8 := hide (srow_mono hr8 (unhide HB7).size)
    have HB8 := hide ((unhide HB7).trans (hb8.mono (unhide HB7).size))
    clear HC hr8 hb8
    go_wp2_with fail
    go_ret
    exact ⟨⟨_, rfl, unhide HR8⟩, unhide HB8⟩
  | false =>
    simp only [Bool.false_eq_true, if_false]
    obtain ⟨V, hV⟩ : ∃ V : List ByteArray, V = [] := ⟨_, rfl⟩
    have hVl : V.length ≤ 20000 := by rw [hV]; simp
    have HB1 : Hid (Below w.heap.size w w) := Below.refl _ _
    have HN1 : Hid (NTr w t p) := h
    have HV1 : Hid (SRow w.heap.size w (.slice none 0 0) V) := by rw [hV]; exact srow_nil _ _
    have HGO : Hid (∀ l, l = [] ++ F ++ G → l = V ++ F ++ G) := fun l hl => by rw [hl, hV]
    rw [unhide HGO _ rfl]
    clear h hV htc hvl HGO
    obtain ⟨VF, hVF⟩ : ∃ VF, VF = V ++ F := ⟨_, rfl⟩
    obtain ⟨VFG, hVFG⟩ : ∃ VFG, VFG = VF ++ G := ⟨_, rfl⟩
    rw [← hVF, ← hVFG]
    have hvf : VF.length ≤ 40000 := by rw [hVF, List.length_append]; omega
    have hvfg : VFG.length ≤ 60000 := by rw [hVFG, List.length_append]; omega
    have HVF := hide hVF
    have HVFG := hide hVFG
    clear hVF hVFG
    go_enter Tryz.func35, Tryz.ntmps35
    have HC := hide (funcs_any t p w (unhide HN1) (by omega))
    go_wp2_with fail
    refine Calls.mono HC.out ?_
    rintro e w2 ⟨⟨u2, rfl, hr2⟩, hb2⟩
    obtain ⟨a2, c2, rfl⟩ := hr2.form
    have HB2 := hide ((unhide HB1).trans (hb2.mono (unhide HB1).size))
    have HN2 := hide ((unhide HN1).later hb2)
    have HV2 := hide (SRow.later (unhide HV1) hb2)
    have HC2 := hide (texts_any (fnsT t) _ w2 hr2 (by omega))
    clear HC hr2 hb2
    go_wp2_with fail
    refine Calls.mono HC2.out ?_
    rintro e w3 ⟨⟨u3, rfl, hr3⟩, hb3⟩
    rw [← unhide HFF] at hr3
    obtain ⟨a3, c3, rfl⟩ := srow_form hr3
    have HB3 := hide ((unhide HB2).trans (hb3.mono (unhide HB2).size))
    have HN3 := hide ((unhide HN2).later hb3)
    have HV3 := hide (SRow.later (unhide HV2) hb3)
    have HR3 := hide hr3
    clear HC2 hr3 hb3
    go_wp2_with (at_builtin; refine wpList_app_row rfl _ _ 54 rfl w.heap.size _ 9 i0 (.string ByteArray.empty) 16 Tryz.underlying54 hi0 hz0 hz1 hz2 rfl _ _ _ rfl (unhide HV3) _ _ _ rfl (unhide HR3) (srow_ones F) (by unfold maxLen; omega) (by omega) (unhide HB3).size ?_)
    intro v4 w4 hown4 hgr4
    have hsr4 : SRow w.heap.size w4 v4 VF := by
      show World.ownsRow _ _ _ _ _ _ _
      rw [unhide HVF, List.length_append, List.map_append]
      exact hown4
    have hob := fun k hk => (own_lt (unhide HV3) k hk).2
    have HB4 := hide ((unhide HB3).grown hgr4 (unhide HB3).size hob)
    have HN4 : Hid (NTr w4 t p) := NTr.later (unhide HN0) (unhide HB4)
    obtain ⟨a4, c4, rfl⟩ := srow_form hsr4
    have HV4 := hide hsr4
    clear hown4 hgr4 hsr4 hob
    have HC := hide (lets_any t p w4 (unhide HN4) (by omega))
    go_wp2_with fail
    refine Calls.mono HC.out ?_
    rintro e w5 ⟨⟨u5, rfl, hr5⟩, hb5⟩
    obtain ⟨a5, c5, rfl⟩ := hr5.form
    have HB5 := hide ((unhide HB4).trans (hb5.mono (unhide HB4).size))
    have HV5 := hide (SRow.later (unhide HV4) hb5)
    have HC2 := hide (texts_any (letsT t) _ w5 hr5 (by omega))
    clear HC hr5 hb5
    go_wp2_with fail
    refine Calls.mono HC2.out ?_
    rintro e w6 ⟨⟨u6, rfl, hr6⟩, hb6⟩
    rw [← unhide HGG] at hr6
    obtain ⟨a6, c6, rfl⟩ := srow_form hr6
    have HB6 := hide ((unhide HB5).trans (hb6.mono (unhide HB5).size))
    have HV6 := hide (SRow.later (unhide HV5) hb6)
    have HR6 := hide hr6
    clear HC2 hr6 hb6
    go_wp2_with (at_builtin; refine wpList_app_row rfl _ _ 54 rfl w.heap.size _ 9 i0 (.string ByteArray.empty) 16 Tryz.underlying54 hi0 hz0 hz1 hz2 rfl _ _ _ rfl (unhide HV6) _ _ _ rfl (unhide HR6) (srow_ones G) (by unfold maxLen; omega) (by omega) (unhide HB6).size ?_)
    intro v7 w7 hown7 hgr7
    have hsr7 : SRow w.heap.size w7 v7 VFG := by
      show World.ownsRow _ _ _ _ _ _ _
      rw [unhide HVFG, List.length_append, List.map_append]
      exact hown7
    have hob := fun k hk => (own_lt (unhide HV6) k hk).2
    have HB7 := hide ((unhide HB6).grown hgr7 (unhide HB6).size hob)
    obtain ⟨a7, c7, rfl⟩ := srow_form hsr7
    have HC := hide (once_any VFG _ w7 hsr7 (by omega))
    clear hown7 hgr7 hsr7 hob
    go_wp2_with fail
    refine Calls.mono HC.out ?_
    rintro e w8 ⟨⟨u8, rfl, hr8⟩, hb8⟩
    obtain ⟨a8, c8, rfl⟩ := srow_form hr8
    have HR8 := hide (srow_mono hr8 (unhide HB7).size)
    have HB8 := hide ((unhide HB7).trans (hb8.mono (unhide HB7).size))
    clear HC hr8 hb8
    go_wp2_with fail
    go_ret
    exact ⟨⟨_, rfl, unhide HR8⟩, unhide HB8⟩
end Go.Proofs.YtodmgaikhbmlnaaGreatDoor
