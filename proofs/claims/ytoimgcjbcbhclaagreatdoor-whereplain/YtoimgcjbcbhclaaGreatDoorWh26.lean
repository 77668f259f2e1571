/-
  Names of a node.
-/
import Derived.Test.YtoimgcjbcbhclaaGreatDoorWh25
set_option maxRecDepth 100000
set_option maxHeartbeats 16000000
namespace Go.Proofs.YtoimgcjbcbhclaaGreatDoor
open Go.RowKit

theorem run_app_none {P : Program} {w : World} (base : Nat) (t ty e : TypeId) (i : TypeInfo) (size : Nat) (ht : P.underlying t = some (.slice e)) (hi : P.info? e = some i)
    (v : Value) (n : Nat) (xs : List Value) (hown : w.ownsRow base e size v n xs) (ad : Option Addr) (k : Nat) :
    (Builtin.append_ #[t, t] ty #[v, .slice ad 0 k]).run P w = .ok v w := by
  cases ad <;> rcases hown.2 with ⟨rfl, rfl⟩ | ⟨g, cap, cur, rfl, _, _, hnc, _⟩ <;>
    simp [Builtin.append_, run_underlying ht, sizeOf, typeInfo, Builtin.lenOf, Builtin.firstCells, loadCells, loadCellsFrom, storeCells, *]

/-- append of a row that may be empty to a row that may be empty. -/
theorem wpList_app_row {P : Program} {w : World} {ops : Array Oper} {rest : List Oper} {o : Oper} {a : Act} {Q : Exit → Act → World → Prop} (hgd : o.guard = none) (s x : Operand) (t : TypeId)
    (ho : o.op = .call { callee := .builtin .append, args := #[s, x], argTypes := #[t, t] })
    (base B2 : Nat) (e : TypeId) (i : TypeInfo) (z : Value) (bytes : Nat) (ht : P.underlying t = some (.slice e)) (hi : P.info? e = some i) (hz : i.zero = some z)
    (hsize : i.size = 1) (hby : i.bytes = bytes) (hzs : z.cells.size = 1)
    (v : Value) (n : Nat) (xs : List Value) (hs : a.eval s = v) (hown : w.ownsRow base e 1 v n xs)
    (v2 : Value) (m : Nat) (news : List Value) (hx : a.eval x = v2) (hown2 : w.ownsRow B2 e 1 v2 m news) (h1 : ∀ u ∈ news, u.oneCell' = true)
    (h63 : n + m ≤ maxLen) (hbytes : (n + m) * bytes ≤ 140737488355328) (hbase : base ≤ w.heap.size)
    (h : ∀ v' w', w'.ownsRow base e 1 v' (n + m) (xs ++ news) → w.grownBy w' v.ownBlock → wpList P ops Q rest (a.put o.dst v') w') : wpList P ops Q (o :: rest) a w := by
  rcases Nat.eq_zero_or_pos m with rfl | hm
  · have hnews : news = [] := List.length_eq_zero_iff.1 (by rw [hown2.1])
    subst hnews
    obtain ⟨ad, k, rfl⟩ := srow_form hown2
    have hk := h v w (by rw [List.append_nil]; exact hown) ⟨rfl, rfl, rfl, Nat.le_refl _, fun _ _ _ => rfl⟩
    refine wpList_plain hgd fun K hK => ?_
    have hrun := run_app_none (P := P) (w := w) base t o.type e i 1 ht hi v n xs hown ad k
    unfold Oper.wp
    simp [execOp, ho, resolve, invoke, builtin, hs, hx, hrun, Result.andThen]
    exact hK _ _ hk
  · obtain ⟨g, cap, rfl, _, _⟩ := hown2.form hm
    refine wpList_append_lies w hgd s x t ho base e i z 1 bytes ht hi hz hsize hby hzs (by decide) v n xs hs hown ⟨g, 0, none⟩ m cap news hx hown2.1 (fun j u hj => ?_) h1 hm h63 hbytes hbase _ rfl (fun g' cap' w' a b _ _ => h _ _ a b)
    have hl : j < m * 1 := by
      rw [← hown2.1]
      exact (List.getElem?_eq_some_iff.1 hj).1
    have h4 : (⟨g, 0, none⟩ : Addr).add j = ⟨g, j, none⟩ := by simp [Addr.add]; exact Eq.symm
    rw [h4, hown2.cellAt j hl]
    exact hj

def namesT (t : Tr) (body : Bool) : List ByteArray := onceL ((if body then varsT t else []) ++ (fnsT t).map Tr.tx ++ (letsT t).map Tr.tx)
theorem fns_len (t : Tr) : (fnsT t).length ≤ t.kids.length := List.length_filter_le _ _
theorem lets_len (t : Tr) : (letsT t).length ≤ t.kids.length := List.length_filter_le _ _
theorem vars_len (t : Tr) : (varsT t).length ≤ Tr.counts t.kids := Nat.le_trans (once_len _) (vws_len _)

theorem names_any (t : Tr) (p : Nat) (body : Bool) (w : World) (h : NTr w t p) (hc : t.count ≤ 20000) :
    Calls Tryz.prog 113 #[nPtr p, .bool body] w fun e w' => (∃ u, e = .returned u ∧ SRow w.heap.size w' u (namesT t body)) ∧ Below w.heap.size w w' := by
  obtain ⟨i0, hi0, hz0, hz1, hz2⟩ := info_parts info9
  have htc : t.count = 1 + Tr.counts t.kids := by cases t with | mk kd tx nn ks => exact count_mk _ _ _ _
  have hkl : t.kids.length ≤ 20000 := by have := counts_len t.kids; omega
  have hfl := fns_len t
  have hll := lets_len t
  have hvl := vars_len t
  have HN0 := hide h
  unfold namesT
  obtain ⟨F, hF⟩ : ∃ F, F = (fnsT t).map Tr.tx := ⟨_, rfl⟩
  have hFl : F.length ≤ 20000 := by rw [hF, List.length_map]; omega
  obtain ⟨G, hG⟩ : ∃ G, G = (letsT t).map Tr.tx := ⟨_, rfl⟩
  have hGl : G.length ≤ 20000 := by rw [hG, List.length_map]; omega
  rw [← hF, ← hG]
  have HFF := hide hF
  have HGG := hide hG
  clear hF hG
  cases body with
  | true =>
    have HC0 := hide (vars_any t p w h (by omega))
    clear h
    simp only [if_true]
    obtain ⟨V, hV⟩ : ∃ V, V = varsT t := ⟨_, rfl⟩
    have hVl : V.length ≤ 20000 := by rw [hV]; omega
    rw [← hV] at HC0 ⊢
    clear hV htc hvl
    obtain ⟨VF, hVF⟩ : ∃ VF, VF = V ++ F := ⟨_, rfl⟩
    obtain ⟨VFG, hVFG⟩ : ∃ VFG, VFG = VF ++ G := ⟨_, rfl⟩
    rw [← hVF, ← hVFG]
    have hvf : VF.length ≤ 40000 := by rw [hVF, List.length_append]; omega
    have hvfg : VFG.length ≤ 60000 := by rw [hVFG, List.length_append]; omega
    have HVF := hide hVF
    have HVFG := hide hVFG
    clear hVF hVFG
    go_enter Tryz.func113, Tryz.ntmps113
    go_wp2_with fail
    refine Calls.mono HC0.out ?_
    rintro e w1 ⟨⟨u1, rfl, hr1⟩, hb1⟩
    obtain ⟨a1, c1, rfl⟩ := srow_form hr1
    have HB1 := hide hb1
    have HN1 := hide ((unhide HN0).later hb1)
    have HV1 := hide hr1
    clear HC0 hr1 hb1
    have HC := hide (funcs_any t p w1 (unhide HN1) (by omega))
    go_wp2_with fail
    refine Calls.mono HC.out ?_
    rintro e w2 ⟨⟨u2, rfl, hr2⟩, hb2⟩
    obtain ⟨a2, c2, rfl⟩ := hr2.form
    have HB2 := hide ((unhide HB1).trans (hb2.mono (unhide HB1).size))
    have HN2 := hide ((unhide HN1).later hb2)
    have HV2 := hide (SRow.later (unhide HV1) hb2)
    have HC2 := hide (texts_any (fnsT t) _ w2 hr2 (by omega))
    clear HC hr2 hb2
    go_wp2_with fail
    refine Calls.mono HC2.out ?_
    rintro e w3 ⟨⟨u3, rfl, hr3⟩, hb3⟩
    rw [← unhide HFF] at hr3
    obtain ⟨a3, c3, rfl⟩ := srow_form hr3
    have HB3 := hide ((unhide HB2).trans (hb3.mono (unhide HB2).size))
    have HN3 := hide ((unhide HN2).later hb3)
    have HV3 := hide (SRow.later (unhide HV2) hb3)
    have HR3 := hide hr3
    clear HC2 hr3 hb3
    go_wp2_with (at_builtin; refine wpList_app_row rfl _ _ 38 rfl w.heap.size _ 9 i0 (.string ByteArray.empty) 16 Tryz.underlying38 hi0 hz0 hz1 hz2 rfl _ _ _ rfl (unhide HV3) _ _ _ rfl (unhide HR3) (srow_ones F) (by unfold maxLen; omega) (by omega) (unhide HB3).size ?_)
    intro v4 w4 hown4 hgr4
    have hsr4 : SRow w.heap.size w4 v4 VF := by
      show World.ownsRow _ _ _ _ _ _ _
      rw [unhide HVF, List.length_append, List.map_append]
      exact hown4
    have hob := fun k hk => (own_lt (unhide HV3) k hk).2
    have HB4 := hide ((unhide HB3).grown hgr4 (unhide HB3).size hob)
    have HN4 : Hid (NTr w4 t p) := NTr.later (unhide HN0) (unhide HB4)
    obtain ⟨a4, c4, rfl⟩ := srow_form hsr4
    have HV4 := hide hsr4
    clear hown4 hgr4 hsr4 hob
    have HC := hide (lets_any t p w4 (unhide HN4) (by omega))
    go_wp2_with fail
    refine Calls.mono HC.out ?_
    rintro e w5 ⟨⟨u5, rfl, hr5⟩, hb5⟩
    obtain ⟨a5, c5, rfl⟩ := hr5.form
    have HB5 := hide ((unhide HB4).trans (hb5.mono (unhide HB4).size))
    have HV5 := hide (SRow.later (unhide HV4) hb5)
    have HC2 := hide (texts_any (letsT t) _ w5 hr5 (by omega))
    clear HC hr5 hb5
    go_wp2_with fail
    refine Calls.mono HC2.out ?_
    rintro e w6 ⟨⟨u6, rfl, hr6⟩, hb6⟩
    rw [← unhide HGG] at hr6
    obtain ⟨a6, c6, rfl⟩ := srow_form hr6
    have HB6 := hide ((unhide HB5).trans (hb6.mono (unhide HB5).size))
    have HV6 := hide (SRow.later (unhide HV5) hb6)
    have HR6 := hide hr6
    clear HC2 hr6 hb6
    go_wp2_with (at_builtin; refine wpList_app_row rfl _ _ 38 rfl w.heap.size _ 9 i0 (.string ByteArray.empty) 16 Tryz.underlying38 hi0 hz0 hz1 hz2 rfl _ _ _ rfl (unhide HV6) _ _ _ rfl (unhide HR6) (srow_ones G) (by unfold maxLen; omega) (by omega) (unhide HB6).size ?_)
    intro v7 w7 hown7 hgr7
    have hsr7 : SRow w.heap.size w7 v7 VFG := by
      show World.ownsRow _ _ _ _ _ _ _
      rw [unhide HVFG, List.length_append, List.map_append]
      exact hown7
    have hob := fun k hk => (own_lt (unhide HV6) k hk).2
    have HB7 := hide ((unhide HB6).grown hgr7 (unhide HB6).size hob)
    obtain ⟨a7, c7, rfl⟩ := srow_form hsr7
    have HC := hide (once_any VFG _ w7 hsr7 (by omega))
    clear hown7 hgr7 hsr7 hob
    go_wp2_with fail
    refine Calls.mono HC.out ?_
    rintro e w8 ⟨⟨u8, rfl, hr8⟩, hb8⟩
    obtain ⟨a8, c8, rfl⟩ := srow_form hr8
    have HR8 := hide (srow_mono hr8 (unhide HB7).size)
    have HB8 := hide ((unhide HB7).trans (hb8.mono (unhide HB7).size))
    clear HC hr8 hb8
    go_wp2_with fail
    go_ret
    exact ⟨⟨_, rfl, unhide HR8⟩, unhide HB8⟩
  | false =>
    simp only [Bool.false_eq_true, if_false]
    obtain ⟨V, hV⟩ : ∃ V : List ByteArray, V = [] := ⟨_, rfl⟩
    have hVl : V.length ≤ 20000 := by rw [hV]; simp
    have HB1 : Hid (Below w.heap.size w w) := Below.refl _ _
    have HN1 : Hid (NTr w t p) := h
    have HV1 : Hid (SRow w.heap.size w (.slice none 0 0) V) := by rw [hV]; exact srow_nil _ _
    have HGO : Hid (∀ l, l = [] ++ F ++ G → l = V ++ F ++ G) := fun l hl => by rw [hl, hV]
    rw [unhide HGO _ rfl]
    clear h hV htc hvl HGO
    obtain ⟨VF, hVF⟩ : ∃ VF, VF = V ++ F := ⟨_, rfl⟩
    obtain ⟨VFG, hVFG⟩ : ∃ VFG, VFG = VF ++ G := ⟨_, rfl⟩
    rw [← hVF, ← hVFG]
    have hvf : VF.length ≤ 40000 := by rw [hVF, List.length_append]; omega
    have hvfg : VFG.length ≤ 60000 := by rw [hVFG, List.length_append]; omega
    have HVF := hide hVF
    have HVFG := hide hVFG
    clear hVF hVFG
    go_enter Tryz.func113, Tryz.ntmps113
    have HC := hide (funcs_any t p w (unhide HN1) (by omega))
    go_wp2_with fail
    refine Calls.mono HC.out ?_
    rintro e w2 ⟨⟨u2, rfl, hr2⟩, hb2⟩
    obtain ⟨a2, c2, rfl⟩ := hr2.form
    have HB2 := hide ((unhide HB1).trans (hb2.mono (unhide HB1).size))
    have HN2 := hide ((unhide HN1).later hb2)
    have HV2 := hide (SRow.later (unhide HV1) hb2)
    have HC2 := hide (texts_any (fnsT t) _ w2 hr2 (by omega))
    clear HC hr2 hb2
    go_wp2_with fail
    refine Calls.mono HC2.out ?_
    rintro e w3 ⟨⟨u3, rfl, hr3⟩, hb3⟩
    rw [← unhide HFF] at hr3
    obtain ⟨a3, c3, rfl⟩ := srow_form hr3
    have HB3 := hide ((unhide HB2).trans (hb3.mono (unhide HB2).size))
    have HN3 := hide ((unhide HN2).later hb3)
    have HV3 := hide (SRow.later (unhide HV2) hb3)
    have HR3 := hide hr3
    clear HC2 hr3 hb3
    go_wp2_with (at_builtin; refine wpList_app_row rfl _ _ 38 rfl w.heap.size _ 9 i0 (.string ByteArray.empty) 16 Tryz.underlying38 hi0 hz0 hz1 hz2 rfl _ _ _ rfl (unhide HV3) _ _ _ rfl (unhide HR3) (srow_ones F) (by unfold maxLen; omega) (by omega) (unhide HB3).size ?_)
    intro v4 w4 hown4 hgr4
    have hsr4 : SRow w.heap.size w4 v4 VF := by
      show World.ownsRow _ _ _ _ _ _ _
      rw [unhide HVF, List.length_append, List.map_append]
      exact hown4
    have hob := fun k hk => (own_lt (unhide HV3) k hk).2
    have HB4 := hide ((unhide HB3).grown hgr4 (unhide HB3).size hob)
    have HN4 : Hid (NTr w4 t p) := NTr.later (unhide HN0) (unhide HB4)
    obtain ⟨a4, c4, rfl⟩ := srow_form hsr4
    have HV4 := hide hsr4
    clear hown4 hgr4 hsr4 hob
    have HC := hide (lets_any t p w4 (unhide HN4) (by omega))
    go_wp2_with fail
    refine Calls.mono HC.out ?_
    rintro e w5 ⟨⟨u5, rfl, hr5⟩, hb5⟩
    obtain ⟨a5, c5, rfl⟩ := hr5.form
    have HB5 := hide ((unhide HB4).trans (hb5.mono (unhide HB4).size))
    have HV5 := hide (SRow.later (unhide HV4) hb5)
    have HC2 := hide (texts_any (letsT t) _ w5 hr5 (by omega))
    clear HC hr5 hb5
    go_wp2_with fail
    refine Calls.mono HC2.out ?_
    rintro e w6 ⟨⟨u6, rfl, hr6⟩, hb6⟩
    rw [← unhide HGG] at hr6
    obtain ⟨a6, c6, rfl⟩ := srow_form hr6
    have HB6 := hide ((unhide HB5).trans (hb6.mono (unhide HB5).size))
    have HV6 := hide (SRow.later (unhide HV5) hb6)
    have HR6 := hide hr6
    clear HC2 hr6 hb6
    go_wp2_with (at_builtin; refine wpList_app_row rfl _ _ 38 rfl w.heap.size _ 9 i0 (.string ByteArray.empty) 16 Tryz.underlying38 hi0 hz0 hz1 hz2 rfl _ _ _ rfl (unhide HV6) _ _ _ rfl (unhide HR6) (srow_ones G) (by unfold maxLen; omega) (by omega) (unhide HB6).size ?_)
    intro v7 w7 hown7 hgr7
    have hsr7 : SRow w.heap.size w7 v7 VFG := by
      show World.ownsRow _ _ _ _ _ _ _
      rw [unhide HVFG, List.length_append, List.map_append]
      exact hown7
    have hob := fun k hk => (own_lt (unhide HV6) k hk).2
    have HB7 := hide ((unhide HB6).grown hgr7 (unhide HB6).size hob)
    obtain ⟨a7, c7, rfl⟩ := srow_form hsr7
    have HC := hide (once_any VFG _ w7 hsr7 (by omega))
    clear hown7 hgr7 hsr7 hob
    go_wp2_with fail
    refine Calls.mono HC.out ?_
    rintro e w8 ⟨⟨u8, rfl, hr8⟩, hb8⟩
    obtain ⟨a8, c8, rfl⟩ := srow_form hr8
    have HR8 := hide (srow_mono hr8 (unhide HB7).size)
    have HB8 := hide ((unhide HB7).trans (hb8.mono (unhide HB7).size))
    clear HC hr8 hb8
    go_wp2_with fail
    go_ret
    exact ⟨⟨_, rfl, unhide HR8⟩, unhide HB8⟩

/-- A node, its block's number, and its parts. -/
inductive Ad where
  | mk (p : Nat) (kd : Int) (tx : ByteArray) (n : Int) (ks : List Ad)
def Ad.p : Ad → Nat | .mk p _ _ _ _ => p
def Ad.kd : Ad → Int | .mk _ kd _ _ _ => kd
def Ad.tx : Ad → ByteArray | .mk _ _ tx _ _ => tx
def Ad.ks : Ad → List Ad | .mk _ _ _ _ ks => ks
mutual
def Ad.tr : Ad → Tr
  | .mk _ kd tx n ks => .mk kd tx n (Ad.trs ks)
def Ad.trs : List Ad → List Tr
  | [] => []
  | a :: es => a.tr :: Ad.trs es
end
mutual
def Ad.ads : Ad → List Nat
  | .mk p _ _ _ ks => p :: Ad.adss ks
def Ad.adss : List Ad → List Nat
  | [] => []
  | a :: es => a.ads ++ Ad.adss es
end
mutual
/-- It lies so, in blocks of a kind. -/
def AAt (I : Nat → Prop) (w : World) : Ad → Prop
  | .mk p kd tx n ks => NAt I w (.mk kd tx n (Ad.trs ks)) p ∧ I p ∧ (∃ v, w.heap[p]? = some (nodeObj kd tx n v) ∧ KRow I w v (ks.map Ad.p)) ∧ AAts I w ks
def AAts (I : Nat → Prop) (w : World) : List Ad → Prop
  | [] => True
  | a :: es => AAt I w a ∧ AAts I w es
end
theorem AAts.mem {I : Nat → Prop} {w : World} : ∀ (es : List Ad), AAts I w es → ∀ a ∈ es, AAt I w a
  | [], _, _, h => absurd h (by simp)
  | x :: es, h, a, ha => by
    rw [AAts] at h
    rcases List.mem_cons.1 ha with rfl | ha
    · exact h.1
    · exact AAts.mem es h.2 a ha
mutual
theorem AAt.later {I : Nat → Prop} {w w' : World} (hs : Stay I w w') : ∀ a : Ad, AAt I w a → AAt I w' a
  | .mk p kd tx n ks, h => by
    rw [AAt] at h ⊢
    obtain ⟨hn, hp, ⟨v, hb, hr⟩, hk⟩ := h
    exact ⟨NAt.later hs _ _ hn, hp, ⟨v, by rw [hs p hp (lt_of_heap hb)]; exact hb, owns_stay hs hr.2 hr.1, hr.2⟩, AAts.later hs ks hk⟩
theorem AAts.later {I : Nat → Prop} {w w' : World} (hs : Stay I w w') : ∀ es : List Ad, AAts I w es → AAts I w' es
  | [], _ => by rw [AAts]; trivial
  | a :: es, h => by
    rw [AAts] at h ⊢
    exact ⟨AAt.later hs a h.1, AAts.later hs es h.2⟩
end
mutual
theorem AAt.mono {I J : Nat → Prop} {w : World} (hJ : ∀ b, I b → b < w.heap.size → J b) : ∀ a : Ad, AAt I w a → AAt J w a
  | .mk p kd tx n ks, h => by
    rw [AAt] at h ⊢
    obtain ⟨hn, hp, ⟨v, hb, hr⟩, hk⟩ := h
    exact ⟨NAt.mono hJ _ _ hn, hJ p hp (lt_of_heap hb), ⟨v, hb, hr.1, fun g hg => hJ g (hr.2 g hg) (own_lt hr.1 g hg).1⟩, AAts.mono hJ ks hk⟩
theorem AAts.mono {I J : Nat → Prop} {w : World} (hJ : ∀ b, I b → b < w.heap.size → J b) : ∀ es : List Ad, AAts I w es → AAts J w es
  | [], _ => by rw [AAts]; trivial
  | a :: es, h => by
    rw [AAts] at h ⊢
    exact ⟨AAt.mono hJ a h.1, AAts.mono hJ es h.2⟩
end
theorem trs_map : ∀ es : List Ad, Ad.trs es = es.map Ad.tr
  | [] => by rw [Ad.trs]; rfl
  | a :: es => by rw [Ad.trs, trs_map es]; rfl
theorem Ad.tr_eq (a : Ad) : a.tr.kd = a.kd ∧ a.tr.tx = a.tx ∧ a.tr.kids = a.ks.map Ad.tr := by
  cases a with
  | mk p kd tx n ks => rw [Ad.tr, trs_map]; exact ⟨rfl, rfl, rfl⟩
theorem AAt.parts {I : Nat → Prop} {w : World} {a : Ad} (h : AAt I w a) : ∀ k ∈ a.ks, AAt I w k := by
  cases a with
  | mk p kd tx n ks => rw [AAt] at h; exact AAts.mem ks h.2.2.2

mutual
/-- Nodes that lie in memory: their blocks, all of them others. -/
theorem NAt.ad {I : Nat → Prop} {w : World} : ∀ (t : Tr) (p : Nat), NAt I w t p → ∃ a : Ad, a.tr = t ∧ a.p = p ∧ AAt I w a ∧ a.ads.Nodup ∧ ∀ b ∈ a.ads, I b
  | .mk kd tx n ks, p, h => by
    have hn := h
    rw [NAt] at h
    obtain ⟨hp, v, ps, hb, hr, hk⟩ := h
    obtain ⟨es, h1, h2, h3, h4, h5⟩ := NAts.ads ks ps hk
    refine ⟨.mk p kd tx n es, by rw [Ad.tr, trs_map, h1], rfl, ?_, ?_, ?_⟩
    · rw [AAt, h2, trs_map, h1]
      exact ⟨hn, hp, ⟨v, hb, hr⟩, AAts.mono (fun b hb _ => hb.1) es h3⟩
    · rw [Ad.ads, List.nodup_cons]
      exact ⟨fun hm => (h5 p hm).2 rfl, h4⟩
    · rw [Ad.ads]
      intro b hb
      rcases List.mem_cons.1 hb with rfl | hb
      · exact hp
      · exact (h5 b hb).1
theorem NAts.ads {I : Nat → Prop} {w : World} : ∀ (ts : List Tr) (ps : List Nat), NAts I w ts ps → ∃ es : List Ad, es.map Ad.tr = ts ∧ es.map Ad.p = ps ∧ AAts I w es ∧ (Ad.adss es).Nodup ∧ ∀ b ∈ Ad.adss es, I b
  | [], ps, h => by
    rw [NAts] at h
    subst h
    exact ⟨[], rfl, rfl, by rw [AAts]; trivial, by rw [Ad.adss]; exact List.nodup_nil, by rw [Ad.adss]; intro b hb; cases hb⟩
  | t :: ts, ps, h => by
    rw [NAts] at h
    obtain ⟨p, ps', M, rfl, h1, h2⟩ := h
    obtain ⟨a, a1, a2, a3, a4, a5⟩ := NAt.ad t p h1
    obtain ⟨es, b1, b2, b3, b4, b5⟩ := NAts.ads ts ps' h2
    refine ⟨a :: es, by rw [List.map_cons, a1, b1], by rw [List.map_cons, a2, b2], ?_, ?_, ?_⟩
    · rw [AAts]
      exact ⟨AAt.mono (fun b hb _ => hb.1) a a3, AAts.mono (fun b hb _ => hb.1) es b3⟩
    · rw [Ad.adss, List.nodup_append]
      refine ⟨a4, b4, fun x hx y hy e => ?_⟩
      have h8 := (a5 x hx).2
      have h9 := (b5 y hy).2
      omega
    · rw [Ad.adss]
      intro b hb
      rcases List.mem_append.1 hb with hb | hb
      · exact (a5 b hb).1
      · exact (b5 b hb).1
end

/-- What a node's cells are. -/
theorem AAt.cells {I : Nat → Prop} {w : World} {a : Ad} (h : AAt I w a) : I a.p ∧ a.p < w.heap.size ∧ w.cell? ⟨a.p, 0, none⟩ = some (.int .i64 a.kd) ∧ w.cell? ⟨a.p, 1, none⟩ = some (.string a.tx) ∧
    ∃ v, w.cell? ⟨a.p, 3, none⟩ = some v ∧ KRow I w v (a.ks.map Ad.p) := by
  cases a with
  | mk p kd tx n ks =>
    rw [AAt] at h
    obtain ⟨_, hp, ⟨v, hb, hr⟩, _⟩ := h
    obtain ⟨c0, c1, _, c3, _⟩ := node_cells hb
    exact ⟨hp, lt_of_heap hb, c0, c1, v, c3, hr⟩
theorem AAt.nat {I : Nat → Prop} {w : World} {a : Ad} (h : AAt I w a) : NAt I w a.tr a.p := by
  cases a with
  | mk p kd tx n ks => rw [AAt] at h; rw [Ad.tr]; exact h.1
mutual
def Ad.cnt : Ad → Nat
  | .mk _ _ _ _ ks => 1 + Ad.cnts ks
def Ad.cnts : List Ad → Nat
  | [] => 0
  | a :: es => a.cnt + Ad.cnts es
end
mutual
theorem Ad.cnt_tr : ∀ a : Ad, a.tr.count = a.cnt
  | .mk p kd tx n ks => by rw [Ad.tr, count_mk, Ad.cnt, Ad.cnts_tr ks]
theorem Ad.cnts_tr : ∀ es : List Ad, Tr.counts (Ad.trs es) = Ad.cnts es
  | [] => by rw [Ad.trs, Ad.cnts, counts_nil]
  | a :: es => by rw [Ad.trs, counts_cons, Ad.cnts, Ad.cnt_tr a, Ad.cnts_tr es]
end
mutual
theorem Ad.ads_len : ∀ a : Ad, a.ads.length = a.cnt
  | .mk p kd tx n ks => by rw [Ad.ads, List.length_cons, Ad.adss_len ks, Ad.cnt, Nat.add_comm]
theorem Ad.adss_len : ∀ es : List Ad, (Ad.adss es).length = Ad.cnts es
  | [] => by rw [Ad.adss, Ad.cnts]; rfl
  | a :: es => by rw [Ad.adss, List.length_append, Ad.ads_len a, Ad.adss_len es, Ad.cnts]
end
theorem adss_app : ∀ a b : List Ad, Ad.adss (a ++ b) = Ad.adss a ++ Ad.adss b
  | [], b => by rw [Ad.adss]; rfl
  | x :: a, b => by rw [List.cons_append, Ad.adss, Ad.adss, adss_app a b, List.append_assoc]
theorem cnts_app : ∀ a b : List Ad, Ad.cnts (a ++ b) = Ad.cnts a + Ad.cnts b
  | [], b => by rw [Ad.cnts, List.nil_append, Nat.zero_add]
  | x :: a, b => by rw [List.cons_append, Ad.cnts, Ad.cnts, cnts_app a b, Nat.add_assoc]
theorem cnt_pos (a : Ad) : 1 ≤ a.cnt := by cases a with | mk p kd tx n ks => rw [Ad.cnt]; omega
theorem cnts_len : ∀ es : List Ad, es.length ≤ Ad.cnts es
  | [] => Nat.zero_le _
  | a :: es => by
    have h1 := cnt_pos a
    have h2 := cnts_len es
    rw [Ad.cnts, List.length_cons]; omega
theorem cnts_mem : ∀ (es : List Ad) (a : Ad), a ∈ es → a.cnt ≤ Ad.cnts es
  | [], _, h => absurd h (by simp)
  | x :: es, a, h => by
    rw [Ad.cnts]
    rcases List.mem_cons.1 h with rfl | h
    · omega
    · have := cnts_mem es a h; omega
theorem cnt_eq (a : Ad) : a.cnt = 1 + Ad.cnts a.ks := by cases a with | mk p kd tx n ks => rw [Ad.cnt]; rfl
theorem ads_eq (a : Ad) : a.ads = a.p :: Ad.adss a.ks := by cases a with | mk p kd tx n ks => rw [Ad.ads]; rfl

structure Sc where
  own : Int
  nms : List ByteArray
  opn : Bool

def findS : List Sc → ByteArray → Bool → Int × Bool
  | [], _, b => (-1, b)
  | c :: l, s, b => if hasB c.nms s then (c.own, b) else findS l s (b && !c.opn)
abbrev scObj (o : Int) (nv : Value) (op : Bool) (ov : Value) : Obj := .cells #[.int .i64 o, nv, .bool op, ov] 182 (0, 0)
abbrev sPtr (b : Nat) : Value := .pointer (some ⟨b, 0, none⟩)
/-- Scopes, the innermost first, in blocks of a kind. -/
def Chn (I : Nat → Prop) (w : World) : Value → List Sc → Prop
  | v, [] => v = .pointer none
  | v, c :: l => ∃ b nv ov, v = sPtr b ∧ I b ∧ w.heap[b]? = some (scObj c.own nv c.opn ov) ∧ SRow 0 w nv c.nms ∧ (∀ g, nv.ownBlock = some g → I g) ∧ c.nms.length ≤ 100000 ∧ (∀ b', ov = sPtr b' → b' < b) ∧ Chn I w ov l
theorem Chn.later {I : Nat → Prop} {w w' : World} (hs : Stay I w w') : ∀ (l : List Sc) (v : Value), Chn I w v l → Chn I w' v l
  | [], _, h => h
  | c :: l, v, h => by
    obtain ⟨b, nv, ov, h1, h2, h3, h4, h5, h6, h7, h8⟩ := h
    exact ⟨b, nv, ov, h1, h2, by rw [hs b h2 (lt_of_heap h3)]; exact h3, owns_stay hs h5 h4, h5, h6, h7, Chn.later hs l ov h8⟩
theorem Chn.mono {I J : Nat → Prop} {w : World} (hJ : ∀ b, I b → b < w.heap.size → J b) : ∀ (l : List Sc) (v : Value), Chn I w v l → Chn J w v l
  | [], _, h => h
  | c :: l, v, h => by
    obtain ⟨b, nv, ov, h1, h2, h3, h4, h5, h6, h7, h8⟩ := h
    exact ⟨b, nv, ov, h1, hJ b h2 (lt_of_heap h3), h3, h4, fun g hg => hJ g (h5 g hg) (own_lt h4 g hg).1, h6, h7, Chn.mono hJ l ov h8⟩
theorem Chn.form {I : Nat → Prop} {w : World} {l : List Sc} {v : Value} (h : Chn I w v l) : v = .pointer none ∨ ∃ b, v = sPtr b ∧ b < w.heap.size := by
  cases l with
  | nil => exact Or.inl h
  | cons c l =>
    obtain ⟨b, nv, ov, h1, _, h3, _⟩ := h
    exact Or.inr ⟨b, h1, lt_of_heap h3⟩
def blkOf : Value → Nat
  | .pointer (some a) => a.block + 1
  | _ => 0

theorem find_any {I : Nat → Prop} (l : List Sc) (s : ByteArray) (v : Value) (w : World) (h : Chn I w v l) :
    Calls Tryz.prog 123 #[v, .string s] w fun e w' => e = .returned (.tuple #[.int .i64 (findS l s true).1, .bool (findS l s true).2]) ∧ w' = w := by
  have HH := hide h
  rcases h.form with hv | ⟨b0, hv, _⟩ <;> subst hv <;> clear h
  all_goals
    go_enter Tryz.func123, Tryz.ntmps123
    go_wp2_with fail
    go_loopw [0, 5] (fun u x wr => wr = w ∧ ∃ (r : List Sc) (b : Bool), x = .bool b ∧ Chn I w u r ∧ findS r s b = findS l s true) (fun u _ _ => blkOf u)
    case atStart => exact ⟨rfl, l, true, rfl, unhide HH, rfl⟩
    case round =>
      obtain ⟨rfl, r, b, rfl, hch, heq⟩ := hrel
      cases r with
      | nil =>
        have hu : _ = Value.pointer none := hch
        subst hu
        have HEQ := hide heq
        clear hch heq
        go_wp2_with fail
        exact bodyPost_ret (v := .tuple #[.int .i64 (-1), .bool b]) (by simp [results, Tryz.results123, go_sem]) rfl ⟨by rw [← unhide HEQ]; rfl, rfl⟩
      | cons c r =>
        obtain ⟨b1, nv, ov, rfl, hI, hb, hn, _, hl, hlow, hr⟩ := hch
        have c0 : wr.cell? ⟨b1, 0, none⟩ = some (.int .i64 c.own) := by rw [cell_of hb]; rfl
        have c1 : wr.cell? ⟨b1, 1, none⟩ = some nv := by rw [cell_of hb]; rfl
        have c2 : wr.cell? ⟨b1, 2, none⟩ = some (.bool c.opn) := by rw [cell_of hb]; rfl
        have c3 : wr.cell? ⟨b1, 3, none⟩ = some ov := by rw [cell_of hb]; rfl
        have hbl := lt_of_heap hb
        have HC := hide (contains_any c.nms s nv wr hn hl)
        obtain ⟨na, nc, rfl⟩ := srow_form hn
        have HEQ := hide heq
        have HR := hide hr
        have HLOW := hide hlow
        have hfm := hr.form
        rw [findS] at HEQ
        generalize c.own = own at c0 HEQ
        generalize c.opn = opn at c2 HEQ
        clear hb hn hl hr hlow heq hI
        cases hh : hasB c.nms s with
        | true =>
          rw [hh] at HC HEQ
          clear hh
          go_wp2_with fail
          refine Calls.mono HC.out ?_
          rintro e w2 ⟨rfl, rfl⟩
          clear HC
          go_wp2_with fail
          exact bodyPost_ret (v := .tuple #[.int .i64 own, .bool b]) (by simp [results, Tryz.results123, go_sem]) rfl ⟨by rw [← unhide HEQ]; rfl, rfl⟩
        | false =>
          rw [hh] at HC HEQ
          clear hh
          go_wp2_with fail
          refine Calls.mono HC.out ?_
          rintro e w2 ⟨rfl, rfl⟩
          clear HC
          rcases hfm with hf | ⟨b2, hf, _⟩ <;> subst hf <;> cases b
          all_goals
            go_wp2_with fail
            go_roundw
            case rel => exact ⟨trivial, r, _, rfl, unhide HR, by simpa using unhide HEQ⟩
            case measure => first | (simp [blkOf]; done) | (have h9 := unhide HLOW _ rfl; simp [blkOf]; omega)

abbrev plV2 (v : Value) (st : Bool) : Value := .agg #[v, .bool st]
theorem in_any (oa : Option Addr) (st : Bool) (o : Int) (na : Option Addr) (nn nc : Nat) (op : Bool) (ox : Option Addr) (w : World) :
    Calls Tryz.prog 124 #[plV2 (.pointer oa) st, .agg #[.int .i64 o, .slice na nn nc, .bool op, .pointer ox]] w fun e w' =>
      (e = .returned (plV2 (sPtr (w.heap.size + 1)) st) ∧ w'.heap[w.heap.size + 1]? = some (scObj o (.slice na nn nc) op (.pointer oa))) ∧ Below w.heap.size w w' := by
  go_enter Tryz.func124, Tryz.ntmps124
  go_wp2_with fail
  have e1 : (w.alloc (.cells #[sPtr (w.heap.size + 1), .bool st] 112)).heap.size = w.heap.size + 1 := by simp
  refine bodyPost_ret (v := plV2 (sPtr (w.heap.size + 1)) st) (by simp [results, Tryz.results124, go_sem]) rfl ⟨⟨rfl, ?_⟩, (((Below.refl _ _).alloc (Nat.le_refl _) _).alloc (by simp) _).alloc (by simp; omega) _⟩
  rw [Below.heap_alloc _ _ _ (by simp)]
  have h := heap_new (w.alloc (.cells #[sPtr (w.heap.size + 1), .bool st] 112)) (scObj o (.slice na nn nc) op (.pointer oa))
  rw [e1] at h
  exact h

theorem wtexts_any {B : Nat} (ts : List Tr) (v : Value) (w : World) (h : NRow B w v ts) (hl : ts.length ≤ 90000) :
    Calls Tryz.prog 125 #[v] w fun e w' => (∃ u, e = .returned u ∧ SRow w.heap.size w' u (ts.map Tr.tx)) ∧ Below w.heap.size w w' := by
  obtain ⟨i0, hi0, hz0, hz1, hz2⟩ := info_parts info9
  obtain ⟨va, vc, rfl⟩ := h.form
  have HR := hide h
  clear h
  go_enter Tryz.func125, Tryz.ntmps125
  go_wp2_with fail
  go_loopw [3, 8] (fun o i wr => ∃ k : Nat, k ≤ ts.length ∧ i = .int .i64 k ∧ SRow w.heap.size wr o ((ts.take k).map Tr.tx) ∧ Below w.heap.size w wr) (fun _ i _ => ts.length - (intOf i).toNat)
  case atStart => exact ⟨0, Nat.zero_le _, rfl, srow_nil _ _, Below.refl _ _⟩
  case round =>
    obtain ⟨k, hk, rfl, hown, hbel⟩ := hrel
    have HOWN := hide hown
    have HBEL := hide hbel
    obtain ⟨oa, oc, rfl⟩ := srow_form hown
    clear hown hbel
    by_cases hlt : k < ts.length
    · obtain ⟨g, cap, q, hv, hg, hc, hn⟩ := ((unhide HR).later (unhide HBEL)).cell k hlt
      simp only [Value.slice.injEq] at hv
      obtain ⟨rfl, _, rfl⟩ := hv
      obtain ⟨hql, _, c1, _⟩ := hn.cells
      have hki : (k : Int) < (ts.length : Int) := by omega
      obtain ⟨x, hx⟩ : ∃ x, x = (ts[k]).tx := ⟨_, rfl⟩
      rw [← hx] at c1
      have HX := hide hx
      have hsz := (unhide HBEL).size
      obtain ⟨L, hL⟩ : ∃ L, L = (ts.take k).map Tr.tx := ⟨_, rfl⟩
      have hLl : L.length = k := by rw [hL]; simp; omega
      have HL := hide hL
      rw [← hL] at HOWN ⊢
      have HOW2 : Hid (World.ownsRow wr w.heap.size 9 1 (.slice oa k oc) k (L.map Value.string)) := by
        have h : World.ownsRow wr w.heap.size 9 1 (.slice oa L.length oc) L.length (L.map Value.string) := unhide HOWN
        rw [hLl] at h
        exact h
      rw [hLl]
      have HLL := hide hLl
      clear hx hn HOWN hL hLl
      go_wp2_with (at_builtin; refine wpList_append_lies _ rfl _ _ 38 rfl w.heap.size 9 i0 (.string ByteArray.empty) 1 16 Tryz.underlying38 hi0 hz0 hz1 hz2 rfl (by decide) _ _ _ rfl ((unhide HOW2).alloc _) ⟨wr.heap.size, 0, none⟩ 1 1 [.string x] rfl rfl (hoCellsS wr x _ rfl) (hoOneS x) (by decide) (by unfold maxLen; omega) (by omega) (by simp; omega) (wr.heap.size + 1) (by simp) ?_)
      intro g' cap' w3 hown' hgrow hg' _
      have HB3 := hide (((unhide HBEL).alloc hsz (.cells #[.string x] 9)).grown hgrow (by simp; omega) (fun b hb => (own_lt (unhide HOW2) b hb).2))
      have HO3 := hide hown'
      clear hown' hgrow hg'
      go_wp2_with fail
      go_roundw
      case rel =>
        refine ⟨k + 1, by omega, by go_num, ?_, unhide HB3⟩
        rw [List.take_succ_eq_append_getElem hlt, List.map_append, ← unhide HL]
        show World.ownsRow _ _ _ _ _ _ _
        rw [List.length_append, List.map_append, unhide HLL]
        show World.ownsRow _ _ _ _ _ _ (_ ++ [Value.string (ts[k]).tx])
        rw [← unhide HX]
        exact unhide HO3
      case measure => simp [intOf]; omega
    · have hkk : k = ts.length := by omega
      subst hkk
      go_wp2_with fail
      go_ret
      refine ⟨⟨_, rfl, ?_⟩, unhide HBEL⟩
      have h := unhide HOWN
      rw [List.take_length] at h
      rw [List.take_length]
      exact h

end Go.Proofs.YtoimgcjbcbhclaaGreatDoor
