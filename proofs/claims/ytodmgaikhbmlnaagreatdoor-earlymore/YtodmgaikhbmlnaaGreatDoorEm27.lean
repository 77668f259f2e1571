/-
  Rows of texts: Index, Contains, once; the texts of nodes.
-/
import Derived.Test.YtodmgaikhbmlnaaGreatDoorEm25
import Derived.Test.YtodmgaikhbmlnaaGreatDoorEm9
import Derived.Deep.AppendLies
set_option maxRecDepth 100000
set_option maxHeartbeats 16000000
namespace Go.Proofs.YtodmgaikhbmlnaaGreatDoor
open Go.RowKit

/-- A row of texts, from a number of blocks on. -/
abbrev SRow (B : Nat) (w : World) (v : Value) (l : List ByteArray) : Prop := w.ownsRow B 9 1 v l.length (l.map Value.string)
theorem info9 : (Tryz.prog.info? 9).map (fun i => (i.zero, i.size, i.bytes)) = some (some (.string ByteArray.empty), 1, 16) := by kernel_rfl
theorem srow_form {w : World} {B e sz n : Nat} {v : Value} {xs : List Value} (h : w.ownsRow B e sz v n xs) : ∃ a cap, v = .slice a n cap := by
  rcases h.2 with ⟨rfl, rfl⟩ | ⟨g, cap, cur, rfl, _⟩
  · exact ⟨none, 0, rfl⟩
  · exact ⟨_, cap, rfl⟩
theorem srow_nil (B : Nat) (w : World) : SRow B w (.slice none 0 0) [] := ⟨rfl, Or.inl ⟨rfl, rfl⟩⟩
theorem srow_cell {B : Nat} {w : World} {v : Value} {l : List ByteArray} (h : SRow B w v l) (k : Nat) (hk : k < l.length) : ∃ g cap, v = .slice (some ⟨g, 0, none⟩) l.length cap ∧ g < w.heap.size ∧ B ≤ g ∧ w.cell? ⟨g, k, none⟩ = some (.string l[k]) := by
  obtain ⟨g, cap, rfl, _, _⟩ := h.form (by omega)
  have h1 := own_lt h g rfl
  refine ⟨g, cap, rfl, h1.1, h1.2, ?_⟩
  rw [h.cellAt k (by omega)]
  simp [hk]
theorem srow_ones (l : List ByteArray) : ∀ u ∈ l.map Value.string, u.oneCell' = true := by
  intro u hu
  obtain ⟨p, _, rfl⟩ := List.mem_map.1 hu
  rfl
theorem hoCellsS (w : World) (s : ByteArray) (H : Nat) (h : w.heap.size = H) : ∀ j u, [Value.string s][j]? = some u → (w.alloc (.cells #[.string s] 9)).cell? ((⟨H, 0, none⟩ : Addr).add j) = some u := by
  subst h
  intro j u hj
  match j with
  | 0 =>
    simp only [List.getElem?_cons_zero, Option.some.injEq] at hj
    subst hj
    show (w.alloc (.cells #[.string s] 9)).cell? ⟨w.heap.size, 0 + 0, none⟩ = _
    rw [cell_of (heap_new w (.cells #[.string s] 9))]
    rfl
  | n + 1 => simp at hj
theorem hoOneS (s : ByteArray) : ∀ u ∈ [Value.string s], u.oneCell' = true := by
  intro u hu
  rw [List.mem_singleton.1 hu]
  rfl

def hasB (l : List ByteArray) (s : ByteArray) : Bool := l.any (fun x => decide (s = x))
theorem hasB_iff {l : List ByteArray} {s : ByteArray} : hasB l s = true ↔ s ∈ l := by simp [hasB]
theorem hasB_no {l : List ByteArray} {s : ByteArray} : hasB l s = false ↔ s ∉ l := by rw [← hasB_iff]; simp
/-- Each once, where it stands first. -/
def addB (l : List ByteArray) (s : ByteArray) : List ByteArray := if hasB l s then l else l ++ [s]
def onceL (l : List ByteArray) : List ByteArray := l.foldl addB []

theorem index_any {B : Nat} (l : List ByteArray) (s : ByteArray) (v : Value) (w : World) (h : SRow B w v l) (hl : l.length ≤ 100000) :
    Calls Tryz.prog 189 #[v, .string s] w fun e w' => (∃ k : Int, e = .returned (.int .i64 k) ∧ decide (0 ≤ k) = hasB l s) ∧ w' = w := by
  obtain ⟨va, vc, rfl⟩ := srow_form h
  have HR := hide h
  clear h
  go_enter Tryz.func189, Tryz.ntmps189
  go_wp2_with fail
  go_loopw [8] (fun i wr => ∃ k : Nat, k ≤ l.length ∧ i = .int .i64 k ∧ s ∉ l.take k ∧ wr = w) (fun i _ => l.length - (intOf i).toNat)
  case atStart => exact ⟨0, Nat.zero_le _, rfl, by simp, rfl⟩
  case round =>
    obtain ⟨k, hk, rfl, hns, rfl⟩ := hrel
    have HNS := hide hns
    clear hns
    by_cases hlt : k < l.length
    · obtain ⟨g, cap, hv, hg, _, hc⟩ := srow_cell (unhide HR) k hlt
      simp only [Value.slice.injEq] at hv
      obtain ⟨rfl, _, rfl⟩ := hv
      have hki : (k : Int) < (l.length : Int) := by omega
      obtain ⟨x, hx⟩ : ∃ x, x = l[k] := ⟨_, rfl⟩
      rw [← hx] at hc
      have HX := hide hx
      clear hx
      by_cases he : s = x
      · subst he
        go_wp2_with fail
        go_ret
        refine ⟨⟨k, rfl, ?_⟩, rfl⟩
        rw [decide_eq_true (by omega), eq_comm, hasB_iff, unhide HX]
        exact List.getElem_mem _
      · have hne := tl_ne he
        have HE := hide he
        clear he
        go_wp2_with fail
        go_roundw
        case rel =>
          refine ⟨k + 1, by omega, by go_num, ?_, trivial⟩
          rw [List.take_succ_eq_append_getElem hlt]
          intro hm
          rcases List.mem_append.1 hm with hm | hm
          · exact unhide HNS hm
          · exact unhide HE (by rw [unhide HX]; exact List.mem_singleton.1 hm)
        case measure => simp [intOf]; omega
    · have hkk : k = l.length := by omega
      subst hkk
      go_wp2_with fail
      go_ret
      refine ⟨⟨-1, rfl, ?_⟩, rfl⟩
      have h := unhide HNS
      rw [List.take_length] at h
      rw [hasB_no.2 h]
      rfl

theorem contains_any {B : Nat} (l : List ByteArray) (s : ByteArray) (v : Value) (w : World) (h : SRow B w v l) (hl : l.length ≤ 100000) :
    Calls Tryz.prog 134 #[v, .string s] w fun e w' => e = .returned (.bool (hasB l s)) ∧ w' = w := by
  have HC := hide (index_any l s v w h hl)
  clear h
  go_enter Tryz.func134, Tryz.ntmps134
  go_wp2_with fail
  refine Calls.mono HC.out ?_
  rintro e w1 ⟨⟨k, rfl, hk⟩, rfl⟩
  have HK := hide hk
  clear hk HC
  go_wp2_with fail
  go_ret
  exact ⟨ret_bool (unhide HK), rfl⟩

theorem take_snoc' {α : Type} (l : List α) (k : Nat) (hk : k < l.length) : l.take (k + 1) = l.take k ++ [l[k]] := List.take_succ_eq_append_getElem hk
theorem once_take (l : List ByteArray) (k : Nat) (hk : k < l.length) : onceL (l.take (k + 1)) = addB (onceL (l.take k)) l[k] := by
  rw [take_snoc' l k hk, onceL, List.foldl_append]; rfl
theorem once_len (l : List ByteArray) : (onceL l).length ≤ l.length := by
  have : ∀ (l acc : List ByteArray), (l.foldl addB acc).length ≤ acc.length + l.length := by
    intro l
    induction l with
    | nil => intro acc; simp
    | cons x l ih =>
      intro acc
      have h := ih (addB acc x)
      have h2 : (addB acc x).length ≤ acc.length + 1 := by unfold addB; split <;> simp
      simp only [List.foldl_cons, List.length_cons]
      omega
  simpa [onceL] using this l []

theorem once_any {B : Nat} (l : List ByteArray) (v : Value) (w : World) (h : SRow B w v l) (hl : l.length ≤ 90000) :
    Calls Tryz.prog 65 #[v] w fun e w' => (∃ u, e = .returned u ∧ SRow w.heap.size w' u (onceL l)) ∧ Below w.heap.size w w' := by
  obtain ⟨i0, hi0, hz0, hz1, hz2⟩ := info_parts info9
  obtain ⟨va, vc, rfl⟩ := srow_form h
  have HR := hide h
  clear h
  go_enter Tryz.func65, Tryz.ntmps65
  go_wp2_with fail
  go_loopw [3, 8] (fun o i wr => ∃ k : Nat, k ≤ l.length ∧ i = .int .i64 k ∧ SRow w.heap.size wr o (onceL (l.take k)) ∧ Below w.heap.size w wr) (fun _ i _ => l.length - (intOf i).toNat)
  case atStart => exact ⟨0, Nat.zero_le _, rfl, srow_nil _ _, Below.refl _ _⟩
  case round =>
    obtain ⟨k, hk, rfl, hown, hbel⟩ := hrel
    have HOWN := hide hown
    have HBEL := hide hbel
    obtain ⟨oa, oc, rfl⟩ := srow_form hown
    clear hown hbel
    by_cases hlt : k < l.length
    · obtain ⟨g, cap, hv, hg, _, hc⟩ := srow_cell (unhide HR) k hlt
      simp only [Value.slice.injEq] at hv
      obtain ⟨rfl, _, rfl⟩ := hv
      have hki : (k : Int) < (l.length : Int) := by omega
      obtain ⟨x, hx⟩ : ∃ x, x = l[k] := ⟨_, rfl⟩
      rw [← hx] at hc
      have HX := hide hx
      have hcr : wr.cell? ⟨g, k, none⟩ = some (.string x) := by rw [(unhide HBEL).cell (p := ⟨g, k, none⟩) hg]; exact hc
      have HON := hide (once_take l k hlt)
      have hol := once_len (l.take k)
      rw [List.length_take] at hol
      obtain ⟨L, hL⟩ : ∃ L, L = onceL (l.take k) := ⟨_, rfl⟩
      rw [← hL] at hol
      have HL := hide hL
      have HOW2 : Hid (SRow w.heap.size wr (.slice oa L.length oc) L) := by
        have h := unhide HOWN
        rw [← hL] at h
        exact h
      rw [← hL]
      have hLk : L.length ≤ k := by omega
      have HC := hide (contains_any L x _ wr (unhide HOW2) (by omega))
      have hgr : g < wr.heap.size := Nat.lt_of_lt_of_le hg (unhide HBEL).size
      have hsz := (unhide HBEL).size
      clear hx hc hg HOWN hL hol
      cases hh : hasB L x with
      | true =>
        rw [hh] at HC
        have HH := hide hh
        clear hh
        go_wp2_with fail
        refine Calls.mono HC.out ?_
        rintro e w2 ⟨rfl, rfl⟩
        clear HC
        go_wp2_with fail
        go_roundw
        case rel =>
          refine ⟨k + 1, by omega, by go_num, ?_, unhide HBEL⟩
          rw [unhide HON, ← unhide HL, ← unhide HX, addB, if_pos (unhide HH)]
          exact unhide HOW2
        case measure => simp [intOf]; omega
      | false =>
        rw [hh] at HC
        have HH := hide hh
        clear hh
        go_wp2_with fail
        refine Calls.mono HC.out ?_
        rintro e w2 ⟨rfl, rfl⟩
        clear HC
        go_wp2_with (at_builtin; refine wpList_append_lies _ rfl _ _ 54 rfl w.heap.size 9 i0 (.string ByteArray.empty) 1 16 Tryz.underlying54 hi0 hz0 hz1 hz2 rfl (by decide) _ _ _ rfl ((unhide HOW2).alloc _) ⟨w2.heap.size, 0, none⟩ 1 1 [.string x] rfl rfl (hoCellsS w2 x _ rfl) (hoOneS x) (by decide) (by unfold maxLen; omega) (by omega) (by simp; omega) (w2.heap.size + 1) (by simp) ?_)
        intro g' cap' w3 hown' hgrow hg' _
        have HB3 := hide (((unhide HBEL).alloc hsz (.cells #[.string x] 9)).grown hgrow (by simp; omega) (fun b hb => (own_lt (unhide HOW2) b hb).2))
        have HO3 := hide hown'
        clear hown' hgrow hg'
        go_wp2_with fail
        go_roundw
        case rel =>
          refine ⟨k + 1, by omega, by go_num, ?_, unhide HB3⟩
          rw [unhide HON, ← unhide HL, ← unhide HX, addB, if_neg (by rw [unhide HH]; decide)]
          have h := unhide HO3
          show World.ownsRow _ _ _ _ _ _ _
          rw [List.length_append, List.map_append]
          exact h
        case measure => simp [intOf]; omega
    · have hkk : k = l.length := by omega
      subst hkk
      go_wp2_with fail
      go_ret
      refine ⟨⟨_, rfl, ?_⟩, unhide HBEL⟩
      have h := unhide HOWN
      rw [List.take_length] at h
      rw [List.take_length]
      exact h

abbrev NTr (w : World) (t : Tr) (p : Nat) : Prop := NAt (fun _ => True) w t p
/-- A row of nodes. -/
def NRow (B : Nat) (w : World) (v : Value) (ts : List Tr) : Prop := ∃ ps : List Nat, w.ownsRow B 22 1 v ps.length (ps.map nPtr) ∧ NAts (fun _ => True) w ts ps
theorem Below.stay {I : Nat → Prop} {w w' : World} (h : Below w.heap.size w w') : Stay I w w' := fun b _ hl => h.block b hl
theorem NAt.nt {I : Nat → Prop} {w : World} {t : Tr} {p : Nat} (h : NAt I w t p) : NTr w t p := NAt.mono (fun _ _ _ => trivial) _ _ h
theorem NTr.later {w w' : World} {t : Tr} {p : Nat} (h : NTr w t p) (hb : Below w.heap.size w w') : NTr w' t p := NAt.later (Below.stay hb) _ _ h
theorem NRow.later {B : Nat} {w w' : World} {v : Value} {ts : List Tr} (h : NRow B w v ts) (hb : Below w.heap.size w w') : NRow B w' v ts := by
  obtain ⟨ps, h1, h2⟩ := h
  exact ⟨ps, owns_stay (I := fun _ => True) (Below.stay hb) (fun _ _ => trivial) h1, NAts.later (Below.stay hb) _ _ h2⟩
theorem SRow.later {B : Nat} {w w' : World} {v : Value} {l : List ByteArray} (h : SRow B w v l) (hb : Below w.heap.size w w') : SRow B w' v l := owns_stay (I := fun _ => True) (Below.stay hb) (fun _ _ => trivial) h
theorem NRow.form {B : Nat} {w : World} {v : Value} {ts : List Tr} (h : NRow B w v ts) : ∃ a cap, v = .slice a ts.length cap := by
  obtain ⟨ps, h1, h2⟩ := h
  rw [← NAts.length _ _ h2]
  exact row_shut h1
theorem NRow.nil (B : Nat) (w : World) : NRow B w (.slice none 0 0) [] := ⟨[], ⟨rfl, Or.inl ⟨rfl, rfl⟩⟩, NAts.nil⟩
theorem NRow.cell {B : Nat} {w : World} {v : Value} {ts : List Tr} (h : NRow B w v ts) (k : Nat) (hk : k < ts.length) : ∃ g cap p, v = .slice (some ⟨g, 0, none⟩) ts.length cap ∧ g < w.heap.size ∧ w.cell? ⟨g, k, none⟩ = some (nPtr p) ∧ NTr w ts[k] p := by
  obtain ⟨ps, h1, h2⟩ := h
  have hl := NAts.length _ _ h2
  obtain ⟨g, cap, rfl, hc⟩ := row_open h1 (by omega)
  obtain ⟨hp, hn⟩ := NAts.get _ _ h2 k hk
  exact ⟨g, cap, ps[k], by rw [hl], (own_lt h1 g rfl).1, hc k hp, hn⟩
theorem NRow.own {B : Nat} {w : World} {v : Value} {ts : List Tr} (h : NRow B w v ts) (g : Nat) (hg : v.ownBlock = some g) : g < w.heap.size ∧ B ≤ g := by
  obtain ⟨ps, h1, h2⟩ := h
  exact own_lt h1 g hg
theorem NTr.cells {w : World} {t : Tr} {p : Nat} (h : NTr w t p) : p < w.heap.size ∧ w.cell? ⟨p, 0, none⟩ = some (.int .i64 t.kd) ∧ w.cell? ⟨p, 1, none⟩ = some (.string t.tx) ∧ ∃ u, w.cell? ⟨p, 3, none⟩ = some u ∧ NRow 0 w u t.kids := by
  obtain ⟨u, ps, hb, hr, _, hk⟩ := NAt.opens2 h
  obtain ⟨c0, c1, _, c3, _⟩ := node_cells hb
  exact ⟨lt_of_heap hb, c0, c1, u, c3, ps, hr, hk⟩
theorem one_cellsP (w : World) (q : Nat) (H : Nat) (h : w.heap.size = H) : ∀ j u, [nPtr q][j]? = some u → (w.alloc (.cells #[nPtr q] 22)).cell? ((⟨H, 0, none⟩ : Addr).add j) = some u := by
  subst h
  intro j u hj
  match j with
  | 0 =>
    simp only [List.getElem?_cons_zero, Option.some.injEq] at hj
    subst hj
    show (w.alloc (.cells #[nPtr q] 22)).cell? ⟨w.heap.size, 0 + 0, none⟩ = _
    rw [cell_of (heap_new w (.cells #[nPtr q] 22))]
    rfl
  | n + 1 => simp at hj
theorem one_oneP (q : Nat) : ∀ u ∈ [nPtr q], u.oneCell' = true := by
  intro u hu
  rw [List.mem_singleton.1 hu]
  rfl

theorem texts_any {B : Nat} (ts : List Tr) (v : Value) (w : World) (h : NRow B w v ts) (hl : ts.length ≤ 90000) :
    Calls Tryz.prog 72 #[v] w fun e w' => (∃ u, e = .returned u ∧ SRow w.heap.size w' u (ts.map Tr.tx)) ∧ Below w.heap.size w w' := by
  obtain ⟨i0, hi0, hz0, hz1, hz2⟩ := info_parts info9
  obtain ⟨va, vc, rfl⟩ := h.form
  have HR := hide h
  clear h
  go_enter Tryz.func72, Tryz.ntmps72
  go_wp2_with fail
  go_loopw [3, 8] (fun o i wr => ∃ k : Nat, k ≤ ts.length ∧ i = .int .i64 k ∧ SRow w.heap.size wr o ((ts.take k).map Tr.tx) ∧ Below w.heap.size w wr) (fun _ i _ => ts.length - (intOf i).toNat)
  case atStart => exact ⟨0, Nat.zero_le _, rfl, srow_nil _ _, Below.refl _ _⟩
  case round =>
    obtain ⟨k, hk, rfl, hown, hbel⟩ := hrel
    have HOWN := hide hown
    have HBEL := hide hbel
    obtain ⟨oa, oc, rfl⟩ := srow_form hown
    clear hown hbel
    by_cases hlt : k < ts.length
    · obtain ⟨g, cap, q, hv, hg, hc, hn⟩ := ((unhide HR).later (unhide HBEL)).cell k hlt
      simp only [Value.slice.injEq] at hv
      obtain ⟨rfl, _, rfl⟩ := hv
      obtain ⟨hql, _, c1, _⟩ := hn.cells
      have hki : (k : Int) < (ts.length : Int) := by omega
      obtain ⟨x, hx⟩ : ∃ x, x = (ts[k]).tx := ⟨_, rfl⟩
      rw [← hx] at c1
      have HX := hide hx
      have hsz := (unhide HBEL).size
      obtain ⟨L, hL⟩ : ∃ L, L = (ts.take k).map Tr.tx := ⟨_, rfl⟩
      have hLl : L.length = k := by rw [hL]; simp; omega
      have HL := hide hL
      rw [← hL] at HOWN ⊢
      have HOW2 : Hid (World.ownsRow wr w.heap.size 9 1 (.slice oa k oc) k (L.map Value.string)) := by
        have h : World.ownsRow wr w.heap.size 9 1 (.slice oa L.length oc) L.length (L.map Value.string) := unhide HOWN
        rw [hLl] at h
        exact h
      rw [hLl]
      have HLL := hide hLl
      clear hx hn HOWN hL hLl
      go_wp2_with (at_builtin; refine wpList_append_lies _ rfl _ _ 54 rfl w.heap.size 9 i0 (.string ByteArray.empty) 1 16 Tryz.underlying54 hi0 hz0 hz1 hz2 rfl (by decide) _ _ _ rfl ((unhide HOW2).alloc _) ⟨wr.heap.size, 0, none⟩ 1 1 [.string x] rfl rfl (hoCellsS wr x _ rfl) (hoOneS x) (by decide) (by unfold maxLen; omega) (by omega) (by simp; omega) (wr.heap.size + 1) (by simp) ?_)
      intro g' cap' w3 hown' hgrow hg' _
      have HB3 := hide (((unhide HBEL).alloc hsz (.cells #[.string x] 9)).grown hgrow (by simp; omega) (fun b hb => (own_lt (unhide HOW2) b hb).2))
      have HO3 := hide hown'
      clear hown' hgrow hg'
      go_wp2_with fail
      go_roundw
      case rel =>
        refine ⟨k + 1, by omega, by go_num, ?_, unhide HB3⟩
        rw [List.take_succ_eq_append_getElem hlt, List.map_append, ← unhide HL]
        show World.ownsRow _ _ _ _ _ _ _
        rw [List.length_append, List.map_append, unhide HLL]
        show World.ownsRow _ _ _ _ _ _ (_ ++ [Value.string (ts[k]).tx])
        rw [← unhide HX]
        exact unhide HO3
      case measure => simp [intOf]; omega
    · have hkk : k = ts.length := by omega
      subst hkk
      go_wp2_with fail
      go_ret
      refine ⟨⟨_, rfl, ?_⟩, unhide HBEL⟩
      have h := unhide HOWN
      rw [List.take_length] at h
      rw [List.take_length]
      exact h

theorem kids_any (t : Tr) (p : Nat) (w : World) (h : NTr w t p) : Calls Tryz.prog 64 #[nPtr p] w fun e w' => (∃ u, e = .returned u ∧ NRow 0 w u t.kids) ∧ w' = w := by
  obtain ⟨hpl, _, _, u, c3, hr⟩ := h.cells
  obtain ⟨ua, uc, rfl⟩ := hr.form
  have HR := hide hr
  clear hr h
  go_enter Tryz.func64, Tryz.ntmps64
  go_wp2_with fail
  go_ret
  exact ⟨⟨_, rfl, unhide HR⟩, rfl⟩

/-- Closures over nodes that only read. -/
abbrev fnV (F : Nat) : Value := .func (.func F) #[] #[]

theorem kidsThat_any (F : Nat) (f : Tr → Bool) (hen : ∀ args W, (callFunc F args).run Tryz.prog W = .ok (.enter F args) W)
    (hF : ∀ t p W, NTr W t p → Calls Tryz.prog F #[nPtr p] W fun e w' => e = .returned (.bool (f t)) ∧ w' = W)
    (t : Tr) (p : Nat) (w : World) (h : NTr w t p) (hl : t.kids.length ≤ 90000) :
    Calls Tryz.prog 68 #[nPtr p, fnV F] w fun e w' => (∃ u, e = .returned u ∧ NRow w.heap.size w' u (t.kids.filter f)) ∧ Below w.heap.size w w' := by
  obtain ⟨i0, hi0, hz0, hz1, hz2⟩ := info_parts info22
  have HK := hide (kids_any t p w h)
  have HF := hide hF
  clear h hF
  generalize hts : t.kids = ts at HK hl
  clear hts t
  go_enter Tryz.func68, Tryz.ntmps68
  go_wp2_with fail
  refine Calls.mono HK.out ?_
  rintro e w1 ⟨⟨u, rfl, hr⟩, rfl⟩
  obtain ⟨va, vc, rfl⟩ := hr.form
  have HR := hide hr
  clear HK hr
  go_wp2_with fail
  go_loopw [5, 11] (fun o i wr => ∃ (k : Nat) (qs : List Nat), k ≤ ts.length ∧ i = .int .i64 k ∧ wr.ownsRow w1.heap.size 22 1 o qs.length (qs.map nPtr) ∧ NAts (fun _ => True) w1 ((ts.take k).filter f) qs ∧ Below w1.heap.size w1 wr) (fun _ i _ => ts.length - (intOf i).toNat)
  case atStart => exact ⟨0, [], Nat.zero_le _, rfl, ⟨rfl, Or.inl ⟨rfl, rfl⟩⟩, NAts.nil, Below.refl _ _⟩
  case round =>
    obtain ⟨k, qs, hk, rfl, hown, hns, hbel⟩ := hrel
    have HO := hide hown
    have HNS := hide hns
    have HBEL := hide hbel
    obtain ⟨oa, oc, rfl⟩ := row_shut hown
    have hql := NAts.length _ _ hns
    clear hown hbel hns
    by_cases hlt : k < ts.length
    · obtain ⟨g, cap, q, hv, hg, hc0, hn0⟩ := (unhide HR).cell k hlt
      simp only [Value.slice.injEq] at hv
      obtain ⟨rfl, _, rfl⟩ := hv
      have hc : wr.cell? ⟨g, k, none⟩ = some (nPtr q) := by rw [(unhide HBEL).cell (p := ⟨g, k, none⟩) hg]; exact hc0
      have hki : (k : Int) < (ts.length : Int) := by omega
      have hsz := (unhide HBEL).size
      have HC := hide (unhide HF ts[k] q wr (hn0.later (unhide HBEL)))
      have HN := hide hn0
      have HTK := hide (List.take_succ_eq_append_getElem hlt)
      have hgr : g < wr.heap.size := by omega
      have hLl : qs.length ≤ k := by rw [hql]; have := List.length_filter_le f (ts.take k); rw [List.length_take] at this; omega
      have HOL := hide (own_lt (unhide HO))
      clear hn0 hc0 hql
      cases hh : f ts[k] with
      | true =>
        rw [hh] at HC
        have HH := hide hh
        clear hh
        go_wp2_with fail
        refine Calls.mono HC.out ?_
        rintro e w2 ⟨rfl, rfl⟩
        clear HC
        go_wp2_with (at_builtin; refine wpList_append_lies _ rfl _ _ 36 rfl w1.heap.size 22 i0 (.pointer none) 1 8 Tryz.underlying36 hi0 hz0 hz1 hz2 rfl (by decide) _ _ _ rfl ((unhide HO).alloc _) ⟨w2.heap.size, 0, none⟩ 1 1 [nPtr q] rfl rfl (one_cellsP w2 q _ rfl) (one_oneP q) (by decide) (by unfold maxLen; omega) (by omega) (by simp; omega) (w2.heap.size + 1) (by simp) ?_)
        intro g' cap' w3 hown' hgrow hg' _
        have HB3 := hide ((unhide HBEL).trans (((Below.refl w1.heap.size w2).alloc hsz (.cells #[nPtr q] 22)).grown hgrow (by simp; omega) (fun b hb => (unhide HOL b hb).2)))
        have HO3 := hide hown'
        clear hown' hgrow hg'
        go_wp2_with fail
        go_roundw
        case rel =>
          refine ⟨k + 1, qs ++ [q], by omega, by go_num, ?_, ?_, unhide HB3⟩
          · rw [List.length_append, List.map_append]
            exact unhide HO3
          · rw [unhide HTK, List.filter_append]
            simp only [List.filter_cons, unhide HH, List.filter_nil, if_true]
            exact NAts.append (NAts.cons (unhide HN) NAts.nil) _ _ (unhide HNS)
        case measure => simp [intOf]; omega
      | false =>
        rw [hh] at HC
        have HH := hide hh
        clear hh
        go_wp2_with fail
        refine Calls.mono HC.out ?_
        rintro e w2 ⟨rfl, rfl⟩
        clear HC
        go_wp2_with fail
        go_roundw
        case rel =>
          refine ⟨k + 1, qs, by omega, by go_num, unhide HO, ?_, unhide HBEL⟩
          rw [unhide HTK, List.filter_append]
          simp only [List.filter_cons, unhide HH, List.filter_nil, Bool.false_eq_true, if_false, List.append_nil]
          exact unhide HNS
        case measure => simp [intOf]; omega
    · have hkk : k = ts.length := by omega
      subst hkk
      go_wp2_with fail
      go_ret
      have h := unhide HNS
      rw [List.take_length] at h
      exact ⟨⟨_, rfl, qs, unhide HO, NAts.later (Below.stay (unhide HBEL)) _ _ h⟩, unhide HBEL⟩

theorem en69 : ∀ args W, (callFunc 69 args).run Tryz.prog W = .ok (.enter 69 args) W := fun _ _ => by kernel_rfl
theorem en71 : ∀ args W, (callFunc 71 args).run Tryz.prog W = .ok (.enter 71 args) W := fun _ _ => by kernel_rfl
def isFnT (t : Tr) : Bool := t.kd == 5
def isLetT (t : Tr) : Bool := t.kd == 3 || t.kd == 4
def isFunT (t : Tr) : Bool := t.kd == 5 || t.kd == 37

theorem funcs1_any (t : Tr) (p : Nat) (w : World) (h : NTr w t p) : Calls Tryz.prog 69 #[nPtr p] w fun e w' => e = .returned (.bool (isFnT t)) ∧ w' = w := by
  obtain ⟨hpl, c0, _, _⟩ := h.cells
  clear h
  go_enter Tryz.func69, Tryz.ntmps69
  go_wp2_with fail
  go_ret
  exact ⟨rfl, rfl⟩

theorem lets1_any (t : Tr) (p : Nat) (w : World) (h : NTr w t p) : Calls Tryz.prog 71 #[nPtr p] w fun e w' => e = .returned (.bool (isLetT t)) ∧ w' = w := by
  obtain ⟨hpl, c0, _, _⟩ := h.cells
  clear h
  unfold isLetT
  generalize t.kd = kd at c0
  cases h3 : (kd == 3)
  · go_enter Tryz.func71, Tryz.ntmps71
    go_wp2_with fail
    go_ret
    exact ⟨rfl, rfl⟩
  · go_enter Tryz.func71, Tryz.ntmps71
    go_wp2_with fail
    go_ret
    exact ⟨rfl, rfl⟩

theorem isFun_any (t : Tr) (p : Nat) (w : World) (h : NTr w t p) : Calls Tryz.prog 63 #[nPtr p] w fun e w' => e = .returned (.bool (isFunT t)) ∧ w' = w := by
  obtain ⟨hpl, c0, _, _⟩ := h.cells
  clear h
  unfold isFunT
  generalize t.kd = kd at c0
  cases h3 : (kd == 5)
  · go_enter Tryz.func63, Tryz.ntmps63
    go_wp2_with fail
    go_ret
    exact ⟨rfl, rfl⟩
  · go_enter Tryz.func63, Tryz.ntmps63
    go_wp2_with fail
    go_ret
    exact ⟨rfl, rfl⟩

def fnsT (t : Tr) : List Tr := t.kids.filter isFnT
def letsT (t : Tr) : List Tr := t.kids.filter isLetT

theorem funcs_any (t : Tr) (p : Nat) (w : World) (h : NTr w t p) (hl : t.kids.length ≤ 90000) :
    Calls Tryz.prog 31 #[nPtr p] w fun e w' => (∃ u, e = .returned u ∧ NRow w.heap.size w' u (fnsT t)) ∧ Below w.heap.size w w' := by
  have HC := hide (kidsThat_any 69 isFnT en69 funcs1_any t p w h hl)
  clear h
  go_enter Tryz.func31, Tryz.ntmps31
  go_wp2_with fail
  refine Calls.mono HC.out ?_
  rintro e w1 ⟨⟨u, rfl, hr⟩, hb⟩
  obtain ⟨ua, uc, rfl⟩ := hr.form
  have HR := hide hr
  have HB := hide hb
  clear HC hr hb
  go_wp2_with fail
  go_ret
  exact ⟨⟨_, rfl, unhide HR⟩, unhide HB⟩

theorem lets_any (t : Tr) (p : Nat) (w : World) (h : NTr w t p) (hl : t.kids.length ≤ 90000) :
    Calls Tryz.prog 33 #[nPtr p] w fun e w' => (∃ u, e = .returned u ∧ NRow w.heap.size w' u (letsT t)) ∧ Below w.heap.size w w' := by
  have HC := hide (kidsThat_any 71 isLetT en71 lets1_any t p w h hl)
  clear h
  go_enter Tryz.func33, Tryz.ntmps33
  go_wp2_with fail
  refine Calls.mono HC.out ?_
  rintro e w1 ⟨⟨u, rfl, hr⟩, hb⟩
  obtain ⟨ua, uc, rfl⟩ := hr.form
  have HR := hide hr
  have HB := hide hb
  clear HC hr hb
  go_wp2_with fail
  go_ret
  exact ⟨⟨_, rfl, unhide HR⟩, unhide HB⟩
end Go.Proofs.YtodmgaikhbmlnaaGreatDoor
