/-
  Nodes in rows: their texts, those of a kind; a node's Funcs and Lets.
-/
import Derived.Test.YtoimgcjbcbhclaaGreatDoorWh24
import Derived.Test.YtoimgcjbcbhclaaGreatDoorWh15
set_option maxRecDepth 100000
set_option maxHeartbeats 16000000
namespace Go.Proofs.YtoimgcjbcbhclaaGreatDoor
open Go.RowKit

abbrev NTr (w : World) (t : Tr) (p : Nat) : Prop := NAt (fun _ => True) w t p
/-- A row of nodes. -/
def NRow (B : Nat) (w : World) (v : Value) (ts : List Tr) : Prop := ∃ ps : List Nat, w.ownsRow B 22 1 v ps.length (ps.map nPtr) ∧ NLs (fun _ => True) w ts ps
theorem Below.stay {I : Nat → Prop} {w w' : World} (h : Below w.heap.size w w') : Stay I w w' := fun b _ hl => h.block b hl
theorem NAt.nt {I : Nat → Prop} {w : World} {t : Tr} {p : Nat} (h : NAt I w t p) : NTr w t p := NAt.mono (fun _ _ _ => trivial) _ _ h
theorem NTr.later {w w' : World} {t : Tr} {p : Nat} (h : NTr w t p) (hb : Below w.heap.size w w') : NTr w' t p := NAt.later (Below.stay hb) _ _ h
theorem NRow.later {B : Nat} {w w' : World} {v : Value} {ts : List Tr} (h : NRow B w v ts) (hb : Below w.heap.size w w') : NRow B w' v ts := by
  obtain ⟨ps, h1, h2⟩ := h
  exact ⟨ps, owns_stay (I := fun _ => True) (Below.stay hb) (fun _ _ => trivial) h1, NLs.later (Below.stay hb) _ _ h2⟩
theorem SRow.later {B : Nat} {w w' : World} {v : Value} {l : List ByteArray} (h : SRow B w v l) (hb : Below w.heap.size w w') : SRow B w' v l := owns_stay (I := fun _ => True) (Below.stay hb) (fun _ _ => trivial) h
theorem NRow.form {B : Nat} {w : World} {v : Value} {ts : List Tr} (h : NRow B w v ts) : ∃ a cap, v = .slice a ts.length cap := by
  obtain ⟨ps, h1, h2⟩ := h
  rw [← NLs.length _ _ h2]
  exact row_shut h1
theorem NRow.nil (B : Nat) (w : World) : NRow B w (.slice none 0 0) [] := ⟨[], ⟨rfl, Or.inl ⟨rfl, rfl⟩⟩, NLs.nil⟩
theorem NRow.cell {B : Nat} {w : World} {v : Value} {ts : List Tr} (h : NRow B w v ts) (k : Nat) (hk : k < ts.length) : ∃ g cap p, v = .slice (some ⟨g, 0, none⟩) ts.length cap ∧ g < w.heap.size ∧ w.cell? ⟨g, k, none⟩ = some (nPtr p) ∧ NTr w ts[k] p := by
  obtain ⟨ps, h1, h2⟩ := h
  have hl := NLs.length _ _ h2
  obtain ⟨g, cap, rfl, hc⟩ := row_open h1 (by omega)
  obtain ⟨hp, hn⟩ := NLs.get _ _ h2 k hk
  exact ⟨g, cap, ps[k], by rw [hl], (own_lt h1 g rfl).1, hc k hp, hn⟩
theorem NRow.own {B : Nat} {w : World} {v : Value} {ts : List Tr} (h : NRow B w v ts) (g : Nat) (hg : v.ownBlock = some g) : g < w.heap.size ∧ B ≤ g := by
  obtain ⟨ps, h1, h2⟩ := h
  exact own_lt h1 g hg
theorem NTr.cells {w : World} {t : Tr} {p : Nat} (h : NTr w t p) : p < w.heap.size ∧ w.cell? ⟨p, 0, none⟩ = some (.int .i64 t.kd) ∧ w.cell? ⟨p, 1, none⟩ = some (.string t.tx) ∧ ∃ u, w.cell? ⟨p, 3, none⟩ = some u ∧ NRow 0 w u t.kids := by
  obtain ⟨u, ps, hb, hr, _, hk⟩ := NAt.opens2 h
  obtain ⟨c0, c1, _, c3, _⟩ := node_cells hb
  exact ⟨lt_of_heap hb, c0, c1, u, c3, ps, hr, NAts.nl _ _ hk⟩
theorem one_cellsP (w : World) (q : Nat) (H : Nat) (h : w.heap.size = H) : ∀ j u, [nPtr q][j]? = some u → (w.alloc (.cells #[nPtr q] 22)).cell? ((⟨H, 0, none⟩ : Addr).add j) = some u := by
  subst h
  intro j u hj
  match j with
  | 0 =>
    simp only [List.getElem?_cons_zero, Option.some.injEq] at hj
    subst hj
    show (w.alloc (.cells #[nPtr q] 22)).cell? ⟨w.heap.size, 0 + 0, none⟩ = _
    rw [cell_of (heap_new w (.cells #[nPtr q] 22))]
    rfl
  | n + 1 => simp at hj
theorem one_oneP (q : Nat) : ∀ u ∈ [nPtr q], u.oneCell' = true := by
  intro u hu
  rw [List.mem_singleton.1 hu]
  rfl

theorem texts_any {B : Nat} (ts : List Tr) (v : Value) (w : World) (h : NRow B w v ts) (hl : ts.length ≤ 90000) :
    Calls Tryz.prog 195 #[v] w fun e w' => (∃ u, e = .returned u ∧ SRow w.heap.size w' u (ts.map Tr.tx)) ∧ Below w.heap.size w w' := by
  obtain ⟨i0, hi0, hz0, hz1, hz2⟩ := info_parts info9
  obtain ⟨va, vc, rfl⟩ := h.form
  have HR := hide h
  clear h
  go_enter Tryz.func195, Tryz.ntmps195
  go_wp2_with fail
  go_loopw [3, 8] (fun o i wr => ∃ k : Nat, k ≤ ts.length ∧ i = .int .i64 k ∧ SRow w.heap.size wr o ((ts.take k).map Tr.tx) ∧ Below w.heap.size w wr) (fun _ i _ => ts.length - (intOf i).toNat)
  case atStart => exact ⟨0, Nat.zero_le _, rfl, srow_nil _ _, Below.refl _ _⟩
  case round =>
    obtain ⟨k, hk, rfl, hown, hbel⟩ := hrel
    have HOWN := hide hown
    have HBEL := hide hbel
    obtain ⟨oa, oc, rfl⟩ := srow_form hown
    clear hown hbel
    by_cases hlt : k < ts.length
    · obtain ⟨g, cap, q, hv, hg, hc, hn⟩ := ((unhide HR).later (unhide HBEL)).cell k hlt
      simp only [Value.slice.injEq] at hv
      obtain ⟨rfl, _, rfl⟩ := hv
      obtain ⟨hql, _, c1, _⟩ := hn.cells
      have hki : (k : Int) < (ts.length : Int) := by omega
      obtain ⟨x, hx⟩ : ∃ x, x = (ts[k]).tx := ⟨_, rfl⟩
      rw [← hx] at c1
      have HX := hide hx
      have hsz := (unhide HBEL).size
      obtain ⟨L, hL⟩ : ∃ L, L = (ts.take k).map Tr.tx := ⟨_, rfl⟩
      have hLl : L.length = k := by rw [hL]; simp; omega
      have HL := hide hL
      rw [← hL] at HOWN ⊢
      have HOW2 : Hid (World.ownsRow wr w.heap.size 9 1 (.slice oa k oc) k (L.map Value.string)) := by
        have h : World.ownsRow wr w.heap.size 9 1 (.slice oa L.length oc) L.length (L.map Value.string) := unhide HOWN
        rw [hLl] at h
        exact h
      rw [hLl]
      have HLL := hide hLl
      clear hx hn HOWN hL hLl
      go_wp2_with (at_builtin; refine wpList_append_lies _ rfl _ _ 38 rfl w.heap.size 9 i0 (.string ByteArray.empty) 1 16 Tryz.underlying38 hi0 hz0 hz1 hz2 rfl (by decide) _ _ _ rfl ((unhide HOW2).alloc _) ⟨wr.heap.size, 0, none⟩ 1 1 [.string x] rfl rfl (hoCellsS wr x _ rfl) (hoOneS x) (by decide) (by unfold maxLen; omega) (by omega) (by simp; omega) (wr.heap.size + 1) (by simp) ?_)
      intro g' cap' w3 hown' hgrow hg' _
      have HB3 := hide (((unhide HBEL).alloc hsz (.cells #[.string x] 9)).grown hgrow (by simp; omega) (fun b hb => (own_lt (unhide HOW2) b hb).2))
      have HO3 := hide hown'
      clear hown' hgrow hg'
      go_wp2_with fail
      go_roundw
      case rel =>
        refine ⟨k + 1, by omega, by go_num, ?_, unhide HB3⟩
        rw [List.take_succ_eq_append_getElem hlt, List.map_append, ← unhide HL]
        show World.ownsRow _ _ _ _ _ _ _
        rw [List.length_append, List.map_append, unhide HLL]
        show World.ownsRow _ _ _ _ _ _ (_ ++ [Value.string (ts[k]).tx])
        rw [← unhide HX]
        exact unhide HO3
      case measure => simp [intOf]; omega
    · have hkk : k = ts.length := by omega
      subst hkk
      go_wp2_with fail
      go_ret
      refine ⟨⟨_, rfl, ?_⟩, unhide HBEL⟩
      have h := unhide HOWN
      rw [List.take_length] at h
      rw [List.take_length]
      exact h

theorem kids_any (t : Tr) (p : Nat) (w : World) (h : NTr w t p) : Calls Tryz.prog 257 #[nPtr p] w fun e w' => (∃ u, e = .returned u ∧ NRow 0 w u t.kids) ∧ w' = w := by
  obtain ⟨hpl, _, _, u, c3, hr⟩ := h.cells
  obtain ⟨ua, uc, rfl⟩ := hr.form
  have HR := hide hr
  clear hr h
  go_enter Tryz.func257, Tryz.ntmps257
  go_wp2_with fail
  go_ret
  exact ⟨⟨_, rfl, unhide HR⟩, rfl⟩

/-- Closures over nodes that only read. -/
abbrev fnV (F : Nat) : Value := .func (.func F) #[] #[]

theorem kidsThat_any (F : Nat) (f : Tr → Bool) (hen : ∀ args W, (callFunc F args).run Tryz.prog W = .ok (.enter F args) W)
    (hF : ∀ t p W, NTr W t p → Calls Tryz.prog F #[nPtr p] W fun e w' => e = .returned (.bool (f t)) ∧ w' = W)
    (t : Tr) (p : Nat) (w : World) (h : NTr w t p) (hl : t.kids.length ≤ 90000) :
    Calls Tryz.prog 214 #[nPtr p, fnV F] w fun e w' => (∃ u, e = .returned u ∧ NRow w.heap.size w' u (t.kids.filter f)) ∧ Below w.heap.size w w' := by
  obtain ⟨i0, hi0, hz0, hz1, hz2⟩ := info_parts info22
  have HK := hide (kids_any t p w h)
  have HF := hide hF
  clear h hF
  generalize hts : t.kids = ts at HK hl
  clear hts t
  go_enter Tryz.func214, Tryz.ntmps214
  go_wp2_with fail
  refine Calls.mono HK.out ?_
  rintro e w1 ⟨⟨u, rfl, hr⟩, rfl⟩
  obtain ⟨va, vc, rfl⟩ := hr.form
  have HR := hide hr
  clear HK hr
  go_wp2_with fail
  go_loopw [5, 11] (fun o i wr => ∃ (k : Nat) (qs : List Nat), k ≤ ts.length ∧ i = .int .i64 k ∧ wr.ownsRow w1.heap.size 22 1 o qs.length (qs.map nPtr) ∧ NLs (fun _ => True) w1 ((ts.take k).filter f) qs ∧ Below w1.heap.size w1 wr) (fun _ i _ => ts.length - (intOf i).toNat)
  case atStart => exact ⟨0, [], Nat.zero_le _, rfl, ⟨rfl, Or.inl ⟨rfl, rfl⟩⟩, NLs.nil, Below.refl _ _⟩
  case round =>
    obtain ⟨k, qs, hk, rfl, hown, hns, hbel⟩ := hrel
    have HO := hide hown
    have HNS := hide hns
    have HBEL := hide hbel
    obtain ⟨oa, oc, rfl⟩ := row_shut hown
    have hql := NLs.length _ _ hns
    clear hown hbel hns
    by_cases hlt : k < ts.length
    · obtain ⟨g, cap, q, hv, hg, hc0, hn0⟩ := (unhide HR).cell k hlt
      simp only [Value.slice.injEq] at hv
      obtain ⟨rfl, _, rfl⟩ := hv
      have hc : wr.cell? ⟨g, k, none⟩ = some (nPtr q) := by rw [(unhide HBEL).cell (p := ⟨g, k, none⟩) hg]; exact hc0
      have hki : (k : Int) < (ts.length : Int) := by omega
      have hsz := (unhide HBEL).size
      have HC := hide (unhide HF ts[k] q wr (hn0.later (unhide HBEL)))
      have HN := hide hn0
      have HTK := hide (List.take_succ_eq_append_getElem hlt)
      have hgr : g < wr.heap.size := by omega
      have hLl : qs.length ≤ k := by rw [hql]; have := List.length_filter_le f (ts.take k); rw [List.length_take] at this; omega
      have HOL := hide (own_lt (unhide HO))
      clear hn0 hc0 hql
      cases hh : f ts[k] with
      | true =>
        rw [hh] at HC
        have HH := hide hh
        clear hh
        go_wp2_with fail
        refine Calls.mono HC.out ?_
        rintro e w2 ⟨rfl, rfl⟩
        clear HC
        go_wp2_with (at_builtin; refine wpList_append_lies _ rfl _ _ 46 rfl w1.heap.size 22 i0 (.pointer none) 1 8 Tryz.underlying46 hi0 hz0 hz1 hz2 rfl (by decide) _ _ _ rfl ((unhide HO).alloc _) ⟨w2.heap.size, 0, none⟩ 1 1 [nPtr q] rfl rfl (one_cellsP w2 q _ rfl) (one_oneP q) (by decide) (by unfold maxLen; omega) (by omega) (by simp; omega) (w2.heap.size + 1) (by simp) ?_)
        intro g' cap' w3 hown' hgrow hg' _
        have HB3 := hide ((unhide HBEL).trans (((Below.refl w1.heap.size w2).alloc hsz (.cells #[nPtr q] 22)).grown hgrow (by simp; omega) (fun b hb => (unhide HOL b hb).2)))
        have HO3 := hide hown'
        clear hown' hgrow hg'
        go_wp2_with fail
        go_roundw
        case rel =>
          refine ⟨k + 1, qs ++ [q], by omega, by go_num, ?_, ?_, unhide HB3⟩
          · rw [List.length_append, List.map_append]
            exact unhide HO3
          · rw [unhide HTK, List.filter_append]
            simp only [List.filter_cons, unhide HH, List.filter_nil, if_true]
            exact NLs.append (NLs.cons (unhide HN) NLs.nil) _ _ (unhide HNS)
        case measure => simp [intOf]; omega
      | false =>
        rw [hh] at HC
        have HH := hide hh
        clear hh
        go_wp2_with fail
        refine Calls.mono HC.out ?_
        rintro e w2 ⟨rfl, rfl⟩
        clear HC
        go_wp2_with fail
        go_roundw
        case rel =>
          refine ⟨k + 1, qs, by omega, by go_num, unhide HO, ?_, unhide HBEL⟩
          rw [unhide HTK, List.filter_append]
          simp only [List.filter_cons, unhide HH, List.filter_nil, Bool.false_eq_true, if_false, List.append_nil]
          exact unhide HNS
        case measure => simp [intOf]; omega
    · have hkk : k = ts.length := by omega
      subst hkk
      go_wp2_with fail
      go_ret
      have h := unhide HNS
      rw [List.take_length] at h
      exact ⟨⟨_, rfl, qs, unhide HO, NLs.later (Below.stay (unhide HBEL)) _ _ h⟩, unhide HBEL⟩

theorem en69 : ∀ args W, (callFunc 258 args).run Tryz.prog W = .ok (.enter 258 args) W := fun _ _ => by kernel_rfl
theorem en71 : ∀ args W, (callFunc 215 args).run Tryz.prog W = .ok (.enter 215 args) W := fun _ _ => by kernel_rfl
def isFnT (t : Tr) : Bool := t.kd == 5
def isLetT (t : Tr) : Bool := t.kd == 3 || t.kd == 4
def isFunT (t : Tr) : Bool := t.kd == 5 || t.kd == 37

theorem funcs1_any (t : Tr) (p : Nat) (w : World) (h : NTr w t p) : Calls Tryz.prog 258 #[nPtr p] w fun e w' => e = .returned (.bool (isFnT t)) ∧ w' = w := by
  obtain ⟨hpl, c0, _, _⟩ := h.cells
  clear h
  go_enter Tryz.func258, Tryz.ntmps258
  go_wp2_with fail
  go_ret
  exact ⟨rfl, rfl⟩

theorem lets1_any (t : Tr) (p : Nat) (w : World) (h : NTr w t p) : Calls Tryz.prog 215 #[nPtr p] w fun e w' => e = .returned (.bool (isLetT t)) ∧ w' = w := by
  obtain ⟨hpl, c0, _, _⟩ := h.cells
  clear h
  unfold isLetT
  generalize t.kd = kd at c0
  cases h3 : (kd == 3)
  · go_enter Tryz.func215, Tryz.ntmps215
    go_wp2_with fail
    go_ret
    exact ⟨rfl, rfl⟩
  · go_enter Tryz.func215, Tryz.ntmps215
    go_wp2_with fail
    go_ret
    exact ⟨rfl, rfl⟩

theorem isFun_any (t : Tr) (p : Nat) (w : World) (h : NTr w t p) : Calls Tryz.prog 256 #[nPtr p] w fun e w' => e = .returned (.bool (isFunT t)) ∧ w' = w := by
  obtain ⟨hpl, c0, _, _⟩ := h.cells
  clear h
  unfold isFunT
  generalize t.kd = kd at c0
  cases h3 : (kd == 5)
  · go_enter Tryz.func256, Tryz.ntmps256
    go_wp2_with fail
    go_ret
    exact ⟨rfl, rfl⟩
  · go_enter Tryz.func256, Tryz.ntmps256
    go_wp2_with fail
    go_ret
    exact ⟨rfl, rfl⟩

def fnsT (t : Tr) : List Tr := t.kids.filter isFnT
def letsT (t : Tr) : List Tr := t.kids.filter isLetT

theorem funcs_any (t : Tr) (p : Nat) (w : World) (h : NTr w t p) (hl : t.kids.length ≤ 90000) :
    Calls Tryz.prog 196 #[nPtr p] w fun e w' => (∃ u, e = .returned u ∧ NRow w.heap.size w' u (fnsT t)) ∧ Below w.heap.size w w' := by
  have HC := hide (kidsThat_any 258 isFnT en69 funcs1_any t p w h hl)
  clear h
  go_enter Tryz.func196, Tryz.ntmps196
  go_wp2_with fail
  refine Calls.mono HC.out ?_
  rintro e w1 ⟨⟨u, rfl, hr⟩, hb⟩
  obtain ⟨ua, uc, rfl⟩ := hr.form
  have HR := hide hr
  have HB := hide hb
  clear HC hr hb
  go_wp2_with fail
  go_ret
  exact ⟨⟨_, rfl, unhide HR⟩, unhide HB⟩

theorem lets_any (t : Tr) (p : Nat) (w : World) (h : NTr w t p) (hl : t.kids.length ≤ 90000) :
    Calls Tryz.prog 126 #[nPtr p] w fun e w' => (∃ u, e = .returned u ∧ NRow w.heap.size w' u (letsT t)) ∧ Below w.heap.size w w' := by
  have HC := hide (kidsThat_any 215 isLetT en71 lets1_any t p w h hl)
  clear h
  go_enter Tryz.func126, Tryz.ntmps126
  go_wp2_with fail
  refine Calls.mono HC.out ?_
  rintro e w1 ⟨⟨u, rfl, hr⟩, hb⟩
  obtain ⟨ua, uc, rfl⟩ := hr.form
  have HR := hide hr
  have HB := hide hb
  clear HC hr hb
  go_wp2_with fail
  go_ret
  exact ⟨⟨_, rfl, unhide HR⟩, unhide HB⟩

def ownVar (t : Tr) : List ByteArray := if t.kd == 2 then [t.tx] else []
mutual
/-- The names that var declares in a node, but not in functions. -/
def vw : Tr → List ByteArray
  | .mk kd tx _ ks => (if kd == 2 then [tx] else []) ++ (if kd == 5 || kd == 37 then [] else vws ks)
def vws : List Tr → List ByteArray
  | [] => []
  | t :: ts => vw t ++ vws ts
end
theorem vw_eq (t : Tr) : vw t = ownVar t ++ (if isFunT t then [] else vws t.kids) := by
  cases t with
  | mk kd tx n ks => rw [vw]; rfl
theorem vws_app : ∀ a b : List Tr, vws (a ++ b) = vws a ++ vws b
  | [], b => by simp [vws]
  | t :: a, b => by simp [vws, vws_app a b]
theorem vws_take (ts : List Tr) (k : Nat) (hk : k < ts.length) : vws (ts.take (k + 1)) = vws (ts.take k) ++ vw ts[k] := by
  rw [List.take_succ_eq_append_getElem hk, vws_app]
  simp [vws]
mutual
theorem vw_len : ∀ t : Tr, (vw t).length ≤ t.count
  | .mk kd tx n ks => by
    have h := vws_len ks
    rw [vw, count_mk]
    split <;> split <;> simp <;> omega
theorem vws_len : ∀ ts : List Tr, (vws ts).length ≤ Tr.counts ts
  | [] => by simp [vws]
  | t :: ts => by
    have h1 := vw_len t
    have h2 := vws_len ts
    rw [vws, counts_cons]
    simp
    omega
end
/-- A list of texts in a variable that a function literal holds. -/
structure GotS (b B : Nat) (l : List ByteArray) (w : World) : Prop where
  lt : b < B
  sz : B ≤ w.heap.size
  own : ∃ v, w.heap[b]? = some (.cells #[v] 38 (0, 0)) ∧ SRow B w v l
theorem GotS.drew {b B : Nat} {l : List ByteArray} {w : World} (h : GotS b B l w) : GotS b B l w.drew := ⟨h.lt, h.sz, h.own⟩
theorem gots_push {b B g cap n : Nat} {l : List ByteArray} {s : ByteArray} {wd w3 : World} {v : Value} (hlt : b < B) (hsz : B ≤ wd.heap.size) (hb : wd.heap[b]? = some (.cells #[v] 38 (0, 0))) (hown : wd.ownsRow B 9 1 v l.length (l.map Value.string)) (hn : n = l.length + 1)
    (hown3 : w3.ownsRow B 9 1 (.slice (some ⟨g, 0, none⟩) n cap) n (l.map Value.string ++ [.string s])) (hgr : (wd.alloc (.cells #[.string s] 9)).grownBy w3 v.ownBlock) :
    GotS b B (l ++ [s]) (w3.setCell ⟨b, 0, none⟩ (.slice (some ⟨g, 0, none⟩) n cap)) ∧ Ap b B wd (w3.setCell ⟨b, 0, none⟩ (.slice (some ⟨g, 0, none⟩) n cap)) := by
  subst hn
  have hob : ∀ k, v.ownBlock = some k → B ≤ k := fun k hk => (own_lt hown k hk).2
  have hap : Ap b B wd (w3.setCell ⟨b, 0, none⟩ (.slice (some ⟨g, 0, none⟩) (l.length + 1) cap)) := (((Ap.refl b B wd).alloc hsz _).grown hgr (by simp; omega) hob).setCell (p := ⟨b, 0, none⟩) (Or.inr rfl) _
  have h3 : w3.heap[b]? = some (.cells #[v] 38 (0, 0)) := by
    rw [hgr.block b (by simp; omega) (fun e => by have := hob b e.symm; omega), Below.heap_alloc _ _ _ (by omega)]
    exact hb
  have hgB : B ≤ g := (own_lt hown3 g rfl).2
  refine ⟨⟨hlt, Nat.le_trans hsz hap.size, _, by rw [heap_set h3]; rfl, ?_⟩, hap⟩
  show World.ownsRow _ _ _ _ _ _ _
  rw [show (l ++ [s]).length = l.length + 1 by simp, List.map_append]
  exact owns_stay (I := fun x => x = g) (fun x hx _ => Below.heap_setCell w3 ⟨b, 0, none⟩ _ x (by have h1 : x = g := hx; show x ≠ b; omega)) (fun y hy => by simpa [Value.ownBlock] using hy.symm) hown3
theorem via00 {G goal : Prop} (h1 : G → goal) (h2 : G) : goal := h1 h2

theorem vars1_any {b B p : Nat} {l : List ByteArray} {t : Tr} {w : World} (hG : GotS b B l w) (hn : NAt (fun x => x < B ∧ x ≠ b) w t p) (hl : l.length ≤ 100000) :
    Calls Tryz.prog 255 #[nPtr p, .pointer (some ⟨b, 0, none⟩)] w fun e w' => e = .returned (.bool (!isFunT t)) ∧ GotS b B (l ++ ownVar t) w' ∧ Ap b B w w' := by
  obtain ⟨i0, hi0, hz0, hz1, hz2⟩ := info_parts info9
  have hpB : p < B ∧ p ≠ b := by
    cases t with
    | mk kd tx nn ks => rw [NAt] at hn; exact hn.1
  have HFN : ∀ W, Ap b B w W → Hid (Calls Tryz.prog 256 #[nPtr p] W fun e w' => e = .returned (.bool (isFunT t)) ∧ w' = W) := fun W hW => isFun_any t p W (NAt.nt (NAt.later (fun x hx _ => hW.block x hx.1 hx.2) _ _ hn))
  obtain ⟨hpl, c0, c1, _⟩ := (NAt.nt hn).cells
  have HG0 := hide hG
  obtain ⟨hbB, hBs, v, hb, hown⟩ := hG
  obtain ⟨va, vc, rfl⟩ := srow_form hown
  have d0 : w.cell? ⟨b, 0, none⟩ = some (.slice va l.length vc) := by rw [cell_of hb]; rfl
  have cf := frozen_of hb 0
  have hbl := lt_of_heap hb
  have HOWN := hide hown
  have HB := hide hb
  obtain ⟨tx, htx⟩ : ∃ tx, tx = t.tx := ⟨_, rfl⟩
  obtain ⟨kd, hkd⟩ : ∃ kd, kd = t.kd := ⟨_, rfl⟩
  obtain ⟨fb, hfb⟩ : ∃ fb, fb = isFunT t := ⟨_, rfl⟩
  rw [← htx] at c1
  rw [← hkd] at c0
  rw [← hfb]
  have HOV : Hid (ownVar t = if kd == 2 then [tx] else []) := by rw [htx, hkd]; rfl
  rw [unhide HOV]
  simp only [← hfb] at HFN
  clear hown hb hn htx hkd hfb HOV
  cases hk : (kd == 2) with
  | false =>
    have HC := HFN w (Ap.refl _ _ _)
    go_enter Tryz.func255, Tryz.ntmps255
    go_wp2_with fail
    refine Calls.mono HC.out ?_
    rintro e w2 ⟨rfl, rfl⟩
    clear HC
    go_wp2_with fail
    go_ret
    exact ⟨rfl, by simpa using unhide HG0, Ap.refl _ _ _⟩
  | true =>
    go_enter Tryz.func255, Tryz.ntmps255
    go_wp2_with fail
    refine via00 (G := ?G1) (fun CONT => ?_) ?_
    rotate_left
    · refine wp_region_any (by kernel_rfl) ?_
      change wpAny _ _ _ _ _ _ _ (World.drew _)
      refine wt 1 (nPtr p) ?_
      refine wt 2 (nPtr p) ?_
      refine wt 3 (.pointer (some ⟨p, 1, none⟩)) ?_
      refine wr2 0 4 (fun K hK => ?_) (fun K hK => ?_)
      · go_simp
        refine hK _ _ ?_
        clear hK K
        refine wr1 4 fun K hK => ?_
        go_simp
        refine hK _ _ ?_
        clear hK K
        refine wr1 5 fun K hK => ?_
        go_simp
        refine hK _ _ ?_
        clear hK K
        refine wpAny_same (listed' := #[true, true, true, true, true, true, false, false]) (by kernel_rfl) rfl ?_
        exact CONT
      · go_simp
        refine hK _ _ ?_
        clear hK K
        refine wr2 0 5 (fun K hK => ?_) (fun K hK => ?_)
        · go_simp
          refine hK _ _ ?_
          clear hK K
          refine wr1 5 fun K hK => ?_
          go_simp
          refine hK _ _ ?_
          clear hK K
          exact wpAny_same (listed' := #[true, true, true, true, true, true, false, false]) (by kernel_rfl) (by kernel_rfl) CONT
        · go_simp
          refine hK _ _ ?_
          clear hK K
          refine wr1 0 fun K hK => ?_
          go_simp
          refine hK _ _ ?_
          clear hK K
          exact wpAny_same (listed' := #[true, true, true, true, true, true, false, false]) (by kernel_rfl) (by kernel_rfl) CONT
    · refine wr1 6 fun K hK => ?_
      refine step_append_lies _ rfl _ _ 38 rfl B 9 i0 (.string ByteArray.empty) 1 16 Tryz.underlying38 hi0 hz0 hz1 hz2 rfl (by decide) _ _ _ rfl (((unhide HOWN) : World.ownsRow w.drew B 9 1 _ _ _).alloc _) ⟨w.heap.size, 0, none⟩ 1 1 [.string tx] rfl rfl (hoCellsS w.drew tx _ rfl) (hoOneS tx) (by decide) (by unfold maxLen; omega) (by omega) (by simp; omega) (w.heap.size + 1) (by simp) ?_
      intro g cap w3 hown3 hgr3 _ _
      refine hK _ _ ?_
      clear hK K
      have HGP := hide (gots_push (wd := w.drew) hbB hBs (unhide HB) (unhide HOWN) rfl hown3 hgr3)
      have h3 : w3.heap[b]? = w.heap[b]? := (hgr3.block b (by simp; omega) (fun e => by have := (own_lt (unhide HOWN) b e.symm).2; omega)).trans (Below.heap_alloc w.drew _ b hbl)
      have e0 : w3.cell? ⟨b, 0, none⟩ = some (.slice va l.length vc) := (World.cell?_of_block (w := w) h3).trans d0
      have ef : w3.frozen? ⟨b, 0, none⟩ = false := (World.frozen?_of_block (w := w) h3).trans cf
      have he : b < w3.heap.size := lt_of_heap (h3.trans (unhide HB))
      clear hown3 hgr3 h3 d0 cf
      refine wr1 7 fun K hK => ?_
      go_simp
      refine hK _ _ ?_
      clear hK K e0 ef he
      refine wpAny_done (by kernel_rfl) ?_ _
      go_simp
      obtain ⟨hg2, ha2⟩ := unhide HGP
      obtain ⟨W, hW⟩ : ∃ W, W = w3.setCell ⟨b, 0, none⟩ (.slice (some ⟨g, 0, none⟩) (l.length + 1) cap) := ⟨_, rfl⟩
      rw [← hW] at hg2 ha2 ⊢
      have HG2 := hide hg2
      have HA2 := hide ((Ap.refl b B w).drew.trans ha2)
      clear hg2 ha2 hW HGP c0 c1
      have HC := HFN W (unhide HA2)
      go_wp2_with fail
      refine Calls.mono HC.out ?_
      rintro e w2 ⟨rfl, rfl⟩
      clear HC
      go_wp2_with fail
      go_ret
      exact ⟨rfl, unhide HG2, unhide HA2⟩

theorem srow_mono {B B' : Nat} {w : World} {v : Value} {l : List ByteArray} (h : SRow B w v l) (hB : B' ≤ B) : SRow B' w v l := by
  refine ⟨h.1, ?_⟩
  rcases h.2 with hn | ⟨g, cap, cur, hv, hb, rest⟩
  · exact Or.inl hn
  · exact Or.inr ⟨g, cap, cur, hv, by omega, rest⟩
abbrev varV (b : Nat) : Value := .func (.func 255) #[] #[.pointer (some ⟨b, 0, none⟩)]
theorem en62 : ∀ args W, (callFunc 255 args).run Tryz.prog W = .ok (.enter 255 args) W := fun _ _ => by kernel_rfl

theorem walkV (b B : Nat) : ∀ (m : Nat) (t : Tr), t.count ≤ m → ∀ (p : Nat) (l : List ByteArray) (w : World), NAt (fun x => x < B ∧ x ≠ b) w t p → GotS b B l w → l.length + t.count ≤ 90000 →
    Calls Tryz.prog 31 #[nPtr p, varV b] w fun e w' => e = .returned (.tuple #[]) ∧ GotS b B (l ++ vw t) w' ∧ Ap b B w w' := by
  intro m
  induction m with
  | zero =>
    intro t ht
    cases t with
    | mk kd tx nn ks => rw [count_mk] at ht; omega
  | succ m ih =>
    intro t ht p l w hnt hG hbd
    obtain ⟨u, ps, hblk, hrow, hri, hks⟩ := hnt.opens2
    have hlen := NAts.length _ _ hks
    have hpB : p < B ∧ p ≠ b := by
      cases t with
      | mk kd tx nn ks => rw [NAt] at hnt; exact hnt.1
    have htc : t.count = 1 + Tr.counts t.kids := by cases t with | mk kd tx nn ks => exact count_mk _ _ _ _
    obtain ⟨_, _, _, f3, _⟩ := node_cells hblk
    obtain ⟨ua, uc, hu⟩ := row_shut hrow
    subst hu
    have hen := en62
    have hfn : ∀ W : World, (binOp .eql 54 (varV b) .nilFunc).run Tryz.prog W = .ok (.bool false) W := fun W => by kernel_rfl
    have HC := hide (vars1_any hG hnt (by omega))
    have HKS := hide hks
    have HROW := hide hrow
    have HRI := hide hri
    have HIH := hide ih
    have HTC := hide htc
    have HHT := hide ht
    have HBD := hide hbd
    have HF3 := hide f3
    have HPL := hide (lt_of_heap hblk)
    have HPB := hide hpB
    have HLEN := hide hlen
    have HVW := hide (vw_eq t)
    have HOL : Hid ((ownVar t).length ≤ 1) := by show _ ≤ _; unfold ownVar; split <;> simp
    clear hG hks hrow hri ih htc ht hbd hblk hnt f3 hpB hlen
    cases hx : isFunT t with
    | true =>
      rw [hx] at HC HVW
      clear hx
      go_enter Tryz.func31, Tryz.ntmps31
      go_wp2_with fail
      refine Calls.mono HC.out ?_
      rintro e w1 ⟨rfl, hg1, ha1⟩
      have HG1 := hide hg1
      have HA1 := hide ha1
      clear HC hg1 ha1
      go_wp2_with fail
      exact bodyPost_ret (v := .tuple #[]) (by simp [results, Tryz.results31, go_sem]) rfl ⟨rfl, by rw [unhide HVW]; simpa using unhide HG1, unhide HA1⟩
    | false =>
      rw [hx] at HC HVW
      clear hx
      go_enter Tryz.func31, Tryz.ntmps31
      go_wp2_with fail
      refine Calls.mono HC.out ?_
      rintro e w1 ⟨rfl, hg1, ha1⟩
      have g3 := (ha1.cell (p := ⟨p, 3, none⟩) (unhide HPB).1 (unhide HPB).2).trans (unhide HF3)
      rw [unhide HLEN] at g3
      have hpl1 : p < w1.heap.size := Nat.lt_of_lt_of_le (unhide HPL) ha1.size
      have HG1 := hide hg1
      have HA1 := hide ha1
      clear HC hg1 ha1
      go_wp2_with fail
      go_loopw [23] (fun i wr => ∃ k : Nat, k ≤ t.kids.length ∧ i = .int .i64 k ∧ GotS b B (l ++ ownVar t ++ vws (t.kids.take k)) wr ∧ Ap b B w wr) (fun i _ => t.kids.length - (intOf i).toNat)
      case atStart => exact ⟨0, Nat.zero_le _, rfl, by simpa [vws] using unhide HG1, unhide HA1⟩
      case round =>
        obtain ⟨k, hk, rfl, hg, hap⟩ := hrel
        have HGK := hide hg
        have HAK := hide hap
        clear hg hap
        by_cases hlt : k < t.kids.length
        · obtain ⟨g, cap, hv, hcell⟩ := row_open (unhide HROW) (by rw [unhide HLEN]; omega)
          simp only [Value.slice.injEq] at hv
          obtain ⟨rfl, _, rfl⟩ := hv
          obtain ⟨hkp, hnk⟩ := NAts.get _ _ (unhide HKS) k hlt
          have hgb := unhide HRI g rfl
          have hck : wr.cell? ⟨g, k, none⟩ = some (nPtr ps[k]) := by
            rw [(unhide HAK).cell (p := ⟨g, k, none⟩) hgb.1 hgb.2]; exact hcell k hkp
          have hnk2 : NAt (fun x => x < B ∧ x ≠ b) wr t.kids[k] ps[k] := NAt.later (fun x hx hl => (unhide HAK).block x hx.1 hx.2) _ _ hnk
          have hgl : g < wr.heap.size := Nat.lt_of_lt_of_le (own_lt (unhide HROW) g rfl).1 (unhide HAK).size
          have htk := counts_take t.kids k hlt
          have hwk := vws_take t.kids k hlt
          have hwl := vws_len (t.kids.take k)
          have h1 := unhide HTC
          have h2 := unhide HHT
          have h3 := unhide HBD
          have h4 := unhide HOL
          have htot : Tr.counts (t.kids.take k) + (t.kids[k]).count ≤ Tr.counts t.kids := by
            have : Tr.counts t.kids = Tr.counts (t.kids.take (k + 1)) + Tr.counts (t.kids.drop (k + 1)) := by rw [← counts_app, List.take_append_drop]
            omega
          have HC := hide ((unhide HIH) t.kids[k] (by omega) ps[k] _ wr hnk2 (unhide HGK) (by rw [List.length_append, List.length_append]; omega))
          have HWK := hide hwk
          obtain ⟨q, hq⟩ : ∃ q, q = ps[k] := ⟨_, rfl⟩
          rw [← hq] at hck HC
          have hki : (k : Int) < (t.kids.length : Int) := by omega
          have hkb : t.kids.length ≤ 100000 := by have := counts_len t.kids; omega
          clear hcell hnk hnk2 htk h1 h2 h3 h4 htot hq hwk hwl
          go_wp2_with fail
          refine Calls.mono HC.out ?_
          rintro e w2 ⟨rfl, hc2, ha2⟩
          have HC2 := hide hc2
          have HA2 := hide ((unhide HAK).trans ha2)
          clear hc2 ha2 HC hck
          go_wp2_with fail
          go_roundw
          case rel => exact ⟨k + 1, by omega, by go_num, by rw [unhide HWK, ← List.append_assoc]; exact unhide HC2, unhide HA2⟩
          case measure => simp [intOf]; omega
        · have hk2 : k = t.kids.length := by omega
          subst hk2
          go_wp2_with fail
          go_end0
          refine ⟨rfl, ?_, unhide HAK⟩
          have h := unhide HGK
          rw [List.take_length] at h
          rw [unhide HVW, ← List.append_assoc]
          exact h

theorem kids_cell {p n c : Nat} {a : Option Addr} {w : World} (hc : w.cell? ⟨p, 3, none⟩ = some (.slice a n c)) : Calls Tryz.prog 257 #[nPtr p] w fun e w' => e = .returned (.slice a n c) ∧ w' = w := by
  go_enter Tryz.func257, Tryz.ntmps257
  go_wp2_with fail
  go_ret
  exact ⟨rfl, rfl⟩

def varsT (t : Tr) : List ByteArray := onceL (vws t.kids)

theorem vars_any (t : Tr) (p : Nat) (w : World) (h : NTr w t p) (hc : t.count ≤ 80000) :
    Calls Tryz.prog 194 #[nPtr p] w fun e w' => (∃ u, e = .returned u ∧ SRow w.heap.size w' u (varsT t)) ∧ Below w.heap.size w w' := by
  have hN : NAt (fun x => x < w.heap.size) w t p := NAt.mono (fun b _ hl => hl) _ _ h
  obtain ⟨wa, hwa⟩ : ∃ wa, wa = w.alloc (.cells #[.slice none 0 0] 38) := ⟨_, rfl⟩
  have hba : Below w.heap.size w wa := by rw [hwa]; exact (Below.refl _ _).alloc (Nat.le_refl _) _
  have hsa : wa.heap.size = w.heap.size + 1 := by rw [hwa]; simp
  have hga : GotS w.heap.size (w.heap.size + 1) [] wa := ⟨by omega, by omega, _, by rw [hwa]; exact heap_new _ _, srow_nil _ _⟩
  have htc : t.count = 1 + Tr.counts t.kids := by cases t with | mk kd tx nn ks => exact count_mk _ _ _ _
  obtain ⟨u, ps, hblk, hrow, hri, hks⟩ := hN.opens2
  have hlen := NAts.length _ _ hks
  obtain ⟨ua, uc, hu⟩ := row_shut hrow
  subst hu
  obtain ⟨_, _, _, f3, _⟩ := node_cells hblk
  have HK := hide (kids_cell (w := wa) (p := p) ((World.cell?_of_block (w := w) (a := ⟨p, 3, none⟩) (hba.block p (lt_of_heap hblk))).trans f3))
  rw [hlen] at HK
  have HROW := hide hrow
  have HKS := hide hks
  have HRI := hide hri
  have HBA := hide hba
  have HSA := hide hsa
  have HGA := hide hga
  have HTC := hide htc
  have HHC := hide hc
  have HLEN := hide hlen
  have hen := en62
  have hkb : t.kids.length ≤ 100000 := by have := counts_len t.kids; omega
  clear h hN hba hga hrow hks hri hblk f3 htc hc hlen hsa
  go_enter Tryz.func194, Tryz.ntmps194
  go_wp2_with fail
  rw [← hwa]
  refine Calls.mono HK.out ?_
  rintro e w1 ⟨rfl, rfl⟩
  clear HK hwa
  go_wp2_with fail
  go_loopw [11] (fun i wr => ∃ k : Nat, k ≤ t.kids.length ∧ i = .int .i64 k ∧ GotS w.heap.size (w.heap.size + 1) (vws (t.kids.take k)) wr ∧ Ap w.heap.size (w.heap.size + 1) w1 wr) (fun i _ => t.kids.length - (intOf i).toNat)
  case atStart => exact ⟨0, Nat.zero_le _, rfl, by simpa [vws] using unhide HGA, Ap.refl _ _ _⟩
  case round =>
    obtain ⟨k, hk, rfl, hg, hap⟩ := hrel
    have HGK := hide hg
    have HAK := hide hap
    clear hg hap
    by_cases hlt : k < t.kids.length
    · obtain ⟨g, cap, hv, hcell⟩ := row_open (unhide HROW) (by rw [unhide HLEN]; omega)
      simp only [Value.slice.injEq] at hv
      obtain ⟨rfl, _, rfl⟩ := hv
      obtain ⟨hkp, hnk⟩ := NAts.get _ _ (unhide HKS) k hlt
      have hgl : g < w.heap.size := (own_lt (unhide HROW) g rfl).1
      have hck : wr.cell? ⟨g, k, none⟩ = some (nPtr ps[k]) := by
        rw [(unhide HAK).cell (p := ⟨g, k, none⟩) (by show g < _; omega) (by show g ≠ _; omega), World.cell?_of_block (w := w) (a := ⟨g, k, none⟩) ((unhide HBA).block g hgl)]; exact hcell k hkp
      have hnk2 : NAt (fun x => x < w.heap.size + 1 ∧ x ≠ w.heap.size) wr t.kids[k] ps[k] :=
        NAt.mono (fun x hx _ => ⟨by have h1 : x < w.heap.size := hx; omega, by have h1 : x < w.heap.size := hx; omega⟩) _ _ (NAt.later (I := fun x => x < w.heap.size) (fun x hx hl => ((unhide HAK).block x (by have h1 : x < w.heap.size := hx; omega) (by have h1 : x < w.heap.size := hx; omega)).trans ((unhide HBA).block x hx)) _ _ hnk)
      have hglr : g < wr.heap.size := by have := (unhide HAK).size; have := unhide HSA; omega
      have htk := counts_take t.kids k hlt
      have hwk := vws_take t.kids k hlt
      have hwl := vws_len (t.kids.take k)
      have h1 := unhide HTC
      have h3 := unhide HHC
      have htot : Tr.counts (t.kids.take k) + (t.kids[k]).count ≤ Tr.counts t.kids := by
        have : Tr.counts t.kids = Tr.counts (t.kids.take (k + 1)) + Tr.counts (t.kids.drop (k + 1)) := by rw [← counts_app, List.take_append_drop]
        omega
      have HC := hide (walkV w.heap.size (w.heap.size + 1) (t.kids[k]).count t.kids[k] (Nat.le_refl _) ps[k] _ wr hnk2 (unhide HGK) (by omega))
      have HWK := hide hwk
      obtain ⟨q, hq⟩ : ∃ q, q = ps[k] := ⟨_, rfl⟩
      rw [← hq] at hck HC
      have hki : (k : Int) < (t.kids.length : Int) := by omega
      clear hcell hnk hnk2 htk h1 h3 htot hq hwk hwl
      go_wp2_with fail
      refine Calls.mono HC.out ?_
      rintro e w2 ⟨rfl, hc2, ha2⟩
      have HC2 := hide hc2
      have HA2 := hide ((unhide HAK).trans ha2)
      clear hc2 ha2 HC hck
      go_wp2_with fail
      go_roundw
      case rel => exact ⟨k + 1, by omega, by go_num, by rw [unhide HWK]; exact unhide HC2, unhide HA2⟩
      case measure => simp [intOf]; omega
    · have hk2 : k = t.kids.length := by omega
      subst hk2
      have hg := unhide HGK
      rw [List.take_length] at hg
      obtain ⟨_, hz, v, hb, hown⟩ := hg
      obtain ⟨oa, oc, rfl⟩ := srow_form hown
      have c0 : wr.cell? ⟨w.heap.size, 0, none⟩ = some (.slice oa (vws t.kids).length oc) := by rw [cell_of hb]; rfl
      have hbl := lt_of_heap hb
      have HBW : Hid (Below w.heap.size w wr) := (unhide HBA).trans (((unhide HAK).mono (by omega)).below (Nat.le_refl _))
      have hvl := vws_len t.kids
      have HC := hide (once_any (vws t.kids) _ wr hown (by have := unhide HTC; have := unhide HHC; omega))
      clear hown hb hvl
      go_wp2_with fail
      refine Calls.mono HC.out ?_
      rintro e w2 ⟨⟨u, rfl, hr⟩, hb2⟩
      obtain ⟨xa, xc, rfl⟩ := srow_form hr
      have HR2 := hide hr
      have HB2 := hide ((unhide HBW).trans (hb2.mono (unhide HBW).size))
      clear HC hr hb2
      go_wp2_with fail
      go_ret
      exact ⟨⟨_, rfl, srow_mono (unhide HR2) (unhide HBW).size⟩, unhide HB2⟩

end Go.Proofs.YtoimgcjbcbhclaaGreatDoor
