/-
  Nodes in rows: their texts, those of a kind; a node's Funcs and Lets.
-/
import Derived.Test.YtodmgaikhbmlnaaGreatDoorEc24
set_option maxRecDepth 100000
set_option maxHeartbeats 16000000
namespace Go.Proofs.YtodmgaikhbmlnaaGreatDoor
open Go.RowKit
abbrev NTr (w : World) (t : Tr) (p : Nat) : Prop := NAt (fun _ => True) w t p
def NRow (B : Nat) (w : World) (v : Value) (ts : List Tr) : Prop := ∃ ps : List Nat, w.ownsRow B 22 1 v ps.length (ps.map nPtr) ∧ NAts (fun _ => True) w ts ps
theorem Below.stay {I : Nat → Prop} {w w' : World} (h : Below w.heap.size w w') : Stay I w w' := fun b _ hl => h.block b hl
theorem NAt.nt {I : Nat → Prop} {w : World} {t : Tr} {p : Nat} (h : NAt I w t p) : NTr w t p := NAt.mono (fun _ _ _ => trivial) _ _ h
theorem NTr.later {w w' : World} {t : Tr} {p : Nat} (h : NTr w t p) (hb : Below w.heap.size w w') : NTr w' t p := NAt.later (Below.stay hb) _ _ h
theorem NRow.later {B : Nat} {w w' : World} {v : Value} {ts : List Tr} (h : NRow B w v ts) (hb : Below w.heap.size w w') : NRow B w' v ts := by
 obtain ⟨ps, h1, h2⟩ := h
 exact ⟨ps, owns_stay (I := fun _ => True) (Below.stay hb) (fun _ _ => trivial) h1, NAts.later (Below.stay hb) _ _ h2⟩
theorem SRow.later {B : Nat} {w w' : World} {v : Value} {l : List ByteArray} (h : SRow B w v l) (hb : Below w.heap.size w w') : SRow B w' v l := owns_stay (I := fun _ => True) (Below.stay hb) (fun _ _ => trivial) h
theorem NRow.form {B : Nat} {w : World} {v : Value} {ts : List Tr} (h : NRow B w v ts) : ∃ a cap, v = .slice a ts.length cap := by
 obtain ⟨ps, h1, h2⟩ := h
 rw [← NAts.length _ _ h2]
 exact row_shut h1
theorem NRow.nil (B : Nat) (w : World) : NRow B w (.slice none 0 0) [] := ⟨[], ⟨rfl, Or.inl ⟨rfl, rfl⟩⟩, NAts.nil⟩
section
variable {B : Nat} {w : World} {v : Value} {ts : List Tr} (h : NRow B w v ts)
include B w v ts h
theorem NRow.cell (k : Nat) (hk : k < ts.length) : ∃ g cap p, v = .slice (some ⟨g, 0, none⟩) ts.length cap ∧ g < w.heap.size ∧ w.cell? ⟨g, k, none⟩ = some (nPtr p) ∧ NTr w ts[k] p := by
 obtain ⟨ps, h1, h2⟩ := h
 have hl := NAts.length _ _ h2
 obtain ⟨g, cap, rfl, hc⟩ := row_open h1 (by omega)
 obtain ⟨hp, hn⟩ := NAts.get _ _ h2 k hk
 exact ⟨g, cap, ps[k], by rw [hl], (own_lt h1 g rfl).1, hc k hp, hn⟩
theorem NRow.own (g : Nat) (hg : v.ownBlock = some g) : g < w.heap.size ∧ B ≤ g := by
 obtain ⟨ps, h1, h2⟩ := h
 exact own_lt h1 g hg
end
theorem NTr.cells {w : World} {t : Tr} {p : Nat} (h : NTr w t p) : p < w.heap.size ∧ w.cell? ⟨p, 0, none⟩ = some (.int .i64 t.kd) ∧ w.cell? ⟨p, 1, none⟩ = some (.string t.tx) ∧ ∃ u, w.cell? ⟨p, 3, none⟩ = some u ∧ NRow 0 w u t.kids := by
 obtain ⟨u, ps, hb, hr, _, hk⟩ := NAt.opens2 h
 obtain ⟨c0, c1, _, c3, _⟩ := node_cells hb
 exact ⟨lt_of_heap hb, c0, c1, u, c3, ps, hr, hk⟩
theorem one_cellsP (w : World) (q : Nat) (H : Nat) (h : w.heap.size = H) : ∀ j u, [nPtr q][j]? = some u → (w.alloc (.cells #[nPtr q] 22)).cell? ((⟨H, 0, none⟩ : Addr).add j) = some u := by
 subst h
 intro j u hj
 match j with
 | 0 =>
  simp only [List.getElem?_cons_zero, Option.some.injEq] at hj; subst hj
  show (w.alloc (.cells #[nPtr q] 22)).cell? ⟨w.heap.size, 0 + 0, none⟩ = _
  rw [cell_of (heap_new w (.cells #[nPtr q] 22))]; rfl
 | n + 1 => simp at hj
theorem one_oneP (q : Nat) : ∀ u ∈ [nPtr q], u.oneCell' = true := by
 intro u hu
 rw [List.mem_singleton.1 hu]
 rfl
theorem texts_any {B : Nat} (ts : List Tr) (v : Value) (w : World) (h : NRow B w v ts) (hl : ts.length ≤ 90000) :
  Calls Tryz.prog 72 #[v] w fun e w' => (∃ u, e = .returned u ∧ SRow w.heap.size w' u (ts.map Tr.tx)) ∧ Below w.heap.size w w' := by
 obtain ⟨i0, hi0, hz0, hz1, hz2⟩ := info_parts info9
 obtain ⟨va, vc, rfl⟩ := h.form
 have HR := hide h
 clear h
 go_enter Tryz.func72, Tryz.ntmps72
 go_wp2_with fail
 go_loopw [3, 8] (fun o i wr => ∃ k : Nat, k ≤ ts.length ∧ i = .int .i64 k ∧ SRow w.heap.size wr o ((ts.take k).map Tr.tx) ∧ Below w.heap.size w wr) (fun _ i _ => ts.length - (intOf i).toNat)
 case atStart => exact ⟨0, Nat.zero_le _, rfl, srow_nil _ _, Below.refl _ _⟩
 case round =>
  obtain ⟨k, hk, rfl, hown, hbel⟩ := hrel; have HOWN := hide hown; have HBEL := hide hbel; obtain ⟨oa, oc, rfl⟩ := srow_form hown; clear hown hbel
  by_cases hlt : k < ts.length
  ·
   obtain ⟨g, cap, q, hv, hg, hc, hn⟩ := (HR.out.later HBEL.out).cell k hlt; simp only [Value.slice.injEq] at hv; obtain ⟨rfl, _, rfl⟩ := hv; obtain ⟨hql, _, c1, _⟩ := hn.cells
   have hki : (k : Int) < (ts.length : Int) := by omega
   obtain ⟨x, hx⟩ : ∃ x, x = (ts[k]).tx := ⟨_, rfl⟩; rw [← hx] at c1; have HX := hide hx; have hsz := HBEL.out.size; obtain ⟨L, hL⟩ : ∃ L, L = (ts.take k).map Tr.tx := ⟨_, rfl⟩
   have hLl : L.length = k := by rw [hL]; simp; omega
   have HL := hide hL; rw [← hL] at HOWN ⊢; have HOW2 : Hid (World.ownsRow wr w.heap.size 9 1 (.slice oa k oc) k (L.map Value.string)) := by
    have h : World.ownsRow wr w.heap.size 9 1 (.slice oa L.length oc) L.length (L.map Value.string) := unhide HOWN; rw [hLl] at h; exact h
   rw [hLl]; have HLL := hide hLl; clear hx hn HOWN hL hLl
   go_wp2_with (at_builtin; refine wpList_append_lies _ rfl _ _ 54 rfl w.heap.size 9 i0 (.string ByteArray.empty) 1 16 Tryz.underlying54 hi0 hz0 hz1 hz2 rfl (by decide) _ _ _ rfl (HOW2.out.alloc _) ⟨wr.heap.size, 0, none⟩ 1 1 [.string x] rfl rfl (hoCellsS wr x _ rfl) (hoOneS x) (by decide) (by unfold maxLen; omega) (by omega) (by simp; omega) (wr.heap.size + 1) (by simp) ?_)
   intro g' cap' w3 hown' hgrow hg' _; have HB3 := hide ((HBEL.out.alloc hsz (.cells #[.string x] 9)).grown hgrow (by simp; omega) (fun b hb => (own_lt HOW2.out b hb).2))
   have HO3 := hide hown'; clear hown' hgrow hg'; go_wp2_with fail
   go_roundw
   case rel =>
    refine ⟨k + 1, by omega, by go_num, ?_, HB3.out⟩; rw [List.take_succ_eq_append_getElem hlt, List.map_append, ← HL.out]
    show World.ownsRow _ _ _ _ _ _ _
    rw [List.length_append, List.map_append, HLL.out]
    show World.ownsRow _ _ _ _ _ _ (_ ++ [Value.string (ts[k]).tx])
    rw [← HX.out]; exact unhide HO3
   case measure => simp [intOf]; omega
  ·
   have hkk : k = ts.length := by omega
   subst hkk; go_wp2_with fail; go_ret; refine ⟨⟨_, rfl, ?_⟩, HBEL.out⟩; exact zbdx
theorem kids_any (t : Tr) (p : Nat) (w : World) (h : NTr w t p) : Calls Tryz.prog 64 #[nPtr p] w fun e w' => (∃ u, e = .returned u ∧ NRow 0 w u t.kids) ∧ w' = w := by
 obtain ⟨hpl, _, _, u, c3, hr⟩ := h.cells
 obtain ⟨ua, uc, rfl⟩ := hr.form
 have HR := hide hr
 clear hr h
 go_enter Tryz.func64, Tryz.ntmps64
 go_wp2_with fail
 go_ret
 exact ⟨⟨_, rfl, HR.out⟩, rfl⟩
abbrev fnV (F : Nat) : Value := .func (.func F) #[] #[]
theorem kidsThat_any (F : Nat) (f : Tr → Bool) (hen : ∀ args W, (callFunc F args).run Tryz.prog W = .ok (.enter F args) W)
  (hF : ∀ t p W, NTr W t p → Calls Tryz.prog F #[nPtr p] W fun e w' => e = .returned (.bool (f t)) ∧ w' = W)
  (t : Tr) (p : Nat) (w : World) (h : NTr w t p) (hl : t.kids.length ≤ 90000) :
  Calls Tryz.prog 68 #[nPtr p, fnV F] w fun e w' => (∃ u, e = .returned u ∧ NRow w.heap.size w' u (t.kids.filter f)) ∧ Below w.heap.size w w' := by
 obtain ⟨i0, hi0, hz0, hz1, hz2⟩ := info_parts info22
 have HK := hide (kids_any t p w h)
 have HF := hide hF
 clear h hF
 generalize hts : t.kids = ts at HK hl
 clear hts t
 go_enter Tryz.func68, Tryz.ntmps68
 go_wp2_with fail
 refine cm HK.out ?_
 rintro e w1 ⟨⟨u, rfl, hr⟩, rfl⟩
 obtain ⟨va, vc, rfl⟩ := hr.form
 have HR := hide hr
 clear HK hr
 go_wp2_with fail
 go_loopw [5, 11] (fun o i wr => ∃ (k : Nat) (qs : List Nat), k ≤ ts.length ∧ i = .int .i64 k ∧ wr.ownsRow w1.heap.size 22 1 o qs.length (qs.map nPtr) ∧ NAts (fun _ => True) w1 ((ts.take k).filter f) qs ∧ Below w1.heap.size w1 wr) (fun _ i _ => ts.length - (intOf i).toNat)
 case atStart => exact ⟨0, [], Nat.zero_le _, rfl, ⟨rfl, Or.inl ⟨rfl, rfl⟩⟩, NAts.nil, Below.refl _ _⟩
 case round =>
  obtain ⟨k, qs, hk, rfl, hown, hns, hbel⟩ := hrel; have HO := hide hown; have HNS := hide hns; have HBEL := hide hbel; obtain ⟨oa, oc, rfl⟩ := row_shut hown; have hql := NAts.length _ _ hns; clear hown hbel hns
  by_cases hlt : k < ts.length
  ·
   obtain ⟨g, cap, q, hv, hg, hc0, hn0⟩ := HR.out.cell k hlt; simp only [Value.slice.injEq] at hv; obtain ⟨rfl, _, rfl⟩ := hv
   have hc : wr.cell? ⟨g, k, none⟩ = some (nPtr q) := by rw [HBEL.out.cell (p := ⟨g, k, none⟩) hg]; exact hc0
   have hki : (k : Int) < (ts.length : Int) := by omega
   have hsz := HBEL.out.size; have HC := hide (unhide HF ts[k] q wr (hn0.later HBEL.out)); have HN := hide hn0; have HTK := hide (List.take_succ_eq_append_getElem hlt); have hgr : g < wr.heap.size := by omega
   have hLl : qs.length ≤ k := by rw [hql]; have := List.length_filter_le f (ts.take k); rw [List.length_take] at this; omega
   have HOL := hide (own_lt HO.out); clear hn0 hc0 hql
   cases hh : f ts[k] with
   | true =>
    rw [hh] at HC; have HH := hide hh; clear hh; go_wp2_with fail; refine cm HC.out ?_; rintro e w2 ⟨rfl, rfl⟩; clear HC
    go_wp2_with (at_builtin; refine wpList_append_lies _ rfl _ _ 36 rfl w1.heap.size 22 i0 (.pointer none) 1 8 Tryz.underlying36 hi0 hz0 hz1 hz2 rfl (by decide) _ _ _ rfl (HO.out.alloc _) ⟨w2.heap.size, 0, none⟩ 1 1 [nPtr q] rfl rfl (one_cellsP w2 q _ rfl) (one_oneP q) (by decide) (by unfold maxLen; omega) (by omega) (by simp; omega) (w2.heap.size + 1) (by simp) ?_)
    intro g' cap' w3 hown' hgrow hg' _; have HB3 := hide (HBEL.out.trans (((Below.refl w1.heap.size w2).alloc hsz (.cells #[nPtr q] 22)).grown hgrow (by simp; omega) (fun b hb => (unhide HOL b hb).2)))
    have HO3 := hide hown'; clear hown' hgrow hg'; go_wp2_with fail
    go_roundw
    case rel =>
     refine ⟨k + 1, qs ++ [q], by omega, by go_num, ?_, ?_, HB3.out⟩
     ·
      rw [List.length_append, List.map_append]; exact unhide HO3
     ·
      rw [HTK.out, List.filter_append]; simp only [List.filter_cons, HH.out, List.filter_nil, if_true]; exact NAts.append (NAts.cons HN.out NAts.nil) _ _ HNS.out
    case measure => simp [intOf]; omega
   | false =>
    rw [hh] at HC; have HH := hide hh; clear hh; go_wp2_with fail; refine cm HC.out ?_; rintro e w2 ⟨rfl, rfl⟩; clear HC; go_wp2_with fail
    go_roundw
    case rel =>
     refine ⟨k + 1, qs, by omega, by go_num, HO.out, ?_, HBEL.out⟩; rw [HTK.out, List.filter_append]; simp only [List.filter_cons, HH.out, List.filter_nil, Bool.false_eq_true, if_false, List.append_nil]; exact unhide HNS
    case measure => simp [intOf]; omega
  ·
   have hkk : k = ts.length := by omega
   subst hkk; go_wp2_with fail; go_ret; have h := unhide HNS; rw [List.take_length] at h; exact ⟨⟨_, rfl, qs, HO.out, NAts.later (Below.stay HBEL.out) _ _ h⟩, HBEL.out⟩
theorem en69 : ∀ args W, (callFunc 69 args).run Tryz.prog W = .ok (.enter 69 args) W := fun _ _ => by kernel_rfl
theorem en71 : ∀ args W, (callFunc 71 args).run Tryz.prog W = .ok (.enter 71 args) W := fun _ _ => by kernel_rfl
def isFnT (t : Tr) : Bool := t.kd == 5
def isLetT (t : Tr) : Bool := t.kd == 3 || t.kd == 4
def isFunT (t : Tr) : Bool := t.kd == 5 || t.kd == 37
section
variable (t : Tr) (p : Nat) (w : World) (h : NTr w t p)
include t p w h
theorem funcs1_any : Calls Tryz.prog 69 #[nPtr p] w fun e w' => e = .returned (.bool (isFnT t)) ∧ w' = w := by
 obtain ⟨hpl, c0, _, _⟩ := h.cells
 clear h
 go_enter Tryz.func69, Tryz.ntmps69
 go_wp2_with fail
 go_ret
 exact ⟨rfl, rfl⟩
theorem lets1_any : Calls Tryz.prog 71 #[nPtr p] w fun e w' => e = .returned (.bool (isLetT t)) ∧ w' = w := by
 obtain ⟨hpl, c0, _, _⟩ := h.cells
 clear h
 unfold isLetT
 generalize t.kd = kd at c0
 cases h3 : (kd == 3)
 all_goals
  go_enter Tryz.func71, Tryz.ntmps71; go_wp2_with fail; go_ret; exact ⟨rfl, rfl⟩
theorem isFun_any : Calls Tryz.prog 63 #[nPtr p] w fun e w' => e = .returned (.bool (isFunT t)) ∧ w' = w := by
 obtain ⟨hpl, c0, _, _⟩ := h.cells
 clear h
 unfold isFunT
 generalize t.kd = kd at c0
 cases h3 : (kd == 5)
 all_goals
  go_enter Tryz.func63, Tryz.ntmps63; go_wp2_with fail; go_ret; exact ⟨rfl, rfl⟩
end
def fnsT (t : Tr) : List Tr := t.kids.filter isFnT
def letsT (t : Tr) : List Tr := t.kids.filter isLetT
section
variable (t : Tr) (p : Nat) (w : World) (h : NTr w t p) (hl : t.kids.length ≤ 90000)
include t p w h hl
theorem funcs_any :
  Calls Tryz.prog 31 #[nPtr p] w fun e w' => (∃ u, e = .returned u ∧ NRow w.heap.size w' u (fnsT t)) ∧ Below w.heap.size w w' := by
 have HC := hide (kidsThat_any 69 isFnT en69 funcs1_any t p w h hl)
 clear h
 go_enter Tryz.func31, Tryz.ntmps31
 exact zbes
theorem lets_any :
  Calls Tryz.prog 33 #[nPtr p] w fun e w' => (∃ u, e = .returned u ∧ NRow w.heap.size w' u (letsT t)) ∧ Below w.heap.size w w' := by
 have HC := hide (kidsThat_any 71 isLetT en71 lets1_any t p w h hl)
 clear h
 go_enter Tryz.func33, Tryz.ntmps33
 exact zbes
end
def ownVar (t : Tr) : List ByteArray := if t.kd == 2 then [t.tx] else []
mutual
def vw : Tr → List ByteArray
 | .mk kd tx _ ks => (if kd == 2 then [tx] else []) ++ (if kd == 5 || kd == 37 then [] else vws ks)
def vws : List Tr → List ByteArray
 | [] => []
 | t :: ts => vw t ++ vws ts
end
theorem vw_eq (t : Tr) : vw t = ownVar t ++ (if isFunT t then [] else vws t.kids) := by
 cases t with
 | mk kd tx n ks => rw [vw]; rfl
theorem vws_app : ∀ a b : List Tr, vws (a ++ b) = vws a ++ vws b
 | [], b => by simp [vws]
 | t :: a, b => by simp [vws, vws_app a b]
theorem vws_take (ts : List Tr) (k : Nat) (hk : k < ts.length) : vws (ts.take (k + 1)) = vws (ts.take k) ++ vw ts[k] := by
 rw [List.take_succ_eq_append_getElem hk, vws_app]
 simp [vws]
mutual
theorem vw_len : ∀ t : Tr, (vw t).length ≤ t.count
 | .mk kd tx n ks => by
  have h := vws_len ks; rw [vw, count_mk]
  split <;> split <;> simp <;> omega
theorem vws_len : ∀ ts : List Tr, (vws ts).length ≤ Tr.counts ts
 | [] => by simp [vws]
 | t :: ts => by
  have h1 := vw_len t; have h2 := vws_len ts; rw [vws, counts_cons]; simp; omega
end
structure GotS (b B : Nat) (l : List ByteArray) (w : World) : Prop where
 lt : b < B
 sz : B ≤ w.heap.size
 own : ∃ v, w.heap[b]? = some (.cells #[v] 54 (0, 0)) ∧ SRow B w v l
theorem GotS.drew {b B : Nat} {l : List ByteArray} {w : World} (h : GotS b B l w) : GotS b B l w.drew := ⟨h.lt, h.sz, h.own⟩
theorem gots_push {b B g cap n : Nat} {l : List ByteArray} {s : ByteArray} {wd w3 : World} {v : Value} (hlt : b < B) (hsz : B ≤ wd.heap.size) (hb : wd.heap[b]? = some (.cells #[v] 54 (0, 0))) (hown : wd.ownsRow B 9 1 v l.length (l.map Value.string)) (hn : n = l.length + 1)
  (hown3 : w3.ownsRow B 9 1 (.slice (some ⟨g, 0, none⟩) n cap) n (l.map Value.string ++ [.string s])) (hgr : (wd.alloc (.cells #[.string s] 9)).grownBy w3 v.ownBlock) :
  GotS b B (l ++ [s]) (w3.setCell ⟨b, 0, none⟩ (.slice (some ⟨g, 0, none⟩) n cap)) ∧ Ap b B wd (w3.setCell ⟨b, 0, none⟩ (.slice (some ⟨g, 0, none⟩) n cap)) := by
 subst hn
 have hob : ∀ k, v.ownBlock = some k → B ≤ k := fun k hk => (own_lt hown k hk).2
 have hap : Ap b B wd (w3.setCell ⟨b, 0, none⟩ (.slice (some ⟨g, 0, none⟩) (l.length + 1) cap)) := (((Ap.refl b B wd).alloc hsz _).grown hgr (by simp; omega) hob).setCell (p := ⟨b, 0, none⟩) (Or.inr rfl) _
 have h3 : w3.heap[b]? = some (.cells #[v] 54 (0, 0)) := by
  rw [hgr.block b (by simp; omega) (fun e => by have := hob b e.symm; omega), Below.heap_alloc _ _ _ (by omega)]
  exact hb
 have hgB : B ≤ g := (own_lt hown3 g rfl).2
 refine ⟨⟨hlt, Nat.le_trans hsz hap.size, _, by rw [heap_set h3]; rfl, ?_⟩, hap⟩
 show World.ownsRow _ _ _ _ _ _ _
 rw [show (l ++ [s]).length = l.length + 1 by simp, List.map_append]
 exact owns_stay (I := fun x => x = g) (fun x hx _ => Below.heap_setCell w3 ⟨b, 0, none⟩ _ x (by have h1 : x = g := hx; show x ≠ b; omega)) (fun y hy => by simpa [Value.ownBlock] using hy.symm) hown3
theorem via00 {G goal : Prop} (h1 : G → goal) (h2 : G) : goal := h1 h2
theorem vars1_any {b B p : Nat} {l : List ByteArray} {t : Tr} {w : World} (hG : GotS b B l w) (hn : NAt (fun x => x < B ∧ x ≠ b) w t p) (hl : l.length ≤ 100000) :
  Calls Tryz.prog 62 #[nPtr p, .pointer (some ⟨b, 0, none⟩)] w fun e w' => e = .returned (.bool (!isFunT t)) ∧ GotS b B (l ++ ownVar t) w' ∧ Ap b B w w' := by
 obtain ⟨i0, hi0, hz0, hz1, hz2⟩ := info_parts info9
 have hpB : p < B ∧ p ≠ b := by
  cases t with
  | mk kd tx nn ks => rw [NAt] at hn; exact hn.1
 have HFN : ∀ W, Ap b B w W → Hid (Calls Tryz.prog 63 #[nPtr p] W fun e w' => e = .returned (.bool (isFunT t)) ∧ w' = W) := fun W hW => isFun_any t p W (NAt.nt (NAt.later (fun x hx _ => hW.block x hx.1 hx.2) _ _ hn))
 obtain ⟨hpl, c0, c1, _⟩ := (NAt.nt hn).cells
 have HG0 := hide hG
 obtain ⟨hbB, hBs, v, hb, hown⟩ := hG
 obtain ⟨va, vc, rfl⟩ := srow_form hown
 have d0 : w.cell? ⟨b, 0, none⟩ = some (.slice va l.length vc) := by rw [cell_of hb]; rfl
 have cf := frozen_of hb 0
 have hbl := lt_of_heap hb
 have HOWN := hide hown
 have HB := hide hb
 obtain ⟨tx, htx⟩ : ∃ tx, tx = t.tx := ⟨_, rfl⟩
 obtain ⟨kd, hkd⟩ : ∃ kd, kd = t.kd := ⟨_, rfl⟩
 obtain ⟨fb, hfb⟩ : ∃ fb, fb = isFunT t := ⟨_, rfl⟩
 rw [← htx] at c1
 rw [← hkd] at c0
 rw [← hfb]
 have HOV : Hid (ownVar t = if kd == 2 then [tx] else []) := by rw [htx, hkd]; rfl
 rw [HOV.out]
 simp only [← hfb] at HFN
 clear hown hb hn htx hkd hfb HOV
 cases hk : (kd == 2) with
 | false =>
  have HC := HFN w (Ap.refl _ _ _); go_enter Tryz.func62, Tryz.ntmps62; go_wp2_with fail; refine cm HC.out ?_; rintro e w2 ⟨rfl, rfl⟩; clear HC; go_wp2_with fail; go_ret; exact ⟨rfl, by simpa using HG0.out, Ap.refl _ _ _⟩
 | true =>
  go_enter Tryz.func62, Tryz.ntmps62; go_wp2_with fail; refine via00 (G := ?G1) (fun CONT => ?_) ?_; rotate_left
  ·
   refine wp_region_any (by kernel_rfl) ?_; change wpAny _ _ _ _ _ _ _ (World.drew _); refine wt 1 (nPtr p) ?_; refine wt 2 (nPtr p) ?_; refine wt 3 (.pointer (some ⟨p, 1, none⟩)) ?_
   refine wr2 0 4 (fun K hK => ?_) (fun K hK => ?_)
   ·
    go_simp; refine hK _ _ ?_; clear hK K; refine wr1 4 fun K hK => ?_; go_simp; refine hK _ _ ?_; clear hK K; refine wr1 5 fun K hK => ?_; go_simp; refine hK _ _ ?_; clear hK K
    refine wpAny_same (listed' := tf 6 2) (by kernel_rfl) rfl ?_; exact CONT
   ·
    go_simp; refine hK _ _ ?_; clear hK K; refine wr2 0 5 (fun K hK => ?_) (fun K hK => ?_)
    ·
     go_simp; refine hK _ _ ?_; clear hK K; refine wr1 5 fun K hK => ?_; exact zbft
    ·
     go_simp; refine hK _ _ ?_; clear hK K; refine wr1 0 fun K hK => ?_; exact zbft
  ·
   refine wr1 6 fun K hK => ?_
   refine step_append_lies _ rfl _ _ 54 rfl B 9 i0 (.string ByteArray.empty) 1 16 Tryz.underlying54 hi0 hz0 hz1 hz2 rfl (by decide) _ _ _ rfl ((HOWN.out : World.ownsRow w.drew B 9 1 _ _ _).alloc _) ⟨w.heap.size, 0, none⟩ 1 1 [.string tx] rfl rfl (hoCellsS w.drew tx _ rfl) (hoOneS tx) (by decide) (by unfold maxLen; omega) (by omega) (by simp; omega) (w.heap.size + 1) (by simp) ?_
   intro g cap w3 hown3 hgr3 _ _; refine hK _ _ ?_; clear hK K; have HGP := hide (gots_push (wd := w.drew) hbB hBs HB.out HOWN.out rfl hown3 hgr3)
   have h3 : w3.heap[b]? = w.heap[b]? := (hgr3.block b (by simp; omega) (fun e => by have := (own_lt HOWN.out b e.symm).2; omega)).trans (Below.heap_alloc w.drew _ b hbl)
   have e0 : w3.cell? ⟨b, 0, none⟩ = some (.slice va l.length vc) := (World.cell?_of_block (w := w) h3).trans d0; have ef : w3.frozen? ⟨b, 0, none⟩ = false := (World.frozen?_of_block (w := w) h3).trans cf
   have he : b < w3.heap.size := lt_of_heap (h3.trans HB.out); clear hown3 hgr3 h3 d0 cf; refine wr1 7 fun K hK => ?_; go_simp; refine hK _ _ ?_; clear hK K e0 ef he; refine wpAny_done (by kernel_rfl) ?_ _; go_simp
   obtain ⟨hg2, ha2⟩ := unhide HGP; obtain ⟨W, hW⟩ : ∃ W, W = w3.setCell ⟨b, 0, none⟩ (.slice (some ⟨g, 0, none⟩) (l.length + 1) cap) := ⟨_, rfl⟩; rw [← hW] at hg2 ha2 ⊢; have HG2 := hide hg2
   have HA2 := hide ((Ap.refl b B w).drew.trans ha2); clear hg2 ha2 hW HGP c0 c1; have HC := HFN W HA2.out; go_wp2_with fail; refine cm HC.out ?_; rintro e w2 ⟨rfl, rfl⟩; clear HC; go_wp2_with fail; go_ret
   exact ⟨rfl, HG2.out, HA2.out⟩
theorem srow_mono {B B' : Nat} {w : World} {v : Value} {l : List ByteArray} (h : SRow B w v l) (hB : B' ≤ B) : SRow B' w v l := by
 refine ⟨h.1, ?_⟩
 rcases h.2 with hn | ⟨g, cap, cur, hv, hb, rest⟩
 ·
  exact Or.inl hn
 ·
  exact Or.inr ⟨g, cap, cur, hv, by omega, rest⟩
abbrev varV (b : Nat) : Value := .func (.func 62) #[] #[.pointer (some ⟨b, 0, none⟩)]
theorem en62 : ∀ args W, (callFunc 62 args).run Tryz.prog W = .ok (.enter 62 args) W := fun _ _ => by kernel_rfl
theorem walkV (b B : Nat) : ∀ (m : Nat) (t : Tr), t.count ≤ m → ∀ (p : Nat) (l : List ByteArray) (w : World), NAt (fun x => x < B ∧ x ≠ b) w t p → GotS b B l w → l.length + t.count ≤ 90000 →
  Calls Tryz.prog 20 #[nPtr p, varV b] w fun e w' => e = .returned (.tuple #[]) ∧ GotS b B (l ++ vw t) w' ∧ Ap b B w w' := by
 intro m
 induction m with
 | zero =>
  exact zbdt
 | succ m ih =>
  intro t ht p l w hnt hG hbd; obtain ⟨u, ps, hblk, hrow, hri, hks⟩ := hnt.opens2; have hlen := NAts.length _ _ hks; have hpB : p < B ∧ p ≠ b := by
   cases t with
   | mk kd tx nn ks => rw [NAt] at hnt; exact hnt.1
  have htc : t.count = 1 + Tr.counts t.kids := by cases t with | mk kd tx nn ks => exact count_mk _ _ _ _
  obtain ⟨_, _, _, f3, _⟩ := node_cells hblk; obtain ⟨ua, uc, hu⟩ := row_shut hrow; subst hu; have hen := en62
  have hfn : ∀ W : World, (binOp .eql 35 (varV b) .nilFunc).run Tryz.prog W = .ok (.bool false) W := fun W => by kernel_rfl
  have HC := hide (vars1_any hG hnt (by omega)); have HKS := hide hks; have HROW := hide hrow; have HRI := hide hri; have HIH := hide ih; have HTC := hide htc; have HHT := hide ht; have HBD := hide hbd; have HF3 := hide f3
  have HPL := hide (lt_of_heap hblk); have HPB := hide hpB; have HLEN := hide hlen; have HVW := hide (vw_eq t); have HOL : Hid ((ownVar t).length ≤ 1) := by show _ ≤ _; unfold ownVar; split <;> simp
  clear hG hks hrow hri ih htc ht hbd hblk hnt f3 hpB hlen
  cases hx : isFunT t with
  | true =>
   rw [hx] at HC HVW; clear hx; go_enter Tryz.func20, Tryz.ntmps20; go_wp2_with fail; refine cm HC.out ?_; rintro e w1 ⟨rfl, hg1, ha1⟩; have HG1 := hide hg1; have HA1 := hide ha1; clear HC hg1 ha1; go_wp2_with fail
   exact bodyPost_ret (v := .tuple #[]) (by simp [results, Tryz.results20, go_sem]) rfl ⟨rfl, by rw [HVW.out]; simpa using HG1.out, HA1.out⟩
  | false =>
   rw [hx] at HC HVW; clear hx; go_enter Tryz.func20, Tryz.ntmps20; go_wp2_with fail; refine cm HC.out ?_; rintro e w1 ⟨rfl, hg1, ha1⟩; have g3 := (ha1.cell (p := ⟨p, 3, none⟩) HPB.out.1 HPB.out.2).trans HF3.out
   rw [HLEN.out] at g3; have hpl1 : p < w1.heap.size := Nat.lt_of_lt_of_le HPL.out ha1.size; have HG1 := hide hg1; have HA1 := hide ha1; clear HC hg1 ha1; go_wp2_with fail
   go_loopw [23] (fun i wr => ∃ k : Nat, k ≤ t.kids.length ∧ i = .int .i64 k ∧ GotS b B (l ++ ownVar t ++ vws (t.kids.take k)) wr ∧ Ap b B w wr) (fun i _ => t.kids.length - (intOf i).toNat)
   case atStart => exact ⟨0, Nat.zero_le _, rfl, by simpa [vws] using HG1.out, HA1.out⟩
   case round =>
    obtain ⟨k, hk, rfl, hg, hap⟩ := hrel; have HGK := hide hg; have HAK := hide hap; clear hg hap
    by_cases hlt : k < t.kids.length
    ·
     obtain ⟨g, cap, hv, hcell⟩ := row_open HROW.out (by rw [HLEN.out]; omega)
     simp only [Value.slice.injEq] at hv; obtain ⟨rfl, _, rfl⟩ := hv; obtain ⟨hkp, hnk⟩ := NAts.get _ _ HKS.out k hlt; have hgb := unhide HRI g rfl; have hck : wr.cell? ⟨g, k, none⟩ = some (nPtr ps[k]) := by
      rw [HAK.out.cell (p := ⟨g, k, none⟩) hgb.1 hgb.2]; exact hcell k hkp
     have hnk2 : NAt (fun x => x < B ∧ x ≠ b) wr t.kids[k] ps[k] := NAt.later (fun x hx hl => HAK.out.block x hx.1 hx.2) _ _ hnk; have hgl : g < wr.heap.size := Nat.lt_of_lt_of_le (own_lt HROW.out g rfl).1 HAK.out.size
     have htk := counts_take t.kids k hlt; have hwk := vws_take t.kids k hlt; have hwl := vws_len (t.kids.take k); have h1 := unhide HTC; have h2 := unhide HHT; have h3 := unhide HBD; have h4 := unhide HOL
     have htot : Tr.counts (t.kids.take k) + (t.kids[k]).count ≤ Tr.counts t.kids := by
      exact zbdk
     have HC := hide (HIH.out t.kids[k] (by omega) ps[k] _ wr hnk2 HGK.out (by rw [List.length_append, List.length_append]; omega))
     have HWK := hide hwk; obtain ⟨q, hq⟩ : ∃ q, q = ps[k] := ⟨_, rfl⟩; rw [← hq] at hck HC; have hki : (k : Int) < (t.kids.length : Int) := by omega
     have hkb : t.kids.length ≤ 100000 := by have := counts_len t.kids; omega
     clear hcell hnk hnk2 htk h1 h2 h3 h4 htot hq hwk hwl; go_wp2_with fail; refine cm HC.out ?_; rintro e w2 ⟨rfl, hc2, ha2⟩; have HC2 := hide hc2; have HA2 := hide (HAK.out.trans ha2); clear hc2 ha2 HC hck
     go_wp2_with fail
     go_roundw
     case rel => exact ⟨k + 1, by omega, by go_num, by rw [HWK.out, ← List.append_assoc]; exact HC2.out, HA2.out⟩
     case measure => simp [intOf]; omega
    ·
     have hk2 : k = t.kids.length := by omega
     subst hk2; go_wp2_with fail
     go_end0
     refine ⟨rfl, ?_, HAK.out⟩; have h := unhide HGK; rw [List.take_length] at h; rw [HVW.out, ← List.append_assoc]; exact h
theorem kids_cell {p n c : Nat} {a : Option Addr} {w : World} (hc : w.cell? ⟨p, 3, none⟩ = some (.slice a n c)) : Calls Tryz.prog 64 #[nPtr p] w fun e w' => e = .returned (.slice a n c) ∧ w' = w := by
 go_enter Tryz.func64, Tryz.ntmps64
 go_wp2_with fail
 go_ret
 exact ⟨rfl, rfl⟩
def varsT (t : Tr) : List ByteArray := onceL (vws t.kids)
theorem vars_any (t : Tr) (p : Nat) (w : World) (h : NTr w t p) (hc : t.count ≤ 80000) :
  Calls Tryz.prog 29 #[nPtr p] w fun e w' => (∃ u, e = .returned u ∧ SRow w.heap.size w' u (varsT t)) ∧ Below w.heap.size w w' := by
 have hN : NAt (fun x => x < w.heap.size) w t p := NAt.mono (fun b _ hl => hl) _ _ h
 obtain ⟨wa, hwa⟩ : ∃ wa, wa = w.alloc (.cells #[.slice none 0 0] 54) := ⟨_, rfl⟩
 have hba : Below w.heap.size w wa := by rw [hwa]; exact (Below.refl _ _).alloc (Nat.le_refl _) _
 have hsa : wa.heap.size = w.heap.size + 1 := by rw [hwa]; simp
 have hga : GotS w.heap.size (w.heap.size + 1) [] wa := ⟨by omega, by omega, _, by rw [hwa]; exact heap_new _ _, srow_nil _ _⟩
 have htc : t.count = 1 + Tr.counts t.kids := by cases t with | mk kd tx nn ks => exact count_mk _ _ _ _
 obtain ⟨u, ps, hblk, hrow, hri, hks⟩ := hN.opens2
 have hlen := NAts.length _ _ hks
 obtain ⟨ua, uc, hu⟩ := row_shut hrow
 subst hu
 obtain ⟨_, _, _, f3, _⟩ := node_cells hblk
 have HK := hide (kids_cell (w := wa) (p := p) ((World.cell?_of_block (w := w) (a := ⟨p, 3, none⟩) (hba.block p (lt_of_heap hblk))).trans f3))
 rw [hlen] at HK
 have HROW := hide hrow
 have HKS := hide hks
 have HRI := hide hri
 have HBA := hide hba
 have HSA := hide hsa
 have HGA := hide hga
 have HTC := hide htc
 have HHC := hide hc
 have HLEN := hide hlen
 have hen := en62
 have hkb : t.kids.length ≤ 100000 := by have := counts_len t.kids; omega
 clear h hN hba hga hrow hks hri hblk f3 htc hc hlen hsa
 go_enter Tryz.func29, Tryz.ntmps29
 go_wp2_with fail
 rw [← hwa]
 refine cm HK.out ?_
 rintro e w1 ⟨rfl, rfl⟩
 clear HK hwa
 go_wp2_with fail
 go_loopw [11] (fun i wr => ∃ k : Nat, k ≤ t.kids.length ∧ i = .int .i64 k ∧ GotS w.heap.size (w.heap.size + 1) (vws (t.kids.take k)) wr ∧ Ap w.heap.size (w.heap.size + 1) w1 wr) (fun i _ => t.kids.length - (intOf i).toNat)
 case atStart => exact ⟨0, Nat.zero_le _, rfl, by simpa [vws] using HGA.out, Ap.refl _ _ _⟩
 case round =>
  obtain ⟨k, hk, rfl, hg, hap⟩ := hrel; have HGK := hide hg; have HAK := hide hap; clear hg hap
  by_cases hlt : k < t.kids.length
  ·
   obtain ⟨g, cap, hv, hcell⟩ := row_open HROW.out (by rw [HLEN.out]; omega)
   simp only [Value.slice.injEq] at hv; obtain ⟨rfl, _, rfl⟩ := hv; obtain ⟨hkp, hnk⟩ := NAts.get _ _ HKS.out k hlt; have hgl : g < w.heap.size := (own_lt HROW.out g rfl).1
   have hck : wr.cell? ⟨g, k, none⟩ = some (nPtr ps[k]) := by
    rw [HAK.out.cell (p := ⟨g, k, none⟩) (by show g < _; omega) (by show g ≠ _; omega), World.cell?_of_block (w := w) (a := ⟨g, k, none⟩) (HBA.out.block g hgl)]; exact hcell k hkp
   have hnk2 : NAt (fun x => x < w.heap.size + 1 ∧ x ≠ w.heap.size) wr t.kids[k] ps[k] :=
    NAt.mono (fun x hx _ => ⟨by have h1 : x < w.heap.size := hx; omega, by have h1 : x < w.heap.size := hx; omega⟩) _ _ (NAt.later (I := fun x => x < w.heap.size) (fun x hx hl => (HAK.out.block x (by have h1 : x < w.heap.size := hx; omega) (by have h1 : x < w.heap.size := hx; omega)).trans (HBA.out.block x hx)) _ _ hnk)
   have hglr : g < wr.heap.size := by have := HAK.out.size; have := unhide HSA; omega
   have htk := counts_take t.kids k hlt; have hwk := vws_take t.kids k hlt; have hwl := vws_len (t.kids.take k); have h1 := unhide HTC; have h3 := unhide HHC
   have htot : Tr.counts (t.kids.take k) + (t.kids[k]).count ≤ Tr.counts t.kids := by
    exact zbdk
   have HC := hide (walkV w.heap.size (w.heap.size + 1) (t.kids[k]).count t.kids[k] (Nat.le_refl _) ps[k] _ wr hnk2 HGK.out (by omega)); have HWK := hide hwk; obtain ⟨q, hq⟩ : ∃ q, q = ps[k] := ⟨_, rfl⟩
   rw [← hq] at hck HC; have hki : (k : Int) < (t.kids.length : Int) := by omega
   clear hcell hnk hnk2 htk h1 h3 htot hq hwk hwl; go_wp2_with fail; refine cm HC.out ?_; rintro e w2 ⟨rfl, hc2, ha2⟩; have HC2 := hide hc2; have HA2 := hide (HAK.out.trans ha2); clear hc2 ha2 HC hck; go_wp2_with fail
   go_roundw
   case rel => exact ⟨k + 1, by omega, by go_num, by rw [HWK.out]; exact HC2.out, HA2.out⟩
   case measure => simp [intOf]; omega
  ·
   have hk2 : k = t.kids.length := by omega
   subst hk2; have hg := unhide HGK; rw [List.take_length] at hg; obtain ⟨_, hz, v, hb, hown⟩ := hg; obtain ⟨oa, oc, rfl⟩ := srow_form hown
   have c0 : wr.cell? ⟨w.heap.size, 0, none⟩ = some (.slice oa (vws t.kids).length oc) := by rw [cell_of hb]; rfl
   have hbl := lt_of_heap hb; have HBW : Hid (Below w.heap.size w wr) := HBA.out.trans ((HAK.out.mono (by omega)).below (Nat.le_refl _)); have hvl := vws_len t.kids
   have HC := hide (once_any (vws t.kids) _ wr hown (by have := unhide HTC; have := unhide HHC; omega))
   clear hown hb hvl; go_wp2_with fail; refine cm HC.out ?_; rintro e w2 ⟨⟨u, rfl, hr⟩, hb2⟩; obtain ⟨xa, xc, rfl⟩ := srow_form hr; have HR2 := hide hr; have HB2 := hide (HBW.out.trans (hb2.mono HBW.out.size))
   clear HC hr hb2; go_wp2_with fail; go_ret; exact ⟨⟨_, rfl, srow_mono HR2.out HBW.out.size⟩, HB2.out⟩
theorem run_app_none {P : Program} {w : World} (base : Nat) (t ty e : TypeId) (i : TypeInfo) (size : Nat) (ht : P.underlying t = some (.slice e)) (hi : P.info? e = some i)
  (v : Value) (n : Nat) (xs : List Value) (hown : w.ownsRow base e size v n xs) (ad : Option Addr) (k : Nat) :
  (Builtin.append_ #[t, t] ty #[v, .slice ad 0 k]).run P w = .ok v w := by
 exact zbev
theorem wpList_app_row {P : Program} {w : World} {ops : Array Oper} {rest : List Oper} {o : Oper} {a : Act} {Q : Exit → Act → World → Prop} (hgd : o.guard = none) (s x : Operand) (t : TypeId)
  (ho : o.op = .call { callee := .builtin .append, args := #[s, x], argTypes := #[t, t] })
  (base B2 : Nat) (e : TypeId) (i : TypeInfo) (z : Value) (bytes : Nat) (ht : P.underlying t = some (.slice e)) (hi : P.info? e = some i) (hz : i.zero = some z)
  (hsize : i.size = 1) (hby : i.bytes = bytes) (hzs : z.cells.size = 1)
  (v : Value) (n : Nat) (xs : List Value) (hs : a.eval s = v) (hown : w.ownsRow base e 1 v n xs)
  (v2 : Value) (m : Nat) (news : List Value) (hx : a.eval x = v2) (hown2 : w.ownsRow B2 e 1 v2 m news) (h1 : ∀ u ∈ news, u.oneCell' = true)
  (h63 : n + m ≤ maxLen) (hbytes : (n + m) * bytes ≤ 140737488355328) (hbase : base ≤ w.heap.size)
  (h : ∀ v' w', w'.ownsRow base e 1 v' (n + m) (xs ++ news) → w.grownBy w' v.ownBlock → wpList P ops Q rest (a.put o.dst v') w') : wpList P ops Q (o :: rest) a w := by
 rcases Nat.eq_zero_or_pos m with rfl | hm
 ·
  have hnews : news = [] := List.length_eq_zero_iff.1 (by rw [hown2.1]); subst hnews; obtain ⟨ad, k, rfl⟩ := srow_form hown2
  have hk := h v w (by rw [List.append_nil]; exact hown) ⟨rfl, rfl, rfl, Nat.le_refl _, fun _ _ _ => rfl⟩
  refine wpList_plain hgd fun K hK => ?_; have hrun := run_app_none (P := P) (w := w) base t o.type e i 1 ht hi v n xs hown ad k; unfold Oper.wp; simp [execOp, ho, resolve, invoke, builtin, hs, hx, hrun, Result.andThen]
  exact hK _ _ hk
 ·
  obtain ⟨g, cap, rfl, _, _⟩ := hown2.form hm
  refine wpList_append_lies w hgd s x t ho base e i z 1 bytes ht hi hz hsize hby hzs (by decide) v n xs hs hown ⟨g, 0, none⟩ m cap news hx hown2.1 (fun j u hj => ?_) h1 hm h63 hbytes hbase _ rfl (fun g' cap' w' a b _ _ => h _ _ a b)
  have hl : j < m * 1 := by
   rw [← hown2.1]; exact (List.getElem?_eq_some_iff.1 hj).1
  have h4 : (⟨g, 0, none⟩ : Addr).add j = ⟨g, j, none⟩ := by simp [Addr.add]; exact Eq.symm
  rw [h4, hown2.cellAt j hl]; exact hj
def namesT (t : Tr) (body : Bool) : List ByteArray := onceL ((if body then varsT t else []) ++ (fnsT t).map Tr.tx ++ (letsT t).map Tr.tx)
theorem fns_len (t : Tr) : (fnsT t).length ≤ t.kids.length := List.length_filter_le _ _
theorem lets_len (t : Tr) : (letsT t).length ≤ t.kids.length := List.length_filter_le _ _
theorem vars_len (t : Tr) : (varsT t).length ≤ Tr.counts t.kids := Nat.le_trans (once_len _) (vws_len _)
open zrqbd in
theorem names_any (t : Tr) (p : Nat) (body : Bool) (w : World) (h : NTr w t p) (hc : t.count ≤ 20000) :
  Calls Tryz.prog 35 #[nPtr p, .bool body] w fun e w' => (∃ u, e = .returned u ∧ SRow w.heap.size w' u (namesT t body)) ∧ Below w.heap.size w w' := by
 obtain ⟨i0, hi0, hz0, hz1, hz2⟩ := info_parts info9
 exact zrcx
theorem add_mem {l : List ByteArray} {s x : ByteArray} : x ∈ addB l s ↔ x ∈ l ∨ x = s := by
 unfold addB
 split
 ·
  rename_i h
  constructor
  ·
   exact Or.inl
  ·
   rintro (h1 | rfl)
   ·
    exact h1
   ·
    exact hasB_iff.1 h
 ·
  simp
theorem fold_mem : ∀ (l acc : List ByteArray) (x : ByteArray), x ∈ l.foldl addB acc ↔ x ∈ acc ∨ x ∈ l
 | [], acc, x => by simp
 | s :: l, acc, x => by
  rw [List.foldl_cons, fold_mem l, add_mem]; simp [or_assoc]
section
variable {l : List ByteArray} {x : ByteArray}
include l x
theorem once_mem : x ∈ onceL l ↔ x ∈ l := by rw [onceL, fold_mem]; simp
theorem addB_in (h : x ∈ l) : addB l x = l := by unfold addB; rw [if_pos (hasB_iff.2 h)]
end
theorem fold_add (acc pre : List ByteArray) (x : ByteArray) : (addB pre x).foldl addB acc = addB (pre.foldl addB acc) x := by
 by_cases hx : x ∈ pre
 ·
  rw [show addB pre x = pre by unfold addB; rw [if_pos (hasB_iff.2 hx)]]
  have h2 : x ∈ pre.foldl addB acc := (fold_mem _ _ _).2 (Or.inr hx); rw [addB_in h2]
 ·
  rw [show addB pre x = pre ++ [x] by unfold addB; rw [if_neg (by rw [hasB_no.2 hx]; decide)], List.foldl_append]
  rfl
theorem fold_fold (acc : List ByteArray) : ∀ (l pre : List ByteArray), (l.foldl addB pre).foldl addB acc = l.foldl addB (pre.foldl addB acc)
 | [], _ => rfl
 | x :: l, pre => by rw [List.foldl_cons, fold_fold acc l, fold_add, List.foldl_cons]
theorem fold_once (acc l : List ByteArray) : (onceL l).foldl addB acc = l.foldl addB acc := fold_fold acc l []
theorem once_once (l : List ByteArray) : onceL (onceL l) = onceL l := fold_once [] l
section
variable {B : Nat} (l : List ByteArray) (s : ByteArray) (v : Value) (w : World) (h : SRow B w v l)
include B l s v w h
open zrqdu in
theorem rhas_any (hl : l.length ≤ 90000) :
  Calls Tryz.prog 79 #[v, .string s] w fun e w' => e = .returned (.bool (hasB l s)) ∧ w' = w := by
 obtain ⟨va, vc, rfl⟩ := srow_form h
 have HR := hide h
 obtain ⟨R, hR⟩ : ∃ R, R = hasB l s := ⟨_, rfl⟩
 rw [← hR]
 have HRR := hide hR
 clear h hR
 go_enter Tryz.func79, Tryz.ntmps79
 go_wp2_with fail
 go_loopw [9] (fun i wr => ∃ k : Nat, k ≤ l.length ∧ i = .int .i64 k ∧ s ∉ l.take k ∧ wr = w) (fun i _ => l.length - (intOf i).toNat)
 case atStart => exact ⟨0, Nat.zero_le _, rfl, by simp, rfl⟩
 case round =>
  obtain ⟨k, hk, rfl, hns, rfl⟩ := hrel; have HNS := hide hns; clear hns
  by_cases hlt : k < l.length
  ·
   exact zrco
  ·
   have hkk : k = l.length := by omega
   subst hkk; have hRf : R = false := by
    have h := unhide HNS; rw [List.take_length] at h; rw [HRR.out, hasB_no]; exact h
   subst hRf; go_wp2_with fail; go_ret; exact ⟨rfl, rfl⟩
theorem radd_any (hl : l.length ≤ 80000) (hB : B ≤ w.heap.size) :
  Calls Tryz.prog 66 #[v, .string s] w fun e w' => (∃ u, e = .returned u ∧ SRow B w' u (addB l s)) ∧ Below w.heap.size w w' := by
 obtain ⟨i0, hi0, hz0, hz1, hz2⟩ := info_parts info9
 have HC := hide (rhas_any l s v w h (by omega))
 obtain ⟨va, vc, rfl⟩ := srow_form h
 have HR := hide h
 unfold addB
 clear h
 cases hh : hasB l s with
 | true =>
  rw [hh] at HC; clear hh; simp only [if_true]; go_enter Tryz.func66, Tryz.ntmps66; go_wp2_with fail; refine cm HC.out ?_; rintro e w1 ⟨rfl, rfl⟩; clear HC; go_wp2_with fail; go_ret
  exact ⟨⟨_, rfl, HR.out⟩, Below.refl _ _⟩
 | false =>
  rw [hh] at HC; clear hh; simp only [Bool.false_eq_true, if_false]; go_enter Tryz.func66, Tryz.ntmps66; go_wp2_with fail; refine cm HC.out ?_; rintro e w1 ⟨rfl, rfl⟩; clear HC
  go_wp2_with (at_builtin; refine wpList_app_row rfl _ _ 54 rfl w1.heap.size _ 9 i0 (.string ByteArray.empty) 16 Tryz.underlying54 hi0 hz0 hz1 hz2 rfl _ _ _ rfl (World.ownsRow_lit w1 #[] 0 (Nat.le_refl _) (by decide) rfl) _ _ _ rfl (HR.out.alloc _) (srow_ones l) (by unfold maxLen; omega) (by omega) (by simp) ?_)
  intro v2 w2 hown2 hgr2; have hsr2 : w2.ownsRow w1.heap.size 9 1 v2 l.length (l.map Value.string) := by simpa using hown2
  have hb2 : Below w1.heap.size w1 w2 := ((Below.refl _ _).alloc (Nat.le_refl _) _).grown hgr2 (by simp) (fun k hk => by simp [Value.ownBlock] at hk; omega)
  obtain ⟨a2, c2, rfl⟩ := srow_form hsr2; have HR2 := hide hsr2; have HB2 := hide hb2; have hz2' := hb2.size; clear hown2 hgr2 hsr2 hb2
  go_wp2_with (at_builtin; refine wpList_append_lies _ rfl _ _ 54 rfl w1.heap.size 9 i0 (.string ByteArray.empty) 1 16 Tryz.underlying54 hi0 hz0 hz1 hz2 rfl (by decide) _ _ _ rfl (HR2.out.alloc _) ⟨w2.heap.size, 0, none⟩ 1 1 [.string s] rfl rfl (hoCellsS w2 s _ rfl) (hoOneS s) (by decide) (by unfold maxLen; omega) (by omega) (by simp; omega) (w2.heap.size + 1) (by simp) ?_)
  intro g' cap' w3 hown' hgrow hg' _; have HB3 := hide ((HB2.out.alloc hz2' (.cells #[.string s] 9)).grown hgrow (by simp; omega) (fun b hb => (own_lt HR2.out b hb).2))
  have HO3 : Hid (SRow B w3 (.slice (some ⟨g', 0, none⟩) (l.length + 1) cap') (l ++ [s])) := by
   have h1 : SRow w1.heap.size w3 (.slice (some ⟨g', 0, none⟩) (l.length + 1) cap') (l ++ [s]) := by
    show World.ownsRow _ _ _ _ _ _ _
    rw [List.length_append, List.map_append]; exact hown'
   exact srow_mono h1 hB
  clear hown' hgrow hg'; go_wp2_with fail; go_ret; exact ⟨⟨_, rfl, HO3.out⟩, HB3.out⟩
end
theorem risFunc_any (t : Tr) (p : Nat) (w : World) (h : NTr w t p) : Calls Tryz.prog 67 #[nPtr p] w fun e w' => e = .returned (.bool (isFunT t)) ∧ w' = w := by
 obtain ⟨hpl, c0, _, _⟩ := h.cells
 clear h
 unfold isFunT
 generalize t.kd = kd at c0
 cases h3 : (kd == 5)
 all_goals
  go_enter Tryz.func67, Tryz.ntmps67; go_wp2_with fail; go_ret; exact ⟨rfl, rfl⟩
end Go.Proofs.YtodmgaikhbmlnaaGreatDoor
