/-
  Rows of texts: Index, Contains, once; the texts of nodes.
-/
import Derived.Test.YtoimgcjbcbhclaaGreatDoorAo15
import Derived.LaidEql
set_option maxRecDepth 100000
set_option maxHeartbeats 16000000
namespace Go.Proofs.YtoimgcjbcbhclaaGreatDoor
open Go.RowKit
abbrev SRow (B : Nat) (w : World) (v : Value) (l : List ByteArray) : Prop := w.ownsRow B 9 1 v l.length (l.map Value.string)
theorem info9 : (Tryz.prog.info? 9).map (fun i => (i.zero, i.size, i.bytes)) = some (some (.string ByteArray.empty), 1, 16) := by kernel_rfl
theorem srow_form {w : World} {B e sz n : Nat} {v : Value} {xs : List Value} (h : w.ownsRow B e sz v n xs) : ∃ a cap, v = .slice a n cap := by
 rcases h.2 with ⟨rfl, rfl⟩ | ⟨g, cap, cur, rfl, _⟩
 ·
  exact ⟨none, 0, rfl⟩
 ·
  exact ⟨_, cap, rfl⟩
theorem srow_nil (B : Nat) (w : World) : SRow B w (.slice none 0 0) [] := ⟨rfl, Or.inl ⟨rfl, rfl⟩⟩
theorem srow_cell {B : Nat} {w : World} {v : Value} {l : List ByteArray} (h : SRow B w v l) (k : Nat) (hk : k < l.length) : ∃ g cap, v = .slice (some ⟨g, 0, none⟩) l.length cap ∧ g < w.heap.size ∧ B ≤ g ∧ w.cell? ⟨g, k, none⟩ = some (.string l[k]) := by
 obtain ⟨g, cap, rfl, _, _⟩ := h.form (by omega)
 have h1 := own_lt h g rfl
 refine ⟨g, cap, rfl, h1.1, h1.2, ?_⟩
 rw [h.cellAt k (by omega)]
 simp [hk]
theorem srow_ones (l : List ByteArray) : ∀ u ∈ l.map Value.string, u.oneCell' = true := by
 intro u hu
 obtain ⟨p, _, rfl⟩ := List.mem_map.1 hu
 rfl
theorem hoCellsS (w : World) (s : ByteArray) (H : Nat) (h : w.heap.size = H) : ∀ j u, [Value.string s][j]? = some u → (w.alloc (.cells #[.string s] 9)).cell? ((⟨H, 0, none⟩ : Addr).add j) = some u := by
 subst h
 intro j u hj
 match j with
 | 0 =>
  simp only [List.getElem?_cons_zero, Option.some.injEq] at hj; subst hj
  show (w.alloc (.cells #[.string s] 9)).cell? ⟨w.heap.size, 0 + 0, none⟩ = _
  rw [cell_of (heap_new w (.cells #[.string s] 9))]; rfl
 | n + 1 => simp at hj
theorem hoOneS (s : ByteArray) : ∀ u ∈ [Value.string s], u.oneCell' = true := by
 intro u hu
 rw [List.mem_singleton.1 hu]
 rfl
def hasB (l : List ByteArray) (s : ByteArray) : Bool := l.any (fun x => decide (s = x))
section
variable {l : List ByteArray} {s : ByteArray}
include l s
theorem hasB_iff : hasB l s = true ↔ s ∈ l := by simp [hasB]
theorem hasB_no : hasB l s = false ↔ s ∉ l := by rw [← hasB_iff]; simp
end
def addB (l : List ByteArray) (s : ByteArray) : List ByteArray := if hasB l s then l else l ++ [s]
def onceL (l : List ByteArray) : List ByteArray := l.foldl addB []
section
variable {B : Nat} (l : List ByteArray) (s : ByteArray) (v : Value) (w : World) (h : SRow B w v l) (hl : l.length ≤ 100000)
include B l s v w h hl
theorem index_any :
  Calls Tryz.prog 218 #[v, .string s] w fun e w' => (∃ k : Int, e = .returned (.int .i64 k) ∧ decide (0 ≤ k) = hasB l s) ∧ w' = w := by
 obtain ⟨va, vc, rfl⟩ := srow_form h
 have HR := hide h
 clear h
 go_enter Tryz.func218, Tryz.ntmps218
 go_wp2_with fail
 go_loopw [8] (fun i wr => ∃ k : Nat, k ≤ l.length ∧ i = .int .i64 k ∧ s ∉ l.take k ∧ wr = w) (fun i _ => l.length - (intOf i).toNat)
 case atStart => exact ⟨0, Nat.zero_le _, rfl, by simp, rfl⟩
 case round =>
  obtain ⟨k, hk, rfl, hns, rfl⟩ := hrel; have HNS := hide hns; clear hns
  by_cases hlt : k < l.length
  ·
   obtain ⟨g, cap, hv, hg, _, hc⟩ := srow_cell HR.out k hlt; simp only [Value.slice.injEq] at hv; obtain ⟨rfl, _, rfl⟩ := hv; have hki : (k : Int) < (l.length : Int) := by omega
   obtain ⟨x, hx⟩ : ∃ x, x = l[k] := ⟨_, rfl⟩; rw [← hx] at hc; have HX := hide hx; clear hx
   by_cases he : s = x
   ·
    subst he; go_wp2_with fail; go_ret; refine ⟨⟨k, rfl, ?_⟩, rfl⟩; rw [decide_eq_true (by omega), eq_comm, hasB_iff, HX.out]; exact List.getElem_mem _
   ·
    have hne := tl_ne he; have HE := hide he; clear he; go_wp2_with fail
    go_roundw
    case rel =>
     refine ⟨k + 1, by omega, by go_num, ?_, trivial⟩; rw [List.take_succ_eq_append_getElem hlt]; intro hm
     rcases List.mem_append.1 hm with hm | hm
     ·
      exact unhide HNS hm
     ·
      exact unhide HE (by rw [HX.out]; exact List.mem_singleton.1 hm)
    case measure => simp [intOf]; omega
  ·
   have hkk : k = l.length := by omega
   subst hkk; go_wp2_with fail; go_ret; refine ⟨⟨-1, rfl, ?_⟩, rfl⟩; have h := unhide HNS; rw [List.take_length] at h; rw [hasB_no.2 h]; rfl
theorem contains_any :
  Calls Tryz.prog 132 #[v, .string s] w fun e w' => e = .returned (.bool (hasB l s)) ∧ w' = w := by
 have HC := hide (index_any l s v w h hl)
 clear h
 go_enter Tryz.func132, Tryz.ntmps132
 go_wp2_with fail
 refine cm HC.out ?_
 rintro e w1 ⟨⟨k, rfl, hk⟩, rfl⟩
 have HK := hide hk
 clear hk HC
 go_wp2_with fail
 go_ret
 exact ⟨ret_bool HK.out, rfl⟩
end
theorem take_snoc' {α : Type} (l : List α) (k : Nat) (hk : k < l.length) : l.take (k + 1) = l.take k ++ [l[k]] := List.take_succ_eq_append_getElem hk
theorem once_take (l : List ByteArray) (k : Nat) (hk : k < l.length) : onceL (l.take (k + 1)) = addB (onceL (l.take k)) l[k] := by
 rw [take_snoc' l k hk, onceL, List.foldl_append]; rfl
theorem once_len (l : List ByteArray) : (onceL l).length ≤ l.length := by
 have : ∀ (l acc : List ByteArray), (l.foldl addB acc).length ≤ acc.length + l.length := by
  intro l
  induction l with
  | nil => intro acc; simp
  | cons x l ih =>
   intro acc; have h := ih (addB acc x); have h2 : (addB acc x).length ≤ acc.length + 1 := by unfold addB; split <;> simp
   simp only [List.foldl_cons, List.length_cons]; omega
 simpa [onceL] using this l []
abbrev NTr (w : World) (t : Tr) (p : Nat) : Prop := NAt (fun _ => True) w t p
def NRow (B : Nat) (w : World) (v : Value) (ts : List Tr) : Prop := ∃ ps : List Nat, w.ownsRow B 22 1 v ps.length (ps.map nPtr) ∧ NLs (fun _ => True) w ts ps
theorem Below.stay {I : Nat → Prop} {w w' : World} (h : Below w.heap.size w w') : Stay I w w' := fun b _ hl => h.block b hl
theorem NAt.nt {I : Nat → Prop} {w : World} {t : Tr} {p : Nat} (h : NAt I w t p) : NTr w t p := NAt.mono (fun _ _ _ => trivial) _ _ h
theorem NTr.later {w w' : World} {t : Tr} {p : Nat} (h : NTr w t p) (hb : Below w.heap.size w w') : NTr w' t p := NAt.later (Below.stay hb) _ _ h
theorem NRow.later {B : Nat} {w w' : World} {v : Value} {ts : List Tr} (h : NRow B w v ts) (hb : Below w.heap.size w w') : NRow B w' v ts := by
 exact zbfh
theorem SRow.later {B : Nat} {w w' : World} {v : Value} {l : List ByteArray} (h : SRow B w v l) (hb : Below w.heap.size w w') : SRow B w' v l := owns_stay (I := fun _ => True) (Below.stay hb) (fun _ _ => trivial) h
theorem NRow.form {B : Nat} {w : World} {v : Value} {ts : List Tr} (h : NRow B w v ts) : ∃ a cap, v = .slice a ts.length cap := by
 obtain ⟨ps, h1, h2⟩ := h
 rw [← NLs.length _ _ h2]
 exact row_shut h1
theorem NRow.nil (B : Nat) (w : World) : NRow B w (.slice none 0 0) [] := ⟨[], ⟨rfl, Or.inl ⟨rfl, rfl⟩⟩, NLs.nil⟩
section
variable {B : Nat} {w : World} {v : Value} {ts : List Tr} (h : NRow B w v ts)
include B w v ts h
theorem NRow.cell (k : Nat) (hk : k < ts.length) : ∃ g cap p, v = .slice (some ⟨g, 0, none⟩) ts.length cap ∧ g < w.heap.size ∧ w.cell? ⟨g, k, none⟩ = some (nPtr p) ∧ NTr w ts[k] p := by
 exact zbec
theorem NRow.own (g : Nat) (hg : v.ownBlock = some g) : g < w.heap.size ∧ B ≤ g := by
 obtain ⟨ps, h1, h2⟩ := h
 exact own_lt h1 g hg
end
theorem NTr.cells {w : World} {t : Tr} {p : Nat} (h : NTr w t p) : p < w.heap.size ∧ w.cell? ⟨p, 0, none⟩ = some (.int .i64 t.kd) ∧ w.cell? ⟨p, 1, none⟩ = some (.string t.tx) ∧ ∃ u, w.cell? ⟨p, 3, none⟩ = some u ∧ NRow 0 w u t.kids := by
 exact zbfb
theorem one_cellsP (w : World) (q : Nat) (H : Nat) (h : w.heap.size = H) : ∀ j u, [nPtr q][j]? = some u → (w.alloc (.cells #[nPtr q] 22)).cell? ((⟨H, 0, none⟩ : Addr).add j) = some u := by
 subst h
 intro j u hj
 match j with
 | 0 =>
  simp only [List.getElem?_cons_zero, Option.some.injEq] at hj; subst hj
  show (w.alloc (.cells #[nPtr q] 22)).cell? ⟨w.heap.size, 0 + 0, none⟩ = _
  rw [cell_of (heap_new w (.cells #[nPtr q] 22))]; rfl
 | n + 1 => simp at hj
theorem one_oneP (q : Nat) : ∀ u ∈ [nPtr q], u.oneCell' = true := by
 intro u hu
 rw [List.mem_singleton.1 hu]
 rfl
abbrev fnV (F : Nat) : Value := .func (.func F) #[] #[]
theorem en69 : ∀ args W, (callFunc 258 args).run Tryz.prog W = .ok (.enter 258 args) W := fun _ _ => by kernel_rfl
theorem en71 : ∀ args W, (callFunc 215 args).run Tryz.prog W = .ok (.enter 215 args) W := fun _ _ => by kernel_rfl
def isFnT (t : Tr) : Bool := t.kd == 5
def isLetT (t : Tr) : Bool := t.kd == 3 || t.kd == 4
def isFunT (t : Tr) : Bool := t.kd == 5 || t.kd == 37
section
variable (t : Tr) (p : Nat) (w : World) (h : NTr w t p)
include t p w h
theorem funcs1_any : Calls Tryz.prog 258 #[nPtr p] w fun e w' => e = .returned (.bool (isFnT t)) ∧ w' = w := by
 obtain ⟨hpl, c0, _, _⟩ := h.cells
 clear h
 go_enter Tryz.func258, Tryz.ntmps258
 go_wp2_with fail
 go_ret
 exact ⟨rfl, rfl⟩
theorem lets1_any : Calls Tryz.prog 215 #[nPtr p] w fun e w' => e = .returned (.bool (isLetT t)) ∧ w' = w := by
 obtain ⟨hpl, c0, _, _⟩ := h.cells
 clear h
 unfold isLetT
 generalize t.kd = kd at c0
 cases h3 : (kd == 3)
 all_goals
  go_enter Tryz.func215, Tryz.ntmps215; go_wp2_with fail; go_ret; exact ⟨rfl, rfl⟩
end
def fnsT (t : Tr) : List Tr := t.kids.filter isFnT
def letsT (t : Tr) : List Tr := t.kids.filter isLetT
inductive Ad where
 | mk (p : Nat) (kd : Int) (tx : ByteArray) (n : Int) (ks : List Ad)
def Ad.p : Ad → Nat | .mk p _ _ _ _ => p
def Ad.kd : Ad → Int | .mk _ kd _ _ _ => kd
def Ad.tx : Ad → ByteArray | .mk _ _ tx _ _ => tx
def Ad.ks : Ad → List Ad | .mk _ _ _ _ ks => ks
mutual
def Ad.tr : Ad → Tr
 | .mk _ kd tx n ks => .mk kd tx n (Ad.trs ks)
def Ad.trs : List Ad → List Tr
 | [] => []
 | a :: es => a.tr :: Ad.trs es
end
mutual
def Ad.ads : Ad → List Nat
 | .mk p _ _ _ ks => p :: Ad.adss ks
def Ad.adss : List Ad → List Nat
 | [] => []
 | a :: es => a.ads ++ Ad.adss es
end
mutual
def AAt (I : Nat → Prop) (w : World) : Ad → Prop
 | .mk p kd tx n ks => NAt I w (.mk kd tx n (Ad.trs ks)) p ∧ I p ∧ (∃ v, w.heap[p]? = some (nodeObj kd tx n v) ∧ KRow I w v (ks.map Ad.p)) ∧ AAts I w ks
def AAts (I : Nat → Prop) (w : World) : List Ad → Prop
 | [] => True
 | a :: es => AAt I w a ∧ AAts I w es
end
theorem AAts.mem {I : Nat → Prop} {w : World} : ∀ (es : List Ad), AAts I w es → ∀ a ∈ es, AAt I w a
 | [], _, _, h => absurd h (by simp)
 | x :: es, h, a, ha => by
  rw [AAts] at h
  rcases List.mem_cons.1 ha with rfl | ha
  ·
   exact h.1
  ·
   exact AAts.mem es h.2 a ha
mutual
theorem AAt.later {I : Nat → Prop} {w w' : World} (hs : Stay I w w') : ∀ a : Ad, AAt I w a → AAt I w' a
 | .mk p kd tx n ks, h => by
  rw [AAt] at h ⊢; obtain ⟨hn, hp, ⟨v, hb, hr⟩, hk⟩ := h; exact ⟨NAt.later hs _ _ hn, hp, ⟨v, by rw [hs p hp (lt_of_heap hb)]; exact hb, owns_stay hs hr.2 hr.1, hr.2⟩, AAts.later hs ks hk⟩
theorem AAts.later {I : Nat → Prop} {w w' : World} (hs : Stay I w w') : ∀ es : List Ad, AAts I w es → AAts I w' es
 | [], _ => by rw [AAts]; trivial
 | a :: es, h => by
  rw [AAts] at h ⊢; exact ⟨AAt.later hs a h.1, AAts.later hs es h.2⟩
end
mutual
theorem AAt.mono {I J : Nat → Prop} {w : World} (hJ : ∀ b, I b → b < w.heap.size → J b) : ∀ a : Ad, AAt I w a → AAt J w a
 | .mk p kd tx n ks, h => by
  rw [AAt] at h ⊢; obtain ⟨hn, hp, ⟨v, hb, hr⟩, hk⟩ := h; exact ⟨NAt.mono hJ _ _ hn, hJ p hp (lt_of_heap hb), ⟨v, hb, hr.1, fun g hg => hJ g (hr.2 g hg) (own_lt hr.1 g hg).1⟩, AAts.mono hJ ks hk⟩
theorem AAts.mono {I J : Nat → Prop} {w : World} (hJ : ∀ b, I b → b < w.heap.size → J b) : ∀ es : List Ad, AAts I w es → AAts J w es
 | [], _ => by rw [AAts]; trivial
 | a :: es, h => by
  rw [AAts] at h ⊢; exact ⟨AAt.mono hJ a h.1, AAts.mono hJ es h.2⟩
end
theorem trs_map : ∀ es : List Ad, Ad.trs es = es.map Ad.tr
 | [] => by rw [Ad.trs]; rfl
 | a :: es => by rw [Ad.trs, trs_map es]; rfl
theorem Ad.tr_eq (a : Ad) : a.tr.kd = a.kd ∧ a.tr.tx = a.tx ∧ a.tr.kids = a.ks.map Ad.tr := by
 cases a with
 | mk p kd tx n ks => rw [Ad.tr, trs_map]; exact ⟨rfl, rfl, rfl⟩
theorem AAt.parts {I : Nat → Prop} {w : World} {a : Ad} (h : AAt I w a) : ∀ k ∈ a.ks, AAt I w k := by
 cases a with
 | mk p kd tx n ks => rw [AAt] at h; exact AAts.mem ks h.2.2.2
mutual
theorem NAt.ad {I : Nat → Prop} {w : World} : ∀ (t : Tr) (p : Nat), NAt I w t p → ∃ a : Ad, a.tr = t ∧ a.p = p ∧ AAt I w a ∧ a.ads.Nodup ∧ ∀ b ∈ a.ads, I b
 | .mk kd tx n ks, p, h => by
  have hn := h; rw [NAt] at h; obtain ⟨hp, v, ps, hb, hr, hk⟩ := h; obtain ⟨es, h1, h2, h3, h4, h5⟩ := NAts.ads ks ps hk; refine ⟨.mk p kd tx n es, by rw [Ad.tr, trs_map, h1], rfl, ?_, ?_, ?_⟩
  ·
   rw [AAt, h2, trs_map, h1]; exact ⟨hn, hp, ⟨v, hb, hr⟩, AAts.mono (fun b hb _ => hb.1) es h3⟩
  ·
   rw [Ad.ads, List.nodup_cons]; exact ⟨fun hm => (h5 p hm).2 rfl, h4⟩
  ·
   rw [Ad.ads]; intro b hb
   rcases List.mem_cons.1 hb with rfl | hb
   ·
    exact hp
   ·
    exact (h5 b hb).1
theorem NAts.ads {I : Nat → Prop} {w : World} : ∀ (ts : List Tr) (ps : List Nat), NAts I w ts ps → ∃ es : List Ad, es.map Ad.tr = ts ∧ es.map Ad.p = ps ∧ AAts I w es ∧ (Ad.adss es).Nodup ∧ ∀ b ∈ Ad.adss es, I b
 | [], ps, h => by
  rw [NAts] at h; subst h; exact ⟨[], rfl, rfl, by rw [AAts]; trivial, by rw [Ad.adss]; exact List.nodup_nil, by rw [Ad.adss]; intro b hb; cases hb⟩
 | t :: ts, ps, h => by
  rw [NAts] at h; obtain ⟨p, ps', M, rfl, h1, h2⟩ := h; obtain ⟨a, a1, a2, a3, a4, a5⟩ := NAt.ad t p h1; obtain ⟨es, b1, b2, b3, b4, b5⟩ := NAts.ads ts ps' h2
  refine ⟨a :: es, by rw [List.map_cons, a1, b1], by rw [List.map_cons, a2, b2], ?_, ?_, ?_⟩
  ·
   rw [AAts]; exact ⟨AAt.mono (fun b hb _ => hb.1) a a3, AAts.mono (fun b hb _ => hb.1) es b3⟩
  ·
   rw [Ad.adss, List.nodup_append]; refine ⟨a4, b4, fun x hx y hy e => ?_⟩; have h8 := (a5 x hx).2; have h9 := (b5 y hy).2; omega
  ·
   rw [Ad.adss]; intro b hb
   rcases List.mem_append.1 hb with hb | hb
   ·
    exact (a5 b hb).1
   ·
    exact (b5 b hb).1
end
section
variable {I : Nat → Prop} {w : World} {a : Ad} (h : AAt I w a)
include I w a h
theorem AAt.cells : I a.p ∧ a.p < w.heap.size ∧ w.cell? ⟨a.p, 0, none⟩ = some (.int .i64 a.kd) ∧ w.cell? ⟨a.p, 1, none⟩ = some (.string a.tx) ∧
  ∃ v, w.cell? ⟨a.p, 3, none⟩ = some v ∧ KRow I w v (a.ks.map Ad.p) := by
 cases a with
 | mk p kd tx n ks =>
  rw [AAt] at h; obtain ⟨_, hp, ⟨v, hb, hr⟩, _⟩ := h; obtain ⟨c0, c1, _, c3, _⟩ := node_cells hb; exact ⟨hp, lt_of_heap hb, c0, c1, v, c3, hr⟩
theorem AAt.nat : NAt I w a.tr a.p := by
 cases a with
 | mk p kd tx n ks => rw [AAt] at h; rw [Ad.tr]; exact h.1
end
mutual
def Ad.cnt : Ad → Nat
 | .mk _ _ _ _ ks => 1 + Ad.cnts ks
def Ad.cnts : List Ad → Nat
 | [] => 0
 | a :: es => a.cnt + Ad.cnts es
end
mutual
theorem Ad.cnt_tr : ∀ a : Ad, a.tr.count = a.cnt
 | .mk p kd tx n ks => by rw [Ad.tr, count_mk, Ad.cnt, Ad.cnts_tr ks]
theorem Ad.cnts_tr : ∀ es : List Ad, Tr.counts (Ad.trs es) = Ad.cnts es
 | [] => by rw [Ad.trs, Ad.cnts, counts_nil]
 | a :: es => by rw [Ad.trs, counts_cons, Ad.cnts, Ad.cnt_tr a, Ad.cnts_tr es]
end
mutual
theorem Ad.ads_len : ∀ a : Ad, a.ads.length = a.cnt
 | .mk p kd tx n ks => by rw [Ad.ads, List.length_cons, Ad.adss_len ks, Ad.cnt, Nat.add_comm]
theorem Ad.adss_len : ∀ es : List Ad, (Ad.adss es).length = Ad.cnts es
 | [] => by rw [Ad.adss, Ad.cnts]; rfl
 | a :: es => by rw [Ad.adss, List.length_append, Ad.ads_len a, Ad.adss_len es, Ad.cnts]
end
theorem adss_app : ∀ a b : List Ad, Ad.adss (a ++ b) = Ad.adss a ++ Ad.adss b
 | [], b => by rw [Ad.adss]; rfl
 | x :: a, b => by rw [List.cons_append, Ad.adss, Ad.adss, adss_app a b, List.append_assoc]
theorem cnts_app : ∀ a b : List Ad, Ad.cnts (a ++ b) = Ad.cnts a + Ad.cnts b
 | [], b => by rw [Ad.cnts, List.nil_append, Nat.zero_add]
 | x :: a, b => by rw [List.cons_append, Ad.cnts, Ad.cnts, cnts_app a b, Nat.add_assoc]
theorem cnt_pos (a : Ad) : 1 ≤ a.cnt := by cases a with | mk p kd tx n ks => rw [Ad.cnt]; omega
theorem cnts_len : ∀ es : List Ad, es.length ≤ Ad.cnts es
 | [] => Nat.zero_le _
 | a :: es => by
  have h1 := cnt_pos a; have h2 := cnts_len es; rw [Ad.cnts, List.length_cons]; omega
theorem cnts_mem : ∀ (es : List Ad) (a : Ad), a ∈ es → a.cnt ≤ Ad.cnts es
 | [], _, h => absurd h (by simp)
 | x :: es, a, h => by
  rw [Ad.cnts]
  rcases List.mem_cons.1 h with rfl | h
  ·
   omega
  ·
   have := cnts_mem es a h; omega
theorem cnt_eq (a : Ad) : a.cnt = 1 + Ad.cnts a.ks := by cases a with | mk p kd tx n ks => rw [Ad.cnt]; rfl
theorem ads_eq (a : Ad) : a.ads = a.p :: Ad.adss a.ks := by cases a with | mk p kd tx n ks => rw [Ad.ads]; rfl
mutual
def wk {α : Type} (f : α → Ad → α × Bool) : α → Ad → α
 | a, .mk p kd tx n ks => if (f a (.mk p kd tx n ks)).2 then wks f (f a (.mk p kd tx n ks)).1 ks else (f a (.mk p kd tx n ks)).1
def wks {α : Type} (f : α → Ad → α × Bool) : α → List Ad → α
 | a, [] => a
 | a, k :: ks => wks f (wk f a k) ks
end
theorem wk_eq {α : Type} (f : α → Ad → α × Bool) (a : α) (t : Ad) : wk f a t = if (f a t).2 then wks f (f a t).1 t.ks else (f a t).1 := by
 cases t with
 | mk p kd tx n ks => rw [wk]; rfl
theorem wks_app {α : Type} (f : α → Ad → α × Bool) : ∀ (l m : List Ad) (a : α), wks f a (l ++ m) = wks f (wks f a l) m
 | [], m, a => by rw [List.nil_append, wks]
 | k :: l, m, a => by rw [List.cons_append, wks, wks, wks_app f l m]
theorem wks_take {α : Type} (f : α → Ad → α × Bool) (l : List Ad) (a : α) (k : Nat) (hk : k < l.length) : wks f a (l.take (k + 1)) = wk f (wks f a (l.take k)) l[k] := by
 rw [List.take_succ_eq_append_getElem hk, wks_app, wks, wks]
theorem walkG {α : Type} (F : Nat) (x : Value) (I : Nat → Prop) (Rl : World → World → Prop) (Inv : α → World → Prop) (f : α → Ad → α × Bool) (P : α → List Ad → Prop)
  (hen : ∀ args W, (callFunc F args).run Tryz.prog W = .ok (.enter F args) W) (hfn : ∀ W : World, (binOp .eql 54 (.func (.func F) #[] #[x]) .nilFunc).run Tryz.prog W = .ok (.bool false) W)
  (htr : ∀ a b c, Rl a b → Rl b c → Rl a c) (hsy : ∀ w w', Rl w w' → Stay I w w' ∧ w.heap.size ≤ w'.heap.size)
  (hP : ∀ a t ts, P a (t :: ts) → P (f a t).1 ((if (f a t).2 then t.ks else []) ++ ts))
  (hst : ∀ a t ts w, P a (t :: ts) → Inv a w → AAt I w t → Calls Tryz.prog F #[nPtr t.p, x] w fun e w' => e = .returned (.bool (f a t).2) ∧ Inv (f a t).1 w' ∧ Rl w w') :
  ∀ (m : Nat) (t : Ad), t.cnt ≤ m → m ≤ 90000 → ∀ (ts : List Ad) (a : α) (w : World), P a (t :: ts) → Inv a w → AAt I w t →
   Calls Tryz.prog 31 #[nPtr t.p, .func (.func F) #[] #[x]] w fun e w' => e = .returned (.tuple #[]) ∧ Inv (wk f a t) w' ∧ P (wk f a t) ts ∧ Rl w w' := by
 exact zbaf
def mkP (e : (Nat × Value) × Nat) : MapEntry := { key := nPtr e.1.1, val := e.1.2, born := e.2 }
def mapP (l : List (Nat × Value)) : Array MapEntry := ((l.zipIdx).map mkP).toArray
def Cl (W : World) (p : Nat) : Prop := ∃ cs t, W.heap[p]? = some (.cells cs t (0, 0))
theorem sz49 (W : World) : (sizeOf 49).run Tryz.prog W = .ok 4 W := by kernel_rfl
theorem eq_ptr {W : World} {p q : Nat} (hp : Cl W p) (hq : Cl W q) : (Op.equal 22 (nPtr p) (nPtr q)).run Tryz.prog W = .ok (decide (p = q)) W := by
 obtain ⟨ca, ta, ha⟩ := hp
 obtain ⟨cb, tb, hb⟩ := hq
 have h22 := Tryz.underlying22
 show (Op.equalIn (9999 + 1) 22 (nPtr p) (nPtr q)).run Tryz.prog W = _
 rw [Op.equalIn, Sem.run_bind, run_underlying h22 W]
 simp only [Result.andThen_ok, Sem.run_bind, sz49]
 by_cases h : p = q
 ·
  subst h; rw [decide_eq_true rfl]; exact run_sameAddr_same _ _
 ·
  rw [decide_eq_false h]; exact run_sameAddr_other W (a := ⟨p, 0, none⟩) (b := ⟨q, 0, none⟩) (fun e => h (by cases e; rfl)) ha hb
theorem find_ptr {W : World} {p : Nat} (hp : Cl W p) : ∀ (l : List (Nat × Value)) (n i : Nat), (∀ e ∈ l, Cl W e.1) →
  ∃ o, (Instr.findAsking 22 (nPtr p) ((l.zipIdx n).map mkP) i).run Tryz.prog W = .ok o W ∧ o.map (·.2) = (l.find? (fun e => decide (p = e.1))).map (·.2)
 | [], _, _, _ => ⟨none, rfl, rfl⟩
 | e :: l, n, i, h => by
  have h1 := eq_ptr hp (h e (by simp)); simp only [List.zipIdx_cons, List.map_cons, Instr.findAsking, mkP, Sem.run_bind, h1, Result.andThen_ok, List.find?_cons]
  cases hd : decide (p = e.1)
  ·
   simp only [Bool.false_eq_true, if_false]; exact find_ptr hp l (n + 1) (i + 1) (fun e he => h e (by simp [he]))
  ·
   exact ⟨some (i, e.2), rfl, rfl⟩
theorem key_ptr {W : World} {p : Nat} (hp : Cl W p) (l : List (Nat × Value)) (h : ∀ e ∈ l, Cl W e.1) :
  ∃ o, (Instr.findKey 22 (nPtr p) (mapP l).toList).run Tryz.prog W = .ok o W ∧ o.map (·.2) = (l.find? (fun e => decide (p = e.1))).map (·.2) := by
 have h22 := Tryz.underlying22
 cases l with
 | nil =>
  refine ⟨none, ?_, rfl⟩; unfold Instr.findKey; rw [Sem.run_bind, run_underlying h22 W]; rfl
 | cons e l =>
  obtain ⟨o, h1, h2⟩ := find_ptr hp (e :: l) 0 0 h; refine ⟨o, ?_, h2⟩; unfold Instr.findKey; rw [Sem.run_bind, run_underlying h22 W]; simp only [Result.andThen_ok, mapP]; exact h1
theorem lookup_ptr (m k : Nat) (l : List (Nat × Value)) (p : Nat) (W : World) (hm : W.heap[m]? = some (.map (mapP l) k)) (hp : Cl W p) (hl : ∀ e ∈ l, Cl W e.1) :
  (Instr.lookup 44 (.map (some m)) (nPtr p) false).run Tryz.prog W = .ok (((l.find? (fun e => decide (p = e.1))).map (·.2)).getD (.int .i64 0)) W := by
 obtain ⟨o, h3, h2⟩ := key_ptr hp l hl
 have h22 := Tryz.underlying22
 have h44 := Tryz.underlying44
 have hz : (zeroValue 3).run Tryz.prog W = .ok (.int .i64 0) W := by kernel_rfl
 unfold Instr.lookup
 rw [Sem.run_bind, run_underlying h44 W]
 have hck : ∀ b, (Instr.checkKey b 10000 22 (nPtr p)).run Tryz.prog W = .ok () W := by
  intro b; rw [Instr.checkKey, Sem.run_bind, run_underlying h22 W]; rfl
 have hg : (getObj m).run Tryz.prog W = .ok (.map (mapP l) k) W := by simp [getObj, Sem.run, hm]
 simp only [Result.andThen_ok, Sem.run_bind, hg, Sem.run_pure, hck, h3]
 cases o with
 | none =>
  cases hf : l.find? (fun e => decide (p = e.1)) with
  | none => simp [hz]
  | some x => rw [hf] at h2; simp at h2
 | some y =>
  cases hf : l.find? (fun e => decide (p = e.1)) with
  | none => rw [hf] at h2; simp at h2
  | some x => rw [hf] at h2; simp at h2; simp [h2]
theorem mapP_snoc (l : List (Nat × Value)) (k : Nat) (v : Value) : (mapP l).push { key := nPtr k, val := v, born := l.length } = mapP (l ++ [(k, v)]) := by
 unfold mapP
 rw [List.zipIdx_append, List.map_append]
 simp [mkP, List.zipIdx]
theorem update_ptr (m : Nat) (l : List (Nat × Value)) (p : Nat) (v : Value) (W : World) (hm : W.heap[m]? = some (.map (mapP l) l.length)) (hp : Cl W p) (hl : ∀ e ∈ l, Cl W e.1) (hn : l.find? (fun e => decide (p = e.1)) = none) :
  (Instr.mapUpdate 44 (.map (some m)) (nPtr p) v).run Tryz.prog W = .ok () (setMap W m (.map (mapP (l ++ [(p, v)])) (l.length + 1))) := by
 obtain ⟨o, h3, h2⟩ := key_ptr hp l hl
 have h22 := Tryz.underlying22
 have h44 := Tryz.underlying44
 have ho : o = none := by
  rw [hn] at h2
  cases o with
  | none => rfl
  | some y => simp at h2
 subst ho
 have hck : ∀ b, (Instr.checkKey b 10000 22 (nPtr p)).run Tryz.prog W = .ok () W := by
  intro b; rw [Instr.checkKey, Sem.run_bind, run_underlying h22 W]; rfl
 have hg : (getObj m).run Tryz.prog W = .ok (.map (mapP l) l.length) W := by simp [getObj, Sem.run, hm]
 unfold Instr.mapUpdate
 rw [Sem.run_bind, run_underlying h44 W]
 simp only [Result.andThen_ok, Sem.run_bind, hg, hck, h3]
 rw [mapP_snoc]
 simp [setObj, Sem.run, hm, setMap]
theorem len_ptr (l : List (Nat × Value)) : (mapP l).size = l.length := by simp [mapP]
def nodL (l : List Nat) : List (Nat × Value) := l.zipIdx.map fun e => (e.1, .int .i64 (e.2 : Int))
theorem nodL_len (l : List Nat) : (nodL l).length = l.length := by simp [nodL]
theorem nodL_snoc (l : List Nat) (p : Nat) : nodL (l ++ [p]) = nodL l ++ [(p, .int .i64 (l.length : Int))] := by
 simp [nodL, List.zipIdx_append, List.zipIdx]
theorem nodL_mem {l : List Nat} {e : Nat × Value} (h : e ∈ nodL l) : e.1 ∈ l := by
 unfold nodL at h
 obtain ⟨x, hx, rfl⟩ := List.mem_map.1 h
 obtain ⟨x1, x2⟩ := x
 have := List.mem_zipIdx hx
 simp only
 rw [this.2.2]
 exact List.getElem_mem _
theorem find_zip (p : Nat) : ∀ (l : List Nat) (n : Nat), p ∈ l → (((l.zipIdx n).map fun e => (e.1, Value.int .i64 (e.2 : Int))).find? (fun e => decide (p = e.1))).map (·.2) = some (.int .i64 ((n + l.idxOf p : Nat) : Int))
 | [], _, h => absurd h (by simp)
 | x :: l, n, h => by
  rw [List.zipIdx_cons, List.map_cons, List.find?_cons, List.idxOf_cons]
  by_cases hx : p = x
  ·
   subst hx; simp
  ·
   have h2 : p ∈ l := by exact (List.mem_cons.1 h).resolve_left hx
   have h3 : (x == p) = false := beq_eq_false_iff_ne.2 (Ne.symm hx); simp only [decide_eq_false hx, h3]; rw [find_zip p l (n + 1) h2]; simp only [cond_false]
   congr 3
   omega
theorem nodL_find {p : Nat} {l : List Nat} (h : p ∈ l) : (((nodL l).find? (fun e => decide (p = e.1))).map (·.2)).getD (.int .i64 0) = .int .i64 ((l.idxOf p : Nat) : Int) := by
 unfold nodL
 rw [find_zip p l 0 h, Nat.zero_add]
 rfl
theorem nodL_none {p : Nat} {l : List Nat} (h : p ∉ l) : (nodL l).find? (fun e => decide (p = e.1)) = none := by
 rw [List.find?_eq_none]
 intro e he
 have := nodL_mem he
 simp only [decide_eq_true_eq]
 rintro rfl
 exact h this
structure Nms (mb nb : Nat) (l : List Nat) (w : World) : Prop where
 word : w.heap[nb]? = some (.cells #[.map (some mb)] 44 (0, 0))
 map : w.heap[mb]? = some (.map (mapP (nodL l)) l.length)
 old : ∀ p ∈ l, Cl w p
def nmF (l : List Nat) (t : Ad) : List Nat × Bool := (l ++ [t.p], true)
mutual
theorem wk_nm : ∀ (t : Ad) (l : List Nat), wk nmF l t = l ++ t.ads
 | .mk p kd tx n ks, l => by
  rw [wk, Ad.ads]; simp only [nmF, if_true]; rw [show (Ad.mk p kd tx n ks).p = p from rfl, wks_nm ks, List.append_assoc]; rfl
theorem wks_nm : ∀ (ts : List Ad) (l : List Nat), wks nmF l ts = l ++ Ad.adss ts
 | [], l => by rw [wks, Ad.adss, List.append_nil]
 | t :: ts, l => by rw [wks, wk_nm t, wks_nm ts, Ad.adss, List.append_assoc]
end
theorem AAt.cl {I : Nat → Prop} {w : World} {a : Ad} (h : AAt I w a) : Cl w a.p := by
 cases a with
 | mk p kd tx n ks =>
  rw [AAt] at h; obtain ⟨_, _, ⟨v, hb, _⟩, _⟩ := h; exact ⟨_, _, hb⟩
theorem number1_any {mb nb : Nat} {l : List Nat} {t : Ad} {I : Nat → Prop} {w : World} (hN : Nms mb nb l w) (ht : AAt I w t) (hp : t.p ∉ l) :
  Calls Tryz.prog 67 #[nPtr t.p, .pointer (some ⟨nb, 0, none⟩)] w fun e w' => e = .returned (.bool true) ∧ w' = setMap w mb (.map (mapP (nodL (l ++ [t.p]))) (l.length + 1)) := by
 have hw : w.cell? ⟨nb, 0, none⟩ = some (.map (some mb)) := by rw [cell_of hN.word]; rfl
 have hu := update_ptr mb (nodL l) t.p (.int .i64 (l.length : Int)) w (by rw [nodL_len]; exact hN.map) ht.cl (fun e he => hN.old _ (nodL_mem he)) (nodL_none hp)
 rw [nodL_len, ← nodL_snoc] at hu
 have hl : (Builtin.len_ #[44] 3 #[.map (some mb)]).run Tryz.prog w = .ok (.int .i64 (l.length : Int)) w := by
  simp [Builtin.len_, getObj, Sem.run, hN.map, len_ptr, nodL_len, goInt]
 obtain ⟨p, hp2⟩ : ∃ p, p = t.p := ⟨_, rfl⟩
 rw [← hp2] at hu ⊢
 clear hN ht hp hp2
 go_enter Tryz.func67, Tryz.ntmps67
 go_wp2_with fail
 go_ret
 exact ⟨rfl, rfl⟩
theorem Cl.set {w : World} {m p : Nat} {o : Obj} {es : Array MapEntry} {k : Nat} (h : Cl w p) (hm : w.heap[m]? = some (.map es k)) : Cl (setMap w m o) p := by
 obtain ⟨cs, t, hc⟩ := h
 refine ⟨cs, t, ?_⟩
 rw [setMap_other (fun e => by rw [e, hm] at hc; cases hc)]
 exact hc
theorem Nms.next {mb nb : Nat} {l : List Nat} {p : Nat} {w : World} (h : Nms mb nb l w) (hp : Cl w p) (hne : nb ≠ mb) : Nms mb nb (l ++ [p]) (setMap w mb (.map (mapP (nodL (l ++ [p]))) (l.length + 1))) := by
 refine ⟨by rw [setMap_other hne]; exact h.word, by rw [setMap_at (lt_of_heap h.map), List.length_append]; rfl, fun q hq => ?_⟩
 rcases List.mem_append.1 hq with hq | hq
 ·
  exact (h.old q hq).set h.map
 ·
  rw [List.mem_singleton.1 hq]; exact hp.set h.map
theorem ap_setMap {m B : Nat} (w : World) (o : Obj) : Ap m B w (setMap w m o) := ⟨rfl, rfl, rfl, by rw [setMap_size]; exact Nat.le_refl _, fun k _ hk => setMap_other hk⟩
theorem en67 : ∀ args W, (callFunc 67 args).run Tryz.prog W = .ok (.enter 67 args) W := fun _ _ => by kernel_rfl
theorem number_any {I : Nat → Prop} (t : Ad) (w : World) (ht : AAt I w t) (hd : t.ads.Nodup) (hc : t.cnt ≤ 90000) :
  Calls Tryz.prog 24 #[nPtr t.p] w fun e w' => (∃ mb, e = .returned (.map (some mb)) ∧ w.heap.size ≤ mb ∧ w'.heap[mb]? = some (.map (mapP (nodL t.ads)) t.ads.length)) ∧ Below w.heap.size w w' := by
 obtain ⟨w2, hw2⟩ : ∃ w2, w2 = (w.alloc (.map #[] 0)).alloc (.cells #[.map (some w.heap.size)] 44) := ⟨_, rfl⟩
 have hb2 : Below w.heap.size w w2 := by
  rw [hw2]; exact ((Below.refl _ _).alloc (Nat.le_refl _) _).alloc (by simp) _
 have hs2 : w2.heap.size = w.heap.size + 2 := by rw [hw2]; simp
 have e1 : (w.alloc (.map #[] 0)).heap.size = w.heap.size + 1 := by simp
 have hN : Nms w.heap.size (w.heap.size + 1) [] w2 := by
  refine ⟨?_, ?_, fun p hp => absurd hp (by simp)⟩
  ·
   rw [hw2, ← e1]; exact heap_new _ _
  ·
   rw [hw2, Below.heap_alloc _ _ _ (by simp)]; exact heap_new _ _
 have HC := hide (walkG 67 (.pointer (some ⟨w.heap.size + 1, 0, none⟩)) (fun b => b < w.heap.size + 2 ∧ b ≠ w.heap.size) (Ap w.heap.size (w.heap.size + 2)) (Nms w.heap.size (w.heap.size + 1)) nmF (fun l ts => (l ++ Ad.adss ts).Nodup) en67 (fun W => by kernel_rfl)
  (fun _ _ _ h k => h.trans k) (fun w w' h => ⟨fun b hb _ => h.block b hb.1 hb.2, h.size⟩)
  (fun l t ts h => by
   simp only [nmF, if_true]; rw [Ad.adss, ads_eq] at h; rw [adss_app]; simpa using h)
  (fun l t ts w' h hI hA => by
   have hp : t.p ∉ l := by
    rw [Ad.adss, ads_eq, List.nodup_append] at h; exact fun hm => h.2.2 _ hm _ (by simp) rfl
   refine (number1_any hI hA hp).mono ?_; rintro e w3 ⟨rfl, rfl⟩; exact ⟨rfl, hI.next hA.cl (by omega), ap_setMap _ _⟩)
  t.cnt t (Nat.le_refl _) hc [] [] w2 (by rw [List.nil_append, Ad.adss, Ad.adss, List.append_nil]; exact hd) hN
  (AAt.later (I := fun b => b < w.heap.size + 2 ∧ b ≠ w.heap.size) (fun b hb hl => hb2.block b hl) _ (AAt.mono (fun b _ hl => ⟨by omega, by omega⟩) _ ht)))
 rw [wk_nm, List.nil_append] at HC
 obtain ⟨p, hp⟩ : ∃ p, p = t.p := ⟨_, rfl⟩
 rw [← hp] at HC ⊢
 have HB2 := hide hb2
 have HS2 := hide hs2
 rw [hw2] at HC
 have HW2 := hide hw2
 have hmk := mkMap 44
 clear hb2 hs2 e1 hN ht hd hc hp hw2
 go_enter Tryz.func24, Tryz.ntmps24
 go_wp2_with fail
 refine cm HC.out ?_
 rintro e w3 ⟨rfl, hn3, _, ha3⟩
 have hw : w3.cell? ⟨w.heap.size + 1, 0, none⟩ = some (.map (some w.heap.size)) := by rw [cell_of hn3.word]; rfl
 have HM := hide hn3.map
 rw [← HW2.out] at ha3
 have HB3 : Hid (Below w.heap.size w w3) := HB2.out.trans ((ha3.mono (by omega)).below (Nat.le_refl _))
 clear hn3 ha3 HC
 go_wp2_with fail
 go_ret
 exact ⟨⟨_, rfl, Nat.le_refl _, HM.out⟩, HB3.out⟩
theorem row_cellsP {B : Nat} {w : World} {g n cap : Nat} {ps : List Nat} (h : w.ownsRow B 22 1 (.slice (some ⟨g, 0, none⟩) n cap) n (ps.map nPtr)) : ∀ j u, (ps.map nPtr)[j]? = some u → w.cell? ((⟨g, 0, none⟩ : Addr).add j) = some u := by
 exact zcce
theorem map_oneP (qs : List Nat) : ∀ u ∈ qs.map nPtr, u.oneCell' = true := by
 intro u hu
 obtain ⟨q, _, rfl⟩ := List.mem_map.1 hu
 rfl
theorem own_oneP (w : World) (p : Nat) {B : Nat} (hB : B ≤ w.heap.size) : (w.alloc (.cells #[nPtr p] 22)).ownsRow B 22 1 (.slice (some ⟨w.heap.size, 0, none⟩) 1 1) 1 [nPtr p] := ⟨rfl, Or.inr ⟨w.heap.size, 1, #[nPtr p], rfl, hB, heap_new _ _, Nat.le_refl _, by decide, rfl, rfl⟩⟩
theorem adss_take (l : List Ad) (k : Nat) (hk : k < l.length) : Ad.adss (l.take (k + 1)) = Ad.adss (l.take k) ++ (l[k]).ads := by
 rw [List.take_succ_eq_append_getElem hk, adss_app, Ad.adss, Ad.adss, List.append_nil]
theorem allA_any {I : Nat → Prop} : ∀ (m : Nat) (t : Ad), t.cnt ≤ m → ∀ (w : World), AAt I w t → t.cnt ≤ 90000 →
  Calls Tryz.prog 25 #[nPtr t.p] w fun e w' => (∃ v, e = .returned v ∧ w'.ownsRow w.heap.size 22 1 v t.ads.length (t.ads.map nPtr)) ∧ Below w.heap.size w w' := by
 intro m
 induction m with
 | zero => intro t ht; have := cnt_pos t; omega
 | succ m ih =>
  intro t ht w hnt hbd; obtain ⟨i0, hi0, hz0, hz1, hz2⟩ := info_parts info22; obtain ⟨_, hpl, _, _, v0, f3, hrow, _⟩ := hnt.cells; have hlen : (t.ks.map Ad.p).length = t.ks.length := List.length_map _
  obtain ⟨ua, uc, hu⟩ := row_shut hrow; subst hu; rw [hlen] at f3; have hca := cnt_eq t; have HADS := hide (ads_eq t); have HKS := hide hnt.parts; have HROW := hide hrow; have HIH := hide ih; have HLEN := hide hlen
  have hkb : t.ks.length ≤ 90000 := by have h1 := cnts_len t.ks; omega
  have HCK : Hid (∀ k (hk : k < t.ks.length), (t.ks[k]).cnt ≤ m ∧ Ad.cnts (t.ks.take k) + (t.ks[k]).cnt ≤ 90000) := fun k hk => by
   have h1 : Ad.cnts t.ks = Ad.cnts (t.ks.take k) + Ad.cnts (t.ks.drop k) := by rw [← cnts_app, List.take_append_drop]
   rw [List.drop_eq_getElem_cons hk, Ad.cnts] at h1; omega
  generalize t.p = p at f3 hpl HADS ⊢
  clear hnt hrow ih ht hbd hlen hca; go_enter Tryz.func25, Tryz.ntmps25; go_wp2_with fail
  go_loopw [3, 15] (fun o i wr => ∃ (k : Nat), k ≤ t.ks.length ∧ i = .int .i64 k ∧ wr.ownsRow w.heap.size 22 1 o (p :: Ad.adss (t.ks.take k)).length ((p :: Ad.adss (t.ks.take k)).map nPtr) ∧ Below w.heap.size w wr) (fun _ i _ => t.ks.length - (intOf i).toNat)
  case atStart => exact ⟨0, Nat.zero_le _, rfl, by simpa [Ad.adss] using own_oneP w p (Nat.le_refl _), (Below.refl _ _).alloc (Nat.le_refl _) _⟩
  case round =>
   obtain ⟨k, hk, rfl, hown, hbel⟩ := hrel; have HOWN := hide hown; have HBEL := hide hbel; obtain ⟨oa, oc, rfl⟩ := row_shut hown; clear hown hbel
   by_cases hlt : k < t.ks.length
   ·
    obtain ⟨g, cap, hv, hcell⟩ := row_open HROW.out (by have := unhide HLEN; omega)
    simp only [Value.slice.injEq] at hv; obtain ⟨rfl, hxx, rfl⟩ := hv; clear hxx; have hkp : k < (t.ks.map Ad.p).length := by rw [HLEN.out]; exact hlt
    have hgl : g < w.heap.size := (own_lt HROW.out g rfl).1; obtain ⟨q, hq⟩ : ∃ q, q = (t.ks[k]).p := ⟨_, rfl⟩; have hck : wr.cell? ⟨g, k, none⟩ = some (nPtr q) := by
     rw [HBEL.out.cell (p := ⟨g, k, none⟩) hgl, hcell k hkp, List.getElem_map, hq]
    have hck2 := unhide HCK k hlt; have HC := hide (HIH.out t.ks[k] hck2.1 wr (AAt.later (fun b _ hl => HBEL.out.block b hl) _ (unhide HKS _ (List.getElem_mem hlt))) (by omega)); have HTK := hide (adss_take t.ks k hlt)
    rw [← hq] at HC; have hki : (k : Int) < (t.ks.length : Int) := by omega
    have hl1 : (p :: Ad.adss (t.ks.take k)).length + (t.ks[k]).ads.length ≤ 90001 := by rw [List.length_cons, Ad.adss_len, Ad.ads_len]; omega
    have hl2 : 0 < (t.ks[k]).ads.length := by rw [Ad.ads_len]; exact cnt_pos _
    generalize (t.ks[k]).ads = xs at HC HTK hl1 hl2
    obtain ⟨ys, hys⟩ : ∃ ys, ys = p :: Ad.adss (t.ks.take k) := ⟨_, rfl⟩; rw [← hys] at HOWN hl1 ⊢; have HYS := hide hys; have hgr : g < wr.heap.size := Nat.lt_of_lt_of_le hgl HBEL.out.size; clear hcell hq hck2 hys hkp
    go_wp2_with fail; refine cm HC.out ?_; rintro e w2 ⟨⟨v, rfl, hown2⟩, hb2⟩
    have HOWN2 : Hid (w2.ownsRow w.heap.size 22 1 (.slice oa ys.length oc) ys.length (ys.map nPtr)) := owns_stay (I := fun _ => True) (fun b _ hl => hb2.block b hl) (fun _ _ => trivial) HOWN.out
    obtain ⟨g2, cap2, rfl, hg2, hg2l⟩ := hown2.form hl2; have HNEW := hide hown2; have hz2' : w.heap.size ≤ w2.heap.size := Nat.le_trans HBEL.out.size hb2.size; have HB2 := hide (HBEL.out.trans (hb2.mono HBEL.out.size))
    have HOB := hide (own_lt HOWN2.out); clear hown2 hb2 HC hck HOWN
    go_wp2_with (at_builtin; refine wpList_append_lies _ rfl _ _ 46 rfl w.heap.size 22 i0 (.pointer none) 1 8 Tryz.underlying46 hi0 hz0 hz1 hz2 rfl (by decide) _ _ _ rfl HOWN2.out ⟨g2, 0, none⟩ xs.length cap2 (xs.map nPtr) rfl (by simp) (row_cellsP HNEW.out) (map_oneP xs) hl2 (by unfold maxLen; omega) (by omega) hz2' _ rfl ?_)
    intro g' cap' w3 hown' hgrow hg' _; have HB3 := hide (HB2.out.grown hgrow hz2' (fun b hb => (unhide HOB b hb).2)); have HO3 := hide hown'; clear hown' hgrow hg' HNEW HOWN2; go_wp2_with fail
    go_roundw
    case rel => exact ⟨k + 1, by omega, by go_num, by rw [HTK.out, ← List.cons_append, ← HYS.out, List.length_append, List.map_append]; exact HO3.out, HB3.out⟩
    case measure => simp [intOf]; omega
   ·
    have hkk : k = t.ks.length := by omega
    subst hkk; go_wp2_with fail; go_ret; have h := unhide HOWN; rw [List.take_length] at h; rw [HADS.out]; refine ⟨⟨_, rfl, ?_⟩, HBEL.out⟩
    show wr.ownsRow w.heap.size 22 1 (.slice oa (p :: Ad.adss (t.ks.take t.ks.length)).length oc) _ _
    rw [List.take_length]; exact h
end Go.Proofs.YtoimgcjbcbhclaaGreatDoor
