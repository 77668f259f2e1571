/-
  The scopes of all nodes (alpha.scopes), and the names of one (alpha.Owns).
-/
import Derived.Test.YtoimgcjbcbhclaaGreatDoorAo22
set_option maxRecDepth 100000
set_option maxHeartbeats 16000000
namespace Go.Proofs.YtoimgcjbcbhclaaGreatDoor
open Go.RowKit
theorem enA129 : ∀ args W, (callFunc 129 args).run Tryz.prog W = .ok (.enter 129 args) W := fun _ _ => by kernel_rfl
def OP (A : List Nat) (s : OSt) (ts : List Ad) : Prop := (∃ pre, A = pre ++ Ad.adss ts ∧ pre.length = s.1) ∧ (∀ x ∈ ts, x.tr.ill = 0 ∧ x.cnt ≤ 20000) ∧ ∀ q, s.2.1 = some q → q ∈ A
theorem adss_mem {y : Ad} : ∀ {es : List Ad}, y ∈ es → y.p ∈ Ad.adss es
 | [], h => by cases h
 | e :: es, h => by
  rw [Ad.adss]
  rcases List.mem_cons.1 h with rfl | h
  ·
   rw [ads_eq]; simp
  ·
   exact List.mem_append_right _ (adss_mem h)
section
variable {A : List Nat} {s : OSt} {a : Ad} {ts : List Ad} (h : OP A s (a :: ts))
include A s a ts h
theorem OP.body : ∀ q, bodyP s.2.1 a = some q → q ∈ A := by
 intro q hq
 obtain ⟨⟨pre, hA, _⟩, _, hb⟩ := h
 unfold bodyP at hq
 split at hq
 ·
  split at hq
  ·
   rename_i x y ks hks
   have e : y.p = q := by simpa using hq
   rw [hA, Ad.adss, ads_eq, ← e]; exact List.mem_append_right _ (List.mem_append_left _ (List.mem_cons_of_mem _ (adss_mem (by rw [hks]; simp))))
  ·
   exact hb q hq
 ·
  exact hb q hq
theorem OP.step : OP A (osF s a).1 ((if (osF s a).2 then a.ks else []) ++ ts) := by
 have hb := h.body
 obtain ⟨⟨pre, hA, hl⟩, hx, _⟩ := h
 have e : (if (osF s a).2 then a.ks else []) = a.ks := rfl
 rw [e]
 refine ⟨⟨pre ++ [a.p], ?_, by simp [osF, hl]⟩, fun x hx2 => ?_, hb⟩
 ·
  rw [hA, Ad.adss, ads_eq, adss_app]; simp
 ·
  rcases List.mem_append.1 hx2 with h1 | h1
  ·
   obtain ⟨h2, h3⟩ := hx a (by simp); refine ⟨ill_parts h2 x h1, ?_⟩; have h4 := cnt_eq a; have h5 : x.cnt ≤ Ad.cnts a.ks := by
    have key : ∀ es : List Ad, x ∈ es → x.cnt ≤ Ad.cnts es := by
     intro es
     induction es with
     | nil => intro hh; cases hh
     | cons e es ih =>
      intro hh; rw [Ad.cnts]
      rcases List.mem_cons.1 hh with rfl | hh
      ·
       omega
      ·
       have := ih hh; omega
    exact key _ h1
   omega
  ·
   exact hx x (by simp [h1])
end
mutual
theorem all_ads' {I : Nat → Prop} {w : World} : ∀ {a : Ad}, AAt I w a → ∀ p ∈ a.ads, I p ∧ Cl w p
 | .mk q kd tx n ks, h => by
  have hq := h.cl; rw [AAt] at h; rw [Ad.ads]; intro p hp
  rcases List.mem_cons.1 hp with rfl | hp
  ·
   exact ⟨h.2.1, hq⟩
  ·
   exact all_adss' h.2.2.2 p hp
theorem all_adss' {I : Nat → Prop} {w : World} : ∀ {es : List Ad}, AAts I w es → ∀ p ∈ Ad.adss es, I p ∧ Cl w p
 | [], _ => by rw [Ad.adss]; intro p hp; cases hp
 | a :: es, h => by
  rw [AAts] at h; rw [Ad.adss]; intro p hp
  rcases List.mem_append.1 hp with hp | hp
  ·
   exact all_ads' h.1 p hp
  ·
   exact all_adss' h.2 p hp
end
def scopesL (t : Ad) : List (Nat × Ad) := (wk osF (0, none, []) t).2.2
theorem scopes_any {I : Nat → Prop} (t : Ad) (w : World) (ht : AAt I w t) (hd : t.ads.Nodup) (hi : t.tr.ill = 0) (hc : t.cnt ≤ 20000) :
  Calls Tryz.prog 75 #[nPtr t.p] w fun e w' => (∃ fm es, e = .returned (.map (some fm)) ∧ w'.heap[fm]? = some (.map (mapI es) es.length) ∧ Ents (fun b => b < w.heap.size) 0 w' (scopesL t) es) ∧ Below w.heap.size w w' := by
 have HN := hide (number_any t w ht hd (by omega))
 have key : ∀ (w1 : World) (mb : Nat), w.heap.size ≤ mb → Below w.heap.size w w1 → w1.heap[mb]? = some (.map (mapP (nodL t.ads)) t.ads.length) →
   Calls Tryz.prog 31 #[nPtr t.p, .func (.func 129) #[] #[.pointer (some ⟨w1.heap.size + 3, 0, none⟩), .pointer (some ⟨w1.heap.size + 2, 0, none⟩), .pointer (some ⟨w1.heap.size, 0, none⟩)]] ((((w1.alloc (.cells #[.map (some mb)] 44)).alloc (.map #[] 0)).alloc (.cells #[.map (some (w1.heap.size + 1))] 121)).alloc (.cells #[.pointer none] 22))
    fun e w' => e = .returned (.tuple #[]) ∧ w'.heap[w1.heap.size + 2]? = some (.cells #[.map (some (w1.heap.size + 1))] 121 (0, 0)) ∧ (∃ es, w'.heap[w1.heap.size + 1]? = some (.map (mapI es) es.length) ∧ Ents (fun b => b < w.heap.size) 0 w' (scopesL t) es) ∧ Below w.heap.size w w' := by
  intro w1 mb hmb hb1 hm1; obtain ⟨w2, hw2⟩ : ∃ w2, w2 = (((w1.alloc (.cells #[.map (some mb)] 44)).alloc (.map #[] 0)).alloc (.cells #[.map (some (w1.heap.size + 1))] 121)).alloc (.cells #[.pointer none] 22) := ⟨_, rfl⟩
  rw [← hw2]; have hb2 : Below w1.heap.size w1 w2 := by
   rw [hw2]; exact ((((Below.refl _ _).alloc (Nat.le_refl _) _).alloc (by simp) _).alloc (by simp <;> omega) _).alloc (by simp <;> omega) _
  have hs2 : w2.heap.size = w1.heap.size + 4 := by rw [hw2]; simp
  have hml := lt_of_heap hm1; have h0 : w2.heap[w1.heap.size]? = some (.cells #[.map (some mb)] 44 (0, 0)) := by
   rw [hw2, Below.heap_alloc _ _ _ (by simp <;> omega), Below.heap_alloc _ _ _ (by simp <;> omega), Below.heap_alloc _ _ _ (by simp)]; exact heap_new _ _
  have h1 : w2.heap[w1.heap.size + 1]? = some (.map #[] 0) := by
   rw [hw2, Below.heap_alloc _ _ _ (by simp <;> omega), Below.heap_alloc _ _ _ (by simp)]; have := heap_new (w1.alloc (.cells #[.map (some mb)] 44)) (.map #[] 0); simpa using this
  have h2 : w2.heap[w1.heap.size + 2]? = some (.cells #[.map (some (w1.heap.size + 1))] 121 (0, 0)) := by
   rw [hw2, Below.heap_alloc _ _ _ (by simp)]; have := heap_new ((w1.alloc (.cells #[.map (some mb)] 44)).alloc (.map #[] 0)) (.cells #[.map (some (w1.heap.size + 1))] 121); simpa using this
  have h3 : w2.heap[w1.heap.size + 3]? = some (.cells #[.pointer none] 22 (0, 0)) := by
   rw [hw2]; have := heap_new (((w1.alloc (.cells #[.map (some mb)] 44)).alloc (.map #[] 0)).alloc (.cells #[.map (some (w1.heap.size + 1))] 121)) (.cells #[.pointer none] 22); simpa using this
  have hb12 : Below w.heap.size w w2 := hb1.trans (hb2.mono hb1.size); have hA2 : AAt (fun b => b < w.heap.size) w2 t := AAt.later (fun b hb _ => hb12.block b hb) _ (AAt.mono (fun b _ hl => hl) _ ht)
  have hall := all_ads' hA2; have hF : Fix (fun b => b < w.heap.size) (w1.heap.size + 4) w1.heap.size mb (w1.heap.size + 1) (w1.heap.size + 2) (w1.heap.size + 3) t.ads :=
   ⟨by omega, by omega, fun b hb => by have := hb1.size; have h : b < w.heap.size := hb; omega, fun p hp => (hall p hp).1, hd⟩
  have hO : OW (fun b => b < w.heap.size) (w1.heap.size + 4) w1.heap.size mb (w1.heap.size + 1) (w1.heap.size + 2) (w1.heap.size + 3) t.ads (0, none, []) w2 :=
   ⟨h0, by rw [hb2.block mb hml]; exact hm1, fun p hp => (hall p hp).2, h2, ⟨[], h1, rfl, fun j hj => by cases hj⟩, h3, by omega, fun e he => by cases he⟩
  have HC := walkG3 129 (.pointer (some ⟨w1.heap.size + 3, 0, none⟩)) (.pointer (some ⟨w1.heap.size + 2, 0, none⟩)) (.pointer (some ⟨w1.heap.size, 0, none⟩)) (fun b => b < w.heap.size) (Sk (w1.heap.size + 1) (w1.heap.size + 3))
   (OW (fun b => b < w.heap.size) (w1.heap.size + 4) w1.heap.size mb (w1.heap.size + 1) (w1.heap.size + 2) (w1.heap.size + 3) t.ads) osF (OP t.ads) enA129 (fun W => by kernel_rfl)
   (fun _ _ _ h k => h.trans k) (fun w' w'' h => ⟨fun b hb hl => h.block b hl (by have := (hF.own b hb); omega) (by have := (hF.own b hb); omega), h.size⟩)
   (fun s a ts h => h.step)
   (fun s a ts w' h hI hA => by
    have hbd := h.body; obtain ⟨⟨pre, hp, hl⟩, hx, _⟩ := h; obtain ⟨i, b, L⟩ := s; rw [Ad.adss, ads_eq a] at hp
    exact scopes1_any (post := Ad.adss a.ks ++ Ad.adss ts) hF hI hA (by rw [hp]; simp) hl (hx a (by simp)).1 (hx a (by simp)).2 hbd)
   t.cnt t (Nat.le_refl _) (by omega) [] (0, none, []) w2 ⟨⟨[], by rw [Ad.adss, Ad.adss]; simp, rfl⟩, fun x hx => by rw [List.mem_singleton.1 hx]; exact ⟨hi, hc⟩, fun q hq => by cases hq⟩ hO hA2
  refine HC.mono ?_; rintro e w3 ⟨rfl, hO3, _, hs3⟩; obtain ⟨es, e1, e2⟩ := hO3.fmap
  refine ⟨rfl, hO3.fbox, ⟨es, e1, e2.1, fun j h1 h2 => ?_⟩, ⟨hs3.os.trans hb12.os, hs3.tape.trans hb12.tape, hs3.output.trans hb12.output, Nat.le_trans hb12.size hs3.size, fun k hk => ?_⟩⟩
  ·
   obtain ⟨k1, v, k2, k3⟩ := e2.2 j h1 h2; exact ⟨k1, v, k2, k3.low (Nat.zero_le _)⟩
  ·
   have h4 := hb1.size; exact (hs3.block k (by omega) (by omega) (by omega)).trans (hb12.block k hk)
 have HK := hide key
 generalize scopesL t = L at HK ⊢
 generalize t.p = p at HN HK ⊢
 have hmk := mkMap 121
 clear ht hd hi hc key
 go_enter Tryz.func75, Tryz.ntmps75
 go_wp2_with fail
 refine cm HN.out ?_
 rintro e w1 ⟨⟨mb, rfl, hmb, hm1⟩, hb1⟩
 have HC := hide (unhide HK w1 mb hmb hb1 hm1)
 clear HN HK hmb hm1 hb1
 go_wp2_with fail
 refine cm HC.out ?_
 rintro e w3 ⟨rfl, hf3, ⟨es, e1, e2⟩, hb3⟩
 have c3 : w3.cell? ⟨w1.heap.size + 2, 0, none⟩ = some (.map (some (w1.heap.size + 1))) := by rw [Lib.cell_of_heap hf3]; rfl
 have hl3 := lt_of_heap hf3
 have HE1 := hide e1
 have HE2 := hide e2
 have HB3 := hide hb3
 clear hf3 e1 e2 hb3 HC
 go_wp2_with fail
 go_ret
 exact ⟨⟨_, es, rfl, HE1.out, HE2.out⟩, HB3.out⟩
def ownsL (t : Ad) (at' : Int) : Option (Nat × Ad) := (scopesL t).find? (fun e => decide (at' = (e.1 : Int)))
def ownsN (t : Ad) (at' : Int) : List ByteArray := match ownsL t at' with | some x => onceL ((declT x.2.tr).map Tr.tx) | none => []
theorem Ents.find {I : Nat → Prop} {B : Nat} {w : World} {L : List (Nat × Ad)} {es : List (Int × Value)} (h : Ents I B w L es) (k : Int) :
  (L.find? (fun e => decide (k = (e.1 : Int))) = none ∧ es.find? (fun e => decide (k = e.1)) = none) ∨ ∃ x y v, L.find? (fun e => decide (k = (e.1 : Int))) = some x ∧ es.find? (fun e => decide (k = e.1)) = some y ∧ y.2 = .agg #[nPtr x.2.p, v] ∧ NRowI I B w v (declT x.2.tr) := by
 induction L generalizing es with
 | nil =>
  have : es = [] := List.length_eq_zero_iff.1 h.1; subst this; exact Or.inl ⟨rfl, rfl⟩
 | cons x L ih =>
  match es, h with
  | [], h => exact absurd h.1 (by simp)
  | y :: es, h =>
   have h0 := h.2 0 (by simp) (by simp); simp only [List.getElem_cons_zero] at h0; have ht : Ents I B w L es := ⟨by have := h.1; simpa using this, fun j h1 h2 => by
    have := h.2 (j + 1) (by simpa using h1) (by simpa using h2); simpa using this⟩
   obtain ⟨e1, v, e2, e3⟩ := h0
   by_cases hk : k = (x.1 : Int)
   ·
    refine Or.inr ⟨x, y, v, ?_, ?_, e2, e3⟩
    ·
     rw [List.find?_cons]; simp [hk]
    ·
     rw [List.find?_cons, e1]; simp [hk]
   ·
    rcases ih ht with ⟨a1, a2⟩ | ⟨x', y', v', a1, a2, a3⟩
    ·
     refine Or.inl ⟨?_, ?_⟩
     ·
      rw [List.find?_cons]; simp only [hk, decide_false]; exact a1
     ·
      rw [List.find?_cons, e1]; simp only [hk, decide_false]; exact a2
    ·
     refine Or.inr ⟨x', y', v', ?_, ?_, a3⟩
     ·
      rw [List.find?_cons]; simp only [hk, decide_false]; exact a1
     ·
      rw [List.find?_cons, e1]; simp only [hk, decide_false]; exact a2
theorem zero119 (W : World) : (zeroValue 119).run Tryz.prog W = .ok (.agg #[.pointer none, .slice none 0 0]) W := by kernel_rfl
theorem owns_any {I : Nat → Prop} (t : Ad) (at' : Int) (w : World) (ht : AAt I w t) (hd : t.ads.Nodup) (hi : t.tr.ill = 0) (hc : t.cnt ≤ 20000) (hdl : ∀ x ∈ scopesL t, (declT x.2.tr).length ≤ 90000) :
  Calls Tryz.prog 33 #[nPtr t.p, .int .i64 at'] w fun e w' => (∃ u, e = .returned (.tuple #[u, .bool (ownsL t at').isSome]) ∧ SRow w.heap.size w' u (ownsN t at')) ∧ Below w.heap.size w w' := by
 have HS := hide (scopes_any t w ht hd hi hc)
 have HDL := hide hdl
 have HON : Hid (ownsN t at' = match ownsL t at' with | some x => onceL ((declT x.2.tr).map Tr.tx) | none => []) := rfl
 have HOL : Hid (ownsL t at' = (scopesL t).find? (fun e => decide (at' = (e.1 : Int)))) := rfl
 generalize ownsN t at' = N1 at HON ⊢
 generalize ownsL t at' = O1 at HON HOL ⊢
 generalize scopesL t = L at HS HDL HOL
 generalize t.p = p at HS ⊢
 clear ht hd hi hc hdl
 go_enter Tryz.func33, Tryz.ntmps33
 go_wp2_with fail
 refine cm HS.out ?_
 rintro e w1 ⟨⟨fm, es, rfl, hm, he⟩, hb⟩
 have hlk := lookup_mapI 121 119 fm es.length es at' (.agg #[.pointer none, .slice none 0 0]) w1 Tryz.underlying121 hm (zero119 w1)
 have HB := hide hb
 have hfl := lt_of_heap hm
 rcases he.find at' with ⟨a1, a2⟩ | ⟨x, y, v, a1, a2, a3, a4⟩
 ·
  have HO1 : Hid (O1 = none) := HOL.out.trans a1; have hN1 : N1 = [] := by rw [HON.out, HO1.out]
  have hO1 : O1 = none := unhide HO1; subst hN1 hO1; rw [a2] at hlk; simp only [Option.map_none, Option.getD_none, Option.isSome_none] at hlk
  have HC := hide (namesA_any (B := 0) [] (.pointer none) (.slice none 0 0) (w1.alloc (.cells #[.pointer none, .slice none 0 0] 119)) (Or.inl rfl) (NRow.nil _ _) (by simp))
  have HBA := hide (HB.out.trans (((Below.refl w1.heap.size w1).alloc (Nat.le_refl _) (.cells #[.pointer none, .slice none 0 0] 119)).mono HB.out.size)); clear hm he hb a1 a2 HS; exact zbdk
 ·
  have HO1 : Hid (O1 = some x) := HOL.out.trans a1; have hN1 : N1 = onceL ((declT x.2.tr).map Tr.tx) := by rw [HON.out, HO1.out]
  have hO1 : O1 = some x := unhide HO1; have hxm : (declT x.2.tr).length ≤ 90000 := HDL.out x (List.mem_of_find?_eq_some a1); rw [a2] at hlk; simp only [Option.map_some, Option.getD_some, Option.isSome_some, a3] at hlk
  obtain ⟨oa, oc, rfl⟩ := a4.form; have hbA : Below w1.heap.size w1 (w1.alloc (.cells #[nPtr x.2.p, .slice oa (declT x.2.tr).length oc] 119)) := (Below.refl w1.heap.size w1).alloc (Nat.le_refl _) _
  have HC := hide (namesA_any (B := 0) (declT x.2.tr) (nPtr x.2.p) (.slice oa (declT x.2.tr).length oc) (w1.alloc (.cells #[nPtr x.2.p, .slice oa (declT x.2.tr).length oc] 119)) (Or.inr ⟨_, rfl⟩) (a4.nrow.later hbA) hxm)
  rw [← hN1] at HC; have HBA := hide (HB.out.trans (hbA.mono HB.out.size)); subst hO1
  generalize (declT x.2.tr).length = dn at hlk HC HBA
  generalize x.2.p = px at hlk HC HBA
  clear hm he hb a1 a2 a3 a4 HS hbA hN1 hxm; exact zbdk
theorem add_mem {l : List ByteArray} {s x : ByteArray} : x ∈ addB l s ↔ x ∈ l ∨ x = s := by
 unfold addB
 split
 ·
  rename_i h
  constructor
  ·
   exact Or.inl
  ·
   rintro (h1 | rfl)
   ·
    exact h1
   ·
    exact hasB_iff.1 h
 ·
  simp
theorem fold_mem : ∀ (l acc : List ByteArray) (x : ByteArray), x ∈ l.foldl addB acc ↔ x ∈ acc ∨ x ∈ l
 | [], acc, x => by simp
 | s :: l, acc, x => by
  rw [List.foldl_cons, fold_mem l, add_mem]; simp [or_assoc]
section
variable {l : List ByteArray} {x : ByteArray}
include l x
theorem once_mem : x ∈ onceL l ↔ x ∈ l := by rw [onceL, fold_mem]; simp
theorem addB_in (h : x ∈ l) : addB l x = l := by unfold addB; rw [if_pos (hasB_iff.2 h)]
end
theorem fold_add (acc pre : List ByteArray) (x : ByteArray) : (addB pre x).foldl addB acc = addB (pre.foldl addB acc) x := by
 by_cases hx : x ∈ pre
 ·
  rw [show addB pre x = pre by unfold addB; rw [if_pos (hasB_iff.2 hx)]]
  have h2 : x ∈ pre.foldl addB acc := (fold_mem _ _ _).2 (Or.inr hx); rw [addB_in h2]
 ·
  rw [show addB pre x = pre ++ [x] by unfold addB; rw [if_neg (by rw [hasB_no.2 hx]; decide)], List.foldl_append]
  rfl
theorem fold_fold (acc : List ByteArray) : ∀ (l pre : List ByteArray), (l.foldl addB pre).foldl addB acc = l.foldl addB (pre.foldl addB acc)
 | [], _ => rfl
 | x :: l, pre => by rw [List.foldl_cons, fold_fold acc l, fold_add, List.foldl_cons]
theorem fold_once (acc l : List ByteArray) : (onceL l).foldl addB acc = l.foldl addB acc := fold_fold acc l []
theorem once_once (l : List ByteArray) : onceL (onceL l) = onceL l := fold_once [] l
section
variable {B : Nat} (l : List ByteArray) (s : ByteArray) (v : Value) (w : World) (h : SRow B w v l)
include B l s v w h
theorem rhas_any (hl : l.length ≤ 90000) :
  Calls Tryz.prog 53 #[v, .string s] w fun e w' => e = .returned (.bool (hasB l s)) ∧ w' = w := by
 obtain ⟨va, vc, rfl⟩ := srow_form h
 have HR := hide h
 obtain ⟨R, hR⟩ : ∃ R, R = hasB l s := ⟨_, rfl⟩
 rw [← hR]
 have HRR := hide hR
 clear h hR
 go_enter Tryz.func53, Tryz.ntmps53
 go_wp2_with fail
 go_loopw [9] (fun i wr => ∃ k : Nat, k ≤ l.length ∧ i = .int .i64 k ∧ s ∉ l.take k ∧ wr = w) (fun i _ => l.length - (intOf i).toNat)
 case atStart => exact ⟨0, Nat.zero_le _, rfl, by simp, rfl⟩
 case round =>
  obtain ⟨k, hk, rfl, hns, rfl⟩ := hrel; have HNS := hide hns; clear hns
  by_cases hlt : k < l.length
  ·
   obtain ⟨g, cap, hv, hg, _, hc⟩ := srow_cell HR.out k hlt; simp only [Value.slice.injEq] at hv; obtain ⟨rfl, _, rfl⟩ := hv; have hki : (k : Int) < (l.length : Int) := by omega
   obtain ⟨x, hx⟩ : ∃ x, x = l[k] := ⟨_, rfl⟩; rw [← hx] at hc; have HX := hide hx; clear hx
   by_cases he : x = s
   ·
    have hRt : R = true := by rw [HRR.out, hasB_iff, ← he, HX.out]; exact List.getElem_mem _
    subst he hRt; go_wp2_with fail; go_ret; exact ⟨rfl, rfl⟩
   ·
    have hne := tl_ne he; have HE := hide he; clear he; go_wp2_with fail
    go_roundw
    case rel =>
     refine ⟨k + 1, by omega, by go_num, ?_, trivial⟩; rw [List.take_succ_eq_append_getElem hlt]; intro hm
     rcases List.mem_append.1 hm with hm | hm
     ·
      exact unhide HNS hm
     ·
      exact unhide HE (by rw [HX.out]; exact (List.mem_singleton.1 hm).symm)
    case measure => simp [intOf]; omega
  ·
   have hkk : k = l.length := by omega
   subst hkk; have hRf : R = false := by
    have h := unhide HNS; rw [List.take_length] at h; rw [HRR.out, hasB_no]; exact h
   subst hRf; go_wp2_with fail; go_ret; exact ⟨rfl, rfl⟩
theorem radd_any (hl : l.length ≤ 80000) (hB : B ≤ w.heap.size) :
  Calls Tryz.prog 77 #[v, .string s] w fun e w' => (∃ u, e = .returned u ∧ SRow B w' u (addB l s)) ∧ Below w.heap.size w w' := by
 obtain ⟨i0, hi0, hz0, hz1, hz2⟩ := info_parts info9
 have HC := hide (rhas_any l s v w h (by omega))
 obtain ⟨va, vc, rfl⟩ := srow_form h
 have HR := hide h
 unfold addB
 clear h
 cases hh : hasB l s with
 | true =>
  rw [hh] at HC; clear hh; simp only [if_true]; go_enter Tryz.func77, Tryz.ntmps77; go_wp2_with fail; refine cm HC.out ?_; rintro e w1 ⟨rfl, rfl⟩; clear HC; go_wp2_with fail; go_ret
  exact ⟨⟨_, rfl, HR.out⟩, Below.refl _ _⟩
 | false =>
  rw [hh] at HC; clear hh; simp only [Bool.false_eq_true, if_false]; go_enter Tryz.func77, Tryz.ntmps77; go_wp2_with fail; refine cm HC.out ?_; rintro e w1 ⟨rfl, rfl⟩; clear HC
  go_wp2_with (at_builtin; refine wpList_app_row rfl _ _ 38 rfl w1.heap.size _ 9 i0 (.string ByteArray.empty) 16 Tryz.underlying38 hi0 hz0 hz1 hz2 rfl _ _ _ rfl (World.ownsRow_lit w1 #[] 0 (Nat.le_refl _) (by decide) rfl) _ _ _ rfl (HR.out.alloc _) (srow_ones l) (by unfold maxLen; omega) (by omega) (by simp) ?_)
  intro v2 w2 hown2 hgr2; have hsr2 : w2.ownsRow w1.heap.size 9 1 v2 l.length (l.map Value.string) := by simpa using hown2
  have hb2 : Below w1.heap.size w1 w2 := ((Below.refl _ _).alloc (Nat.le_refl _) _).grown hgr2 (by simp) (fun k hk => by simp [Value.ownBlock] at hk; omega)
  obtain ⟨a2, c2, rfl⟩ := srow_form hsr2; have HR2 := hide hsr2; have HB2 := hide hb2; have hz2' := hb2.size; clear hown2 hgr2 hsr2 hb2
  go_wp2_with (at_builtin; refine wpList_append_lies _ rfl _ _ 38 rfl w1.heap.size 9 i0 (.string ByteArray.empty) 1 16 Tryz.underlying38 hi0 hz0 hz1 hz2 rfl (by decide) _ _ _ rfl (HR2.out.alloc _) ⟨w2.heap.size, 0, none⟩ 1 1 [.string s] rfl rfl (hoCellsS w2 s _ rfl) (hoOneS s) (by decide) (by unfold maxLen; omega) (by omega) (by simp; omega) (w2.heap.size + 1) (by simp) ?_)
  intro g' cap' w3 hown' hgrow hg' _; have HB3 := hide ((HB2.out.alloc hz2' (.cells #[.string s] 9)).grown hgrow (by simp; omega) (fun b hb => (own_lt HR2.out b hb).2))
  have HO3 : Hid (SRow B w3 (.slice (some ⟨g', 0, none⟩) (l.length + 1) cap') (l ++ [s])) := by
   have h1 : SRow w1.heap.size w3 (.slice (some ⟨g', 0, none⟩) (l.length + 1) cap') (l ++ [s]) := by
    show World.ownsRow _ _ _ _ _ _ _
    rw [List.length_append, List.map_append]; exact hown'
   exact srow_mono h1 hB
  clear hown' hgrow hg'; go_wp2_with fail; go_ret; exact ⟨⟨_, rfl, HO3.out⟩, HB3.out⟩
end
theorem risFunc_any (t : Tr) (p : Nat) (w : World) (h : NTr w t p) : Calls Tryz.prog 55 #[nPtr p] w fun e w' => e = .returned (.bool (isFunT t)) ∧ w' = w := by
 obtain ⟨hpl, c0, _, _⟩ := h.cells
 clear h
 unfold isFunT
 generalize t.kd = kd at c0
 cases h3 : (kd == 5)
 all_goals
  go_enter Tryz.func55, Tryz.ntmps55; go_wp2_with fail; go_ret; exact ⟨rfl, rfl⟩
def RvAt (m : Nat) : Prop := ∀ (t : Tr), t.count ≤ m → t.count ≤ 20000 → ∀ (p : Nat) (w : World), NTr w t p →
  Calls Tryz.prog 79 #[nPtr p] w fun e w' => (∃ u, e = .returned u ∧ SRow w.heap.size w' u (varsT t)) ∧ Below w.heap.size w w'
theorem fold_len : ∀ (l acc : List ByteArray), (l.foldl addB acc).length ≤ acc.length + l.length
 | [], acc => by simp
 | x :: l, acc => by
  have h := fold_len l (addB acc x); have h2 : (addB acc x).length ≤ acc.length + 1 := by unfold addB; split <;> simp
  simp only [List.foldl_cons, List.length_cons]; omega
theorem vars_step (t : Tr) (k : Nat) (hk : k < t.kids.length) : onceL (vws (t.kids.take (k + 1))) = (vw t.kids[k]).foldl addB (onceL (vws (t.kids.take k))) := by
 rw [vws_take t.kids k hk, onceL, List.foldl_append]; rfl
theorem rvars_step {m : Nat} (ih : RvAt m) : RvAt (m + 1) := by
 intro t ht hc p w h
 have htc : t.count = 1 + Tr.counts t.kids := by cases t with | mk kd tx nn ks => exact count_mk _ _ _ _
 obtain ⟨hpl, _, _, u, c3, hr⟩ := h.cells
 obtain ⟨ua, uc, rfl⟩ := hr.form
 have HR := hide hr
 have hkl : t.kids.length ≤ 20000 := by have := counts_len t.kids; omega
 have HIH : Hid (∀ (k : Nat) (hk : k < t.kids.length) (q : Nat) (W : World), NTr W t.kids[k] q → Calls Tryz.prog 79 #[nPtr q] W fun e w' => (∃ u, e = .returned u ∧ SRow W.heap.size w' u (varsT t.kids[k])) ∧ Below W.heap.size W w') := fun k hk q W hq => by
  have h1 := counts_le t.kids k hk; exact ih t.kids[k] (by omega) (by omega) q W hq
 have HLV : Hid (∀ k, (vws (t.kids.take k)).length ≤ 20000) := fun k => by
  have h1 := vws_len (t.kids.take k); have h2 : Tr.counts t.kids = Tr.counts (t.kids.take k) + Tr.counts (t.kids.drop k) := by rw [← counts_app, List.take_append_drop]
  omega
 have HLK : Hid (∀ k (hk : k < t.kids.length), (varsT t.kids[k]).length ≤ 20000) := fun k hk => by
  have h1 := counts_le t.kids k hk; have h2 := vars_len t.kids[k]; have h3 : (t.kids[k]).count = 1 + Tr.counts (t.kids[k]).kids := by cases t.kids[k] with | mk kd tx nn ks => exact count_mk _ _ _ _
  omega
 unfold varsT
 clear h hr htc ht hc ih
 go_enter Tryz.func79, Tryz.ntmps79
 go_wp2_with fail
 go_loopw [3, 15] (fun o j wr => ∃ k : Nat, k ≤ t.kids.length ∧ j = .int .i64 k ∧ SRow w.heap.size wr o (onceL (vws (t.kids.take k))) ∧ Below w.heap.size w wr) (fun _ j _ => t.kids.length - (intOf j).toNat)
 case atStart => exact ⟨0, Nat.zero_le _, rfl, by simpa [vws, onceL] using srow_nil _ _, Below.refl _ _⟩
 case round =>
  obtain ⟨k, hk, rfl, hown, hbel⟩ := hrel; have HOWN := hide hown; have HB := hide hbel; obtain ⟨oa, oc, rfl⟩ := srow_form hown; clear hown hbel c3
  by_cases hlt : k < t.kids.length
  ·
   obtain ⟨g, cap, q, hv, hg, hcc, hn⟩ := (HR.out.later HB.out).cell k hlt; simp only [Value.slice.injEq] at hv; obtain ⟨rfl, _, rfl⟩ := hv; have hki : (k : Int) < (t.kids.length : Int) := by omega
   obtain ⟨hql, q0, q1, _⟩ := hn.cells; have HN := hide hn; have HST := hide (vars_step t k hlt); have HVW := hide (vw_eq t.kids[k])
   have HF := hide (fun W (hW : Below wr.heap.size wr W) => risFunc_any t.kids[k] q W (hn.later hW)); have hol := once_len (vws (t.kids.take k)); have hvl := unhide HLV k; have hvk := unhide HLK k hlt
   have HI := hide (unhide HIH k hlt q); obtain ⟨L, hL⟩ : ∃ L, L = onceL (vws (t.kids.take k)) := ⟨_, rfl⟩; rw [← hL] at HOWN HST hol ⊢; have hLl : L.length ≤ 20000 := by omega
   have hsz := HB.out.size; have HAD := hide (fun s W (hW : Below wr.heap.size wr W) => radd_any L s (.slice oa L.length oc) W (SRow.later HOWN.out hW) (by omega) (Nat.le_trans hsz hW.size))
   generalize t.kids[k] = x at q0 q1 HN HST HVW HF hvk HI
   clear hn hL hol hvl
   cases hk2 : (x.kd == 2) with
   | true =>
    have HOV : Hid (ownVar x = [x.tx]) := by show _ = _; unfold ownVar; rw [hk2]; rfl
    have HC0 := hide (unhide HAD x.tx wr (Below.refl _ _))
    generalize x.tx = tx at q1 HC0 HOV
    generalize x.kd = kd at q0 hk2
    go_wp2_with fail; refine cm HC0.out ?_; rintro e W1 ⟨⟨u1, rfl, hr1⟩, hb1⟩; obtain ⟨L1, hL1⟩ : ∃ L1, L1 = addB L tx := ⟨_, rfl⟩; rw [← hL1] at hr1; obtain ⟨a1, c1, rfl⟩ := srow_form hr1; have HO1 := hide hr1
    have HW1 := hide hb1; have HB1 := hide (HB.out.trans (hb1.mono HB.out.size))
    have hL1l : L1.length ≤ 30000 := by rw [hL1]; have h2 := fold_len [tx] L; simp only [List.foldl_cons, List.foldl_nil, List.length_cons, List.length_nil] at h2; omega
    have HLL := hide hL1; clear HC0 hr1 hb1 hL1
    cases hf : isFunT x with
    | true =>
     rw [hf] at HF HVW; have HC := hide (unhide HF W1 HW1.out); go_wp2_with fail; refine cm HC.out ?_; rintro e w3 ⟨rfl, rfl⟩; clear HC; go_wp2_with fail
     go_roundw
     case rel =>
      refine ⟨k + 1, by omega, by go_num, ?_, HB1.out⟩; rw [HST.out, HVW.out, HOV.out]; simp only [if_true, List.append_nil, List.foldl_cons, List.foldl_nil]; rw [← HLL.out]; exact unhide HO1
     case measure => simp [intOf]; omega
    | false =>
     exact zbaq
   | false =>
    have HOV : Hid (ownVar x = []) := by show _ = _; unfold ownVar; rw [hk2]; rfl
    obtain ⟨W1, hW1⟩ : ∃ W1, W1 = wr := ⟨_, rfl⟩; obtain ⟨L1, hL1⟩ : ∃ L1, L1 = L := ⟨_, rfl⟩; have HO1 : Hid (SRow w.heap.size W1 (.slice oa L1.length oc) L1) := by rw [hW1, hL1]; exact unhide HOWN
    have HW1 : Hid (Below wr.heap.size wr W1) := by rw [hW1]; exact Below.refl _ _
    have HB1 : Hid (Below w.heap.size w W1) := by rw [hW1]; exact unhide HB
    have hL1l : L1.length ≤ 30000 := by rw [hL1]; omega
    have HLL := hide hL1; subst hW1; rw [← hL1]
    generalize x.kd = kd at q0 hk2
    clear hL1
    cases hf : isFunT x with
    | true =>
     rw [hf] at HF HVW; have HC := hide (unhide HF W1 HW1.out); go_wp2_with fail; refine cm HC.out ?_; rintro e w3 ⟨rfl, rfl⟩; clear HC; go_wp2_with fail
     go_roundw
     case rel =>
      refine ⟨k + 1, by omega, by go_num, ?_, HB1.out⟩; rw [HST.out, HVW.out, HOV.out]; simp only [if_true, List.append_nil, List.foldl_nil]; rw [← HLL.out]; exact unhide HO1
     case measure => simp [intOf]; omega
    | false =>
     exact zbaq
  ·
   have hkk : k = t.kids.length := by omega
   subst hkk; go_wp2_with fail; go_ret; have h := unhide HOWN; rw [List.take_length] at h; refine ⟨⟨_, rfl, ?_⟩, HB.out⟩; rw [List.take_length]; exact h
theorem rvars_all : ∀ m, RvAt m := by
 intro m
 induction m with
 | zero =>
  exact zbej
 | succ m ih => exact rvars_step ih
theorem rvars_any (t : Tr) (p : Nat) (w : World) (h : NTr w t p) (hc : t.count ≤ 20000) :
  Calls Tryz.prog 79 #[nPtr p] w fun e w' => (∃ u, e = .returned u ∧ SRow w.heap.size w' u (varsT t)) ∧ Below w.heap.size w w' := rvars_all t.count t (Nat.le_refl _) hc p w h
theorem cellR {w : World} {b o : Nat} {v : Value} (h : w.cell? ⟨b, o, none⟩ = some v) : b < w.heap.size := by
 exact zbfg
theorem keepR {w X : World} {b o : Nat} {v : Value} (hb : Below w.heap.size w X) (h : w.cell? ⟨b, o, none⟩ = some v) : X.cell? ⟨b, o, none⟩ = some v :=
 (World.cell?_of_block (w := w) (a := ⟨b, o, none⟩) (hb.block b (cellR h))).trans h
def NRow0 (w0 : World) (B : Nat) (w : World) (v : Value) (ts : List Tr) : Prop := ∃ ps : List Nat, w.ownsRow B 22 1 v ps.length (ps.map nPtr) ∧ NLs (fun _ => True) w0 ts ps
theorem NRow0.row {w0 w : World} {B : Nat} {v : Value} {ts : List Tr} (h : NRow0 w0 B w v ts) (hb : Below w0.heap.size w0 w) : NRow B w v ts := by
 obtain ⟨ps, h1, h2⟩ := h
 exact ⟨ps, h1, NLs.later (Below.stay hb) _ _ h2⟩
theorem NRow0.low {w0 w : World} {B B' : Nat} {v : Value} {ts : List Tr} (h : NRow0 w0 B w v ts) (hB : B' ≤ B) : NRow0 w0 B' w v ts := by
 obtain ⟨ps, h1, h2⟩ := h
 refine ⟨ps, ⟨h1.1, ?_⟩, h2⟩
 rcases h1.2 with hn | ⟨g, cap, cur, hv, hb, rest⟩
 ·
  exact Or.inl hn
 ·
  exact Or.inr ⟨g, cap, cur, hv, by omega, rest⟩
theorem NRow0.form {w0 w : World} {B : Nat} {v : Value} {ts : List Tr} (h : NRow0 w0 B w v ts) : ∃ a cap, v = .slice a ts.length cap := by
 obtain ⟨ps, h1, h2⟩ := h
 rw [← NLs.length _ _ h2]
 exact row_shut h1
theorem NRow0.later {w0 w w' : World} {B : Nat} {v : Value} {ts : List Tr} (h : NRow0 w0 B w v ts) (hb : Below w.heap.size w w') : NRow0 w0 B w' v ts := by
 obtain ⟨ps, h1, h2⟩ := h
 exact ⟨ps, owns_stay (I := fun _ => True) (Below.stay hb) (fun _ _ => trivial) h1, h2⟩
def ofK (zs : List Int) (k : Tr) : List Tr := (zs.filter fun z => k.kd == z).map fun _ => k
def ofKs (zs : List Int) : List Tr → List Tr
 | [] => []
 | k :: ks => ofK zs k ++ ofKs zs ks
theorem ofKs_app (zs : List Int) : ∀ a b : List Tr, ofKs zs (a ++ b) = ofKs zs a ++ ofKs zs b
 | [], b => rfl
 | t :: a, b => by simp [ofKs, ofKs_app zs a b]
theorem ofKs_take (zs : List Int) (ts : List Tr) (k : Nat) (hk : k < ts.length) : ofKs zs (ts.take (k + 1)) = ofKs zs (ts.take k) ++ ofK zs ts[k] := by
 rw [List.take_succ_eq_append_getElem hk, ofKs_app]
 simp [ofKs]
theorem ofK_take (zs : List Int) (k : Tr) (i : Nat) (hi : i < zs.length) : ofK (zs.take (i + 1)) k = ofK (zs.take i) k ++ (if k.kd == zs[i] then [k] else []) := by
 unfold ofK
 rw [List.take_succ_eq_append_getElem hi, List.filter_append, List.map_append]
 simp only [List.filter_cons, List.filter_nil]
 split <;> simp
theorem ofK_len (zs : List Int) (k : Tr) : (ofK zs k).length ≤ zs.length := by unfold ofK; rw [List.length_map]; exact List.length_filter_le _ _
theorem ofKs_len (zs : List Int) : ∀ ts : List Tr, (ofKs zs ts).length ≤ ts.length * zs.length
 | [] => by simp [ofKs]
 | t :: ts => by
  have h1 := ofK_len zs t; have h2 := ofKs_len zs ts; rw [ofKs, List.length_append, List.length_cons, Nat.add_mul]; omega
theorem ofKs_fn : ∀ ts : List Tr, ofKs [5] ts = ts.filter isFnT
 | [] => rfl
 | t :: ts => by
  rw [ofKs, ofKs_fn ts, List.filter_cons]; unfold ofK isFnT; simp only [List.filter_cons, List.filter_nil]
  split <;> simp
theorem ofKs_let : ∀ ts : List Tr, ofKs [3, 4] ts = ts.filter isLetT
 | [] => rfl
 | t :: ts => by
  rw [ofKs, ofKs_let ts, List.filter_cons]; unfold ofK isLetT; simp only [List.filter_cons, List.filter_nil]
  by_cases h3 : t.kd = 3
  ·
   simp [h3]
  ·
   by_cases h4 : t.kd = 4
   ·
    simp [h4]
   ·
    simp [h3, h4]
theorem kinds_any (zs : List Int) (hz : zs.length ≤ 2) (g0 : Nat) (t : Tr) (p : Nat) (w0 w : World) (h : NTr w0 t p) (hb0 : Below w0.heap.size w0 w) (hl : t.kids.length ≤ 20000) (hzr : ∀ i, (hi : i < zs.length) → w.cell? ⟨g0, i, none⟩ = some (.int .i64 zs[i])) :
  Calls Tryz.prog 122 #[nPtr p, .slice (some ⟨g0, 0, none⟩) zs.length zs.length] w fun e w' => (∃ u, e = .returned u ∧ NRow0 w0 w.heap.size w' u (ofKs zs t.kids)) ∧ Below w.heap.size w w' := by
 obtain ⟨i0, hi0, hz0, hz1, hz2⟩ := info_parts info22
 obtain ⟨hpl0, y0, y1, u, c30, hr⟩ := h.cells
 have c3 := keepR hb0 c30
 have hpl := cellR c3
 have HB0 := hide hb0
 obtain ⟨va, vc, rfl⟩ := hr.form
 have HR := hide hr
 have HZ := hide hzr
 clear h hr hzr y0 y1 hb0 hpl0 c30
 generalize hts : t.kids = ts at HR hl c3
 clear hts t
 go_enter Tryz.func122, Tryz.ntmps122
 go_wp2_with fail
 go_loopw [5, 17] (fun o j wr => ∃ (k : Nat) (qs : List Nat), k ≤ ts.length ∧ j = .int .i64 k ∧ wr.ownsRow w.heap.size 22 1 o qs.length (qs.map nPtr) ∧ NLs (fun _ => True) w0 (ofKs zs (ts.take k)) qs ∧ Below w.heap.size w wr) (fun _ j _ => ts.length - (intOf j).toNat)
 case atStart => exact ⟨0, [], Nat.zero_le _, rfl, ⟨rfl, Or.inl ⟨rfl, rfl⟩⟩, NLs.nil, Below.refl _ _⟩
 case round =>
  obtain ⟨k, qs, hk, rfl, hown, hns, hbel⟩ := hrel; have HO := hide hown; have HNS := hide hns; have HB := hide hbel; obtain ⟨oa, oc, rfl⟩ := row_shut hown; have hql : qs.length ≤ 40000 := by
   rw [NLs.length _ _ hns]; have h1 := ofKs_len zs (ts.take k); rw [List.length_take, Nat.min_eq_left hk] at h1; have h2 : k * zs.length ≤ k * 2 := Nat.mul_le_mul_left k hz; omega
  clear hown hbel hns c3
  by_cases hlt : k < ts.length
  ·
   obtain ⟨g, cap, q, hv, hg, hc0, hn0⟩ := HR.out.cell k hlt; simp only [Value.slice.injEq] at hv; obtain ⟨rfl, _, rfl⟩ := hv
   have hc : wr.cell? ⟨g, k, none⟩ = some (nPtr q) := keepR (HB0.out.trans (HB.out.mono HB0.out.size)) hc0; have hki : (k : Int) < (ts.length : Int) := by omega
   have hgr : g < wr.heap.size := cellR hc; have HN := hide hn0; have HTK := hide (ofKs_take zs ts k hlt); have HLN : Hid ((ofK zs ts[k]).length ≤ 2) := Nat.le_trans (ofK_len _ _) hz; clear hn0 hc0; go_wp2_with fail
   go_loopw [5, 23] (fun o j wr2 => ∃ (i : Nat) (rs : List Nat), i ≤ zs.length ∧ j = .int .i64 i ∧ rs.length ≤ qs.length + i ∧ wr2.ownsRow w.heap.size 22 1 o rs.length (rs.map nPtr) ∧ NLs (fun _ => True) w0 (ofKs zs (ts.take k) ++ ofK (zs.take i) ts[k]) rs ∧ Below w.heap.size w wr2) (fun _ j _ => zs.length - (intOf j).toNat)
   case atStart => exact ⟨0, qs, Nat.zero_le _, rfl, by omega, HO.out, by simpa [ofK] using HNS.out, HB.out⟩
   case round =>
    obtain ⟨i, rs, hi, rfl, hrl, hown, hns, hbel⟩ := hrel; have HO2 := hide hown; have HNS2 := hide hns; have HB2 := hide hbel; obtain ⟨ob, od, rfl⟩ := row_shut hown; clear hown hbel hns
    by_cases hli : i < zs.length
    ·
     have hzi := HZ.out i hli; have HTI := hide (ofK_take zs ts[k] i hli); obtain ⟨z, hzz⟩ : ∃ z, z = zs[i] := ⟨_, rfl⟩; rw [← hzz] at hzi HTI; have hzc := keepR HB2.out hzi
     have hii : (i : Int) < (zs.length : Int) := by omega
     have hgz := cellR hzc; obtain ⟨hql2, k0, _, _⟩ := (HN.out.later (HB0.out.trans (HB2.out.mono HB0.out.size))).cells; obtain ⟨kd, hkd⟩ : ∃ kd, kd = (ts[k]).kd := ⟨_, rfl⟩; rw [← hkd] at k0 HTI
     have HOL := hide (own_lt HO2.out); have hsz2 := HB2.out.size; clear hzi hzz hkd
     cases hh : (kd == z) with
     | true =>
      rw [hh] at HTI
      go_wp2_with (at_builtin; refine wpList_append_lies _ rfl _ _ 46 rfl w.heap.size 22 i0 (.pointer none) 1 8 Tryz.underlying46 hi0 hz0 hz1 hz2 rfl (by decide) _ _ _ rfl (HO2.out.alloc _) ⟨wr.heap.size, 0, none⟩ 1 1 [nPtr q] rfl rfl (one_cellsP wr q _ rfl) (one_oneP q) (by decide) (by unfold maxLen; omega) (by omega) (by simp; omega) (wr.heap.size + 1) (by simp) ?_)
      intro g' cap' w3 hown' hgrow hg' _; have HB3 := hide (HB2.out.trans (((Below.refl w.heap.size wr).alloc hsz2 (.cells #[nPtr q] 22)).grown hgrow (by simp; omega) (fun b hb => (unhide HOL b hb).2)))
      have HO3 := hide hown'; clear hown' hgrow hg'; go_wp2_with fail
      go_roundw
      case rel =>
       refine ⟨i + 1, rs ++ [q], by omega, by go_num, by simp; omega, ?_, ?_, HB3.out⟩
       ·
        rw [List.length_append, List.map_append]; exact unhide HO3
       ·
        rw [HTI.out, ← List.append_assoc]; exact NLs.append (NLs.cons HN.out NLs.nil) _ _ HNS2.out
      case measure => simp [intOf]; omega
     | false =>
      rw [hh] at HTI; go_wp2_with fail
      go_roundw
      case rel =>
       refine ⟨i + 1, rs, by omega, by go_num, by omega, HO2.out, ?_, HB2.out⟩; rw [HTI.out]; simp only [Bool.false_eq_true, if_false, List.append_nil]; exact unhide HNS2
      case measure => simp [intOf]; omega
    ·
     have hii : i = zs.length := by omega
     subst hii; go_wp2_with fail
     go_roundw
     case rel =>
      refine ⟨k + 1, rs, by omega, by go_num, HO2.out, ?_, HB2.out⟩; have h := unhide HNS2; rw [List.take_length] at h; rw [HTK.out]; exact h
     case measure => simp [intOf]; omega
  ·
   have hkk : k = ts.length := by omega
   subst hkk; go_wp2_with fail; go_ret; have h := unhide HNS; rw [List.take_length] at h; exact ⟨⟨_, rfl, qs, HO.out, h⟩, HB.out⟩
theorem cells_int1 (w : World) (a : Int) : ∀ i, (hi : i < [a].length) → (w.alloc (.cells #[.int .i64 a] 3)).cell? ⟨w.heap.size, i, none⟩ = some (.int .i64 [a][i]) := fun i hi => by
 rw [cell_of (heap_new _ _)]
 match i, hi with
 | 0, _ => rfl
theorem cells_int2 (w : World) (a b : Int) : ∀ i, (hi : i < [a, b].length) → (w.alloc (.cells #[.int .i64 a, .int .i64 b] 3)).cell? ⟨w.heap.size, i, none⟩ = some (.int .i64 [a, b][i]) := fun i hi => by
 rw [cell_of (heap_new _ _)]
 match i, hi with
 | 0, _ => rfl
 | 1, _ => rfl
section
variable (t : Tr) (p : Nat) (w0 w : World) (h : NTr w0 t p) (hw : Below w0.heap.size w0 w) (hl : t.kids.length ≤ 20000)
include t p w0 w h hw hl
theorem rfuncs_any :
  Calls Tryz.prog 84 #[nPtr p] w fun e w' => (∃ u, e = .returned u ∧ NRow0 w0 w.heap.size w' u (fnsT t)) ∧ Below w.heap.size w w' := by
 have hb0 : Below w.heap.size w (w.alloc (.cells #[.int .i64 5] 3)) := (Below.refl _ _).alloc (Nat.le_refl _) _
 have HC := hide (kinds_any [5] (by decide) w.heap.size t p w0 (w.alloc (.cells #[.int .i64 5] 3)) h (hw.trans (hb0.mono hw.size)) hl (cells_int1 w 5))
 rw [ofKs_fn] at HC
 have HB := hide hb0
 clear h hb0 hw
 unfold fnsT
 go_enter Tryz.func84, Tryz.ntmps84
 exact zbdn
theorem rlets_any :
  Calls Tryz.prog 65 #[nPtr p] w fun e w' => (∃ u, e = .returned u ∧ NRow0 w0 w.heap.size w' u (letsT t)) ∧ Below w.heap.size w w' := by
 have hb0 : Below w.heap.size w (w.alloc (.cells #[.int .i64 3, .int .i64 4] 3)) := (Below.refl _ _).alloc (Nat.le_refl _) _
 have HC := hide (kinds_any [3, 4] (by decide) w.heap.size t p w0 (w.alloc (.cells #[.int .i64 3, .int .i64 4] 3)) h (hw.trans (hb0.mono hw.size)) hl (cells_int2 w 3 4))
 rw [ofKs_let] at HC
 have HB := hide hb0
 clear h hb0 hw
 unfold letsT
 go_enter Tryz.func65, Tryz.ntmps65
 exact zbdn
end
end Go.Proofs.YtoimgcjbcbhclaaGreatDoor
