/-
  Free: what its function literal holds, and how it is asked of a name.
-/
import Derived.Test.YtodmgaikhbmlnaaGreatDoorHf33
set_option maxRecDepth 100000
set_option maxHeartbeats 16000000
namespace Go.Proofs.YtodmgaikhbmlnaaGreatDoor
open Go.RowKit
abbrev lookV (bM bF bL : Nat) : Value := .func (.func 73) #[] #[.pointer (some ⟨bM, 0, none⟩), .pointer (some ⟨bF, 0, none⟩), .pointer (some ⟨bL, 0, none⟩)]
structure FrSt (Pd : Nat → Prop) (bM bF bL m : Nat) (c : ByteArray → Int) (fl : List ByteArray) (v : Value) (w : World) : Prop where
 hM : w.heap[bM]? = some (.cells #[.map (some m)] 98 (0, 0))
 hL : w.heap[bL]? = some (.cells #[lookV bM bF bL] 35 (0, 0))
 hF : w.heap[bF]? = some (.cells #[v] 54 (0, 0))
 nm : NMap m c w
 row : SRow 0 w v fl
 pM : Pd bM
 pL : Pd bL
 nF : ¬ Pd bF
 nm2 : ¬ Pd m
 fm : bF ≠ m
 own : ∀ b, v.ownBlock = some b → ¬ Pd b ∧ b ≠ bF ∧ b ≠ m
structure Fz (Pd : Nat → Prop) (v v' : Value) (w w' : World) : Prop where
 os : w'.os = w.os
 tape : w'.tape = w.tape
 output : w'.output = w.output
 size : w.heap.size ≤ w'.heap.size
 stay : Stay Pd w w'
 near : ∀ b, v'.ownBlock = some b → v.ownBlock = some b ∨ w.heap.size ≤ b
theorem Fz.refl (Pd : Nat → Prop) (v : Value) (w : World) : Fz Pd v v w w := ⟨rfl, rfl, rfl, Nat.le_refl _, fun _ _ _ => rfl, fun _ h => Or.inl h⟩
theorem Fz.trans {Pd : Nat → Prop} {v v' v'' : Value} {a b c : World} (h : Fz Pd v v' a b) (k : Fz Pd v' v'' b c) : Fz Pd v v'' a c :=
 ⟨k.os.trans h.os, k.tape.trans h.tape, k.output.trans h.output, Nat.le_trans h.size k.size, fun x hx hl => (k.stay x hx (Nat.lt_of_lt_of_le hl h.size)).trans (h.stay x hx hl), fun x hx => by
  rcases k.near x hx with h1 | h1
  ·
   exact h.near x h1
  ·
   exact Or.inr (Nat.le_trans h.size h1)⟩
theorem Fz.drew {Pd : Nat → Prop} {v v' : Value} {a b : World} (h : Fz Pd v v' a b) : Fz Pd v v' a b.drew := ⟨h.os, h.tape, h.output, h.size, h.stay, h.near⟩
theorem Fz.mono {Pd Pe : Nat → Prop} {v v' : Value} {a b : World} (h : Fz Pd v v' a b) (hp : ∀ x, Pe x → Pd x) : Fz Pe v v' a b := ⟨h.os, h.tape, h.output, h.size, fun x hx => h.stay x (hp x hx), h.near⟩
theorem Fz.of {Pd : Nat → Prop} {v : Value} {a b : World} (h : Below a.heap.size a b) : Fz Pd v v a b := ⟨h.os, h.tape, h.output, h.size, fun x _ hl => h.block x hl, fun _ h => Or.inl h⟩
theorem FrSt.later {Pd : Nat → Prop} {bM bF bL m : Nat} {c : ByteArray → Int} {fl : List ByteArray} {v : Value} {w X : World} (h : FrSt Pd bM bF bL m c fl v w) (hb : Below w.heap.size w X) : FrSt Pd bM bF bL m c fl v X :=
 ⟨(hb.block bM (lt_of_heap h.hM)).trans h.hM, (hb.block bL (lt_of_heap h.hL)).trans h.hL, (hb.block bF (lt_of_heap h.hF)).trans h.hF, h.nm.later (hb.block m h.nm.lt), SRow.later h.row hb, h.pM, h.pL, h.nF, h.nm2, h.fm, h.own⟩
theorem FrSt.mono {Pd Pe : Nat → Prop} {bM bF bL m : Nat} {c : ByteArray → Int} {fl : List ByteArray} {v : Value} {w : World} (h : FrSt Pd bM bF bL m c fl v w) (hp : ∀ x, Pd x → Pe x) (h1 : ¬ Pe bF) (h2 : ¬ Pe m) (h3 : ∀ b, v.ownBlock = some b → ¬ Pe b) : FrSt Pe bM bF bL m c fl v w :=
 ⟨h.hM, h.hL, h.hF, h.nm, h.row, hp _ h.pM, hp _ h.pL, h1, h2, h.fm, fun b hb => ⟨h3 b hb, (h.own b hb).2⟩⟩
theorem FrSt.counted {Pd : Nat → Prop} {bM bF bL m : Nat} {c c' : ByteArray → Int} {fl : List ByteArray} {v : Value} {w X : World} (h : FrSt Pd bM bF bL m c fl v w) (ha : Ap m w.heap.size w X) (hn : NMap m c' X) : FrSt Pd bM bF bL m c' fl v X ∧ Fz Pd v v w X := by
 have hMm : bM ≠ m := fun e => h.nm2 (e ▸ h.pM)
 have hLm : bL ≠ m := fun e => h.nm2 (e ▸ h.pL)
 refine ⟨⟨(ha.block bM (lt_of_heap h.hM) hMm).trans h.hM, (ha.block bL (lt_of_heap h.hL) hLm).trans h.hL, (ha.block bF (lt_of_heap h.hF) h.fm).trans h.hF, hn, ?_, h.pM, h.pL, h.nF, h.nm2, h.fm, h.own⟩, ha.os, ha.tape, ha.output, ha.size, fun x hx hl => ha.block x hl (fun e => h.nm2 (e ▸ hx)), fun _ h => Or.inl h⟩
 exact owns_stay (I := fun x => x ≠ m) (fun x hx hl => ha.block x hl hx) (fun g hg => (h.own g hg).2.2) h.row
theorem FrSt.push {Pd : Nat → Prop} {bM bF bL m g cap n : Nat} {c : ByteArray → Int} {fl : List ByteArray} {s : ByteArray} {v : Value} {wd w3 : World} (h : FrSt Pd bM bF bL m c fl v wd) (hn : n = fl.length + 1)
  (hown3 : w3.ownsRow 0 9 1 (.slice (some ⟨g, 0, none⟩) n cap) n (fl.map Value.string ++ [.string s])) (hgr : (wd.alloc (.cells #[.string s] 9)).grownBy w3 v.ownBlock) (hg : v.ownBlock = some g ∨ g = wd.heap.size + 1) (hPd : ∀ b, Pd b → b < wd.heap.size) :
  FrSt Pd bM bF bL m c (fl ++ [s]) (.slice (some ⟨g, 0, none⟩) n cap) (w3.setCell ⟨bF, 0, none⟩ (.slice (some ⟨g, 0, none⟩) n cap)) ∧ Fz Pd v (.slice (some ⟨g, 0, none⟩) n cap) wd (w3.setCell ⟨bF, 0, none⟩ (.slice (some ⟨g, 0, none⟩) n cap)) := by
 subst hn
 have hk : ∀ k, k < wd.heap.size → v.ownBlock ≠ some k → w3.heap[k]? = wd.heap[k]? := fun k hk1 hk2 => by
  rw [hgr.block k (by simp; omega) (fun e => hk2 e.symm), Below.heap_alloc _ _ _ hk1]
 have hset : ∀ k, k < wd.heap.size → v.ownBlock ≠ some k → k ≠ bF → (w3.setCell ⟨bF, 0, none⟩ (.slice (some ⟨g, 0, none⟩) (fl.length + 1) cap)).heap[k]? = wd.heap[k]? := fun k h1 h2 h3 => by
  rw [Below.heap_setCell w3 ⟨bF, 0, none⟩ _ k (by exact h3)]; exact hk k h1 h2
 have oM : v.ownBlock ≠ some bM := fun e => (h.own bM e).1 h.pM
 have oL : v.ownBlock ≠ some bL := fun e => (h.own bL e).1 h.pL
 have oF : v.ownBlock ≠ some bF := fun e => (h.own bF e).2.1 rfl
 have om : v.ownBlock ≠ some m := fun e => (h.own m e).2.2 rfl
 have hMF : bM ≠ bF := fun e => h.nF (e ▸ h.pM)
 have hLF : bL ≠ bF := fun e => h.nF (e ▸ h.pL)
 have lM := lt_of_heap h.hM
 have lL := lt_of_heap h.hL
 have lF := lt_of_heap h.hF
 have lm := h.nm.lt
 have h3F : w3.heap[bF]? = some (.cells #[v] 54 (0, 0)) := (hk bF lF oF).trans h.hF
 have hgF : g ≠ bF := by
  rcases hg with hg | hg
  ·
   exact fun e => oF (e ▸ hg)
  ·
   omega
 refine ⟨⟨(hset bM lM oM hMF).trans h.hM, (hset bL lL oL hLF).trans h.hL, by rw [heap_set h3F]; rfl, h.nm.later (hset m lm om (Ne.symm h.fm)), ?_, h.pM, h.pL, h.nF, h.nm2, h.fm, fun b hb => ?_⟩, ?_, ?_, ?_, ?_, fun x hx hl => hset x hl (fun e => (h.own x e).1 hx) (fun e => h.nF (e ▸ hx)), fun b hb => ?_⟩
 ·
  show World.ownsRow _ _ _ _ _ _ _
  rw [show (fl ++ [s]).length = fl.length + 1 by simp, List.map_append]
  exact owns_stay (I := fun x => x = g) (fun x hx _ => Below.heap_setCell w3 ⟨bF, 0, none⟩ _ x (by have h1 : x = g := hx; show x ≠ bF; omega)) (fun y hy => by simpa [Value.ownBlock] using hy.symm) hown3
 ·
  have hb2 : b = g := by simpa [Value.ownBlock] using hb.symm
  subst hb2
  rcases hg with hg | hg
  ·
   exact h.own b hg
  ·
   exact ⟨fun hp => absurd (hPd b hp) (by omega), by omega, by omega⟩
 ·
  exact hgr.os
 ·
  exact hgr.tape
 ·
  exact hgr.output
 ·
  have := hgr.size; simp at this ⊢; omega
 ·
  have hb2 : b = g := by simpa [Value.ownBlock] using hb.symm
  subst hb2
  rcases hg with hg | hg
  ·
   exact Or.inl hg
  ·
   exact Or.inr (by omega)
theorem en73 : ∀ args W, (callFunc 73 args).run Tryz.prog W = .ok (.enter 73 args) W := fun _ _ => by kernel_rfl
def ownFree (t : Tr) (c : ByteArray → Int) : List ByteArray := if t.kd = 23 ∧ c t.tx = 0 then [t.tx] else []
def frF : Nat → Tr → (ByteArray → Int) → List ByteArray
 | 0, _, _ => []
 | m + 1, t, c => ownFree t c ++ match declT t with
  | some (ns, s) => s.kids.flatMap fun k => frF m k (addC c ns 1)
  | none => if t.kd = 40 then [] else t.kids.flatMap fun k => frF m k c
def inFree (d : Nat) (t : Tr) (c : ByteArray → Int) : List ByteArray := match declT t with
 | some (ns, s) => s.kids.flatMap fun k => frF d k (addC c ns 1)
 | none => []
theorem decl_counts (t : Tr) : ∀ ns s, declT t = some (ns, s) → Tr.counts s.kids + 1 ≤ t.count := by
 intro ns s h
 have htc : t.count = 1 + Tr.counts t.kids := by cases t with | mk kd tx nn ks => exact count_mk _ _ _ _
 unfold declT at h
 split at h
 ·
  cases h; omega
 ·
  split at h
  ·
   cases h; omega
  ·
   split at h
   ·
    cases h; omega
   ·
    split at h
    ·
     cases h
     by_cases hl : 1 < t.kids.length
     ·
      rw [kidF_eq t 1 hl]; have h1 := counts_le t.kids 1 hl; have h2 : (t.kids[1]).count = 1 + Tr.counts (t.kids[1]).kids := by cases t.kids[1] with | mk kd tx nn ks => exact count_mk _ _ _ _
      omega
     ·
      have : kidF t 1 = t := by simp [kidF, List.getD, List.getElem?_eq_none (Nat.le_of_not_lt hl)]
      rw [this]; omega
    ·
     cases h
mutual
theorem frF_len : ∀ (d : Nat) (t : Tr) (c : ByteArray → Int), (frF d t c).length ≤ t.count
 | 0, t, c => by simp [frF]
 | d + 1, t, c => by
  have htc : t.count = 1 + Tr.counts t.kids := by cases t with | mk kd tx nn ks => exact count_mk _ _ _ _
  have ho : (ownFree t c).length ≤ 1 := by unfold ownFree; split <;> simp
  rw [frF, List.length_append]
  cases h : declT t with
  | some r =>
   obtain ⟨ns, s⟩ := r; have h1 := decl_counts t ns s h; have h2 := frFs_len d s.kids (addC c ns 1); simp only; omega
  | none =>
   simp only
   split
   ·
    simp; omega
   ·
    have h2 := frFs_len d t.kids c; omega
theorem frFs_len : ∀ (d : Nat) (ts : List Tr) (c : ByteArray → Int), (ts.flatMap fun k => frF d k c).length ≤ Tr.counts ts
 | d, [], c => by simp [counts_nil]
 | d, t :: ts, c => by
  rw [List.flatMap_cons, List.length_append, counts_cons]; have h1 := frF_len d t c; have h2 := frFs_len d ts c; omega
end
def WkAt (bM bF bL mp d : Nat) : Prop := ∀ (t : Tr), t.count ≤ d → t.ill = 0 → ∀ (Pd : Nat → Prop) (p : Nat) (c : ByteArray → Int) (fl : List ByteArray) (v : Value) (w : World), NAt Pd w t p → FrSt Pd bM bF bL mp c fl v w → (∀ b, Pd b → b < w.heap.size) → t.count ≤ 1500 → (∀ x, 0 ≤ c x ∧ c x + 6100 * (t.count : Int) ≤ 100000000) → fl.length + t.count ≤ 60000 →
  Calls Tryz.prog 20 #[nPtr p, lookV bM bF bL] w fun e w' => e = .returned (.tuple #[]) ∧ ∃ v', FrSt Pd bM bF bL mp c (fl ++ frF d t c) v' w' ∧ Fz Pd v v' w w'
def OwPost (Pd : Nat → Prop) (bM bF bL mp : Nat) (c : ByteArray → Int) (fl : List ByteArray) (v : Value) (w X : World) : Prop := ∃ v', FrSt Pd bM bF bL mp c fl v' X ∧ Fz Pd v v' w X
theorem decl_len (t : Tr) (hc : t.count ≤ 1500) (hn : need t.kd ≤ t.kids.length) : ∀ ns s, declT t = some (ns, s) → ns.length ≤ 6100 ∧ s.count ≤ t.count := by
 intro ns s h
 have htc : t.count = 1 + Tr.counts t.kids := by cases t with | mk kd tx nn ks => exact count_mk _ _ _ _
 unfold declT at h
 split at h
 ·
  cases h; have := namesF_len t true; exact ⟨by omega, Nat.le_refl _⟩
 ·
  split at h
  ·
   cases h; have := namesF_len t false; exact ⟨by omega, Nat.le_refl _⟩
  ·
   split at h
   ·
    cases h; exact ⟨by simp, Nat.le_refl _⟩
   ·
    split at h
    ·
     rename_i hk
     have h2 : need t.kd = 2 := by unfold need; rw [if_pos hk]
     have e0 := kidF_eq t 0 (by omega); have e1 := kidF_eq t 1 (by omega); have l0 := counts_le t.kids 0 (by omega); have l1 := counts_le t.kids 1 (by omega); cases h; refine ⟨?_, by rw [e1]; omega⟩
     have h3 := namesF_len (kidF t 1) true; have h4 : (kidF t 0).count = 1 + Tr.counts (kidF t 0).kids := by cases (kidF t 0) with | mk kd tx nn ks => exact count_mk _ _ _ _
     have h5 := counts_len (kidF t 0).kids; rw [e1] at h3; rw [e0] at h4 h5; unfold declF; rw [e0, e1]; simp only [List.length_append, List.length_map, List.length_cons, List.length_nil]
     have h6 : (if t.kd == 37 then [t.tx] else []).length ≤ 1 := by split <;> simp
     omega
    ·
     cases h
theorem decl_kid (t : Tr) (hn : need t.kd ≤ t.kids.length) (hill : t.ill = 0) : ∀ ns s, declT t = some (ns, s) → (∀ k ∈ s.kids, k.count < t.count ∧ k.ill = 0) := by
 intro ns s h k hk
 have htc : t.count = 1 + Tr.counts t.kids := by cases t with | mk kd tx nn ks => exact count_mk _ _ _ _
 have hself : ∀ k ∈ t.kids, k.count < t.count ∧ k.ill = 0 := fun k hk => by
  obtain ⟨j, hj, rfl⟩ := List.mem_iff_getElem.1 hk; have := counts_le t.kids j hj; exact ⟨by omega, (ill_of t hill).2 _ (List.getElem_mem _)⟩
 unfold declT at h
 split at h
 ·
  cases h; exact hself k hk
 ·
  split at h
  ·
   cases h; exact hself k hk
  ·
   split at h
   ·
    cases h; exact hself k hk
   ·
    split at h
    ·
     rename_i hkd
     have h2 : need t.kd = 2 := by unfold need; rw [if_pos hkd]
     have e1 := kidF_eq t 1 (by omega); cases h; rw [e1] at hk; have h3 := hself t.kids[1] (List.getElem_mem _)
     have h4 : (t.kids[1]).count = 1 + Tr.counts (t.kids[1]).kids := by cases t.kids[1] with | mk kd tx nn ks => exact count_mk _ _ _ _
     obtain ⟨j, hj, rfl⟩ := List.mem_iff_getElem.1 hk; have := counts_le (t.kids[1]).kids j hj; exact ⟨by omega, (ill_of _ h3.2).2 _ (List.getElem_mem _)⟩
    ·
     cases h
theorem look_any {bM bF bL mp d : Nat} (ih : WkAt bM bF bL mp d) (t : Tr) (ht : t.count ≤ d + 1) (hill : t.ill = 0) (Pd : Nat → Prop) (p : Nat) (c : ByteArray → Int) (fl : List ByteArray) (v : Value) (w : World) (hnt : NAt Pd w t p) (hS : FrSt Pd bM bF bL mp c fl v w) (hPd : ∀ b, Pd b → b < w.heap.size) (hc : t.count ≤ 1500) (hcb : ∀ x, 0 ≤ c x ∧ c x + 6100 * (t.count : Int) ≤ 100000000) (hfl : fl.length + t.count ≤ 60000) :
  Calls Tryz.prog 73 #[nPtr p, .pointer (some ⟨bM, 0, none⟩), .pointer (some ⟨bF, 0, none⟩), .pointer (some ⟨bL, 0, none⟩)] w fun e w' => e = .returned (.bool (decide (declT t = none ∧ t.kd ≠ 40))) ∧ ∃ v', FrSt Pd bM bF bL mp c (fl ++ ownFree t c ++ inFree d t c) v' w' ∧ Fz Pd v v' w w' := by
 obtain ⟨i0, hi0, hz0, hz1, hz2⟩ := info_parts info9
 obtain ⟨hneed, hills⟩ := ill_of t hill
 have hpP : Pd p := by
  exact zbec
 have HDE : Hid (∀ W, NTr W t p → Calls Tryz.prog 74 #[nPtr p] W (DePost t p (declT t) W)) := fun W hW => declared_any t p W hW hc hneed
 obtain ⟨hpl, c0, c1, _⟩ := (NAt.nt hnt).cells
 have HNT := hide hnt
 have HS := hide hS
 have HPD := hide hPd
 have cM : w.cell? ⟨bM, 0, none⟩ = some (.map (some mp)) := by rw [cell_of hS.hM]; rfl
 have hlM := cellR cM
 have hlk := hS.nm.look t.tx
 have cF : w.cell? ⟨bF, 0, none⟩ = some v := by rw [cell_of hS.hF]; rfl
 have hlF := cellR cF
 have cfF := frozen_of hS.hF 0
 by_cases k23 : t.kd = 23
 ·
  have hdn : declT t = none := by unfold declT; rw [k23]; rfl
  have hdt : decide (declT t = none ∧ t.kd ≠ 40) = true := by rw [decide_eq_true_iff]; exact ⟨hdn, by rw [k23]; decide⟩
  rw [hdt]; have HDE2 : Hid (∀ W, NTr W t p → Calls Tryz.prog 74 #[nPtr p] W (DePost t p none W)) := by
   have := unhide HDE; rw [hdn] at this; exact this
  have hin : inFree d t c = [] := by unfold inFree; rw [hdn]
  rw [hin, List.append_nil]; rw [k23] at c0
  by_cases hz : c t.tx = 0
  ·
   have hof : ownFree t c = [t.tx] := by unfold ownFree; rw [if_pos ⟨k23, hz⟩]
   rw [hof]; obtain ⟨tx, htx⟩ : ∃ tx, tx = t.tx := ⟨_, rfl⟩; rw [← htx] at c1 hlk hz ⊢; have hlk0 : c tx = 0 := hz; have hfl2 : fl.length ≤ 60000 := by omega
   have HTX := hide htx; have HK23 := hide k23; obtain ⟨va, vc, rfl⟩ := srow_form hS.row; have HROW := hide hS.row; clear ih ht hill hnt hS hPd hc hcb hfl hneed hills HDE hdn hdt hin hof htx hz k23 hlk
   go_enter Tryz.func73, Tryz.ntmps73; go_wp2_with fail; refine wp_region_held (S := fun X => X = w.drew) (by kernel_rfl) ?_; change wpAnyH _ _ _ _ _ _ _ _ (World.drew _)
   have hlk2 := (NMap.later (X := w.drew) HS.out.nm rfl).look tx; rw [hlk0] at hlk2; refine wh 0 (nPtr p) rfl ?_; refine wh 1 (nPtr p) rfl ?_; refine wh 2 (.pointer (some ⟨p, 0, none⟩)) rfl ?_
   refine wh 3 (.int .i64 23) rfl ?_ (hy := Or.inl ⟨by kernel_rfl, fun X hX => by cases hX; go_simp⟩)
   refine wh 4 (.bool true) rfl ?_; refine wh 5 (.bool true) rfl ?_; refine wh 6 (.map (some mp)) rfl ?_ (hy := Or.inl ⟨by kernel_rfl, fun X hX => by cases hX; go_simp⟩)
   refine wh 7 (nPtr p) rfl ?_; refine wh 8 (nPtr p) rfl ?_; refine wh 9 (.pointer (some ⟨p, 1, none⟩)) rfl ?_; refine wh 10 (.string tx) rfl ?_ (hy := Or.inl ⟨by kernel_rfl, fun X hX => by cases hX; go_simp⟩)
   refine wh 11 (.int .i64 0) rfl ?_ (hy := Or.inl ⟨by kernel_rfl, fun X hX => by cases hX; have hh := hlk2; go_simp⟩)
   refine wh 12 (.bool true) rfl ?_; refine wh 13 (.bool true) rfl ?_; refine wpAnyH_done (by kernel_rfl) ?_ _; go_simp; obtain ⟨wd, hwd⟩ : ∃ wd, wd = w.drew := ⟨_, rfl⟩
   have hSd : FrSt Pd bM bF bL mp c fl (.slice va fl.length vc) wd := by rw [hwd]; exact HS.out.later (Below.refl _ _).drew
   have HNd : Hid (NAt Pd wd t p) := by rw [hwd]; exact NAt.later (w := w) (w' := w.drew) (fun _ _ _ => rfl) _ _ HNT.out
   have HFd : Hid (Fz Pd (.slice va fl.length vc) (.slice va fl.length vc) w wd) := by rw [hwd]; exact (Fz.refl _ _ _).drew
   have hPdd : ∀ b, Pd b → b < wd.heap.size := by rw [hwd]; exact unhide HPD
   rw [← hwd]; have e0 : wd.cell? ⟨bF, 0, none⟩ = some (.slice va fl.length vc) := by rw [cell_of hSd.hF]; rfl
   have ef := frozen_of hSd.hF 0; have el := cellR e0; obtain ⟨_, q0, q1, _⟩ := (NAt.nt HNd.out).cells; have hq1 := q1; rw [← HTX.out] at q1; have hpd := cellR q1; have HSd := hide hSd; have HPDD := hide hPdd
   clear hwd hSd hPdd cF cfF cM c0 c1 hlM hlF hpl hq1 q0; go_wp2_with fail; refine via00 (G := ?G1) (fun CONT => ?_) ?_; rotate_left
   ·
    exact zbbk
   ·
    refine wr1 6 fun K hK => ?_
    refine step_append_lies _ rfl _ _ 54 rfl 0 9 i0 (.string ByteArray.empty) 1 16 Tryz.underlying54 hi0 hz0 hz1 hz2 rfl (by decide) _ _ _ rfl ((HSd.out.row : World.ownsRow wd.drew 0 9 1 _ _ _).alloc _) ⟨wd.heap.size, 0, none⟩ 1 1 [.string tx] rfl rfl (hoCellsS wd.drew tx _ rfl) (hoOneS tx) (by decide) (by unfold maxLen; omega) (by omega) (Nat.zero_le _) (wd.heap.size + 1) (by simp) ?_
    intro g cap w3 hown3 hgr3 hg3 _; refine hK _ _ ?_; clear hK K; have HGP := hide (FrSt.push (wd := wd.drew) (HSd.out.later (Below.refl _ _).drew) rfl hown3 hgr3 hg3 HPDD.out)
    have oF : (Value.slice va fl.length vc).ownBlock ≠ some bF := fun e => (HSd.out.own bF e).2.1 rfl
    have h3 : w3.heap[bF]? = wd.heap[bF]? := (hgr3.block bF (by simp; omega) (fun e => oF e.symm)).trans (Below.heap_alloc wd.drew _ bF el)
    have g0 : w3.cell? ⟨bF, 0, none⟩ = some (.slice va fl.length vc) := (World.cell?_of_block (w := wd) h3).trans e0; have gf : w3.frozen? ⟨bF, 0, none⟩ = false := (World.frozen?_of_block (w := wd) h3).trans ef
    have hgl : bF < w3.heap.size := cellR g0; clear hown3 hgr3 h3 e0 ef hg3; refine wr1 7 fun K hK => ?_; go_simp; refine hK _ _ ?_; clear hK K g0 gf hgl; refine wpAny_done (by kernel_rfl) ?_ _; go_simp
    obtain ⟨hg2, ha2⟩ := unhide HGP; obtain ⟨W, hW⟩ : ∃ W, W = w3.setCell ⟨bF, 0, none⟩ (.slice (some ⟨g, 0, none⟩) (fl.length + 1) cap) := ⟨_, rfl⟩; rw [← hW] at hg2 ha2 ⊢; have HG2 := hide hg2
    have HA2 := hide ((HFd.out.drew).trans ha2); have HNW := hide (NAt.nt (NAt.later (fun x hx hl => HA2.out.stay x hx hl) _ _ HNT.out)); clear hg2 ha2 hW HGP q1 hpd oF el; exact zbdl
  ·
   have hof : ownFree t c = [] := by unfold ownFree; rw [if_neg (fun h => hz h.2)]
   rw [hof, List.append_nil]; obtain ⟨tx, htx⟩ : ∃ tx, tx = t.tx := ⟨_, rfl⟩; rw [← htx] at c1 hz; have hzb : (c tx == 0) = false := by simpa using hz
   have HK23 := hide k23; clear ih ht hill hnt hS hPd hc hcb hfl hneed hills HDE hdn hdt hin hof htx hz k23 hlk cF cfF hlF; go_enter Tryz.func73, Tryz.ntmps73; go_wp2_with fail
   refine wp_region_held (S := fun X => X = w.drew) (by kernel_rfl) ?_; change wpAnyH _ _ _ _ _ _ _ _ (World.drew _); have hlk2 := (NMap.later (X := w.drew) HS.out.nm rfl).look tx
   generalize c tx = z at hlk2 hzb
   refine wh 0 (nPtr p) rfl ?_; refine wh 1 (nPtr p) rfl ?_; refine wh 2 (.pointer (some ⟨p, 0, none⟩)) rfl ?_; refine wh 3 (.int .i64 23) rfl ?_ (hy := Or.inl ⟨by kernel_rfl, fun X hX => by cases hX; go_simp⟩)
   refine wh 4 (.bool true) rfl ?_; refine wh 5 (.bool true) rfl ?_; refine wh 6 (.map (some mp)) rfl ?_ (hy := Or.inl ⟨by kernel_rfl, fun X hX => by cases hX; go_simp⟩)
   refine wh 7 (nPtr p) rfl ?_; refine wh 8 (nPtr p) rfl ?_; refine wh 9 (.pointer (some ⟨p, 1, none⟩)) rfl ?_; refine wh 10 (.string tx) rfl ?_ (hy := Or.inl ⟨by kernel_rfl, fun X hX => by cases hX; go_simp⟩)
   refine wh 11 (.int .i64 z) rfl ?_ (hy := Or.inl ⟨by kernel_rfl, fun X hX => by cases hX; have hh := hlk2; go_simp⟩)
   refine wh 12 (.bool false) rfl ?_; refine wh 13 (.bool false) rfl ?_; refine wpAnyH_done (by kernel_rfl) ?_ _; go_simp; obtain ⟨W, hW⟩ : ∃ W, W = w.drew := ⟨_, rfl⟩
   have HG2 : Hid (FrSt Pd bM bF bL mp c fl v W) := by rw [hW]; exact HS.out.later (Below.refl _ _).drew
   have HA2 : Hid (Fz Pd v v w W) := by rw [hW]; exact (Fz.refl _ _ _).drew
   have HNW : Hid (NTr W t p) := by rw [hW]; exact (NAt.nt HNT.out).later (Below.refl _ _).drew
   rw [← hW]; clear hW cM c0 c1 hlM hpl hlk2 hzb; exact zbdl
 ·
  have hof : ownFree t c = [] := by unfold ownFree; rw [if_neg (fun h => k23 h.1)]
  rw [hof, List.append_nil]; have hkb : (t.kd == 23) = false := by simpa using k23
  obtain ⟨kd, hkd⟩ : ∃ kd, kd = t.kd := ⟨_, rfl⟩; rw [← hkd] at c0 hkb; have HKD := hide hkd; have HW0 : Hid (∀ X, X = w.drew → FrSt Pd bM bF bL mp c fl v X ∧ Fz Pd v v w X ∧ NAt Pd X t p) := fun X hX => by
   rw [hX]; exact ⟨HS.out.later (Below.refl _ _).drew, (Fz.refl _ _ _).drew, NAt.later (w := w) (w' := w.drew) (fun _ _ _ => rfl) _ _ HNT.out⟩
  cases hdn : declT t with
  | none =>
   rw [hdn] at HDE; have HRES : Hid (decide ((none : Option (List ByteArray × Tr)) = none ∧ t.kd ≠ 40) = (kd != 40)) := by
    show _ = _
    rw [hkd]
    by_cases h40 : t.kd = 40
    all_goals
     simp [h40]
   rw [HRES.out]; have hin : inFree d t c = [] := by unfold inFree; rw [hdn]
   rw [hin, List.append_nil]; clear ih ht hill hnt hS hPd hc hcb hfl hneed hills hdn hin hof k23 hlk cF cfF hlF hkd; go_enter Tryz.func73, Tryz.ntmps73; go_wp2_with fail
   refine wp_region_held (S := fun X => X = w.drew) (by kernel_rfl) ?_; change wpAnyH _ _ _ _ _ _ _ _ (World.drew _); refine wh 0 (nPtr p) rfl ?_; refine wh 1 (nPtr p) rfl ?_
   refine wh 2 (.pointer (some ⟨p, 0, none⟩)) rfl ?_; refine wh 3 (.int .i64 kd) rfl ?_ (hy := Or.inl ⟨by kernel_rfl, fun X hX => by cases hX; go_simp⟩)
   refine wh 4 (.bool false) rfl ?_; refine wh 5 (.bool false) rfl ?_; refine wh 6 undef rfl ?_ (hy := Or.inr ⟨by kernel_rfl, rfl⟩); refine wh 7 undef rfl ?_ (hy := Or.inr ⟨by kernel_rfl, rfl⟩)
   refine wh 8 undef rfl ?_ (hy := Or.inr ⟨by kernel_rfl, rfl⟩); refine wh 9 undef rfl ?_ (hy := Or.inr ⟨by kernel_rfl, rfl⟩); refine wh 10 undef rfl ?_ (hy := Or.inr ⟨by kernel_rfl, rfl⟩)
   refine wh 11 undef rfl ?_ (hy := Or.inr ⟨by kernel_rfl, rfl⟩); refine wh 12 undef rfl ?_ (hy := Or.inr ⟨by kernel_rfl, rfl⟩); refine wh 13 (.bool false) rfl ?_; refine wpAnyH_done (by kernel_rfl) ?_ _; go_simp
   obtain ⟨W, hW⟩ : ∃ W, W = w.drew := ⟨_, rfl⟩; obtain ⟨g2', a2', n2'⟩ := unhide HW0 W hW; have HG2 := hide g2'; have HA2 := hide a2'; have HNW := hide n2'; rw [← hW]; clear hW cM c0 c1 hlM hpl g2' a2' n2' HW0 hkb
   have HC := hide (unhide HDE W (NAt.nt HNW.out)); go_wp2_with fail; refine cm HC.out ?_; rintro e w4 ⟨rfl, hb4⟩; obtain ⟨hp4, k4, _, _⟩ := ((NAt.nt HNW.out).later hb4).cells; rw [← HKD.out] at k4; exact zccb
  | some r =>
   obtain ⟨ns, sn⟩ := r; rw [hdn] at HDE; obtain ⟨hnl, hsc⟩ := decl_len t hc hneed ns sn hdn; have hkid := decl_kid t hneed hill ns sn hdn
   have HRES : Hid (decide ((some (ns, sn) : Option (List ByteArray × Tr)) = none ∧ t.kd ≠ 40) = false) := by
    show _ = _
    simp
   rw [HRES.out]; have hin : inFree d t c = sn.kids.flatMap fun k => frF d k (addC c ns 1) := by unfold inFree; rw [hdn]
   rw [hin]; have hsk : sn.kids.length ≤ 1500 := by
    have h1 := counts_len sn.kids; have h2 : sn.count = 1 + Tr.counts sn.kids := by cases sn with | mk kd tx nn ks => exact count_mk _ _ _ _
    omega
   have HIH := hide ih; have HKID := hide hkid; have HCB := hide hcb; have HTC : Hid (t.count ≤ d + 1 ∧ t.count ≤ 1500 ∧ fl.length + t.count ≤ 60000) := ⟨ht, hc, hfl⟩
   have HSUM : Hid (∀ j, (((sn.kids.take j).flatMap fun k => frF d k (addC c ns 1)).length) ≤ Tr.counts (sn.kids.take j)) := fun j => frFs_len d _ _; have HSC : Hid (Tr.counts sn.kids + 1 ≤ t.count) := by
    have h2 : sn.count = 1 + Tr.counts sn.kids := by cases sn with | mk kd tx nn ks => exact count_mk _ _ _ _
    show _ ≤ _
    omega
   clear ih ht hill hnt hS hPd hc hcb hfl hneed hills hdn hin hof k23 hlk cF cfF hlF hkd hkid hsc; go_enter Tryz.func73, Tryz.ntmps73; go_wp2_with fail; refine wp_region_held (S := fun X => X = w.drew) (by kernel_rfl) ?_
   change wpAnyH _ _ _ _ _ _ _ _ (World.drew _); refine wh 0 (nPtr p) rfl ?_; refine wh 1 (nPtr p) rfl ?_; refine wh 2 (.pointer (some ⟨p, 0, none⟩)) rfl ?_
   refine wh 3 (.int .i64 kd) rfl ?_ (hy := Or.inl ⟨by kernel_rfl, fun X hX => by cases hX; go_simp⟩)
   refine wh 4 (.bool false) rfl ?_; refine wh 5 (.bool false) rfl ?_; refine wh 6 undef rfl ?_ (hy := Or.inr ⟨by kernel_rfl, rfl⟩); refine wh 7 undef rfl ?_ (hy := Or.inr ⟨by kernel_rfl, rfl⟩)
   refine wh 8 undef rfl ?_ (hy := Or.inr ⟨by kernel_rfl, rfl⟩); refine wh 9 undef rfl ?_ (hy := Or.inr ⟨by kernel_rfl, rfl⟩); refine wh 10 undef rfl ?_ (hy := Or.inr ⟨by kernel_rfl, rfl⟩)
   refine wh 11 undef rfl ?_ (hy := Or.inr ⟨by kernel_rfl, rfl⟩); refine wh 12 undef rfl ?_ (hy := Or.inr ⟨by kernel_rfl, rfl⟩); refine wh 13 (.bool false) rfl ?_; refine wpAnyH_done (by kernel_rfl) ?_ _; go_simp
   obtain ⟨W, hW⟩ : ∃ W, W = w.drew := ⟨_, rfl⟩; obtain ⟨g2', a2', n2'⟩ := unhide HW0 W hW; have HG2 := hide g2'; have HA2 := hide a2'; have HNW := hide n2'; rw [← hW]; clear hW cM c0 c1 hlM hpl g2' a2' n2' HW0 hkb
   have HC := hide (unhide HDE W (NAt.nt HNW.out)); go_wp2_with fail; refine cm HC.out ?_; rintro e w4 ⟨⟨u4, q, rfl, hr4, hq4⟩, hb4⟩; obtain ⟨a4, c4, rfl⟩ := srow_form hr4
   have hu4 : ∀ b, (Value.slice a4 ns.length c4).ownBlock = some b → W.heap.size ≤ b ∧ b < w4.heap.size := fun b hb => ⟨(own_lt hr4 b hb).2, (own_lt hr4 b hb).1⟩; have HU4 := hide hu4; have hG4 := HG2.out.later hb4
   have hmW := HG2.out.nm.lt; have hFW := lt_of_heap HG2.out.hF
   have HC5 := hide (count_any mp c ns 1 (Or.inl rfl) (.slice a4 ns.length c4) w4 hG4.nm hr4 (fun e => absurd (hu4 mp e).1 (by omega)) (by omega) (fun x => by have := unhide HCB x; omega))
   have m4 : w4.cell? ⟨bM, 0, none⟩ = some (.map (some mp)) := by rw [cell_of hG4.hM]; rfl
   have ml4 := cellR m4; have HG4 := hide hG4; have HF4 := hide (HA2.out.trans (Fz.of hb4)); have HR4 := hide hr4; have HQ4 := hide (NAt.later (Below.stay hb4) _ _ (hq4 Pd HNW.out))
   have HSZ4 : Hid (W.heap.size ≤ w4.heap.size) := hb4.size; have HPW : Hid (∀ b, Pd b → b < W.heap.size) := fun b hb => Nat.lt_of_lt_of_le (unhide HPD b hb) HA2.out.size; clear HC hr4 hb4 hq4 hu4 hG4; go_wp2_with fail
   refine cm HC5.out ?_; rintro e w5 ⟨rfl, hn5, ha5, hs5⟩; obtain ⟨hg5, hf5⟩ := HG4.out.counted ha5 hn5
   obtain ⟨Pe, hPe⟩ : ∃ Pe : Nat → Prop, Pe = fun b => Pd b ∨ (Value.slice a4 ns.length c4).ownBlock = some b := ⟨_, rfl⟩; have hPe1 : ∀ x, Pd x → Pe x := fun x hx => by rw [hPe]; exact Or.inl hx
   have hPe2 : ∀ x, (Value.slice a4 ns.length c4).ownBlock = some x → Pe x := fun x hx => by rw [hPe]; exact Or.inr hx
   have hPe3 : ∀ x, Pe x → Pd x ∨ (W.heap.size ≤ x ∧ x < w4.heap.size) := fun x hx => by
    rw [hPe] at hx
    rcases hx with h | h
    ·
     exact Or.inl h
    ·
     exact Or.inr (unhide HU4 x h)
   have hE5 : FrSt Pe bM bF bL mp (addC c ns 1) fl v w5 := hg5.mono hPe1 (fun h => by
    rcases hPe3 _ h with h | h
    ·
     exact hg5.nF h
    ·
     omega) (fun h => by
    rcases hPe3 _ h with h | h
    ·
     exact hg5.nm2 h
    ·
     omega) (fun b hb h => by
    rcases hPe3 _ h with h | h
    ·
     exact (hg5.own b hb).1 h
    ·
     have h1 := own_lt HG2.out.row b hb; omega)
   have hQ5 : NAt Pd w5 sn q := NAt.later (fun x hx hl => hf5.stay x hx hl) _ _ HQ4.out; have hQe : NAt Pe w5 sn q := NAt.mono (fun x hx _ => hPe1 x hx) _ _ hQ5; obtain ⟨u6, ps, hblk, hrow, hri, hks⟩ := hQe.opens2
   have hlen := NAts.length _ _ hks; obtain ⟨ua, uc, hu⟩ := row_shut hrow; subst hu; rw [hlen] at hrow; obtain ⟨_, _, _, f3, _⟩ := node_cells hblk; rw [hlen] at f3; have hql5 := cellR f3; have HE5 := hide hE5
   have HF5 := hide (HF4.out.trans hf5); have HROW := hide hrow; have HRI := hide hri; have HKS := hide hks; have HLEN := hide hlen; have HPe1 := hide hPe1; have HPe2 := hide hPe2
   have HR5 : Hid (SRow W.heap.size w5 (.slice a4 ns.length c4) ns) := owns_stay (I := fun x => x ≠ mp) (fun x hx hl => ha5.block x hl hx) (fun g hg => by have := (unhide HU4 g hg).1; omega) HR4.out
   have HPe4 : Hid (∀ b, Pe b → b < w5.heap.size) := fun b hb => by
    rcases hPe3 b hb with h | h
    ·
     exact Nat.lt_of_lt_of_le (unhide HPW b h) (by have h7 := HSZ4.out; omega)
    ·
     omega
   clear HC5 hn5 ha5 hs5 hg5 hf5 hE5 hQ5 hQe hblk hrow hri hks hlen hPe1 hPe2 hPe3 m4 ml4; go_wp2_with fail
   go_loopw [51] (fun j wr => ∃ (k : Nat) (v' : Value), k ≤ sn.kids.length ∧ j = .int .i64 k ∧ FrSt Pe bM bF bL mp (addC c ns 1) (fl ++ (sn.kids.take k).flatMap fun x => frF d x (addC c ns 1)) v' wr ∧ Fz Pe v v' w5 wr) (fun j _ => sn.kids.length - (intOf j).toNat)
   case atStart => exact ⟨0, v, Nat.zero_le _, rfl, by simpa using HE5.out, Fz.refl _ _ _⟩
   case round =>
    obtain ⟨k, v1, hk, rfl, hst, hfz⟩ := hrel; have HST := hide hst; have HFZ := hide hfz; clear hst hfz f3
    by_cases hlt : k < sn.kids.length
    ·
     have hr0 := unhide HROW; rw [← HLEN.out] at hr0; obtain ⟨g, cap, hv, hcell⟩ := row_open hr0 (by rw [HLEN.out]; omega)
     simp only [Value.slice.injEq] at hv; obtain ⟨rfl, _, rfl⟩ := hv; obtain ⟨hkp, hnk⟩ := NAts.get _ _ HKS.out k hlt; have hgp : Pe g := unhide HRI g rfl; have hck : wr.cell? ⟨g, k, none⟩ = some (nPtr ps[k]) := by
      rw [World.cell?_of_block (w := w5) (a := ⟨g, k, none⟩) (HFZ.out.stay g hgp (unhide HPe4 g hgp))]; exact hcell k hkp
     have hgr := cellR hck; have hnk2 : NAt Pe wr sn.kids[k] ps[k] := NAt.later (fun x hx hl => HFZ.out.stay x hx hl) _ _ hnk; have cL : wr.cell? ⟨bL, 0, none⟩ = some (lookV bM bF bL) := by rw [cell_of HST.out.hL]; rfl
     have hlL := cellR cL; have hki : (k : Int) < (sn.kids.length : Int) := by omega
     have hkd := unhide HKID sn.kids[k] (List.getElem_mem _); have htc := unhide HTC; have hsc := unhide HSC; have hsum := unhide HSUM k; have hct := counts_take sn.kids k hlt
     have htot : Tr.counts (sn.kids.take k) + (sn.kids[k]).count ≤ Tr.counts sn.kids := by
      have : Tr.counts sn.kids = Tr.counts (sn.kids.take (k + 1)) + Tr.counts (sn.kids.drop (k + 1)) := by rw [← counts_app, List.take_append_drop]
      omega
     have HTK : Hid ((sn.kids.take (k + 1)).flatMap (fun x => frF d x (addC c ns 1)) = (sn.kids.take k).flatMap (fun x => frF d x (addC c ns 1)) ++ frF d sn.kids[k] (addC c ns 1)) := by
      show _ = _
      rw [List.take_succ_eq_append_getElem hlt, List.flatMap_append]; simp
     have HC := hide (HIH.out sn.kids[k] (by omega) hkd.2 Pe ps[k] (addC c ns 1) _ v1 wr hnk2 HST.out (fun b hb => Nat.lt_of_lt_of_le (unhide HPe4 b hb) HFZ.out.size) (by omega) (fun x => by
      have h1 := unhide HCB x; have h2 := occ_le ns x; unfold addC; omega) (by rw [List.length_append]; omega))
     obtain ⟨q', hq'⟩ : ∃ q', q' = ps[k] := ⟨_, rfl⟩; rw [← hq'] at hck HC; clear hcell hnk hnk2 hkd htc hsc hsum hct htot hq' hr0 hgp; exact zbdm
    ·
     have hkk : k = sn.kids.length := by omega
     subst hkk; have hst := unhide HST; rw [List.take_length] at hst
     have hr7 : SRow W.heap.size wr (.slice a4 ns.length c4) ns := owns_stay (I := Pe) (fun x hx hl => HFZ.out.stay x hx hl) (fun g hg => unhide HPe2 g hg) HR5.out
     have hu7 := fun b (hb : (Value.slice a4 ns.length c4).ownBlock = some b) => (unhide HU4 b hb).1
     have HC7 := hide (count_any mp (addC c ns 1) ns (-1) (Or.inr rfl) (.slice a4 ns.length c4) wr hst.nm hr7 (fun e => absurd (hu7 mp e) (by omega)) (by omega) (fun x => by
      have h1 := unhide HCB x; have h2 := occ_le ns x; unfold addC; omega))
     rw [addC_back] at HC7; have m7 : wr.cell? ⟨bM, 0, none⟩ = some (.map (some mp)) := by rw [cell_of hst.hM]; rfl
     have ml7 := cellR m7; have HST7 := hide hst; clear hst hr7 hu7; go_wp2_with fail; refine cm HC7.out ?_; rintro e w8 ⟨rfl, hn8, ha8, hs8⟩; obtain ⟨hg8, hf8⟩ := HST7.out.counted ha8 hn8
     have hb8 : FrSt Pd bM bF bL mp c (fl ++ sn.kids.flatMap fun x => frF d x (addC c ns 1)) v1 w8 := ⟨hg8.hM, hg8.hL, hg8.hF, hg8.nm, hg8.row, HG2.out.pM, HG2.out.pL, HG2.out.nF, HG2.out.nm2, hg8.fm, fun b hb => ⟨fun h => (hg8.own b hb).1 (unhide HPe1 b h), (hg8.own b hb).2⟩⟩
     have HS8 := hide hb8; have HF8 := hide (HF5.out.trans ((HFZ.out.trans hf8).mono HPe1.out)); clear HC7 hn8 ha8 hs8 hg8 hf8 hb8 m7 ml7; go_wp2_with fail; go_ret; exact ⟨rfl, _, HS8.out, HF8.out⟩
theorem walkF_step {bM bF bL mp d : Nat} (ih : WkAt bM bF bL mp d) : WkAt bM bF bL mp (d + 1) := by
 intro t ht hill Pd p c fl v w hnt hS hPd hc hcb hfl
 obtain ⟨u, ps, hblk, hrow, hri, hks⟩ := hnt.opens2
 have hlen := NAts.length _ _ hks
 have hpP : Pd p := by
  exact zbec
 have htc : t.count = 1 + Tr.counts t.kids := by cases t with | mk kd tx nn ks => exact count_mk _ _ _ _
 obtain ⟨_, _, _, f3, _⟩ := node_cells hblk
 obtain ⟨ua, uc, hu⟩ := row_shut hrow
 subst hu
 rw [hlen] at f3
 have hen := en73
 have hfn : ∀ W : World, (binOp .eql 35 (lookV bM bF bL) .nilFunc).run Tryz.prog W = .ok (.bool false) W := fun W => by kernel_rfl
 have HC := hide (look_any ih t ht hill Pd p c fl v w hnt hS hPd hc hcb hfl)
 have HIH := hide ih
 have HKS := hide hks
 have HROW := hide hrow
 have HRI := hide hri
 have HTC : Hid (t.count = 1 + Tr.counts t.kids ∧ t.count ≤ d + 1 ∧ t.count ≤ 1500 ∧ fl.length + t.count ≤ 60000) := ⟨htc, ht, hc, hfl⟩
 have HCB := hide hcb
 have HF3 := hide f3
 have HPP := hide hpP
 have HLEN := hide hlen
 have HPD := hide hPd
 have HIL := hide (ill_of t hill).2
 have hkb : t.kids.length ≤ 1500 := by have := counts_len t.kids; omega
 have hof : (ownFree t c).length ≤ 1 := by unfold ownFree; split <;> simp
 clear hnt hS hPd hc hcb hfl hks hrow hri ih ht hblk f3 hpP hlen hill htc
 by_cases hx : declT t = none ∧ t.kd ≠ 40
 ·
  rw [decide_eq_true hx] at HC; have HFR : Hid (frF (d + 1) t c = ownFree t c ++ t.kids.flatMap fun k => frF d k c) := by
   show _ = _
   rw [frF, hx.1]; simp only; rw [if_neg hx.2]
  have hin : inFree d t c = [] := by unfold inFree; rw [hx.1]
  rw [hin, List.append_nil] at HC; clear hin; clear hx; go_enter Tryz.func20, Tryz.ntmps20; go_wp2_with fail; refine cm HC.out ?_; rintro e w1 ⟨rfl, v1, hs1, hf1⟩
  have g3 := (World.cell?_of_block (w := w) (a := ⟨p, 3, none⟩) (hf1.stay p HPP.out (unhide HPD p HPP.out))).trans HF3.out; have hpl1 := cellR g3; have HS1 := hide hs1; have HF1 := hide hf1; clear HC hs1 hf1
  go_wp2_with fail
  go_loopw [23] (fun j wr => ∃ (k : Nat) (v' : Value), k ≤ t.kids.length ∧ j = .int .i64 k ∧ FrSt Pd bM bF bL mp c (fl ++ ownFree t c ++ (t.kids.take k).flatMap fun x => frF d x c) v' wr ∧ Fz Pd v v' w wr) (fun j _ => t.kids.length - (intOf j).toNat)
  case atStart => exact ⟨0, v1, Nat.zero_le _, rfl, by simpa using HS1.out, HF1.out⟩
  case round =>
   obtain ⟨k, v2, hk, rfl, hst, hfz⟩ := hrel; have HST := hide hst; have HFZ := hide hfz; clear hst hfz g3
   by_cases hlt : k < t.kids.length
   ·
    obtain ⟨g, cap, hv, hcell⟩ := row_open HROW.out (by rw [HLEN.out]; omega)
    simp only [Value.slice.injEq] at hv; obtain ⟨rfl, _, rfl⟩ := hv; obtain ⟨hkp, hnk⟩ := NAts.get _ _ HKS.out k hlt; have hgp := unhide HRI g rfl; have hck : wr.cell? ⟨g, k, none⟩ = some (nPtr ps[k]) := by
     rw [World.cell?_of_block (w := w) (a := ⟨g, k, none⟩) (HFZ.out.stay g hgp (unhide HPD g hgp))]; exact hcell k hkp
    have hgr := cellR hck; have hnk2 : NAt Pd wr t.kids[k] ps[k] := NAt.later (fun x hx hl => HFZ.out.stay x hx hl) _ _ hnk; have hki : (k : Int) < (t.kids.length : Int) := by omega
    have htc := unhide HTC; have hsum := frFs_len d (t.kids.take k) c; have hct := counts_take t.kids k hlt; have htot : Tr.counts (t.kids.take k) + (t.kids[k]).count ≤ Tr.counts t.kids := by
     exact zbcm
    have HTK : Hid ((t.kids.take (k + 1)).flatMap (fun x => frF d x c) = (t.kids.take k).flatMap (fun x => frF d x c) ++ frF d t.kids[k] c) := by
     show _ = _
     rw [List.take_succ_eq_append_getElem hlt, List.flatMap_append]; simp
    have HC := hide (HIH.out t.kids[k] (by omega) (unhide HIL _ (List.getElem_mem _)) Pd ps[k] c _ v2 wr hnk2 HST.out (fun b hb => Nat.lt_of_lt_of_le (unhide HPD b hb) HFZ.out.size) (by omega) (fun x => by
     have h1 := unhide HCB x; omega) (by rw [List.length_append, List.length_append]; omega))
    obtain ⟨q', hq'⟩ : ∃ q', q' = ps[k] := ⟨_, rfl⟩; rw [← hq'] at hck HC; clear hcell hnk hnk2 htc hsum hct htot hq' hgp; exact zbdm
   ·
    have hk2 : k = t.kids.length := by omega
    subst hk2; go_wp2_with fail
    go_end0
    have h := unhide HST; rw [List.take_length, List.append_assoc, ← HFR.out] at h; exact ⟨rfl, v2, h, HFZ.out⟩
 ·
  rw [decide_eq_false hx] at HC; have HFR : Hid (fl ++ frF (d + 1) t c = fl ++ ownFree t c ++ inFree d t c) := by
   show _ = _
   rw [frF, List.append_assoc]
   congr 2
   unfold inFree
   cases hd : declT t with
   | some r => rfl
   | none =>
    have h40 : t.kd = 40 := by
     rcases Decidable.em (t.kd = 40) with h | h
     ·
      exact h
     ·
      exact absurd ⟨hd, h⟩ hx
    simp only; rw [if_pos h40]
  rw [← HFR.out] at HC; clear hx; go_enter Tryz.func20, Tryz.ntmps20; go_wp2_with fail; refine cm HC.out ?_; rintro e w1 ⟨rfl, v1, hs1, hf1⟩; have HS1 := hide hs1; have HF1 := hide hf1; clear HC hs1 hf1; go_wp2_with fail
  exact bodyPost_ret (v := .tuple #[]) (by simp [results, Tryz.results20, go_sem]) rfl ⟨rfl, v1, HS1.out, HF1.out⟩
theorem walkF_all (bM bF bL mp : Nat) : ∀ d, WkAt bM bF bL mp d := by
 intro d
 induction d with
 | zero =>
  exact zbdk
 | succ d ih => exact walkF_step ih
end Go.Proofs.YtodmgaikhbmlnaaGreatDoor
