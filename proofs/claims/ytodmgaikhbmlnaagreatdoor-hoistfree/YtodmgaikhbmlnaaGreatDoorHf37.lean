/-
  Rows of texts, sorted: plain facts; the names that the document finds are as many as there are nodes.
-/
import Derived.Test.YtodmgaikhbmlnaaGreatDoorHf36
set_option maxRecDepth 100000
set_option maxHeartbeats 16000000
namespace Go.Proofs.YtodmgaikhbmlnaaGreatDoor
open Go.RowKit
abbrev srt (l : List (List UInt8)) : List (List UInt8) := l.mergeSort fun x y => decide (x ≤ y)
theorem lL_trans {a b c : List UInt8} (h1 : a ≤ b) (h2 : b ≤ c) : a ≤ c := List.le_trans h1 h2
theorem lL_anti {a b : List UInt8} (h1 : a ≤ b) (h2 : b ≤ a) : a = b := List.le_antisymm h1 h2
theorem srt_pw (l : List (List UInt8)) : (srt l).Pairwise fun x y => x ≤ y := by
 have h := List.pairwise_mergeSort (le := fun (x y : List UInt8) => decide (x ≤ y)) (fun a b c h1 h2 => by
  simp only [decide_eq_true_eq] at h1 h2 ⊢; exact lL_trans h1 h2) (fun a b => by
  simp only [Bool.or_eq_true, decide_eq_true_eq]; exact List.le_total a b) l
 exact h.imp fun h => by simpa using h
theorem srt_mem {l : List (List UInt8)} {x : List UInt8} : x ∈ srt l ↔ x ∈ l := (List.mergeSort_perm l _).mem_iff
theorem pw_perm_eq {a b : List (List UInt8)} (ha : a.Pairwise fun x y => x ≤ y) (hb : b.Pairwise fun x y => x ≤ y) (h : a.Perm b) : a = b :=
 List.Perm.eq_of_pairwise (le := fun x y => x ≤ y) (fun _ _ _ _ h1 h2 => lL_anti h1 h2) ha hb h
theorem srt_perm {a b : List (List UInt8)} (h : a.Perm b) : srt a = srt b :=
 pw_perm_eq (srt_pw a) (srt_pw b) ((List.mergeSort_perm a _).trans (h.trans (List.mergeSort_perm b _).symm))
theorem sortB_perm {a b : List ByteArray} (h : a.Perm b) : sortB a = sortB b := by
 unfold sortB
 rw [show (a.map toL).mergeSort (fun x y => decide (x ≤ y)) = (b.map toL).mergeSort (fun x y => decide (x ≤ y)) from srt_perm (h.map toL)]
theorem nodup_perm {α : Type} [DecidableEq α] : ∀ {a b : List α}, a.Nodup → b.Nodup → (∀ x, x ∈ a ↔ x ∈ b) → a.Perm b
 | [], b, _, _, h => by
  cases b with
  | nil => exact .nil
  | cons y b => exact absurd ((h y).2 List.mem_cons_self) (by simp)
 | x :: a, b, ha, hb, h => by
  rw [List.nodup_cons] at ha; have hx : x ∈ b := (h x).1 List.mem_cons_self; have h1 := List.perm_cons_erase hx; refine (List.Perm.cons x (nodup_perm ha.2 (hb.erase x) fun y => ?_)).trans h1.symm; rw [hb.mem_erase_iff]
  constructor
  ·
   intro hy; exact ⟨fun e => ha.1 (e ▸ hy), (h y).1 (List.mem_cons_of_mem _ hy)⟩
  ·
   rintro ⟨hne, hy⟩; exact (List.mem_cons.1 ((h y).2 hy)).resolve_left hne
theorem cmp_facts (d : Array (List UInt8)) (hs : ∀ i j, i ≤ j → j < d.size → d[i]! ≤ d[j]!) : ∀ m, m ≤ d.size → (∀ x, x ∈ Lib.compactUpTo d m ↔ ∃ j, j < m ∧ d[j]! = x) ∧ (Lib.compactUpTo d m).Nodup ∧ (Lib.compactUpTo d m).Pairwise (fun x y => x ≤ y)
 | 0, _ => ⟨fun x => ⟨fun h => by simp [Lib.compactUpTo] at h, fun ⟨j, hj, _⟩ => by omega⟩, by simp [Lib.compactUpTo], by simp [Lib.compactUpTo]⟩
 | m + 1, hm => by
  obtain ⟨h1, h2, h3⟩ := cmp_facts d hs m (by omega); rw [Lib.compactUpTo_succ]
  cases hk : Lib.keeps d m with
  | true =>
   have hk' : m = 0 ∨ d[m]! ≠ d[m - 1]! := by simpa [Lib.keeps] using hk
   have hno : d[m]! ∉ Lib.compactUpTo d m := fun hin => by
    obtain ⟨j, hj, hje⟩ := (h1 _).1 hin; have h4 := hs j (m - 1) (by omega) (by omega); have h5 := hs (m - 1) m (by omega) (by omega); rw [hje] at h4; exact hk'.elim (fun h => by omega) (fun h => h (lL_anti h4 h5))
   rw [if_pos rfl]; refine ⟨fun x => ?_, ?_, ?_⟩
   ·
    rw [List.mem_append, h1, List.mem_singleton]; constructor
    ·
     rintro (⟨j, hj, he⟩ | rfl)
     ·
      exact ⟨j, by omega, he⟩
     ·
      exact ⟨m, by omega, rfl⟩
    ·
     rintro ⟨j, hj, he⟩
     rcases Nat.lt_or_ge j m with hl | hl
     ·
      exact Or.inl ⟨j, hl, he⟩
     ·
      have : j = m := by omega
      exact Or.inr (by rw [← he, this])
   ·
    rw [List.nodup_append]; refine ⟨h2, by simp, fun a ha b hb e => ?_⟩; rw [List.mem_singleton.1 hb] at e; exact hno (e ▸ ha)
   ·
    rw [List.pairwise_append]; refine ⟨h3, by simp, fun a ha b hb => ?_⟩; rw [List.mem_singleton.1 hb]; obtain ⟨j, hj, rfl⟩ := (h1 _).1 ha; exact hs j m (by omega) (by omega)
  | false =>
   have hk' : ¬ (m = 0 ∨ d[m]! ≠ d[m - 1]!) := by simpa [Lib.keeps] using hk
   rw [if_neg (by decide), List.append_nil]; refine ⟨fun x => ?_, h2, h3⟩; rw [h1]; constructor
   ·
    rintro ⟨j, hj, he⟩; exact ⟨j, by omega, he⟩
   ·
    rintro ⟨j, hj, he⟩
    rcases Nat.lt_or_ge j m with hl | hl
    ·
     exact ⟨j, hl, he⟩
    ·
     have hjm : j = m := by omega
     refine ⟨m - 1, by omega, ?_⟩; rw [← he, hjm]; exact Classical.byContradiction fun hc => hk' (Or.inr fun e => hc e.symm)
theorem getB (l : List (List UInt8)) (i : Nat) (h : i < l.length) : l.toArray[i]! = l[i] := by simp [h]
theorem compact_srt {a b : List (List UInt8)} (hb : b.Nodup) (h : ∀ x, x ∈ a ↔ x ∈ b) : Lib.compact (srt a) = srt b := by
 have hd : ∀ i j, i ≤ j → j < (srt a).toArray.size → (srt a).toArray[i]! ≤ (srt a).toArray[j]! := fun i j hij hj => by
  have hj' : j < (srt a).length := by simpa using hj
  have hi' : i < (srt a).length := by omega
  have e1 : (srt a).toArray[i]! = (srt a)[i] := getB _ i hi'; have e2 : (srt a).toArray[j]! = (srt a)[j] := getB _ j hj'; rw [e1, e2]
  rcases Nat.lt_or_ge i j with hl | hl
  ·
   exact List.pairwise_iff_getElem.1 (srt_pw a) i j hi' hj' hl
  ·
   have : i = j := by omega
   subst this; exact List.le_refl _
 obtain ⟨h1, h2, h3⟩ := cmp_facts (srt a).toArray hd (srt a).length (by simp)
 refine pw_perm_eq h3 (srt_pw b) (nodup_perm h2 ((List.mergeSort_perm b _).symm.nodup hb) fun x => ?_)
 show x ∈ Lib.compactUpTo (srt a).toArray (srt a).length ↔ _
 rw [h1, srt_mem, ← h, ← srt_mem (l := a), List.mem_iff_getElem]
 constructor
 ·
  rintro ⟨j, hj, rfl⟩; exact ⟨j, hj, (getB _ j hj).symm⟩
 ·
  rintro ⟨j, hj, rfl⟩; exact ⟨j, hj, getB _ j hj⟩
theorem toL_inj {a b : ByteArray} (h : toL a = toL b) : a = b := by rw [← ofL_toL a, ← ofL_toL b, h]
theorem free_same {fl ks : List ByteArray} (hk : ks.Nodup) (h : ∀ x, x ∈ fl ↔ x ∈ ks) : freeOf fl = sortB ks := by
 unfold freeOf sortB
 rw [show Lib.compact ((fl.map toL).mergeSort fun x y => decide (x ≤ y)) = (ks.map toL).mergeSort (fun x y => decide (x ≤ y)) from compact_srt (List.Pairwise.map toL (fun a b hab e => hab (toL_inj e)) hk) fun x => ?_]
 simp only [List.mem_map]
 constructor
 ·
  rintro ⟨y, hy, rfl⟩; exact ⟨y, (h y).1 hy, rfl⟩
 ·
  rintro ⟨y, hy, rfl⟩; exact ⟨y, (h y).2 hy, rfl⟩
theorem decR_counts (t : Tr) : Tr.counts (decR t).2.kids + 1 ≤ t.count := by
 have htc : t.count = 1 + Tr.counts t.kids := by cases t with | mk kd tx nn ks => exact count_mk _ _ _ _
 unfold decR
 split
 ·
  simp only; omega
 ·
  split
  ·
   simp only; omega
  ·
   split
   ·
    simp only; omega
   ·
    split
    ·
     by_cases hl : 1 < t.kids.length
     ·
      rw [kidF_eq t 1 hl]; have h1 := counts_le t.kids 1 hl; have h2 : (t.kids[1]).count = 1 + Tr.counts (t.kids[1]).kids := by cases t.kids[1] with | mk kd tx nn ks => exact count_mk _ _ _ _
      simp only; omega
     ·
      have : kidF t 1 = t := by simp [kidF, List.getD, List.getElem?_eq_none (Nat.le_of_not_lt hl)]
      simp only [this]; omega
    ·
     simp only; omega
mutual
theorem rlF_len : ∀ (d : Nat) (t : Tr) (kn : List ByteArray), (rlF d t kn).length ≤ t.count
 | 0, t, kn => by simp [rlF]
 | d + 1, t, kn => by
  have ho : (ownR t kn).length ≤ 1 := by unfold ownR; split <;> simp
  have h1 := decR_counts t; have h2 := rlFs_len d (decR t).2.kids ((decR t).1 ++ kn); rw [rlF, List.length_append]; omega
theorem rlFs_len : ∀ (d : Nat) (ts : List Tr) (kn : List ByteArray), (ts.flatMap fun k => rlF d k kn).length ≤ Tr.counts ts
 | d, [], kn => by simp [counts_nil]
 | d, t :: ts, kn => by
  rw [List.flatMap_cons, List.length_append, counts_cons]; have h1 := rlF_len d t kn; have h2 := rlFs_len d ts kn; omega
end
end Go.Proofs.YtodmgaikhbmlnaaGreatDoor
namespace Go.Proofs.YtodmgaikhbmlnaaGreatDoor
open Go.RowKit
open Go.ChangeMaps (setBlock)
def esK (ks : List ByteArray) : Array MapEntry := mapOf (ks.map fun k => (k, Value.bool true))
def keyL (e : MapEntry) : ByteArray := match e.key with | .string s => s | _ => ByteArray.empty
def leftK (ks : List ByteArray) (seen : Array Nat) : List ByteArray := (leftOf (esK ks) seen).toList.map keyL
section
variable (ks : List ByteArray)
include ks
theorem esK_list : (esK ks).toList = ((ks.map fun k => (k, Value.bool true)).zipIdx).map mkE := by simp [esK, mapOf]
theorem esK_born : (esK ks).toList.map (·.born) = List.range' 0 ks.length := by
 rw [esK_list, List.map_map, show ((fun x : MapEntry => x.born) ∘ mkE) = Prod.snd from rfl, List.zipIdx_map_snd, List.length_map]
theorem esK_keys : (esK ks).toList.map keyL = ks := by
 rw [esK_list, List.map_map, show (keyL ∘ mkE) = (Prod.fst ∘ Prod.fst) from rfl, ← List.map_map, List.zipIdx_map_fst, List.map_map]
 conv => rhs; rw [← List.map_id ks]
 rfl
theorem esK_nodup : ((esK ks).toList.map (·.born)).Nodup := by rw [esK_born]; exact List.nodup_range' _
theorem esK_old : ∀ x ∈ (esK ks).toList, x.born < ks.length := fun x hx => by
 have h : x.born ∈ (esK ks).toList.map (·.born) := List.mem_map_of_mem hx
 rw [esK_born, List.mem_range'] at h
 obtain ⟨i, hi, he⟩ := h
 omega
theorem esK_form : ∀ x ∈ (esK ks).toList, x.key = .string (keyL x) ∧ x.val = .bool true := fun x hx => by
 rw [esK_list, List.mem_map] at hx
 obtain ⟨⟨⟨k, v⟩, i⟩, hm, rfl⟩ := hx
 refine ⟨rfl, ?_⟩
 have h := List.mem_map_of_mem (f := Prod.fst) hm
 rw [List.zipIdx_map_fst, List.mem_map] at h
 obtain ⟨y, _, hy⟩ := h
 cases hy
 rfl
end
theorem perm_born {e : MapEntry} : ∀ {L : List MapEntry}, (L.map (·.born)).Nodup → e ∈ L → L.Perm (e :: L.filter fun x => !(x.born == e.born))
 | [], _, h => by cases h
 | a :: L, hn, h => by
  rw [List.map_cons, List.nodup_cons] at hn
  rcases List.mem_cons.1 h with rfl | h
  ·
   have hf : (e :: L).filter (fun x => !(x.born == e.born)) = L := by
    rw [List.filter_cons, if_neg (by simp)]; rw [List.filter_eq_self]; intro x hx; have : x.born ≠ e.born := fun he => hn.1 (by rw [← he]; exact List.mem_map_of_mem hx)
    simpa using this
   rw [hf]
  ·
   have hne : a.born ≠ e.born := fun he => hn.1 (by rw [he]; exact List.mem_map_of_mem h)
   rw [List.filter_cons, if_pos (by simpa using hne)]; exact ((perm_born hn.2 h).cons a).trans (List.Perm.swap _ _ _)
section
variable (ks : List ByteArray) (seen : Array Nat)
include ks seen
theorem left_nodup : ((leftOf (esK ks) seen).toList.map (·.born)).Nodup := by
 unfold leftOf
 rw [Array.toList_filter]
 exact (List.filter_sublist.map _).nodup (esK_nodup ks)
theorem left_push2 (e : MapEntry) : (leftOf (esK ks) (seen.push e.born)).toList = (leftOf (esK ks) seen).toList.filter fun x => !(x.born == e.born) := by
 have h1 : leftOf (esK ks) (seen.push e.born) = (leftOf (esK ks) seen).filter (fun x => !(x.born == e.born)) := by
  exact zbfg
 rw [h1, Array.toList_filter]
end
theorem kst_step {r m : Nat} {ks : List ByteArray} {seen : Array Nat} {W : World} (hit : W.heap[r]? = some (.mapIter (some m) ks.length seen ks.length)) (hmp : FMap m ks W) (ty : TypeId) :
  (leftK ks seen = [] ∧ (Instr.next (.pointer (some ⟨r, 0, none⟩)) false ty).run Tryz.prog W = .ok (.tuple #[.bool false]) W) ∨
  ∃ s seen' X, (Instr.next (.pointer (some ⟨r, 0, none⟩)) false ty).run Tryz.prog W = .ok (.tuple #[.bool true, .string s, .bool true]) X
   ∧ (Instr.entry (.pointer (some ⟨r, 0, none⟩))).run Tryz.prog X = .ok (.tuple #[.string s, .bool true]) X ∧ X.heap[r]? = some (.mapIter (some m) ks.length seen' ks.length) ∧ FMap m ks X ∧ (leftK ks seen).Perm (s :: leftK ks seen') ∧ (∀ k, k ≠ r → X.heap[k]? = W.heap[k]?) ∧ X.os = W.os ∧ X.tape = W.tape ∧ X.output = W.output ∧ X.heap.size = W.heap.size := by
 have hrm : m ≠ r := fun e => by
  have h1 := hmp.1; rw [e, hit] at h1; cases h1
 rcases run_next_at (P := Tryz.prog) W ty r m ks.length ks.length seen (esK ks) ks.length hit hmp.1 (esK_old ks) (Nat.le_refl _) with ⟨h0, hh⟩ | ⟨e, he, w1, hw, hr⟩
 ·
  refine Or.inl ⟨?_, hh⟩; have : leftOf (esK ks) seen = #[] := Array.eq_empty_of_size_eq_zero h0; unfold leftK; rw [this]; rfl
 ·
  have hem : e ∈ (esK ks).toList := by
   unfold leftOf at he; rw [Array.toList_filter, List.mem_filter] at he; exact he.1
  obtain ⟨f1, f2⟩ := esK_form ks e hem; have hl : r < W.heap.size := lt_of_heap hit
  have k1 : ∀ k, (setBlock w1 r (.mapIter (some m) ks.length (seen.push e.born) ks.length)).heap[k]? = if k = r then some (.mapIter (some m) ks.length (seen.push e.born) ks.length) else W.heap[k]? := by
   intro k
   rcases hw with rfl | rfl <;>
   ·
    unfold setBlock
    by_cases hk : k = r
    ·
     subst hk; simp [hl]
    ·
     rw [if_neg hk]; simp [Ne.symm hk] <;> rfl
  have hI : (setBlock w1 r (.mapIter (some m) ks.length (seen.push e.born) ks.length)).heap[r]? = some (.mapIter (some m) ks.length (seen.push e.born) ks.length) := by rw [k1, if_pos rfl]
  have hM : FMap m ks (setBlock w1 r (.mapIter (some m) ks.length (seen.push e.born) ks.length)) := ⟨by rw [k1, if_neg hrm]; exact hmp.1, hmp.2⟩
  have hen := run_entry_at (P := Tryz.prog) _ r m ks.length seen (esK ks) ks.length e hI hM.1 hem (esK_nodup ks); rw [f1, f2] at hr hen
  refine Or.inr ⟨keyL e, seen.push e.born, _, hr, hen, hI, hM, ?_, fun k hk => by rw [k1, if_neg hk], ?_, ?_, ?_, ?_⟩
  ·
   unfold leftK; rw [left_push2, ← List.map_cons]; exact (perm_born (left_nodup ks seen) he).map keyL
  ·
   rcases hw with rfl | rfl <;> rfl
  ·
   rcases hw with rfl | rfl <;> rfl
  ·
   rcases hw with rfl | rfl <;> rfl
  ·
   rcases hw with rfl | rfl <;> simp [setBlock]
theorem leftK_start (ks : List ByteArray) : leftK ks #[] = ks := by
 unfold leftK leftOf
 rw [Array.toList_filter, List.filter_eq_self.2 (fun x _ => by simp), esK_keys]
def lenV : Value → Nat
 | .slice _ n _ => n
 | _ => 0
structure KSt (r m : Nat) (ks : List ByteArray) (seen : Array Nat) (L : List ByteArray) (o : Value) (w W : World) : Prop where
 it : W.heap[r]? = some (.mapIter (some m) ks.length seen ks.length)
 mp : FMap m ks W
 row : SRow (r + 1) W o L
 pm : (L ++ leftK ks seen).Perm ks
 bel : Below w.heap.size w W
set_option maxRecDepth 100000 in
set_option maxHeartbeats 2000000 in
theorem rfree_any (t : Tr) (p : Nat) (w : World) (h : NTr w t p) (hill : t.ill = 0) (hc : t.count ≤ 1500) :
  Calls Tryz.prog 38 #[nPtr p] w fun e w' => (∃ u, e = .returned u ∧ SRow 0 w' u (sortB (onceL (rlF t.count t [])))) ∧ Below w.heap.size w w' := by
 obtain ⟨i0, hi0, hz0, hz1, hz2⟩ := info_parts info9
 have hN : NAt (fun x => x < w.heap.size) w t p := NAt.mono (fun b _ hl => hl) _ _ h
 have hen := en78
 obtain ⟨KS, hKS⟩ : ∃ KS, KS = onceL (rlF t.count t []) := ⟨_, rfl⟩
 rw [← hKS]
 have hkl : KS.length ≤ 1500 := by rw [hKS]; have h1 := once_len (rlF t.count t []); have h2 := rlF_len t.count t []; omega
 have HKS := hide hKS
 have hmk := mkMap 103 w
 clear hKS
 go_enter Tryz.func38, Tryz.ntmps38
 go_wp2_with fail
 obtain ⟨wA, hwA⟩ : ∃ wA, wA = ((w.alloc (.map #[] 0)).alloc (.cells #[.map (some w.heap.size)] 103)).alloc (.cells #[wkV (w.heap.size + 1) (w.heap.size + 1 + 1)] 104) := ⟨_, rfl⟩
 have hbA : Below w.heap.size w wA := by rw [hwA]; exact (((Below.refl _ _).alloc (Nat.le_refl _) _).alloc (by simp) _).alloc (by simp; omega) _
 have hsA : wA.heap.size = w.heap.size + 3 := by rw [hwA]; simp
 have a0 : wA.heap[w.heap.size]? = some (.map #[] 0) := by
  rw [hwA, Below.heap_alloc _ _ _ (by simp <;> omega), Below.heap_alloc _ _ _ (by simp <;> omega), heap_new]
 have a1 : wA.heap[w.heap.size + 1]? = some (.cells #[.map (some w.heap.size)] 103 (0, 0)) := by
  have h2 := heap_new (w.alloc (.map #[] 0)) (.cells #[.map (some w.heap.size)] 103); rw [hwA, Below.heap_alloc _ _ _ (by simp)]; simpa using h2
 have a2 : wA.heap[w.heap.size + 1 + 1]? = some (.cells #[wkV (w.heap.size + 1) (w.heap.size + 1 + 1)] 104 (0, 0)) := by
  have h2 := heap_new ((w.alloc (.map #[] 0)).alloc (.cells #[.map (some w.heap.size)] 103)) (.cells #[wkV (w.heap.size + 1) (w.heap.size + 1 + 1)] 104); rw [hwA]; simpa using h2
 have hst : RfSt (w.heap.size + 1) (w.heap.size + 1 + 1) w.heap.size [] wA := ⟨a1, a2, ⟨a0, List.nodup_nil⟩, by omega, by omega⟩
 have hnA : NAt (fun x => x ≠ w.heap.size) wA t p := NAt.mono (fun b hb _ => Nat.ne_of_lt hb) _ _ (NAt.later (I := fun x => x < w.heap.size) (fun x hx _ => hbA.block x hx) _ _ hN)
 have HC := hide (rwAt_all t.count t (Nat.le_refl _) hill p [] (.slice none 0 0) [] wA hnA hst (srow_nil _ _) (by simp [Value.ownBlock]) hc (by simp; omega))
 have hfo : (rlF t.count t []).foldl addB [] = KS := HKS.out.symm
 rw [hfo] at HC
 have HBA := hide hbA
 rw [← hwA]
 clear hwA a0 a1 a2 hst hnA hN h hill hmk hbA hfo HKS
 refine cm HC.out ?_
 rintro e w1 ⟨rfl, hs1, ha1⟩
 have c1 : w1.cell? ⟨w.heap.size + 1, 0, none⟩ = some (.map (some w.heap.size)) := by rw [cell_of hs1.hG]; rfl
 have hl1 := cellR c1
 have HBL : Hid (Below w.heap.size w w1) := by
  have h1 := unhide HBA; exact ⟨ha1.os.trans h1.os, ha1.tape.trans h1.tape, ha1.output.trans h1.output, Nat.le_trans h1.size ha1.size, fun b hb => (ha1.block b (by omega) (Nat.ne_of_lt hb)).trans (h1.block b hb)⟩
 have hrg := run_range_map (P := Tryz.prog) w1 103 9 4 w.heap.size (esK KS) KS.length Tryz.underlying103 hs1.fm.1
 have HFM := hide hs1.fm
 have hsz1 := HBL.out.size
 clear HC hs1 ha1 hsA HBA
 go_wp2_with fail
 clear hrg c1
 go_loopw [5] (fun o wr => ∃ seen L, KSt w1.heap.size w.heap.size KS seen L o w wr) (fun o _ => KS.length - lenV o)
 case atStart =>
  refine ⟨#[], [], heap_new _ _, ⟨?_, HFM.out.2⟩, srow_nil _ _, by rw [leftK_start]; exact List.Perm.refl _, HBL.out.alloc hsz1 _⟩
  rw [Below.heap_alloc _ _ _ (lt_of_heap HFM.out.1)]; exact HFM.out.1
 case round =>
  obtain ⟨seen, L, hst⟩ := hrel; obtain ⟨oa, oc, rfl⟩ := srow_form hst.row; have hLl : L.length ≤ KS.length := by
   have h1 := hst.pm.length_eq; rw [List.length_append] at h1; omega
  have HST := hide hst
  rcases kst_step hst.it hst.mp 0 with ⟨h0, hnx⟩ | ⟨s, seen', X, hnx, hne, hit, hmp, hpm, hbk, hox, htx, hux, hzx⟩
  ·
   have HP : Hid (sortB L = sortB KS) := by
    have h1 := hst.pm; rw [h0, List.append_nil] at h1; exact sortB_perm h1
   have HC2 := hide (sort_any 81 (Or.inr rfl) L _ wr hst.row (by omega)); clear hst h0; go_wp2_with fail; refine cm HC2.out ?_; rintro e w2 ⟨rfl, hr2, hb2⟩
   have hbut : ∃ g, (∀ b, (Value.slice oa L.length oc).ownBlock = some b → b = g) ∧ w.heap.size ≤ g := by
    cases ho : (Value.slice oa L.length oc).ownBlock with
    | none => exact ⟨w.heap.size + 1, (fun b hb => by cases hb), by omega⟩
    | some g => exact ⟨g, (fun b hb => (Option.some.inj hb).symm), by have := (own_lt HST.out.row g ho).2; omega⟩
   obtain ⟨g, hg1, hg2⟩ := hbut; have hB2 := hb2 g hg1; have HBL2 : Hid (Below w.heap.size w w2) := by
    have h1 := HST.out.bel; have h2 := h1.size; exact zbev
   have HR2 := hide hr2; clear HC2 hr2 hb2 hB2 hg1 hnx; go_wp2_with fail; go_ret; exact ⟨⟨_, rfl, by rw [← HP.out]; exact srow_mono HR2.out (Nat.zero_le _)⟩, HBL2.out⟩
  ·
   have hrow : SRow (w1.heap.size + 1) X (.slice oa L.length oc) L := owns_stay (I := fun x => x ≠ w1.heap.size) (fun x hx _ => hbk x hx) (fun g hg => by have := (own_lt hst.row g hg).2; omega) hst.row
   have hbel : Below w.heap.size w X := by
    have h1 := hst.bel; have h2 := h1.size; exact ⟨hox.trans h1.os, htx.trans h1.tape, hux.trans h1.output, by omega, fun b hb => (hbk b (by omega)).trans (h1.block b hb)⟩
   have hlt : L.length < KS.length := by
    have h1 := hst.pm.length_eq; have h2 := hpm.length_eq; rw [List.length_append, h2, List.length_cons] at h1; omega
   have HPM : Hid ((L ++ [s] ++ leftK KS seen').Perm KS) := by
    rw [show L ++ [s] ++ leftK KS seen' = L ++ (s :: leftK KS seen') by simp]; exact (hpm.symm.append_left L).trans hst.pm
   have HROW := hide hrow; have HBEL := hide hbel; have HIT := hide hit; have HMP := hide hmp; have hsX : w1.heap.size + 1 ≤ X.heap.size := by have := lt_of_heap hit; omega
   have hmX := lt_of_heap hmp.1; have hbX := hbel.size; clear hst hrow hbel hit hmp hpm hbk hox htx hux hzx HST
   go_wp2_with (at_builtin; refine wpList_append_lies _ rfl _ _ 54 rfl (w1.heap.size + 1) 9 i0 (.string ByteArray.empty) 1 16 Tryz.underlying54 hi0 hz0 hz1 hz2 rfl (by decide) _ _ _ rfl (HROW.out.alloc _) ⟨X.heap.size, 0, none⟩ 1 1 [.string s] rfl rfl (hoCellsS X s _ rfl) (hoOneS s) (by decide) (by unfold maxLen; omega) (by omega) (by simp; omega) (X.heap.size + 1) (by simp) ?_)
   intro g5 cap5 w5 hown5 hgr5 _ _; have hob : ∀ k, (Value.slice oa L.length oc).ownBlock = some k → w1.heap.size + 1 ≤ k := fun k hk => (own_lt HROW.out k hk).2
   have hBw : Below w.heap.size w w5 := (HBEL.out.alloc hbX (.cells #[.string s] 9)).grown hgr5 (by simp; omega) (fun b hb => by have := hob b hb; omega)
   have hBr : Below (w1.heap.size + 1) X w5 := ((Below.refl _ _).alloc hsX (.cells #[.string s] 9)).grown hgr5 (by simp; omega) hob
   have HK5 : Hid (KSt w1.heap.size w.heap.size KS seen' (L ++ [s]) (.slice (some ⟨g5, 0, none⟩) (L.length + 1) cap5) w w5) := by
    refine ⟨(hBr.block _ (by omega)).trans HIT.out, ⟨(hBr.block _ (by omega)).trans HMP.out.1, HMP.out.2⟩, ?_, HPM.out, hBw⟩
    show World.ownsRow _ _ _ _ _ _ _
    rw [List.length_append, List.map_append]; exact hown5
   clear hown5 hgr5 hBw hBr hnx hne; go_wp2_with fail
   go_roundw
   case rel => exact ⟨seen', L ++ [s], HK5.out⟩
   case measure => simp [lenV]; omega
end Go.Proofs.YtodmgaikhbmlnaaGreatDoor
namespace Go.Proofs.YtodmgaikhbmlnaaGreatDoor
def nb (ts : List Tr) : Nat := (ts.filter fun t => decide (t.kd ≠ 6)).length
def p40 (kd : Int) : Nat := if kd = 40 then 1 else 0
mutual
def Tr.pz : Tr → Nat
 | .mk kd _ _ ks => p40 kd + if kd = 5 ∨ kd = 37 then Tr.pzt ks else Tr.pzs ks
def Tr.pzs : List Tr → Nat
 | [] => 0
 | t :: ts => t.pz + Tr.pzs ts
def Tr.pzt : List Tr → Nat
 | [] => 0
 | _ :: ts => nb ts + Tr.pzs ts
end
theorem pz_mk (kd : Int) (tx : ByteArray) (n : Int) (ks : List Tr) : (Tr.mk kd tx n ks).pz = p40 kd + if kd = 5 ∨ kd = 37 then Tr.pzt ks else Tr.pzs ks := by rw [Tr.pz]
theorem pz_pl {kd : Int} (h : kd ≠ 40 ∧ kd ≠ 5 ∧ kd ≠ 37) (tx : ByteArray) (n : Int) (ks : List Tr) : (Tr.mk kd tx n ks).pz = Tr.pzs ks := by
 rw [pz_mk, if_neg (fun e => e.elim h.2.1 h.2.2), p40, if_neg h.1, Nat.zero_add]
theorem pzt_cons (t : Tr) (ts : List Tr) : Tr.pzt (t :: ts) = nb ts + Tr.pzs ts := by rw [Tr.pzt]
theorem pzs_nil : Tr.pzs [] = 0 := by rw [Tr.pzs]
theorem pzs_cons (t : Tr) (ts : List Tr) : Tr.pzs (t :: ts) = t.pz + Tr.pzs ts := by rw [Tr.pzs]
theorem pzs_all : ∀ (ks : List Tr), Tr.pzs ks = 0 → ∀ k ∈ ks, k.pz = 0
 | [], _ => fun k hk => absurd hk (by simp)
 | t :: ts, h => fun k hk => by
  rw [pzs_cons] at h
  rcases List.mem_cons.1 hk with rfl | hk
  ·
   omega
  ·
   exact pzs_all ts (by omega) k hk
theorem nb_all {ks : List Tr} (h : nb ks = 0) : ∀ k ∈ ks, k.kd = 6 := fun k hk => by
 have h1 : ks.filter (fun t => decide (t.kd ≠ 6)) = [] := List.length_eq_zero_iff.1 h
 have h2 := List.filter_eq_nil_iff.1 h1 k hk
 simpa using h2
theorem pz_of (t : Tr) (h : t.pz = 0) : t.kd ≠ 40 ∧ (¬ (t.kd = 5 ∨ t.kd = 37) → ∀ k ∈ t.kids, k.pz = 0) ∧ (t.kd = 5 ∨ t.kd = 37 → ∀ k ∈ t.kids.drop 1, k.kd = 6 ∧ k.pz = 0) := by
 cases t with
 | mk kd tx n ks =>
  rw [pz_mk] at h; refine ⟨fun e => ?_, fun hn => ?_, fun hp => ?_⟩
  ·
   have e' : kd = 40 := e; rw [e', p40, if_pos rfl] at h; omega
  ·
   have hn' : ¬ (kd = 5 ∨ kd = 37) := hn; rw [if_neg hn'] at h; exact pzs_all ks (by omega)
  ·
   have hp' : kd = 5 ∨ kd = 37 := hp; rw [if_pos hp'] at h
   cases ks with
   | nil => intro k hk; exact absurd hk (by simp [Tr.kids])
   | cons a ks =>
    rw [pzt_cons] at h; intro k hk; exact ⟨nb_all (ks := ks) (by omega) k hk, pzs_all ks (by omega) k hk⟩
theorem pzs_zero : ∀ ts : List Tr, (∀ u ∈ ts, u.pz = 0) → Tr.pzs ts = 0
 | [], _ => pzs_nil
 | t :: ts, h => by rw [pzs_cons, h t (List.mem_cons_self ..), pzs_zero ts (fun u hu => h u (List.mem_cons_of_mem _ hu))]
theorem Shp.pz {Nm : ByteArray → Prop} {c : Nat} {t : Tr} (h : Shp Nm c t) (hc : c ≠ 5) : t.pz = 0 := by
 induction h with
 | pars _ _ _ => exact absurd rfl hc
 | sblk _ ih => exact ih (by decide)
 | call _ _ _ ih ihs => rw [pz_pl (by decide), pzs_cons, ih (by decide), pzs_zero _ (fun u hu => ihs u hu (by decide))]
 | decl hk _ _ _ _ ihs => rw [pz_pl (by omega), pzs_zero _ (fun u hu => ihs u hu (by decide))]
 | give hk _ _ _ ihs => rw [pz_pl (by omega), pzs_zero _ (fun u hu => ihs u hu (by decide))]
 | atm _ _ _ _ ih ihc ihf =>
  rw [pz_pl (by decide), pzs_cons, ih (by decide), pzs_zero _ (fun u hu => (List.mem_append.1 hu).elim (fun h => ihc u h (by decide)) (fun h => ihf u h (by decide)))]
 | obj _ _ ihs => rw [pz_pl (by decide), pzs_zero _ (fun u hu => ihs u hu (by decide))]
 | blk _ ihs => rw [pz_pl (by decide), pzs_zero _ (fun u hu => ihs u hu (by decide))]
 | body _ _ ihs => rw [pz_pl (by decide), pzs_zero _ (fun u hu => ihs u hu (by decide))]
 | prog _ _ ihs => rw [pz_pl (by decide), pzs_zero _ (fun u hu => ihs u hu (by decide))]
 | lit hk => rw [pz_pl (by omega), pzs_nil]
 | one hk _ ih => rw [pz_pl (by omega), pzs_cons, pzs_nil, ih (by decide)]
 | two hk _ _ ih ih2 => rw [pz_pl (by omega), pzs_cons, pzs_cons, pzs_nil, ih (by decide), ih2 (by decide)]
 | loop hk _ _ ih ih2 => rw [pz_pl (by omega), pzs_cons, pzs_cons, pzs_nil, ih (by decide), ih2 (by decide)]
 | lam _ _ hb _ ih => have h := ih (by decide); cases hb; rw [pz_mk, if_pos (Or.inr rfl), pzt_cons, pzs_cons, pzs_nil, h]; rfl
 | func _ _ hb _ ih => have h := ih (by decide); cases hb; rw [pz_mk, if_pos (Or.inl rfl), pzt_cons, pzs_cons, pzs_nil, h]; rfl
 | _ => simp [pz_pl, pzs_cons, pzs_nil, *]
theorem parse_pz {ws gs : List ByteArray} {s : ByteArray} {t : Tr} (h : parseS ws gs s = .ok t) : t.pz = 0 := by
 obtain ⟨_, _, h⟩ := parse_sh h
 exact h.pz (by decide)
end Go.Proofs.YtodmgaikhbmlnaaGreatDoor
namespace Go.Proofs.YtodmgaikhbmlnaaGreatDoor
open Go.RowKit
def Same (c : ByteArray → Int) (kn : List ByteArray) : Prop := ∀ x, 0 ≤ c x ∧ (c x = 0 ↔ x ∉ kn)
theorem Same.nil : Same (fun _ => 0) [] := fun x => ⟨Int.le_refl _, by simp⟩
theorem Same.add {c : ByteArray → Int} {kn ns ns' : List ByteArray} (h : Same c kn) (hm : ∀ x, x ∈ ns ↔ x ∈ ns') : Same (addC c ns 1) (ns' ++ kn) := fun x => by
 obtain ⟨h1, h2⟩ := h x
 have h3 := occ_le ns x
 have h4 := occ_pos ns x
 unfold addC
 refine ⟨by omega, ?_⟩
 rw [List.mem_append, ← hm, ← h4]
 constructor
 ·
  intro h5; have h6 : c x = 0 := by omega
  intro h7
  rcases h7 with h7 | h7
  ·
   omega
  ·
   exact h2.1 h6 h7
 ·
  intro h5; have h6 : c x = 0 := h2.2 fun h7 => h5 (Or.inr h7); have h7 : ¬ 0 < occ ns x := fun h8 => h5 (Or.inl h8); omega
theorem own_same {t : Tr} {c : ByteArray → Int} {kn : List ByteArray} (h : Same c kn) : ownFree t c = ownR t kn := by
 unfold ownFree ownR
 have h1 : (t.kd = 23 ∧ c t.tx = 0) ↔ (t.kd = 23 ∧ hasB kn t.tx = false) := by rw [(h t.tx).2, hasB_no]
 by_cases hp : t.kd = 23 ∧ c t.tx = 0
 ·
  rw [if_pos hp, if_pos (h1.1 hp)]
 ·
  rw [if_neg hp, if_neg (fun e => hp (h1.2 e))]
theorem frF_same : ∀ (d : Nat) (t : Tr) (c : ByteArray → Int) (kn : List ByteArray), t.ill = 0 → t.pz = 0 → Same c kn → frF d t c = rlF d t kn
 | 0, t, c, kn, _, _, _ => rfl
 | d + 1, t, c, kn, hi, hz, h => by
  obtain ⟨z40, zn, zf⟩ := pz_of t hz; obtain ⟨hneed, hills⟩ := ill_of t hi
  have go : ∀ (ts : List Tr) (c' : ByteArray → Int) (kn' : List ByteArray), (∀ k ∈ ts, k.ill = 0 ∧ k.pz = 0) → Same c' kn' → (ts.flatMap fun k => frF d k c') = ts.flatMap fun k => rlF d k kn' := fun ts c' kn' hk hs => by
   have : ∀ us : List Tr, (∀ k ∈ us, k ∈ ts) → (us.flatMap fun k => frF d k c') = us.flatMap fun k => rlF d k kn' := by
    intro us
    induction us with
    | nil => intro _; rfl
    | cons a us ih =>
     intro hu; obtain ⟨k1, k2⟩ := hk a (hu a List.mem_cons_self); rw [List.flatMap_cons, List.flatMap_cons, frF_same d a c' kn' k1 k2 hs, ih fun k hk => hu k (List.mem_cons_of_mem _ hk)]
   exact this ts fun k hk => hk
  rw [frF, rlF, own_same h]
  congr 1
  unfold declT decR
  by_cases h1 : t.kd = 1
  ·
   simp only [if_pos h1]; exact go _ _ _ (fun k hk => ⟨hills k hk, zn (by omega) k hk⟩) (h.add fun _ => Iff.rfl)
  simp only [if_neg h1]
  by_cases h6 : t.kd = 6
  ·
   simp only [if_pos h6]; exact go _ _ _ (fun k hk => ⟨hills k hk, zn (by omega) k hk⟩) (h.add fun _ => Iff.rfl)
  simp only [if_neg h6]
  by_cases h13 : t.kd = 13
  ·
   simp only [if_pos h13]; exact go _ _ _ (fun k hk => ⟨hills k hk, zn (by omega) k hk⟩) (h.add fun _ => Iff.rfl)
  simp only [if_neg h13]
  by_cases hf : t.kd = 5 ∨ t.kd = 37
  ·
   simp only [if_pos hf]; have hlen : 1 < t.kids.length := by
    have : need t.kd = 2 := by unfold need; rw [if_pos hf]
    omega
   have hin : t.kids[1] ∈ t.kids.drop 1 := by
    rw [List.mem_iff_getElem]; exact ⟨0, by rw [List.length_drop]; omega, by simp⟩
   obtain ⟨q1, q2⟩ := zf hf _ hin; rw [← kidF_eq t 1 hlen] at q1 q2; have q3 : (kidF t 1).ill = 0 := by rw [kidF_eq t 1 hlen]; exact hills _ (List.getElem_mem _)
   refine go _ _ _ (fun k hk => ⟨(ill_of _ q3).2 k hk, (pz_of _ q2).2.1 (by omega) k hk⟩) (h.add fun x => ?_); unfold declF; simp only [List.mem_append, once_mem, beq_iff_eq]
   constructor <;> intro hx <;> simp_all [or_assoc]
  ·
   simp only [if_neg hf, if_neg z40, List.nil_append]; exact go _ _ _ (fun k hk => ⟨hills k hk, zn hf k hk⟩) h
theorem fold_nodup : ∀ (l acc : List ByteArray), acc.Nodup → (l.foldl addB acc).Nodup
 | [], _, h => h
 | x :: l, acc, h => fold_nodup l (addB acc x) (addB_nodup h x)
theorem once_nodup (l : List ByteArray) : (onceL l).Nodup := fold_nodup l [] List.nodup_nil
theorem free_eq (t : Tr) (hi : t.ill = 0) (hz : t.pz = 0) : freeOf (frF t.count t (fun _ => 0)) = sortB (onceL (rlF t.count t [])) := by
 rw [frF_same t.count t _ _ hi hz Same.nil]
 exact free_same (once_nodup _) fun x => once_mem.symm
theorem hfr_none (s : ByteArray) (w : World) (h : Calls Tryz.prog 19 #[.string s] w (BoPost none w)) : Calls Tryz.prog 8 #[.string s] w fun e w' => e = .returned (.bool true) ∧ Below w.heap.size w w' := by
 have HC := hide h
 clear h
 go_enter Tryz.func8, Tryz.ntmps8
 go_wp2_with fail
 refine cm HC.out ?_
 rintro e w1 ⟨rfl, hb⟩
 have HB1 := hide hb
 clear hb HC
 go_wp2_with fail
 go_ret
 exact ⟨rfl, HB1.out⟩
theorem hfr_some (s : ByteArray) (t : Tr) (w : World) (hc : t.count ≤ 1500) (hi : t.ill = 0) (hz : t.pz = 0) (h : Calls Tryz.prog 19 #[.string s] w (BoPost (some t) w)) : Calls Tryz.prog 8 #[.string s] w fun e w' => e = .returned (.bool true) ∧ Below w.heap.size w w' := by
 have HC := hide h
 have hfl : (freeOf (frF t.count t (fun _ => 0))).length ≤ 1500 := by
  rw [free_eq t hi hz, sortB_len]; have h1 := once_len (rlF t.count t []); have h2 := rlF_len t.count t []; omega
 clear h
 go_enter Tryz.func8, Tryz.ntmps8
 go_wp2_with fail
 refine cm HC.out ?_
 rintro e w1 ⟨p, q, rfl, hnp, hnq, hb⟩
 have HB1 := hide hb
 have HNQ := hide (NAt.nt hnq)
 have HC1 := hide (hfree_any t p w1 (NAt.nt hnp) hi hc)
 have HRF : Hid (∀ X, Below w1.heap.size w1 X → Calls Tryz.prog 38 #[nPtr q] X fun e w' => (∃ u, e = .returned u ∧ SRow 0 w' u (freeOf (frF t.count t (fun _ => 0)))) ∧ Below X.heap.size X w') := fun X hX => by
  rw [free_eq t hi hz]; exact rfree_any t q X (HNQ.out.later hX) hi hc
 clear hb HC hnp hnq hi hz hc
 generalize freeOf (frF t.count t (fun _ => 0)) = A at HC1 HRF hfl
 go_wp2_with fail
 refine cm HC1.out ?_
 rintro e w2 ⟨⟨u2, rfl, hr2⟩, hb2⟩
 obtain ⟨a2, c2, rfl⟩ := srow_form hr2
 have HR2 := hide hr2
 have HB2 := hide hb2
 clear HC1 hr2 hb2
 go_wp2_with fail
 refine cm (unhide HRF w2 HB2.out) ?_
 rintro e w3 ⟨⟨u3, rfl, hr3⟩, hb3⟩
 obtain ⟨a3, c3, rfl⟩ := srow_form hr3
 have HB3 := hide (HB2.out.trans (hb3.mono HB2.out.size))
 have HC3 := hide (sameT_any A _ _ w3 (SRow.later HR2.out hb3) hr3 (by omega))
 clear hr3 hb3 HRF
 go_wp2_with fail
 refine cm HC3.out ?_
 rintro e w4 ⟨rfl, hb4⟩
 have HB4 := hide (HB3.out.trans (hb4.mono HB3.out.size))
 clear HC3 hb4
 go_wp2_with fail
 go_ret
 exact ⟨rfl, HB1.out.trans (HB4.out.mono HB1.out.size)⟩
theorem hfr_any (ws gs : List ByteArray) (s : ByteArray) (w : World) (hL : Lists ws gs w) (hT : Tabs w) (hR : RefLists ws w) (hg : gs = signsS) (hws : ∀ x ∈ ws, sgP 2 x = none) : Calls Tryz.prog 8 #[.string s] w fun e w' => e = .returned (.bool true) ∧ Below w.heap.size w w' := by
 have hb := both_any ws gs s w hL hT hR hg hws
 cases h : bothS ws s with
 | none => rw [h] at hb; exact hfr_none s w hb
 | some t =>
  rw [h] at hb; have h1 := bothS_count hg hws h; exact hfr_some s t w h1.1 (parse_ill h1.2.2) (parse_pz h1.2.2) hb
end Go.Proofs.YtodmgaikhbmlnaaGreatDoor
