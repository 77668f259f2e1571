/-
  Maps of texts: what is found, and what is put in the place of another.
-/
import Derived.Test.YtodmgaikhbmlnaaGreatDoorHk17
set_option maxRecDepth 100000
set_option maxHeartbeats 16000000
namespace Go.Proofs.YtodmgaikhbmlnaaGreatDoor
open Go.RowKit
theorem lookup_one (T E : TypeId) (m k : Nat) (l : List (ByteArray × Value)) (s : ByteArray) (z : Value) (W : World) (hT : Tryz.prog.underlying T = some (.map 9 E)) (hm : W.heap[m]? = some (.map (mapOf l) k)) (hz : (zeroValue E).run Tryz.prog W = .ok z W) :
  (Instr.lookup T (.map (some m)) (.string s) false).run Tryz.prog W = .ok (((l.find? (fun e => decide (s = e.1))).map (·.2)).getD z) W := by
 obtain ⟨o, h1, h2⟩ := find_ents s l 0 0
 have h9 := Tryz.underlying9
 have h3 : (Instr.findKey 9 (.string s) (mapOf l).toList).run Tryz.prog W = .ok o W := by
  unfold Instr.findKey; rw [Sem.run_bind, run_underlying h9 W]; simp only [Result.andThen_ok, mapOf]; rw [h1]; rfl
 unfold Instr.lookup
 rw [Sem.run_bind, run_underlying hT W]
 have hck : ∀ b, (Instr.checkKey b 10000 9 (.string s)).run Tryz.prog W = .ok () W := by
  intro b; rw [Instr.checkKey, Sem.run_bind, run_underlying h9 W]; rfl
 have hg : (getObj m).run Tryz.prog W = .ok (.map (mapOf l) k) W := by simp [getObj, Sem.run, hm]
 simp only [Result.andThen_ok, Sem.run_bind, hg, Sem.run_pure, hck, h3]
 cases o with
 | none =>
  cases hf : l.find? (fun e => decide (s = e.1)) with
  | none => simp [hz]
  | some x => rw [hf] at h2; simp at h2
 | some y =>
  cases hf : l.find? (fun e => decide (s = e.1)) with
  | none => rw [hf] at h2; simp at h2
  | some x => rw [hf] at h2; simp at h2; simp [h2]
def setL (s : ByteArray) (v : Value) : List (ByteArray × Value) → List (ByteArray × Value)
 | [] => []
 | e :: l => if s = e.1 then (s, v) :: l else e :: setL s v l
theorem find_mod (s : ByteArray) (v : Value) : ∀ (l : List (ByteArray × Value)) (n i : Nat) (x : ByteArray × Value), l.find? (fun e => decide (s = e.1)) = some x →
  ∃ j y, Instr.findNow .string (.string s) ((l.zipIdx n).map mkE) i = some (some (i + j, y)) ∧ (((l.zipIdx n).map mkE).getD j ⟨.string s, v, 0⟩).key = .string s ∧ j < l.length ∧ ((l.zipIdx n).map mkE).modify j (fun e => { e with key := .string s, val := v }) = ((setL s v l).zipIdx n).map mkE
 | [], _, _, x, h => by cases h
 | e :: l, n, i, x, h => by
  simp only [List.zipIdx_cons, List.map_cons, Instr.findNow, mkE, Instr.sameNow, beq_bytes]
  by_cases hs : s = e.1
  ·
   rw [decide_eq_true hs]; refine ⟨0, e.2, rfl, by simp [hs], by simp, ?_⟩; simp only [setL, if_pos hs, List.zipIdx_cons, List.map_cons, mkE]; rfl
  ·
   rw [decide_eq_false hs]; rw [List.find?_cons, decide_eq_false hs] at h; obtain ⟨j, y, h1, h2, h3, h4⟩ := find_mod s v l (n + 1) (i + 1) x h; refine ⟨j + 1, y, ?_, ?_, by simp; omega, ?_⟩
   ·
    simp only; rw [h1, show i + 1 + j = i + (j + 1) by omega]
   ·
    simpa using h2
   ·
    simp only [setL, if_neg hs, List.zipIdx_cons, List.map_cons, List.modify_succ_cons, mkE]; rw [← h4]
theorem setL_len (s : ByteArray) (v : Value) : ∀ l : List (ByteArray × Value), (setL s v l).length = l.length
 | [] => rfl
 | e :: l => by
  rw [setL]
  split
  ·
   simp
  ·
   simp [setL_len s v l]
theorem find_setL (s x : ByteArray) (v : Value) : ∀ l : List (ByteArray × Value), (l.find? (fun e => decide (s = e.1))).isSome = true → ((setL s v l).find? (fun e => decide (x = e.1))).map (·.2) = if x = s then some v else (l.find? (fun e => decide (x = e.1))).map (·.2)
 | [], h => by cases h
 | e :: l, h => by
  rw [setL]
  by_cases hs : s = e.1
  ·
   rw [if_pos hs]; simp only [List.find?_cons]
   by_cases hx : x = s
   ·
    rw [decide_eq_true hx, if_pos hx]; rfl
   ·
    have hx2 : ¬ x = e.1 := fun e' => hx (e'.trans hs.symm); rw [decide_eq_false hx, if_neg hx, decide_eq_false hx2]
  ·
   rw [if_neg hs]; rw [List.find?_cons, decide_eq_false hs] at h; simp only [List.find?_cons]
   by_cases hx : x = e.1
   ·
    have hx2 : ¬ x = s := fun e' => hs (e'.symm.trans hx); rw [decide_eq_true hx, if_neg hx2]
   ·
    rw [decide_eq_false hx]; exact find_setL s x v l h
theorem update_old (T E : TypeId) (m k : Nat) (l : List (ByteArray × Value)) (s : ByteArray) (v : Value) (W : World) (hT : Tryz.prog.underlying T = some (.map 9 E)) (hm : W.heap[m]? = some (.map (mapOf l) k)) (x : ByteArray × Value) (hn : l.find? (fun e => decide (s = e.1)) = some x) :
  (Instr.mapUpdate T (.map (some m)) (.string s) v).run Tryz.prog W = .ok () (setMap W m (.map (mapOf (setL s v l)) k)) := by
 obtain ⟨j, y, h1, hkey, hj, h4⟩ := find_mod s v l 0 0 x hn
 have h9 := Tryz.underlying9
 have h3 : (Instr.findKey 9 (.string s) (mapOf l).toList).run Tryz.prog W = .ok (some (j, y)) W := by
  unfold Instr.findKey; rw [Sem.run_bind, run_underlying h9 W]; simp only [Result.andThen_ok, mapOf]; rw [h1, Nat.zero_add]; rfl
 have hck : ∀ b, (Instr.checkKey b 10000 9 (.string s)).run Tryz.prog W = .ok () W := by
  intro b; rw [Instr.checkKey, Sem.run_bind, run_underlying h9 W]; rfl
 have hg : (getObj m).run Tryz.prog W = .ok (.map (mapOf l) k) W := by simp [getObj, Sem.run, hm]
 have hlen : j < (mapOf l).size := by simp [mapOf]; exact hj
 have hk : ((((mapOf l)[j]?).map (·.key)).getD (.string s)) = .string s := by
  have h5 : (mapOf l)[j]? = some ((mapOf l)[j]) := Array.getElem?_eq_getElem hlen; rw [h5]; simp only [Option.map_some, Option.getD_some]; have h6 : ((l.zipIdx 0).map mkE).getD j ⟨.string s, v, 0⟩ = (mapOf l)[j] := by
   simp [mapOf, List.getD, hj]
  rw [← h6]; exact hkey
 have hst : (Instr.keyThatStays (.string s) (.string s)).run Tryz.prog W = .ok (.string s) W := by
  unfold Instr.keyThatStays; have : Instr.sameBits 10000 (.string s) (.string s) = true := by
   show (s == s) = true
   rw [beq_bytes]; exact decide_eq_true rfl
  rw [if_pos this]; rfl
 unfold Instr.mapUpdate
 rw [Sem.run_bind, run_underlying hT W]
 simp only [Result.andThen_ok, Sem.run_bind, hg, hck, h3, hk, hst]
 have h7 : (mapOf l).modify j (fun e => { e with key := .string s, val := v }) = mapOf (setL s v l) := by
  unfold mapOf; rw [← h4]; simp
 rw [h7]
 simp [setObj, Sem.run, hm, setMap]
def CMap (m : Nat) (c : ByteArray → Int) (W : World) : Prop := ∃ l : List (ByteArray × Value), W.heap[m]? = some (.map (mapOf l) l.length) ∧ l.length ≤ 60000 ∧ ∀ s, ((l.find? (fun e => decide (s = e.1))).map (·.2)).getD (.int .i64 0) = .int .i64 (c s)
theorem CMap.look {m : Nat} {c : ByteArray → Int} {W : World} (h : CMap m c W) (T : TypeId) (hT : Tryz.prog.underlying T = some (.map 9 3)) (s : ByteArray) : (Instr.lookup T (.map (some m)) (.string s) false).run Tryz.prog W = .ok (.int .i64 (c s)) W := by
 obtain ⟨l, h1, _, h2⟩ := h
 rw [lookup_one T 3 m l.length l s (.int .i64 0) W hT h1 (by kernel_rfl), h2]
theorem add_mem {l : List ByteArray} {s x : ByteArray} : x ∈ addB l s ↔ x ∈ l ∨ x = s := by
 unfold addB
 split
 ·
  rename_i h
  constructor
  ·
   exact Or.inl
  ·
   rintro (h1 | rfl)
   ·
    exact h1
   ·
    exact hasB_iff.1 h
 ·
  simp
theorem fold_mem : ∀ (l acc : List ByteArray) (x : ByteArray), x ∈ l.foldl addB acc ↔ x ∈ acc ∨ x ∈ l
 | [], acc, x => by simp
 | s :: l, acc, x => by
  rw [List.foldl_cons, fold_mem l, add_mem]; simp [or_assoc]
theorem once_mem {l : List ByteArray} {x : ByteArray} : x ∈ onceL l ↔ x ∈ l := by rw [onceL, fold_mem]; simp
theorem addB_in {l : List ByteArray} {x : ByteArray} (h : x ∈ l) : addB l x = l := by unfold addB; rw [if_pos (hasB_iff.2 h)]
def RvAt (m : Nat) : Prop := ∀ (t : Tr), t.count ≤ m → t.count ≤ 20000 → ∀ (p : Nat) (w : World), NTr w t p →
  Calls Tryz.prog 30 #[nPtr p] w fun e w' => (∃ u, e = .returned u ∧ SRow w.heap.size w' u (varsT t)) ∧ Below w.heap.size w w'
theorem cellR {w : World} {b o : Nat} {v : Value} (h : w.cell? ⟨b, o, none⟩ = some v) : b < w.heap.size := by
 rcases Nat.lt_or_ge b w.heap.size with h1 | h1
 ·
  exact h1
 ·
  have h2 : w.heap[b]? = none := Array.getElem?_eq_none h1; simp [World.cell?, h2] at h
theorem keepR {w X : World} {b o : Nat} {v : Value} (hb : Below w.heap.size w X) (h : w.cell? ⟨b, o, none⟩ = some v) : X.cell? ⟨b, o, none⟩ = some v :=
 (World.cell?_of_block (w := w) (a := ⟨b, o, none⟩) (hb.block b (cellR h))).trans h
def NRow0 (w0 : World) (B : Nat) (w : World) (v : Value) (ts : List Tr) : Prop := ∃ ps : List Nat, w.ownsRow B 22 1 v ps.length (ps.map nPtr) ∧ NAts (fun _ => True) w0 ts ps
theorem NRow0.row {w0 w : World} {B : Nat} {v : Value} {ts : List Tr} (h : NRow0 w0 B w v ts) (hb : Below w0.heap.size w0 w) : NRow B w v ts := by
 obtain ⟨ps, h1, h2⟩ := h
 exact ⟨ps, h1, NAts.later (Below.stay hb) _ _ h2⟩
theorem NRow0.low {w0 w : World} {B B' : Nat} {v : Value} {ts : List Tr} (h : NRow0 w0 B w v ts) (hB : B' ≤ B) : NRow0 w0 B' w v ts := by
 obtain ⟨ps, h1, h2⟩ := h
 refine ⟨ps, ⟨h1.1, ?_⟩, h2⟩
 rcases h1.2 with hn | ⟨g, cap, cur, hv, hb, rest⟩
 ·
  exact Or.inl hn
 ·
  exact Or.inr ⟨g, cap, cur, hv, by omega, rest⟩
theorem NRow0.form {w0 w : World} {B : Nat} {v : Value} {ts : List Tr} (h : NRow0 w0 B w v ts) : ∃ a cap, v = .slice a ts.length cap := by
 obtain ⟨ps, h1, h2⟩ := h
 rw [← NAts.length _ _ h2]
 exact row_shut h1
theorem NRow0.later {w0 w w' : World} {B : Nat} {v : Value} {ts : List Tr} (h : NRow0 w0 B w v ts) (hb : Below w.heap.size w w') : NRow0 w0 B w' v ts := by
 obtain ⟨ps, h1, h2⟩ := h
 exact ⟨ps, owns_stay (I := fun _ => True) (Below.stay hb) (fun _ _ => trivial) h1, h2⟩
def ofK (zs : List Int) (k : Tr) : List Tr := (zs.filter fun z => k.kd == z).map fun _ => k
def ofKs (zs : List Int) : List Tr → List Tr
 | [] => []
 | k :: ks => ofK zs k ++ ofKs zs ks
def NMap (m : Nat) (c : ByteArray → Int) (W : World) : Prop := ∃ l : List (ByteArray × Value), W.heap[m]? = some (.map (mapOf l) l.length) ∧ ∀ s, ((l.find? (fun e => decide (s = e.1))).map (·.2)).getD (.int .i64 0) = .int .i64 (c s)
theorem NMap.look {m : Nat} {c : ByteArray → Int} {W : World} (h : NMap m c W) (s : ByteArray) : (Instr.lookup 98 (.map (some m)) (.string s) false).run Tryz.prog W = .ok (.int .i64 (c s)) W := by
 obtain ⟨l, h1, h2⟩ := h
 rw [lookup_one 98 3 m l.length l s (.int .i64 0) W Tryz.underlying98 h1 (by kernel_rfl), h2]
theorem NMap.lt {m : Nat} {c : ByteArray → Int} {W : World} (h : NMap m c W) : m < W.heap.size := by
 obtain ⟨l, h1, _⟩ := h
 exact lt_of_heap h1
theorem NMap.later {m : Nat} {c : ByteArray → Int} {W X : World} (h : NMap m c W) (hb : X.heap[m]? = W.heap[m]?) : NMap m c X := by
 obtain ⟨l, h1, h2⟩ := h
 exact ⟨l, hb.trans h1, h2⟩
def updC (c : ByteArray → Int) (s : ByteArray) (v : Int) : ByteArray → Int := fun x => if x = s then v else c x
theorem NMap.put {m : Nat} {c : ByteArray → Int} {W : World} (h : NMap m c W) (s : ByteArray) (v : Int) : ∃ W2, (Instr.mapUpdate 98 (.map (some m)) (.string s) (.int .i64 v)).run Tryz.prog W = .ok () W2 ∧ NMap m (updC c s v) W2 ∧ W2.heap.size = W.heap.size ∧ (∀ k, k ≠ m → W2.heap[k]? = W.heap[k]?) ∧ W2.os = W.os ∧ W2.tape = W.tape ∧ W2.output = W.output := by
 have hlt := h.lt
 obtain ⟨l, h1, h2⟩ := h
 cases hf : l.find? (fun e => decide (s = e.1)) with
 | none =>
  refine ⟨_, update_new 98 3 m l s (.int .i64 v) W Tryz.underlying98 h1 hf, ⟨l ++ [(s, .int .i64 v)], by rw [setMap_at hlt]; simp, fun x => ?_⟩, setMap_size _ _ _, fun k hk => setMap_other hk, rfl, rfl, rfl⟩
  rw [List.find?_append]; unfold updC
  by_cases hx : x = s
  ·
   subst hx; rw [hf, if_pos rfl]; simp
  ·
   rw [if_neg hx, ← h2 x]
   cases hfx : l.find? (fun e => decide (x = e.1)) with
   | some y => rfl
   | none => simp [hx]
 | some y =>
  refine ⟨_, update_old 98 3 m l.length l s (.int .i64 v) W Tryz.underlying98 h1 y hf, ⟨setL s (.int .i64 v) l, by rw [setMap_at hlt, setL_len], fun x => ?_⟩, setMap_size _ _ _, fun k hk => setMap_other hk, rfl, rfl, rfl⟩
  rw [find_setL s x _ l (by rw [hf]; rfl)]
  unfold updC
  by_cases hx : x = s
  ·
   rw [if_pos hx, if_pos hx]; rfl
  ·
   rw [if_neg hx, if_neg hx]; exact h2 x
def occ (ns : List ByteArray) (x : ByteArray) : Int := ((ns.filter fun y => decide (x = y)).length : Int)
def addC (c : ByteArray → Int) (ns : List ByteArray) (b : Int) : ByteArray → Int := fun x => c x + b * occ ns x
theorem occ_snoc (ns : List ByteArray) (y x : ByteArray) : occ (ns ++ [y]) x = occ ns x + if x = y then 1 else 0 := by
 unfold occ
 rw [List.filter_append, List.length_append]
 by_cases h : x = y
 all_goals
  simp [h]
theorem occ_le (ns : List ByteArray) (x : ByteArray) : 0 ≤ occ ns x ∧ occ ns x ≤ ns.length := by
 unfold occ
 have := List.length_filter_le (fun y => decide (x = y)) ns
 omega
theorem occ_pos (ns : List ByteArray) (x : ByteArray) : 0 < occ ns x ↔ x ∈ ns := by
 unfold occ
 constructor
 ·
  intro h; have h1 : 0 < (ns.filter fun y => decide (x = y)).length := by omega
  obtain ⟨y, hy⟩ := List.exists_mem_of_length_pos h1; have h2 := List.mem_filter.1 hy; have h3 : x = y := of_decide_eq_true h2.2; rw [h3]; exact h2.1
 ·
  intro h; have h1 : x ∈ ns.filter fun y => decide (x = y) := List.mem_filter.2 ⟨h, decide_eq_true rfl⟩; have := List.length_pos_of_mem h1; omega
theorem addC_snoc (c : ByteArray → Int) (ns : List ByteArray) (y : ByteArray) (b : Int) (hb : b = 1 ∨ b = -1) : addC c (ns ++ [y]) b = updC (addC c ns b) y (addC c ns b y + b) := by
 funext x
 unfold addC updC
 rw [occ_snoc]
 by_cases h : x = y
 ·
  subst h; simp
  rcases hb with rfl | rfl <;> omega
 ·
  simp [h]
theorem addC_back (c : ByteArray → Int) (ns : List ByteArray) : addC (addC c ns 1) ns (-1) = c := by
 funext x
 unfold addC
 omega
theorem addC_nil (c : ByteArray → Int) (b : Int) : addC c [] b = c := by
 funext x
 simp [addC, occ]
theorem wrap_small {a : Int} (h1 : -4000000000 ≤ a) (h2 : a ≤ 4000000000) : IntKind.i64.wrap a = a := by
 simp [IntKind.wrap, IntKind.bits, IntKind.signed]
 omega
theorem Ap.put {m B : Nat} {w W W2 : World} (h : Ap m B w W) (h1 : W2.heap.size = W.heap.size) (h2 : ∀ k, k ≠ m → W2.heap[k]? = W.heap[k]?) (h3 : W2.os = W.os) (h4 : W2.tape = W.tape) (h5 : W2.output = W.output) : Ap m B w W2 :=
 ⟨h3.trans h.os, h4.trans h.tape, h5.trans h.output, by rw [h1]; exact h.size, fun k hk hr => (h2 k hr).trans (h.block k hk hr)⟩
theorem count_any (m : Nat) (c : ByteArray → Int) (ns : List ByteArray) (b : Int) (hb : b = 1 ∨ b = -1) (v : Value) (w : World) {B : Nat} (hM : NMap m c w) (h : SRow B w v ns) (hn : v.ownBlock ≠ some m) (hl : ns.length ≤ 100000) (hc : ∀ x, -1000000000 ≤ c x ∧ c x ≤ 1000000000) :
  Calls Tryz.prog 75 #[.map (some m), v, .int .i64 b] w fun e w' => e = .returned (.tuple #[]) ∧ NMap m (addC c ns b) w' ∧ Ap m w.heap.size w w' ∧ w'.heap.size = w.heap.size := by
 obtain ⟨va, vc, rfl⟩ := srow_form h
 have HR := hide h
 have HM := hide hM
 have HN := hide hn
 have HCC := hide hc
 have HBB := hide hb
 clear h hM hn hc hb
 go_enter Tryz.func75, Tryz.ntmps75
 go_wp2_with fail
 go_loopw [10] (fun j wr => ∃ k : Nat, k ≤ ns.length ∧ j = .int .i64 k ∧ NMap m (addC c (ns.take k) b) wr ∧ Ap m w.heap.size w wr ∧ wr.heap.size = w.heap.size) (fun j _ => ns.length - (intOf j).toNat)
 case atStart => exact ⟨0, Nat.zero_le _, rfl, by rw [List.take_zero, addC_nil]; exact HM.out, Ap.refl _ _ _, rfl⟩
 case round =>
  obtain ⟨k, hk, rfl, hmk, hap, hsz⟩ := hrel; have HMK := hide hmk; have HAP := hide hap; have HSZ := hide hsz; clear hmk hap hsz
  by_cases hlt : k < ns.length
  ·
   obtain ⟨g, cap, hv, hg, _, hc0⟩ := srow_cell HR.out k hlt; simp only [Value.slice.injEq] at hv; obtain ⟨rfl, _, rfl⟩ := hv; have hgm : g ≠ m := fun e => unhide HN (by rw [e]; rfl)
   have hcc : wr.cell? ⟨g, k, none⟩ = some (.string ns[k]) := by rw [HAP.out.cell (p := ⟨g, k, none⟩) hg hgm]; exact hc0
   have hgr := cellR hcc; have hki : (k : Int) < (ns.length : Int) := by omega
   have HTK : Hid (addC c (ns.take (k + 1)) b = updC (addC c (ns.take k) b) ns[k] (addC c (ns.take k) b ns[k] + b)) := by
    show _ = _
    rw [List.take_succ_eq_append_getElem hlt]; exact addC_snoc _ _ _ _ HBB.out
   have hlk := HMK.out.look ns[k]; have hw : IntKind.i64.wrap (addC c (ns.take k) b ns[k] + b) = addC c (ns.take k) b ns[k] + b := by
    have h1 := unhide HCC ns[k]; have h2 := occ_le (ns.take k) ns[k]; rw [List.length_take] at h2; refine wrap_small ?_ ?_ <;> unfold addC <;> rcases unhide HBB with hb1 | hb1 <;> rw [hb1] <;> omega
   obtain ⟨W2, hup, hm2, hs2, ho2, o1, o2, o3⟩ := HMK.out.put ns[k] (addC c (ns.take k) b ns[k] + b); rw [← HTK.out] at hm2; have HM2 := hide hm2; have HA2 := hide (HAP.out.put hs2 ho2 o1 o2 o3)
   have HS2 := hide (hs2.trans HSZ.out)
   generalize addC c (ns.take k) b ns[k] = z at hlk hup hw
   generalize ns[k] = x at hcc hlk hup
   clear hm2 hs2 ho2 o1 o2 o3 hc0; go_wp2_with fail
   go_roundw
   case rel => exact ⟨k + 1, by omega, by go_num, HM2.out, HA2.out, HS2.out⟩
   case measure => simp [intOf]; omega
  ·
   have hkk : k = ns.length := by omega
   subst hkk; go_wp2_with fail
   go_end0
   have h := unhide HMK; rw [List.take_length] at h; exact ⟨rfl, h, HAP.out, HSZ.out⟩
theorem step_app_row {P : Program} {w : World} {ops : Array Oper} {o : Oper} {a : Act} {K : Act → World → Prop} {Q : Exit → Act → World → Prop} {E : Prop} (hgd : o.guard = none) (s x : Operand) (t : TypeId)
  (ho : o.op = .call { callee := .builtin .append, args := #[s, x], argTypes := #[t, t] })
  (base B2 : Nat) (e : TypeId) (i : TypeInfo) (z : Value) (bytes : Nat) (ht : P.underlying t = some (.slice e)) (hi : P.info? e = some i) (hz : i.zero = some z)
  (hsize : i.size = 1) (hby : i.bytes = bytes) (hzs : z.cells.size = 1)
  (v : Value) (n : Nat) (xs : List Value) (hs : a.eval s = v) (hown : w.ownsRow base e 1 v n xs)
  (v2 : Value) (m : Nat) (news : List Value) (hx : a.eval x = v2) (hown2 : w.ownsRow B2 e 1 v2 m news) (h1 : ∀ u ∈ news, u.oneCell' = true)
  (h63 : n + m ≤ maxLen) (hbytes : (n + m) * bytes ≤ 140737488355328) (hbase : base ≤ w.heap.size)
  (h : ∀ v' w', w'.ownsRow base e 1 v' (n + m) (xs ++ news) → w.grownBy w' v.ownBlock → K (a.put o.dst v') w') : if Region.wanted o (yielded ops a.tmps) = true then Oper.wp P o a w K Q else E := by
 rcases Nat.eq_zero_or_pos m with rfl | hm
 ·
  have hw : Region.wanted o (yielded ops a.tmps) = true := by simp [Region.wanted, hgd]
  rw [if_pos hw]; have hnews : news = [] := List.length_eq_zero_iff.1 (by rw [hown2.1]); subst hnews; obtain ⟨ad, k, rfl⟩ := srow_form hown2
  have hk := h v w (by rw [List.append_nil]; exact hown) ⟨rfl, rfl, rfl, Nat.le_refl _, fun _ _ _ => rfl⟩
  have hrun := run_app_none (P := P) (w := w) base t o.type e i 1 ht hi v n xs hown ad k; unfold Oper.wp; simp [execOp, ho, resolve, invoke, builtin, hs, hx, hrun, Result.andThen]; exact hk
 ·
  obtain ⟨g, cap, rfl, _, _⟩ := hown2.form hm
  refine step_append_lies w hgd s x t ho base e i z 1 bytes ht hi hz hsize hby hzs (by decide) v n xs hs hown ⟨g, 0, none⟩ m cap news hx hown2.1 (fun j u hj => ?_) h1 hm h63 hbytes hbase _ rfl (fun g' cap' w' a b _ _ => h _ _ a b)
  have hl : j < m * 1 := by
   rw [← hown2.1]; exact (List.getElem?_eq_some_iff.1 hj).1
  have h4 : (⟨g, 0, none⟩ : Addr).add j = ⟨g, j, none⟩ := by simp [Addr.add]; exact Eq.symm
  rw [h4, hown2.cellAt j hl]; exact hj
theorem kid_at {I : Nat → Prop} {w : World} {t : Tr} {p g n cap k q : Nat} (h : NAt I w t p) (c3 : w.cell? ⟨p, 3, none⟩ = some (.slice (some ⟨g, 0, none⟩) n cap)) (ck : w.cell? ⟨g, k, none⟩ = some (nPtr q)) (hk : k < t.kids.length) : NAt I w t.kids[k] q := by
 obtain ⟨u, ps, hb, hr, _, hks⟩ := h.opens2
 have hl := NAts.length _ _ hks
 obtain ⟨_, _, _, c3', _⟩ := node_cells hb
 rw [c3] at c3'
 have hu := Option.some.inj c3'
 obtain ⟨g', cap', hv, hcell⟩ := row_open hr (by omega)
 rw [← hu] at hv
 simp only [Value.slice.injEq, Option.some.injEq, Addr.mk.injEq] at hv
 obtain ⟨⟨rfl, _, _⟩, _, rfl⟩ := hv
 obtain ⟨hkp, hn⟩ := NAts.get _ _ hks k hk
 have h1 := hcell k hkp
 rw [ck] at h1
 have h2 : q = ps[k] := by injection (Option.some.inj h1) with h3; injection h3 with h4; injection h4
 rw [h2]; exact hn
abbrev tArgF : ByteArray := ⟨#[97, 114, 103, 117, 109, 101, 110, 116, 115]⟩
def kidF (t : Tr) (k : Nat) : Tr := t.kids.getD k t
theorem kidF_eq (t : Tr) (k : Nat) (h : k < t.kids.length) : kidF t k = t.kids[k] := by simp [kidF, List.getD, h]
def declF (t : Tr) : List ByteArray := namesT (kidF t 1) true ++ (kidF t 0).kids.map Tr.tx ++ [tArgF] ++ (if t.kd == 37 then [t.tx] else [])
theorem namesF_len (t : Tr) (body : Bool) : (namesT t body).length ≤ 3 * t.count := by
 have htc : t.count = 1 + Tr.counts t.kids := by cases t with | mk kd tx nn ks => exact count_mk _ _ _ _
 have h1 := once_len ((if body then varsT t else []) ++ (fnsT t).map Tr.tx ++ (letsT t).map Tr.tx)
 have h2 := fns_len t
 have h3 := lets_len t
 have h4 := vars_len t
 have h5 := counts_len t.kids
 have h6 : (if body then varsT t else []).length ≤ Tr.counts t.kids := by
  split
  ·
   exact h4
  ·
   simp
 show (onceL _).length ≤ _
 simp only [List.length_append, List.length_map] at h1
 omega
theorem declFn_any (t : Tr) (p : Nat) (w : World) (h : NTr w t p) (hk : 2 ≤ t.kids.length) (hc : t.count ≤ 1500) :
  Calls Tryz.prog 135 #[nPtr p] w fun e w' => (∃ u q, e = .returned (.tuple #[u, nPtr q]) ∧ SRow w.heap.size w' u (declF t) ∧ (∀ I : Nat → Prop, NAt I w t p → NAt I w (kidF t 1) q)) ∧ Below w.heap.size w w' := by
 obtain ⟨i0, hi0, hz0, hz1, hz2⟩ := info_parts info9
 have htc : t.count = 1 + Tr.counts t.kids := by cases t with | mk kd tx nn ks => exact count_mk _ _ _ _
 have hkl : t.kids.length ≤ 1500 := by have := counts_len t.kids; omega
 have hk0 : (kidF t 0).count ≤ 1500 := by rw [kidF_eq t 0 (by omega)]; have := counts_le t.kids 0 (by omega); omega
 have hk1 : (kidF t 1).count ≤ 1500 := by rw [kidF_eq t 1 (by omega)]; have := counts_le t.kids 1 (by omega); omega
 have hp0 : (kidF t 0).kids.length ≤ 1500 := by
  have h2 : (kidF t 0).count = 1 + Tr.counts (kidF t 0).kids := by cases (kidF t 0) with | mk kd tx nn ks => exact count_mk _ _ _ _
  have := counts_len (kidF t 0).kids; omega
 have hnl := namesF_len (kidF t 1) true
 obtain ⟨hpl, c0, c1, u, c3, hr⟩ := h.cells
 obtain ⟨g, cap, q0, rfl, hg, hc0, hn0⟩ := hr.cell 0 (by omega)
 obtain ⟨g', cap', q1, hv, _, hc1, hn1⟩ := hr.cell 1 (by omega)
 simp only [Value.slice.injEq, Option.some.injEq, Addr.mk.injEq] at hv
 obtain ⟨⟨rfl, _, _⟩, _, rfl⟩ := hv
 rw [← kidF_eq t 0 (by omega)] at hn0
 rw [← kidF_eq t 1 (by omega)] at hn1
 obtain ⟨hql0, _, _, u0, d3, hr0⟩ := hn0.cells
 obtain ⟨ua, uc, rfl⟩ := hr0.form
 have HN1 : Hid (∀ I : Nat → Prop, NAt I w t p → NAt I w (kidF t 1) q1) := fun I hI => by
  rw [kidF_eq t 1 (by omega)]; exact kid_at hI c3 hc1 (by omega)
 have HR0 := hide hr0
 have HNM : Hid (∀ W, Below w.heap.size w W → Calls Tryz.prog 35 #[nPtr q1, .bool true] W fun e w' => (∃ u, e = .returned u ∧ SRow W.heap.size w' u (namesT (kidF t 1) true)) ∧ Below W.heap.size W w') := fun W hW => names_any (kidF t 1) q1 true W (hn1.later hW) (by omega)
 have HTX : Hid (∀ W, Below w.heap.size w W → Calls Tryz.prog 72 #[.slice ua (kidF t 0).kids.length uc] W fun e w' => (∃ u, e = .returned u ∧ SRow W.heap.size w' u ((kidF t 0).kids.map Tr.tx)) ∧ Below W.heap.size W w') := fun W hW => texts_any (kidF t 0).kids _ W (hr0.later hW) (by omega)
 unfold declF
 obtain ⟨V, hV⟩ : ∃ V, V = namesT (kidF t 1) true := ⟨_, rfl⟩
 obtain ⟨P, hP⟩ : ∃ P, P = (kidF t 0).kids.map Tr.tx := ⟨_, rfl⟩
 have hVl : V.length ≤ 4500 := by rw [hV]; omega
 have hPl : P.length ≤ 1500 := by rw [hP, List.length_map]; exact hp0
 rw [← hV] at HNM ⊢
 rw [← hP] at HTX ⊢
 obtain ⟨VP, hVP⟩ : ∃ VP, VP = V ++ P := ⟨_, rfl⟩
 obtain ⟨VA, hVA⟩ : ∃ VA, VA = VP ++ [tArgF] := ⟨_, rfl⟩
 rw [← hVP, ← hVA]
 have hVPl : VP.length ≤ 6000 := by rw [hVP, List.length_append]; omega
 have hVAl : VA.length ≤ 6001 := by rw [hVA, List.length_append]; simp; omega
 have HVP := hide hVP
 have HVA := hide hVA
 generalize (kidF t 0).kids.length = L0 at d3 HTX hp0
 generalize t.kids.length = L at c3 hk hkl
 generalize t.kd = kd at c0
 generalize t.tx = tx at c1
 obtain ⟨D, hD⟩ : ∃ D, D = VA ++ (if kd == 37 then [tx] else []) := ⟨_, rfl⟩
 rw [← hD]
 have HD := hide hD
 clear hD
 have hL0 : ¬ L = 0 := by omega
 have hL1 : ¬ (L : Int) ≤ 1 := by omega
 clear h hr hn0 hn1 hr0 hc htc hk0 hk1 hnl hV hP hVP hVA
 have hS0 : Below w.heap.size w w.drew := (Below.refl _ _).drew
 go_enter Tryz.func135, Tryz.ntmps135
 go_wp2_with fail
 refine wp_region_held (S := fun X => X = w.drew) (by kernel_rfl) ?_
 change wpAnyH _ _ _ _ _ _ _ _ (World.drew _)
 refine wh 0 (nPtr p) rfl ?_
 refine wh 1 (nPtr p) rfl ?_
 refine wh 2 (.pointer (some ⟨p, 3, none⟩)) rfl ?_
 refine wh 3 (.slice (some ⟨g, 0, none⟩) L cap) rfl ?_ (hy := Or.inl ⟨by kernel_rfl, fun X hX => by cases hX; go_simp⟩)
 refine wh 4 (.pointer (some ⟨g, 0, none⟩)) rfl ?_
 refine wh 5 (nPtr q0) rfl ?_ (hy := Or.inl ⟨by kernel_rfl, fun X hX => by cases hX; go_simp⟩)
 refine wh 6 (nPtr p) rfl ?_
 refine wh 7 (nPtr p) rfl ?_
 refine wh 8 (.pointer (some ⟨p, 3, none⟩)) rfl ?_
 refine wh 9 (.slice (some ⟨g, 0, none⟩) L cap) rfl ?_ (hy := Or.inl ⟨by kernel_rfl, fun X hX => by cases hX; go_simp⟩)
 refine wh 10 (.pointer (some ⟨g, 1, none⟩)) rfl ?_
 refine wh 11 (nPtr q1) rfl ?_ (hy := Or.inl ⟨by kernel_rfl, fun X hX => by cases hX; go_simp⟩)
 refine wh 12 (nPtr q0) rfl ?_
 refine wh 13 (nPtr q1) rfl ?_
 refine wpAnyH_done (by kernel_rfl) ?_ _
 go_simp
 have e3 := keepR hS0 d3
 have eK := keepR hS0 c0
 have eT := keepR hS0 c1
 obtain ⟨w1, hw1⟩ : ∃ w1, w1 = w.drew := ⟨_, rfl⟩
 rw [← hw1] at hS0 e3 eK eT ⊢
 have HB1 := hide hS0
 have HE3 := hide e3
 have HEK := hide eK
 have HET := hide eT
 have hql1 := cellR e3
 have hpl1 := cellR eK
 clear hw1 hS0 c0 c1 c3 d3 hc0 hc1 e3 eK eT
 go_wp2_with fail
 have hS0 : Below w1.heap.size w1 w1.drew := (Below.refl _ _).drew
 refine wp_region_held (S := fun X => Below w1.heap.size w1 X) (by kernel_rfl) ?_
 change wpAnyH _ _ _ _ _ _ _ _ (World.drew _)
 refine wh 0 (nPtr q1) hS0 ?_
 refine wh 2 (nPtr q0) hS0 ?_
 refine wh 3 (nPtr q0) hS0 ?_
 refine wh 4 (.pointer (some ⟨q0, 3, none⟩)) hS0 ?_
 refine wh 5 (.slice ua L0 uc) hS0 ?_ (hy := Or.inl ⟨by kernel_rfl, fun X hX => by have hh := keepR hX HE3.out; go_simp⟩)
 refine wq1 1 fun K hK => ?_
 go_simp
 refine cm (HNM.out _ (HB1.out.trans (hS0.mono HB1.out.size))) ?_
 rintro e w2 ⟨⟨u2, rfl, hr2⟩, hb2⟩
 obtain ⟨a2, c2, rfl⟩ := srow_form hr2
 have hS2 : Below w1.heap.size w1 w2 := hS0.trans (hb2.mono (Nat.le_refl _))
 refine hK.out _ _ hS2 (fun _ => ?_)
 clear hK K
 refine wq1 6 fun K hK => ?_
 go_simp
 refine cm (HTX.out _ (HB1.out.trans (hS2.mono HB1.out.size))) ?_
 rintro e w3 ⟨⟨u3, rfl, hr3⟩, hb3⟩
 obtain ⟨a3, c3, rfl⟩ := srow_form hr3
 have hS3 : Below w1.heap.size w1 w3 := hS2.trans (hb3.mono hS2.size)
 refine hK.out _ _ hS3 (fun _ => ?_)
 clear hK K
 have hr2' : SRow w1.heap.size w3 (.slice a2 V.length c2) V := SRow.later hr2 hb3
 refine wq1 7 fun K hK => ?_
 refine step_app_row rfl _ _ 54 rfl w1.heap.size _ 9 i0 (.string ByteArray.empty) 16 Tryz.underlying54 hi0 hz0 hz1 hz2 rfl _ _ _ rfl hr2' _ _ _ rfl hr3 (srow_ones P) (by unfold maxLen; omega) (by omega) hS3.size ?_
 intro v4 w4 hown4 hgr4
 have hsr4 : SRow w1.heap.size w4 v4 VP := by
  show World.ownsRow _ _ _ _ _ _ _
  rw [HVP.out, List.length_append, List.map_append]; exact hown4
 have hS4 : Below w1.heap.size w1 w4 := hS3.grown hgr4 hS3.size (fun k hk => (own_lt hr2' k hk).2)
 obtain ⟨a4, c4, rfl⟩ := srow_form hsr4
 refine hK.out _ _ hS4 (fun _ => ?_)
 clear hK K
 refine wh 8 (.slice a4 VP.length c4) hS4 ?_
 refine wpAnyH_done (by kernel_rfl) ?_ _
 go_simp
 have HB4 := hide (HB1.out.trans (hS4.mono HB1.out.size))
 have HR4 := hide (srow_mono hsr4 HB1.out.size)
 have hsz4 := HB4.out.size
 have hkk4 := keepR hS4 HEK.out
 have htt4 := keepR hS4 HET.out
 have HKK4 := hide hkk4
 have HTT4 := hide htt4
 clear hb2 hb3 hr2 hr3 hr2' hS0 hS2 hS3 hS4 hown4 hgr4 hsr4 hkk4 htt4 hql1 hpl1 HNM HTX HR0 HE3 HEK HET
 go_wp2_with (at_builtin; refine wpList_append_lies _ rfl _ _ 54 rfl w.heap.size 9 i0 (.string ByteArray.empty) 1 16 Tryz.underlying54 hi0 hz0 hz1 hz2 rfl (by decide) _ _ _ rfl (HR4.out.alloc _) ⟨w4.heap.size, 0, none⟩ 1 1 [.string tArgF] rfl rfl (hoCellsS w4 tArgF _ rfl) (hoOneS tArgF) (by decide) (by unfold maxLen; omega) (by omega) (by simp; omega) (w4.heap.size + 1) (by simp) ?_)
 intro g5 cap5 w5 hown5 hgr5 _ _
 have hx5 : Below w4.heap.size w4 (w4.alloc (.cells #[.string tArgF] 9)) := (Below.refl _ _).alloc (Nat.le_refl _) _
 have HB5 := hide ((HB4.out.alloc hsz4 (.cells #[.string tArgF] 9)).grown hgr5 (by simp; omega) (fun b hb => (own_lt HR4.out b hb).2))
 have HR5 : Hid (SRow w.heap.size w5 (.slice (some ⟨g5, 0, none⟩) VA.length cap5) VA) := by
  show World.ownsRow _ _ _ _ _ _ _
  rw [HVA.out, List.length_append, List.map_append]; exact hown5
 have hob : ∀ k, (Value.slice a4 VP.length c4).ownBlock = some k → w.heap.size ≤ k := fun k hk => (own_lt HR4.out k hk).2
 have hln : VP.length + 1 = VA.length := by rw [HVA.out, List.length_append]; rfl
 have hpw : p < w.heap.size := hpl
 have e0 : w5.cell? ⟨p, 0, none⟩ = some (.int .i64 kd) := by
  have h1 := keepR hx5 HKK4.out; rw [World.cell?_of_block (w := w4.alloc (.cells #[.string tArgF] 9)) (a := ⟨p, 0, none⟩) (hgr5.block p (cellR h1) (fun e => absurd (hob p e.symm) (by omega)))]; exact h1
 have e1 : w5.cell? ⟨p, 1, none⟩ = some (.string tx) := by
  have h1 := keepR hx5 HTT4.out; rw [World.cell?_of_block (w := w4.alloc (.cells #[.string tArgF] 9)) (a := ⟨p, 1, none⟩) (hgr5.block p (cellR h1) (fun e => absurd (hob p e.symm) (by omega)))]; exact h1
 have hp5 := cellR e0
 have hsz5 := HB5.out.size
 rw [hln]
 clear hown5 hgr5 hob hx5 HKK4 HTT4 HR4 hln
 cases h37 : (kd == 37) with
 | false =>
  have HDD : Hid (D = VA) := by
   have h := unhide HD; rw [h37] at h
   show _ = _
   simpa using h
  rw [← HDD.out] at HR5 ⊢; go_wp2_with fail; exact bodyPost_ret (v := .tuple #[.slice (some ⟨g5, 0, none⟩) D.length cap5, nPtr q1]) (by simp [results, Tryz.results135, go_sem]) rfl ⟨⟨_, _, rfl, HR5.out, HN1.out⟩, HB5.out⟩
 | true =>
  have HDD : Hid (D = VA ++ [tx]) := by
   have h := unhide HD; rw [h37] at h
   show _ = _
   simpa using h
  go_wp2_with (at_builtin; refine wpList_append_lies _ rfl _ _ 54 rfl w.heap.size 9 i0 (.string ByteArray.empty) 1 16 Tryz.underlying54 hi0 hz0 hz1 hz2 rfl (by decide) _ _ _ rfl (HR5.out.alloc _) ⟨w5.heap.size, 0, none⟩ 1 1 [.string tx] rfl rfl (hoCellsS w5 tx _ rfl) (hoOneS tx) (by decide) (by unfold maxLen; omega) (by omega) (by simp; omega) (w5.heap.size + 1) (by simp) ?_)
  intro g6 cap6 w6 hown6 hgr6 _ _; have HB6 := hide ((HB5.out.alloc hsz5 (.cells #[.string tx] 9)).grown hgr6 (by simp; omega) (fun b hb => (own_lt HR5.out b hb).2))
  have HR6 : Hid (SRow w.heap.size w6 (.slice (some ⟨g6, 0, none⟩) (VA.length + 1) cap6) D) := by
   show World.ownsRow _ _ _ _ _ _ _
   rw [HDD.out, List.length_append, List.map_append]; exact hown6
  clear hown6 hgr6; go_wp2_with fail; exact bodyPost_ret (v := .tuple #[.slice (some ⟨g6, 0, none⟩) (VA.length + 1) cap6, nPtr q1]) (by simp [results, Tryz.results135, go_sem]) rfl ⟨⟨_, _, rfl, HR6.out, HN1.out⟩, HB6.out⟩
def declT (t : Tr) : Option (List ByteArray × Tr) :=
 if t.kd = 1 then some (namesT t true, t)
 else if t.kd = 6 then some (namesT t false, t)
 else if t.kd = 13 then some ([t.tx], t)
 else if t.kd = 5 ∨ t.kd = 37 then some (declF t, kidF t 1)
 else none
def DePost (t : Tr) (p : Nat) (r : Option (List ByteArray × Tr)) (w : World) (e : Ending) (w' : World) : Prop :=
 match r with
 | some (ns, s) => (∃ u q, e = .returned (.tuple #[u, nPtr q]) ∧ SRow w.heap.size w' u ns ∧ (∀ I : Nat → Prop, NAt I w t p → NAt I w s q)) ∧ Below w.heap.size w w'
 | none => e = .returned (.tuple #[.slice none 0 0, .pointer none]) ∧ Below w.heap.size w w'
section
variable (t : Tr) (p : Nat) (w : World) (h : NTr w t p) (hc : t.count ≤ 1500)
include h
include hc in
theorem de_names (kd : Int) (b : Bool) (hk : (kd = 1 ∧ b = true) ∨ (kd = 6 ∧ b = false)) (hkd : t.kd = kd) : Calls Tryz.prog 74 #[nPtr p] w (DePost t p (some (namesT t b, t)) w) := by
 obtain ⟨hpl, c0, _, _⟩ := h.cells
 rw [hkd] at c0
 have HN : Hid (∀ I : Nat → Prop, NAt I w t p → NAt I w t p) := fun _ h => h
 have HC := hide (names_any t p b w h (by omega))
 clear h hc hkd
 rcases hk with ⟨rfl, rfl⟩ | ⟨rfl, rfl⟩ <;>
 ·
  go_enter Tryz.func74, Tryz.ntmps74; go_wp2_with fail; refine cm HC.out ?_; rintro e w1 ⟨⟨u, rfl, hr⟩, hb⟩; obtain ⟨ua, uc, rfl⟩ := srow_form hr; have HR := hide hr; have HB := hide hb; clear HC hr hb; go_wp2_with fail
  exact bodyPost_ret (v := .tuple #[_, nPtr p]) (by simp [results, Tryz.results74, go_sem]) rfl ⟨⟨_, _, rfl, HR.out, HN.out⟩, HB.out⟩
theorem de_catch (hkd : t.kd = 13) : Calls Tryz.prog 74 #[nPtr p] w (DePost t p (some ([t.tx], t)) w) := by
 obtain ⟨hpl, c0, c1, _⟩ := h.cells
 rw [hkd] at c0
 have HN : Hid (∀ I : Nat → Prop, NAt I w t p → NAt I w t p) := fun _ h => h
 clear h hkd
 generalize htx : t.tx = tx at c1
 go_enter Tryz.func74, Tryz.ntmps74
 go_wp2_with fail
 exact bodyPost_ret (v := .tuple #[_, nPtr p]) (by simp [results, Tryz.results74, go_sem]) rfl ⟨⟨_, _, rfl, World.ownsRow_lit w #[.string tx] 1 (Nat.le_refl _) (by decide) rfl, HN.out⟩, (Below.refl _ _).alloc (Nat.le_refl _) _⟩
include hc in
theorem de_fn (kd : Int) (hk : kd = 5 ∨ kd = 37) (hkd : t.kd = kd) (h2 : 2 ≤ t.kids.length) : Calls Tryz.prog 74 #[nPtr p] w (DePost t p (some (declF t, kidF t 1)) w) := by
 obtain ⟨hpl, c0, _, _⟩ := h.cells
 rw [hkd] at c0
 have HC := hide (declFn_any t p w h h2 hc)
 clear h hc hkd
 rcases hk with rfl | rfl <;>
 ·
  go_enter Tryz.func74, Tryz.ntmps74; go_wp2_with fail; refine cm HC.out ?_; rintro e w1 ⟨⟨u, q, rfl, hr, hq⟩, hb⟩; obtain ⟨ua, uc, rfl⟩ := srow_form hr; have HR := hide hr; have HQ := hide hq; have HB := hide hb
  clear HC hr hb hq; go_wp2_with fail; exact bodyPost_ret (v := .tuple #[_, nPtr q]) (by simp [results, Tryz.results74, go_sem]) rfl ⟨⟨_, _, rfl, HR.out, HQ.out⟩, HB.out⟩
theorem de_none (hno : t.kd ≠ 1 ∧ t.kd ≠ 6 ∧ t.kd ≠ 13 ∧ t.kd ≠ 5 ∧ t.kd ≠ 37) : Calls Tryz.prog 74 #[nPtr p] w (DePost t p none w) := by
 obtain ⟨hpl, c0, _, _⟩ := h.cells
 clear h
 generalize t.kd = kd at c0 hno
 obtain ⟨n1, n6, n13, n5, n37⟩ := hno
 have m1 : (kd == 1) = false := by simpa using n1
 have m6 : (kd == 6) = false := by simpa using n6
 have m13 : (kd == 13) = false := by simpa using n13
 have m5 : (kd == 5) = false := by simpa using n5
 have m37 : (kd == 37) = false := by simpa using n37
 clear n1 n6 n13 n5 n37
 go_enter Tryz.func74, Tryz.ntmps74
 go_wp2_with fail
 exact bodyPost_ret (v := .tuple #[.slice none 0 0, .pointer none]) (by simp [results, Tryz.results74, go_sem]) rfl ⟨rfl, Below.refl _ _⟩
include hc in
theorem declared_any (hill : need t.kd ≤ t.kids.length) : Calls Tryz.prog 74 #[nPtr p] w (DePost t p (declT t) w) := by
 unfold declT
 by_cases k1 : t.kd = 1
 ·
  rw [if_pos k1]; exact de_names t p w h hc 1 true (Or.inl ⟨rfl, rfl⟩) k1
 rw [if_neg k1]
 by_cases k6 : t.kd = 6
 ·
  rw [if_pos k6]; exact de_names t p w h hc 6 false (Or.inr ⟨rfl, rfl⟩) k6
 rw [if_neg k6]
 by_cases k13 : t.kd = 13
 ·
  rw [if_pos k13]; exact de_catch t p w h k13
 rw [if_neg k13]
 by_cases k5 : t.kd = 5 ∨ t.kd = 37
 ·
  rw [if_pos k5]; have hn : need t.kd = 2 := by unfold need; rw [if_pos k5]
  rcases k5 with k | k
  ·
   exact de_fn t p w h hc 5 (Or.inl rfl) k (by omega)
  ·
   exact de_fn t p w h hc 37 (Or.inr rfl) k (by omega)
 rw [if_neg k5]
 exact de_none t p w h ⟨k1, k6, k13, fun e => k5 (Or.inl e), fun e => k5 (Or.inr e)⟩
end
abbrev lookV (bM bF bL : Nat) : Value := .func (.func 73) #[] #[.pointer (some ⟨bM, 0, none⟩), .pointer (some ⟨bF, 0, none⟩), .pointer (some ⟨bL, 0, none⟩)]
structure FrSt (Pd : Nat → Prop) (bM bF bL m : Nat) (c : ByteArray → Int) (fl : List ByteArray) (v : Value) (w : World) : Prop where
 hM : w.heap[bM]? = some (.cells #[.map (some m)] 98 (0, 0))
 hL : w.heap[bL]? = some (.cells #[lookV bM bF bL] 35 (0, 0))
 hF : w.heap[bF]? = some (.cells #[v] 54 (0, 0))
 nm : NMap m c w
 row : SRow 0 w v fl
 pM : Pd bM
 pL : Pd bL
 nF : ¬ Pd bF
 nm2 : ¬ Pd m
 fm : bF ≠ m
 own : ∀ b, v.ownBlock = some b → ¬ Pd b ∧ b ≠ bF ∧ b ≠ m
structure Fz (Pd : Nat → Prop) (v v' : Value) (w w' : World) : Prop where
 os : w'.os = w.os
 tape : w'.tape = w.tape
 output : w'.output = w.output
 size : w.heap.size ≤ w'.heap.size
 stay : Stay Pd w w'
 near : ∀ b, v'.ownBlock = some b → v.ownBlock = some b ∨ w.heap.size ≤ b
theorem Fz.refl (Pd : Nat → Prop) (v : Value) (w : World) : Fz Pd v v w w := ⟨rfl, rfl, rfl, Nat.le_refl _, fun _ _ _ => rfl, fun _ h => Or.inl h⟩
theorem Fz.trans {Pd : Nat → Prop} {v v' v'' : Value} {a b c : World} (h : Fz Pd v v' a b) (k : Fz Pd v' v'' b c) : Fz Pd v v'' a c :=
 ⟨k.os.trans h.os, k.tape.trans h.tape, k.output.trans h.output, Nat.le_trans h.size k.size, fun x hx hl => (k.stay x hx (Nat.lt_of_lt_of_le hl h.size)).trans (h.stay x hx hl), fun x hx => by
  rcases k.near x hx with h1 | h1
  ·
   exact h.near x h1
  ·
   exact Or.inr (Nat.le_trans h.size h1)⟩
theorem Fz.drew {Pd : Nat → Prop} {v v' : Value} {a b : World} (h : Fz Pd v v' a b) : Fz Pd v v' a b.drew := ⟨h.os, h.tape, h.output, h.size, h.stay, h.near⟩
theorem Fz.mono {Pd Pe : Nat → Prop} {v v' : Value} {a b : World} (h : Fz Pd v v' a b) (hp : ∀ x, Pe x → Pd x) : Fz Pe v v' a b := ⟨h.os, h.tape, h.output, h.size, fun x hx => h.stay x (hp x hx), h.near⟩
theorem Fz.of {Pd : Nat → Prop} {v : Value} {a b : World} (h : Below a.heap.size a b) : Fz Pd v v a b := ⟨h.os, h.tape, h.output, h.size, fun x _ hl => h.block x hl, fun _ h => Or.inl h⟩
theorem FrSt.later {Pd : Nat → Prop} {bM bF bL m : Nat} {c : ByteArray → Int} {fl : List ByteArray} {v : Value} {w X : World} (h : FrSt Pd bM bF bL m c fl v w) (hb : Below w.heap.size w X) : FrSt Pd bM bF bL m c fl v X :=
 ⟨(hb.block bM (lt_of_heap h.hM)).trans h.hM, (hb.block bL (lt_of_heap h.hL)).trans h.hL, (hb.block bF (lt_of_heap h.hF)).trans h.hF, h.nm.later (hb.block m h.nm.lt), SRow.later h.row hb, h.pM, h.pL, h.nF, h.nm2, h.fm, h.own⟩
theorem FrSt.mono {Pd Pe : Nat → Prop} {bM bF bL m : Nat} {c : ByteArray → Int} {fl : List ByteArray} {v : Value} {w : World} (h : FrSt Pd bM bF bL m c fl v w) (hp : ∀ x, Pd x → Pe x) (h1 : ¬ Pe bF) (h2 : ¬ Pe m) (h3 : ∀ b, v.ownBlock = some b → ¬ Pe b) : FrSt Pe bM bF bL m c fl v w :=
 ⟨h.hM, h.hL, h.hF, h.nm, h.row, hp _ h.pM, hp _ h.pL, h1, h2, h.fm, fun b hb => ⟨h3 b hb, (h.own b hb).2⟩⟩
theorem FrSt.counted {Pd : Nat → Prop} {bM bF bL m : Nat} {c c' : ByteArray → Int} {fl : List ByteArray} {v : Value} {w X : World} (h : FrSt Pd bM bF bL m c fl v w) (ha : Ap m w.heap.size w X) (hn : NMap m c' X) : FrSt Pd bM bF bL m c' fl v X ∧ Fz Pd v v w X := by
 have hMm : bM ≠ m := fun e => h.nm2 (e ▸ h.pM)
 have hLm : bL ≠ m := fun e => h.nm2 (e ▸ h.pL)
 refine ⟨⟨(ha.block bM (lt_of_heap h.hM) hMm).trans h.hM, (ha.block bL (lt_of_heap h.hL) hLm).trans h.hL, (ha.block bF (lt_of_heap h.hF) h.fm).trans h.hF, hn, ?_, h.pM, h.pL, h.nF, h.nm2, h.fm, h.own⟩, ha.os, ha.tape, ha.output, ha.size, fun x hx hl => ha.block x hl (fun e => h.nm2 (e ▸ hx)), fun _ h => Or.inl h⟩
 exact owns_stay (I := fun x => x ≠ m) (fun x hx hl => ha.block x hl hx) (fun g hg => (h.own g hg).2.2) h.row
theorem FrSt.push {Pd : Nat → Prop} {bM bF bL m g cap n : Nat} {c : ByteArray → Int} {fl : List ByteArray} {s : ByteArray} {v : Value} {wd w3 : World} (h : FrSt Pd bM bF bL m c fl v wd) (hn : n = fl.length + 1)
  (hown3 : w3.ownsRow 0 9 1 (.slice (some ⟨g, 0, none⟩) n cap) n (fl.map Value.string ++ [.string s])) (hgr : (wd.alloc (.cells #[.string s] 9)).grownBy w3 v.ownBlock) (hg : v.ownBlock = some g ∨ g = wd.heap.size + 1) (hPd : ∀ b, Pd b → b < wd.heap.size) :
  FrSt Pd bM bF bL m c (fl ++ [s]) (.slice (some ⟨g, 0, none⟩) n cap) (w3.setCell ⟨bF, 0, none⟩ (.slice (some ⟨g, 0, none⟩) n cap)) ∧ Fz Pd v (.slice (some ⟨g, 0, none⟩) n cap) wd (w3.setCell ⟨bF, 0, none⟩ (.slice (some ⟨g, 0, none⟩) n cap)) := by
 subst hn
 have hk : ∀ k, k < wd.heap.size → v.ownBlock ≠ some k → w3.heap[k]? = wd.heap[k]? := fun k hk1 hk2 => by
  rw [hgr.block k (by simp; omega) (fun e => hk2 e.symm), Below.heap_alloc _ _ _ hk1]
 have hset : ∀ k, k < wd.heap.size → v.ownBlock ≠ some k → k ≠ bF → (w3.setCell ⟨bF, 0, none⟩ (.slice (some ⟨g, 0, none⟩) (fl.length + 1) cap)).heap[k]? = wd.heap[k]? := fun k h1 h2 h3 => by
  rw [Below.heap_setCell w3 ⟨bF, 0, none⟩ _ k (by exact h3)]; exact hk k h1 h2
 have oM : v.ownBlock ≠ some bM := fun e => (h.own bM e).1 h.pM
 have oL : v.ownBlock ≠ some bL := fun e => (h.own bL e).1 h.pL
 have oF : v.ownBlock ≠ some bF := fun e => (h.own bF e).2.1 rfl
 have om : v.ownBlock ≠ some m := fun e => (h.own m e).2.2 rfl
 have hMF : bM ≠ bF := fun e => h.nF (e ▸ h.pM)
 have hLF : bL ≠ bF := fun e => h.nF (e ▸ h.pL)
 have lM := lt_of_heap h.hM
 have lL := lt_of_heap h.hL
 have lF := lt_of_heap h.hF
 have lm := h.nm.lt
 have h3F : w3.heap[bF]? = some (.cells #[v] 54 (0, 0)) := (hk bF lF oF).trans h.hF
 have hgF : g ≠ bF := by
  rcases hg with hg | hg
  ·
   exact fun e => oF (e ▸ hg)
  ·
   omega
 refine ⟨⟨(hset bM lM oM hMF).trans h.hM, (hset bL lL oL hLF).trans h.hL, by rw [heap_set h3F]; rfl, h.nm.later (hset m lm om (Ne.symm h.fm)), ?_, h.pM, h.pL, h.nF, h.nm2, h.fm, fun b hb => ?_⟩, ?_, ?_, ?_, ?_, fun x hx hl => hset x hl (fun e => (h.own x e).1 hx) (fun e => h.nF (e ▸ hx)), fun b hb => ?_⟩
 ·
  show World.ownsRow _ _ _ _ _ _ _
  rw [show (fl ++ [s]).length = fl.length + 1 by simp, List.map_append]
  exact owns_stay (I := fun x => x = g) (fun x hx _ => Below.heap_setCell w3 ⟨bF, 0, none⟩ _ x (by have h1 : x = g := hx; show x ≠ bF; omega)) (fun y hy => by simpa [Value.ownBlock] using hy.symm) hown3
 ·
  have hb2 : b = g := by simpa [Value.ownBlock] using hb.symm
  subst hb2
  rcases hg with hg | hg
  ·
   exact h.own b hg
  ·
   exact ⟨fun hp => absurd (hPd b hp) (by omega), by omega, by omega⟩
 ·
  exact hgr.os
 ·
  exact hgr.tape
 ·
  exact hgr.output
 ·
  have := hgr.size; simp at this ⊢; omega
 ·
  have hb2 : b = g := by simpa [Value.ownBlock] using hb.symm
  subst hb2
  rcases hg with hg | hg
  ·
   exact Or.inl hg
  ·
   exact Or.inr (by omega)
end Go.Proofs.YtodmgaikhbmlnaaGreatDoor
