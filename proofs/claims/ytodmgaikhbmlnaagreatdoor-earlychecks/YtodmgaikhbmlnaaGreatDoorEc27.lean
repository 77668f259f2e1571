/-
  wrongScope.
-/
import Derived.Test.YtodmgaikhbmlnaaGreatDoorEc26
set_option maxRecDepth 100000
set_option maxHeartbeats 16000000
namespace Go.Proofs.YtodmgaikhbmlnaaGreatDoor
open Go.RowKit
theorem nrow_mono {B B' : Nat} {w : World} {v : Value} {ts : List Tr} (h : NRow B w v ts) (hB : B' ≤ B) : NRow B' w v ts := by
 exact zbff
def scT (t : Tr) : Bool := repB (letsT t) || (letsT t).any (fun k => namedB (fnsT t) k.tx) || (letsT t).any (fun k => hasB (varsT t) k.tx)
def scU (t : Tr) : Bool := repB (fnsT t) || (fnsT t).any (fun k => hasB (varsT t) k.tx)
def scE (t : Tr) (body : Bool) : Option Int := if scT t || (!body && scU t) then some 9 else none
structure ScAt (wA : World) (bV bF : Nat) (LV FV : Value) (r1 a1 a2 r2 a3 : Bool) : Prop where
 cF : wA.cell? ⟨bF, 0, none⟩ = some FV
 hr1 : ∀ W, Below wA.heap.size wA W → Calls Tryz.prog 248 #[LV] W fun e w' => e = .returned (.bool r1) ∧ Below W.heap.size W w'
 ha1 : ∀ W, Below wA.heap.size wA W → Calls Tryz.prog 249 #[LV, .func (.func 246) #[] #[.pointer (some ⟨bF, 0, none⟩)]] W fun e w' => e = .returned (.bool a1) ∧ Below W.heap.size W w'
 ha2 : ∀ W, Below wA.heap.size wA W → Calls Tryz.prog 249 #[LV, .func (.func 245) #[] #[.pointer (some ⟨bV, 0, none⟩)]] W fun e w' => e = .returned (.bool a2) ∧ Below W.heap.size W w'
 hr2 : ∀ W, Below wA.heap.size wA W → Calls Tryz.prog 248 #[FV] W fun e w' => e = .returned (.bool r2) ∧ Below W.heap.size W w'
 ha3 : ∀ W, Below wA.heap.size wA W → Calls Tryz.prog 249 #[FV, .func (.func 245) #[] #[.pointer (some ⟨bV, 0, none⟩)]] W fun e w' => e = .returned (.bool a3) ∧ Below W.heap.size W w'
theorem scAt (t : Tr) (wA : World) (bV bF B : Nat) (va fa la : Option Addr) (vc fc lc : Nat) (hV : SRow B wA (.slice va (varsT t).length vc) (varsT t)) (hF : NRow B wA (.slice fa (fnsT t).length fc) (fnsT t)) (hL : NRow B wA (.slice la (letsT t).length lc) (letsT t))
  (cV : wA.cell? ⟨bV, 0, none⟩ = some (.slice va (varsT t).length vc)) (cF : wA.cell? ⟨bF, 0, none⟩ = some (.slice fa (fnsT t).length fc)) (hv : (varsT t).length ≤ 90000) (hf : (fnsT t).length ≤ 90000) (hl : (letsT t).length ≤ 90000) :
  ScAt wA bV bF (.slice la (letsT t).length lc) (.slice fa (fnsT t).length fc) (repB (letsT t)) ((letsT t).any fun k => namedB (fnsT t) k.tx) ((letsT t).any fun k => hasB (varsT t) k.tx) (repB (fnsT t)) ((fnsT t).any fun k => hasB (varsT t) k.tx) := by
 refine ⟨cF, fun W hW => repeated_any _ _ W (hL.later hW) hl, fun W hW => ?_, fun W hW => ?_, fun W hW => repeated_any _ _ W (hF.later hW) hf, fun W hW => ?_⟩
 ·
  exact containsF1 246 _ (fun k => namedB (fnsT t) k.tx) en246 (letsT t) _ W (hL.later hW) hl (fun k _ p X hX hn => scope2_any k p bF (fnsT t) fa fc X hn (keepC hX (keepC hW cF)) ((hF.later hW).later hX) hf)
 ·
  exact containsF1 245 _ (fun k => hasB (varsT t) k.tx) en245 (letsT t) _ W (hL.later hW) hl (fun k _ p X hX hn => scope1_any k p bV (varsT t) va vc X hn (keepC hX (keepC hW cV)) (SRow.later (SRow.later hV hW) hX) hv)
 ·
  exact containsF1 245 _ (fun k => hasB (varsT t) k.tx) en245 (fnsT t) _ W (hF.later hW) hf (fun k _ p X hX hn => scope1_any k p bV (varsT t) va vc X hn (keepC hX (keepC hW cV)) (SRow.later (SRow.later hV hW) hX) hv)
open zrqp in
theorem wrongScope_any (t : Tr) (p : Nat) (body : Bool) (w : World) (h : NTr w t p) (hc : t.count ≤ 20000) : Calls Tryz.prog 203 #[nPtr p, .bool body] w fun e w' => e = .returned (erV (scE t body)) ∧ Below w.heap.size w w' := by
 exact zrcx
def manyT (t : Tr) (s : ByteArray) : Int := 2 * occ ((letsT t).map Tr.tx) s + occ (varsT t) s
def hitT (t : Tr) (body : Bool) (i : Nat) : Bool := if namedB ((fnsT t).take i) (txAt (fnsT t) i) then !body else decide (2 ≤ manyT t (txAt (fnsT t) i)) || (!body && decide (0 < manyT t (txAt (fnsT t) i)))
def rtw (t : Tr) (body : Bool) : Bool := (List.range (fnsT t).length).any (hitT t body) || ((letsT t).map Tr.tx ++ varsT t).any fun s => decide (2 < manyT t s)
section
variable {t : Tr} {body : Bool}
include t body
theorem rtw_hit {k : Nat} (hk : k < (fnsT t).length) (h : hitT t body k = true) : rtw t body = true := by
 unfold rtw
 rw [List.any_eq_true.2 ⟨k, List.mem_range.2 hk, h⟩]; rfl
theorem rtw_many {s : ByteArray} (h : 2 < manyT t s) : rtw t body = true := by
 unfold rtw
 rw [Bool.or_eq_true]
 refine Or.inr (List.any_eq_true.2 ⟨s, ?_, decide_eq_true h⟩)
 rw [List.mem_append]
 unfold manyT at h
 by_cases h1 : s ∈ (letsT t).map Tr.tx
 ·
  exact Or.inl h1
 ·
  refine Or.inr ((occ_pos _ _).1 ?_); have h2 := mt (occ_pos ((letsT t).map Tr.tx) s).1 h1; have := occ_le ((letsT t).map Tr.tx) s; omega
theorem rtw_no (h1 : ∀ k, k < (fnsT t).length → hitT t body k = false) (h2 : ∀ s, ¬ 2 < manyT t s) : rtw t body = false := by
 unfold rtw
 rw [Bool.or_eq_false_iff]
 constructor
 ·
  rw [List.any_eq_false]; intro k hk; rw [h1 k (List.mem_range.1 hk)]; decide
 ·
  rw [List.any_eq_false]; intro s _; rw [decide_eq_false (h2 s)]; decide
end
def IM (m : Nat) (c : ByteArray → Int) (W : World) : Prop := ∃ l, TMap m l W ∧ ∀ s, gets l (.int .i64 0) s = .int .i64 (c s)
def BM (m : Nat) (c : ByteArray → Bool) (W : World) : Prop := ∃ l, TMap m l W ∧ ∀ s, gets l (.bool false) s = .bool (c s)
theorem IM.lt {m : Nat} {c : ByteArray → Int} {W : World} (h : IM m c W) : m < W.heap.size := by obtain ⟨l, h, _⟩ := h; exact h.lt
theorem BM.lt {m : Nat} {c : ByteArray → Bool} {W : World} (h : BM m c W) : m < W.heap.size := by obtain ⟨l, h, _⟩ := h; exact h.lt
theorem IM.later {m : Nat} {c : ByteArray → Int} {W X : World} (h : IM m c W) (hb : X.heap[m]? = W.heap[m]?) : IM m c X := by obtain ⟨l, h, h2⟩ := h; exact ⟨l, h.later hb, h2⟩
theorem BM.later {m : Nat} {c : ByteArray → Bool} {W X : World} (h : BM m c W) (hb : X.heap[m]? = W.heap[m]?) : BM m c X := by obtain ⟨l, h, h2⟩ := h; exact ⟨l, h.later hb, h2⟩
section
variable (m : Nat) (W : World) (h : W.heap[m]? = some (.map #[] 0))
include m W h
theorem IM.new : IM m (fun _ => 0) W := ⟨[], ⟨h, List.nodup_nil⟩, fun _ => rfl⟩
theorem BM.new : BM m (fun _ => false) W := ⟨[], ⟨h, List.nodup_nil⟩, fun _ => rfl⟩
end
theorem IM.look {m : Nat} {c : ByteArray → Int} {W : World} (h : IM m c W) (s : ByteArray) : (Instr.lookup 98 (.map (some m)) (.string s) false).run Tryz.prog W = .ok (.int .i64 (c s)) W := by
 obtain ⟨l, h, h2⟩ := h
 rw [h.look 98 3 (.int .i64 0) Tryz.underlying98 (by kernel_rfl), h2]
theorem BM.look {m : Nat} {c : ByteArray → Bool} {W : World} (h : BM m c W) (s : ByteArray) : (Instr.lookup 103 (.map (some m)) (.string s) false).run Tryz.prog W = .ok (.bool (c s)) W := by
 obtain ⟨l, h, h2⟩ := h
 rw [h.look 103 4 (.bool false) Tryz.underlying103 (by kernel_rfl), h2]
section
variable {m B : Nat}
include m B
theorem IM.put {c c' : ByteArray → Int} {w W : World} (h : IM m c W) (ha : Ap m B w W) (s : ByteArray) (v : Int) (hc : ∀ x, c' x = if x = s then v else c x) :
  ∃ W2, (Instr.mapUpdate 98 (.map (some m)) (.string s) (.int .i64 v)).run Tryz.prog W = .ok () W2 ∧ IM m c' W2 ∧ Ap m B w W2 ∧ W2.heap.size = W.heap.size := by
 obtain ⟨l, h, h2⟩ := h
 obtain ⟨W2, h3, h4, h5, h6, h7, h8, h9⟩ := h.put 98 3 Tryz.underlying98 s (.int .i64 v)
 refine ⟨W2, h3, ⟨_, h4, fun x => ?_⟩, ha.put h5 h6 h7 h8 h9, h5⟩
 rw [gets_puts, hc, h2]
 split <;> rfl
theorem BM.put {c c' : ByteArray → Bool} {w W : World} (h : BM m c W) (ha : Ap m B w W) (s : ByteArray) (hc : ∀ x, c' x = if x = s then true else c x) :
  ∃ W2, (Instr.mapUpdate 103 (.map (some m)) (.string s) (.bool true)).run Tryz.prog W = .ok () W2 ∧ BM m c' W2 ∧ Ap m B w W2 ∧ W2.heap.size = W.heap.size := by
 obtain ⟨l, h, h2⟩ := h
 obtain ⟨W2, h3, h4, h5, h6, h7, h8, h9⟩ := h.put 103 4 Tryz.underlying103 s (.bool true)
 refine ⟨W2, h3, ⟨_, h4, fun x => ?_⟩, ha.put h5 h6 h7 h8 h9, h5⟩
 rw [gets_puts, hc, h2]
 split <;> rfl
theorem nrow_apart {w W X : World} {v : Value} {ts : List Tr} (h : NRow0 w B W v ts) (hm : m < B) (ha : Ap m W.heap.size W X) : NRow0 w B X v ts := by
 obtain ⟨ps, h1, h2⟩ := h
 exact ⟨ps, owns_stay (I := fun x => x ≠ m) (fun x hx hl => ha.block x hl hx) (fun g hg e => by have := (own_lt h1 g hg).2; omega) h1, h2⟩
theorem srow_apart {W X : World} {v : Value} {l : List ByteArray} (h : SRow B W v l) (hm : m < B) (ha : Ap m W.heap.size W X) : SRow B X v l :=
 owns_stay (I := fun x => x ≠ m) (fun x hx hl => ha.block x hl hx) (fun g hg e => by have := (own_lt h g hg).2; omega) h
end
theorem NRow0.cell {w0 W : World} {B : Nat} {v : Value} {ts : List Tr} (h : NRow0 w0 B W v ts) (k : Nat) (hk : k < ts.length) : ∃ g cap p, v = .slice (some ⟨g, 0, none⟩) ts.length cap ∧ g < W.heap.size ∧ B ≤ g ∧ W.cell? ⟨g, k, none⟩ = some (nPtr p) ∧ NTr w0 ts[k] p := by
 obtain ⟨ps, h1, h2⟩ := h
 have hl := NAts.length _ _ h2
 obtain ⟨g, cap, rfl, hc⟩ := row_open h1 (by omega)
 obtain ⟨hp, hn⟩ := NAts.get _ _ h2 k hk
 exact ⟨g, cap, ps[k], by rw [hl], (own_lt h1 g rfl).1, (own_lt h1 g rfl).2, hc k hp, hn⟩
theorem apBelow {m : Nat} {w W X : World} (h : Below w.heap.size w W) (hm : w.heap.size ≤ m) (ha : Ap m W.heap.size W X) : Below w.heap.size w X :=
 ⟨ha.os.trans h.os, ha.tape.trans h.tape, ha.output.trans h.output, Nat.le_trans h.size ha.size, fun b hb => (ha.block b (Nat.lt_of_lt_of_le hb h.size) (by omega)).trans (h.block b hb)⟩
theorem occ_take (ls : List Tr) (k : Nat) (hk : k < ls.length) (x : ByteArray) : occ ((ls.take (k + 1)).map Tr.tx) x = occ ((ls.take k).map Tr.tx) x + if x = (ls[k]).tx then 1 else 0 := by
 rw [List.take_succ_eq_append_getElem hk, List.map_append]
 exact occ_snoc _ _ _
theorem occ_takeB (ls : List ByteArray) (k : Nat) (hk : k < ls.length) (x : ByteArray) : occ (ls.take (k + 1)) x = occ (ls.take k) x + if x = ls[k] then 1 else 0 := by
 rw [List.take_succ_eq_append_getElem hk]
 exact occ_snoc _ _ _
def itLeft (r : Nat) (l : TL) (W : World) : Nat := match W.heap[r]? with
 | some (.mapIter _ _ seen _) => (leftM l seen).length
 | _ => 0
theorem itLeft_eq {r m a b : Nat} {l : TL} {seen : Array Nat} {W : World} (h : W.heap[r]? = some (.mapIter (some m) a seen b)) : itLeft r l W = (leftM l seen).length := by unfold itLeft; rw [h]
theorem vars_len1 (t : Tr) : (varsT t).length ≤ t.count := by
 have h1 := vars_len t
 have h2 : t.count = 1 + Tr.counts t.kids := by cases t with | mk kd tx nn ks => exact count_mk _ _ _ _
 omega
theorem rtwice_any (t : Tr) (p : Nat) (body : Bool) (w : World) (h : NTr w t p) (hc : t.count ≤ 1500) : Calls Tryz.prog 92 #[nPtr p, .bool body] w fun e w' => e = .returned (.bool (rtw t body)) ∧ Below w.heap.size w w' := by
 have htc : t.count = 1 + Tr.counts t.kids := by cases t with | mk kd tx nn ks => exact count_mk _ _ _ _
 have hkl : t.kids.length ≤ 1500 := by have := counts_len t.kids; omega
 have hll : (letsT t).length ≤ 1500 := Nat.le_trans (List.length_filter_le _ _) hkl
 have hfl : (fnsT t).length ≤ 1500 := Nat.le_trans (List.length_filter_le _ _) hkl
 have hvl : (varsT t).length ≤ 1500 := Nat.le_trans (vars_len1 t) hc
 have HN : Hid (NAt (fun x => x < w.heap.size) w t p) := NAt.mono (fun b _ hl => hl) _ _ h
 obtain ⟨R, hR⟩ : ∃ R, R = rtw t body := ⟨_, rfl⟩
 rw [← hR]
 have HRR := hide hR
 obtain ⟨wA, hwA⟩ : ∃ wA, wA = w.alloc (.map #[] 0) := ⟨_, rfl⟩
 have hbA : Below w.heap.size w wA := by rw [hwA]; exact (Below.refl _ _).alloc (Nat.le_refl _) _
 have hsA : wA.heap.size = w.heap.size + 1 := by rw [hwA]; simp
 have HIM : Hid (IM w.heap.size (fun _ => 0) wA) := IM.new _ _ (by rw [hwA]; exact heap_new _ _)
 have HC := hide (rlets_any t p w wA h hbA (by omega))
 have HBA := hide hbA
 have HT := hide h
 have hmk := mkMap 98 w
 rw [← hwA] at hmk
 clear h hR hbA hwA htc
 go_enter Tryz.func92, Tryz.ntmps92
 go_wp2_with fail
 refine cm HC.out ?_
 rintro e w1 ⟨⟨u, rfl, hr⟩, hb⟩
 obtain ⟨ua, uc, rfl⟩ := hr.form
 have HB1 := hide (HBA.out.trans (hb.mono HBA.out.size))
 have HR1 := hide hr
 have HIM1 := hide (HIM.out.later (hb.block _ (by omega)))
 have hs1 : w.heap.size + 1 ≤ w1.heap.size := by have := hb.size; omega
 obtain ⟨LL, hLL⟩ : ∃ LL, LL = letsT t := ⟨_, rfl⟩
 rw [← hLL] at HR1 hll
 have HLL := hide hLL
 clear HC hr hb HIM HBA hmk hLL
 rw [← HLL.out]
 go_wp2_with fail
 go_loopw [19] (fun j wr => ∃ k : Nat, k ≤ LL.length ∧ j = .int .i64 k ∧ IM w.heap.size (fun s => 2 * occ ((LL.take k).map Tr.tx) s) wr ∧ Ap w.heap.size w1.heap.size w1 wr ∧ wr.heap.size = w1.heap.size) (fun j _ => LL.length - (intOf j).toNat)
 case atStart => exact ⟨0, Nat.zero_le _, rfl, by simpa [occ] using HIM1.out, Ap.refl _ _ _, rfl⟩
 case round =>
  obtain ⟨k, hk, rfl, him, hap, hsz⟩ := hrel; have HMK := hide him; have HAP := hide hap; have HSZ := hide hsz; clear him hap
  by_cases hlt : k < LL.length
  ·
   obtain ⟨g, cap, q, hv, hg, hgB, hck, hn⟩ := (nrow_apart HR1.out (by omega) HAP.out).cell k hlt; simp only [Value.slice.injEq] at hv; obtain ⟨rfl, _, rfl⟩ := hv; have hbw := apBelow HB1.out (Nat.le_refl _) HAP.out
   obtain ⟨hql0, _, q1, _⟩ := hn.cells; have hql := Nat.lt_of_lt_of_le hql0 hbw.size; replace q1 := keepC hbw q1; have hki : (k : Int) < (LL.length : Int) := by omega
   have HTK : Hid (∀ x, 2 * occ ((LL.take (k + 1)).map Tr.tx) x = if x = (LL[k]).tx then 2 * occ ((LL.take k).map Tr.tx) (LL[k]).tx + 2 else 2 * occ ((LL.take k).map Tr.tx) x) := fun x => by
    rw [occ_take LL k hlt]
    split
    ·
     rename_i e; rw [e]; omega
    ·
     omega
   have hlk := HMK.out.look (LL[k]).tx; have hz : IntKind.i64.wrap (2 * occ ((LL.take k).map Tr.tx) (LL[k]).tx + 2) = 2 * occ ((LL.take k).map Tr.tx) (LL[k]).tx + 2 := by
    have h2 := occ_le ((LL.take k).map Tr.tx) (LL[k]).tx; rw [List.length_map, List.length_take] at h2; refine wrap_small ?_ ?_ <;> omega
   obtain ⟨W2, hup, hm2, ha2, hs2⟩ := HMK.out.put HAP.out (LL[k]).tx (2 * occ ((LL.take k).map Tr.tx) (LL[k]).tx + 2) HTK.out; have HM2 := hide hm2; have HA2 := hide ha2; have HS2 := hide (hs2.trans hsz)
   clear hm2 ha2 hs2 hn hbw HTK
   generalize 2 * occ ((LL.take k).map Tr.tx) (LL[k]).tx = z at hlk hup hz
   generalize (LL[k]).tx = x at q1 hlk hup
   go_wp2_with fail
   go_roundw
   case rel => exact ⟨k + 1, by omega, by go_num, HM2.out, HA2.out, HS2.out⟩
   case measure => simp [intOf]; omega
  ·
   have hkk : k = LL.length := by omega
   subst hkk; have hm := unhide HMK; rw [List.take_length] at hm; have hbw := apBelow HB1.out (Nat.le_refl _) HAP.out
   have HC := hide (rvars_any t p wr (NAt.nt (NAt.later (I := fun x => x < w.heap.size) (fun x hx _ => hbw.block x hx) _ _ HN.out)) (by omega)); have HM := hide hm; have HBW := hide hbw; clear HMK HAP hm hbw HR1 HIM1 HB1
   go_wp2_with fail; refine cm HC.out ?_; rintro e w2 ⟨⟨u, rfl, hr⟩, hb⟩; obtain ⟨va, vc, rfl⟩ := srow_form hr; have HB2 := hide (HBW.out.trans (hb.mono HBW.out.size)); have HR2 := hide hr
   have HM2 := hide (HM.out.later (hb.block _ (by omega))); have hs2 : w.heap.size + 1 ≤ w2.heap.size := by have := hb.size; omega
   have hsr : w.heap.size + 1 ≤ wr.heap.size := by omega
   obtain ⟨VV, hVV⟩ : ∃ VV, VV = varsT t := ⟨_, rfl⟩; rw [← hVV] at HR2 hvl; have HVV := hide hVV; clear HC hr hb HM HBW hVV; rw [← HVV.out]; go_wp2_with fail
   go_loopw [34] (fun j wr => ∃ k : Nat, k ≤ VV.length ∧ j = .int .i64 k ∧ IM w.heap.size (fun s => 2 * occ (LL.map Tr.tx) s + occ (VV.take k) s) wr ∧ Ap w.heap.size w2.heap.size w2 wr ∧ wr.heap.size = w2.heap.size) (fun j _ => VV.length - (intOf j).toNat)
   case atStart => exact ⟨0, Nat.zero_le _, rfl, by simpa [occ] using HM2.out, Ap.refl _ _ _, rfl⟩
   case round =>
    obtain ⟨k, hk, rfl, him, hap, hsz2⟩ := hrel; have HMK := hide him; have HAP := hide hap; have HSZ := hide hsz2; clear him hap
    by_cases hlt : k < VV.length
    ·
     obtain ⟨g, cap, hv, hg, hgB, hck⟩ := srow_cell (srow_apart HR2.out (by omega) HAP.out) k hlt; simp only [Value.slice.injEq] at hv; obtain ⟨rfl, _, rfl⟩ := hv; have hki : (k : Int) < (VV.length : Int) := by omega
     have HTK : Hid (∀ x, 2 * occ (LL.map Tr.tx) x + occ (VV.take (k + 1)) x = if x = VV[k] then 2 * occ (LL.map Tr.tx) VV[k] + occ (VV.take k) VV[k] + 1 else 2 * occ (LL.map Tr.tx) x + occ (VV.take k) x) := fun x => by
      rw [occ_takeB VV k hlt]
      split
      ·
       rename_i e; rw [e]; omega
      ·
       omega
     have hlk := HMK.out.look VV[k]; have hz : IntKind.i64.wrap (2 * occ (LL.map Tr.tx) VV[k] + occ (VV.take k) VV[k] + 1) = 2 * occ (LL.map Tr.tx) VV[k] + occ (VV.take k) VV[k] + 1 := by
      have h2 := occ_le (LL.map Tr.tx) VV[k]; have h3 := occ_le (VV.take k) VV[k]; rw [List.length_map] at h2; rw [List.length_take] at h3; refine wrap_small ?_ ?_ <;> omega
     obtain ⟨W2, hup, hm3, ha3, hs3⟩ := HMK.out.put HAP.out VV[k] (2 * occ (LL.map Tr.tx) VV[k] + occ (VV.take k) VV[k] + 1) HTK.out; have HM3 := hide hm3; have HA3 := hide ha3; have HS3 := hide (hs3.trans hsz2)
     clear hm3 ha3 hs3 HTK hsz
     generalize 2 * occ (LL.map Tr.tx) VV[k] + occ (VV.take k) VV[k] = z at hlk hup hz
     generalize VV[k] = x at hck hlk hup
     go_wp2_with fail
     go_roundw
     case rel => exact ⟨k + 1, by omega, by go_num, HM3.out, HA3.out, HS3.out⟩
     case measure => simp [intOf]; omega
    ·
     have hkk : k = VV.length := by omega
     subst hkk; have hm : IM w.heap.size (manyT t) wr := by
      have hm := unhide HMK; rw [List.take_length] at hm; unfold manyT; rw [← HLL.out, ← HVV.out]; exact hm
     have hbw := apBelow HB2.out (Nat.le_refl _) HAP.out; obtain ⟨wB, hwB⟩ : ∃ wB, wB = wr.alloc (.map #[] 0) := ⟨_, rfl⟩; have hbB : Below w.heap.size w wB := by rw [hwB]; exact hbw.alloc hbw.size _
     have hsB : wB.heap.size = wr.heap.size + 1 := by rw [hwB]; simp
     have hmk := mkMap 103 wr; rw [← hwB] at hmk; have hBM : BM wr.heap.size (fun _ => false) wB := BM.new _ _ (by rw [hwB]; exact heap_new _ _)
     have hmB : IM w.heap.size (manyT t) wB := hm.later (by rw [hwB]; exact Below.heap_alloc _ _ _ (by omega))
     have HC := hide (rfuncs_any t p w wB HT.out hbB (by omega)); have hs0 : w.heap.size + 1 ≤ wr.heap.size := by omega
     obtain ⟨m2, hm2⟩ : ∃ m2, m2 = wr.heap.size := ⟨_, rfl⟩; rw [← hm2] at hmk hBM hsB hs0; have HBM := hide hBM; have HMB := hide hmB; have HBB := hide hbB; clear HMK HAP hm hbw HR2 HM2 HB2 hwB hBM hmB hbB hm2 hsz2 HSZ
     go_wp2_with fail; refine cm HC.out ?_; rintro e w3 ⟨⟨u, rfl, hr⟩, hb⟩; obtain ⟨fa, fc, rfl⟩ := hr.form; have HB3 := hide (HBB.out.trans (hb.mono HBB.out.size)); have HR3 := hide hr
     have HM3 := hide (HMB.out.later (hb.block _ (by omega))); have HBM3 := hide (HBM.out.later (hb.block _ (by omega))); have hs3 : m2 + 1 ≤ w3.heap.size := by have := hb.size; omega
     obtain ⟨FF, hFF⟩ : ∃ FF, FF = fnsT t := ⟨_, rfl⟩; rw [← hFF] at HR3 hfl; have HFF := hide hFF; clear HC hr hb HMB HBM HBB hmk hFF; rw [← HFF.out]; go_wp2_with fail
     go_loopw [47] (fun j wr => ∃ k : Nat, k ≤ FF.length ∧ j = .int .i64 k ∧ BM m2 (namedB (FF.take k)) wr ∧ Ap m2 w3.heap.size w3 wr ∧ wr.heap.size = w3.heap.size ∧ ∀ i, i < k → hitT t body i = false) (fun j _ => FF.length - (intOf j).toNat)
     case atStart => exact ⟨0, Nat.zero_le _, rfl, HBM3.out, Ap.refl _ _ _, rfl, fun i hi => absurd hi (Nat.not_lt_zero _)⟩
     case round =>
      obtain ⟨k, hk, rfl, hbm, hap, hsz3, hno⟩ := hrel; have HBMK := hide hbm; have HAP := hide hap; have HNO := hide hno; have HSZ3 := hide hsz3; clear hbm hap hno hsz
      by_cases hlt : k < FF.length
      ·
       obtain ⟨g, cap, q, hv, hg, hgB, hck, hn⟩ := (nrow_apart HR3.out (by omega) HAP.out).cell k hlt; simp only [Value.slice.injEq] at hv; obtain ⟨rfl, _, rfl⟩ := hv; have hbw := apBelow HB3.out (by omega) HAP.out
       obtain ⟨hql0, _, q1, _⟩ := hn.cells; have hql := Nat.lt_of_lt_of_le hql0 hbw.size; have hqm : q < w.heap.size := hql0; replace q1 := keepC hbw q1; have hki : (k : Int) < (FF.length : Int) := by omega
       have him : IM w.heap.size (manyT t) wr := HM3.out.later (HAP.out.block _ (by omega) (by omega)); have htx : txAt (fnsT t) k = (FF[k]).tx := by rw [← HFF.out]; exact txAt_eq FF k hlt
       have HHIT : Hid (hitT t body k = if namedB (FF.take k) (FF[k]).tx then !body else decide (2 ≤ manyT t (FF[k]).tx) || (!body && decide (0 < manyT t (FF[k]).tx))) := by
        show _ = _
        unfold hitT; rw [htx, ← HFF.out]
       have HTK : Hid (∀ x, namedB (FF.take (k + 1)) x = if x = (FF[k]).tx then true else namedB (FF.take k) x) := fun x => by
        rw [List.take_succ_eq_append_getElem hlt]; unfold namedB; rw [List.any_append]
        by_cases e : x = (FF[k]).tx
        ·
         rw [if_pos e]; simp [e]
        ·
         rw [if_neg e]; simp [Ne.symm e]
       have HIN := hide (fun (hx : hitT t body k = true) => HRR.out.trans (rtw_hit (by rw [← HFF.out]; exact hlt) hx))
       have HNX := hide (fun (hx : hitT t body k = false) i (hi : i < k + 1) => if hik : i = k then hik ▸ hx else unhide HNO i (by omega)); have hlk := HBMK.out.look (FF[k]).tx
       generalize (FF[k]).tx = x at q1 hlk HHIT HTK
       have HBW := hide hbw; clear hn hbw htx
       cases hnm : namedB (FF.take k) x with
       | true =>
        rw [hnm] at hlk HHIT; have HNM : Hid (BM m2 (namedB (FF.take (k + 1))) wr) := by
         have h1 : namedB (FF.take (k + 1)) = namedB (FF.take k) := by
          funext y
          rw [unhide HTK y]
          split
          ·
           rename_i e; rw [e, hnm]
          ·
           rfl
         rw [h1]; exact unhide HBMK
        clear hnm him
        cases body with
        | false =>
         have hRt : R = true := unhide HIN HHIT.out; subst hRt; go_wp2_with fail; go_ret; exact ⟨rfl, HBW.out⟩
        | true =>
         have hno := unhide HNX HHIT.out; have HNO2 := hide hno; clear hno; go_wp2_with fail
         go_roundw
         case rel => exact ⟨k + 1, by omega, by go_num, HNM.out, HAP.out, HSZ3.out, HNO2.out⟩
         case measure => simp [intOf]; omega
       | false =>
        rw [hnm] at hlk HHIT; obtain ⟨W2, hup, hm4, ha4, hs4⟩ := HBMK.out.put HAP.out x HTK.out; have hbw2 := apBelow HB3.out (by omega) ha4
        have hlk2 := (him.later ((ha4.block _ (by omega) (by omega)).trans (HAP.out.block _ (by omega) (by omega)).symm)).look x
        have q2 : W2.cell? ⟨q, 1, none⟩ = some (.string x) := (World.cell?_of_block (w := wr) (a := ⟨q, 1, none⟩) ((ha4.block q (by omega) (by omega)).trans (HAP.out.block q (by omega) (by omega)).symm)).trans q1
        have HM4 := hide hm4; have HA4 := hide ha4; have HS4 := hide (hs4.trans hsz3); have HBW2 := hide hbw2; have hql2 : q < W2.heap.size := by omega
        clear hm4 ha4 hbw2 hnm him HBW HTK
        generalize manyT t x = z at hlk2 HHIT
        by_cases h2 : 2 ≤ z
        ·
         have hRt : R = true := unhide HIN (by rw [HHIT.out]; simp [h2])
         subst hRt; go_wp2_with fail; go_ret; exact ⟨rfl, HBW2.out⟩
        ·
         cases body with
         | true =>
          have hno := unhide HNX (by rw [HHIT.out]; simp [h2])
          exact zbfl
         | false =>
          by_cases h0 : 0 < z
          ·
           have hRt : R = true := unhide HIN (by rw [HHIT.out]; simp [h0])
           subst hRt; go_wp2_with fail; go_ret; exact ⟨rfl, HBW2.out⟩
          ·
           have hno := unhide HNX (by rw [HHIT.out]; simp [h0, h2])
           exact zbfl
      ·
       have hkk : k = FF.length := by omega
       subst hkk; have hbw := apBelow HB3.out (by omega) HAP.out; have him : IM w.heap.size (manyT t) wr := HM3.out.later (HAP.out.block _ (by omega) (by omega)); obtain ⟨l, htm, hgl⟩ := him
       have hrg := run_range_map (P := Tryz.prog) wr 98 9 3 w.heap.size (mapOf l) l.length Tryz.underlying98 htm.1; obtain ⟨rr, hrr⟩ : ∃ rr, rr = wr.heap.size := ⟨_, rfl⟩; have HTM := hide htm; have HGL := hide hgl
       have HBW := hide hbw; have hsz4 : w.heap.size + 1 ≤ wr.heap.size := by omega
       clear htm hgl hbw HBMK HAP HR3 HM3 HB3 HBM3 hsz3 HSZ3; go_wp2_with fail; clear hrg; rw [← hrr]
       go_loopw [14] (fun _ wq => ∃ seen, wq.heap[rr]? = some (.mapIter (some w.heap.size) l.length seen l.length) ∧ TMap w.heap.size l wq ∧ Below w.heap.size w wq ∧ (∀ e ∈ l, e ∈ leftM l seen ∨ ¬ 2 < manyT t e.1)) (fun _ wq => itLeft rr l wq)
       case atStart =>
        refine ⟨#[], by rw [hrr]; exact heap_new _ _, ⟨?_, HTM.out.2⟩, HBW.out.alloc (by omega) _, fun e he => Or.inl (by rw [leftM_start]; exact he)⟩
        rw [Below.heap_alloc _ _ _ (by omega)]; exact HTM.out.1
       case round =>
        obtain ⟨seen, hit, htm, hbw, hall⟩ := hrel; have HALL := hide hall; have HTM2 := hide htm; have HBW2 := hide hbw; have HMS := hide (itLeft_eq (l := l) hit)
        rcases mst_step hit htm 0 with ⟨h0, hnx⟩ | ⟨s, v, seen', X, hnx, hne, hit2, htm2, hpm, hbk, hox, htx, hux, hzx⟩
        ·
         have hRf : R = false := by
          rw [HRR.out]; refine rtw_no (fun k hk => unhide HNO k (by rw [HFF.out]; exact hk)) (fun s hs => ?_)
          have hg := unhide HGL s
          by_cases hm : s ∈ l.map (·.1)
          ·
           obtain ⟨e, he, rfl⟩ := List.mem_map.1 hm
           rcases hall e he with h1 | h1
           ·
            rw [h0] at h1; cases h1
           ·
            exact h1 hs
          ·
           rw [gets_none hm] at hg
           injection hg with _ hg
           omega
         subst hRf; rw [hrr] at hnx; clear h0 hall htm hbw; go_wp2_with fail; go_ret; exact ⟨rfl, HBW2.out⟩
        ·
         have hin : (s, v) ∈ leftM l seen := hpm.mem_iff.2 (List.mem_cons_self ..); rw [hrr] at hnx hne; have hinl : (s, v) ∈ l := by
          have h1 : (s, v) ∈ (mapOf l).toList.map keyM := by
           unfold leftM leftOf at hin; rw [Array.toList_filter] at hin; obtain ⟨e, he, h2⟩ := List.mem_map.1 hin; exact h2 ▸ List.mem_map_of_mem (List.mem_filter.1 he).1
          rwa [mapOf_keys] at h1
         have hv : v = .int .i64 (manyT t s) := by
          rw [← unhide HGL s]; exact (gets_mem (.int .i64 0) htm.2 _ hinl).symm
         subst hv; have hbX : Below w.heap.size w X := ⟨hox.trans hbw.os, htx.trans hbw.tape, hux.trans hbw.output, by rw [hzx]; exact hbw.size, fun b hb => (hbk b (by omega)).trans (hbw.block b hb)⟩
         have HBX := hide hbX; have HT2 := hide htm2; have HI2 := hide hit2; have HLN : Hid (itLeft rr l X < itLeft rr l wr) := by
          show _ < _
          rw [itLeft_eq hit2, HMS.out, hpm.length_eq]; simp
         by_cases h2 : 2 < manyT t s
         ·
          have hRt : R = true := HRR.out.trans (rtw_many h2); subst hRt; clear hall htm hbw hit2 htm2 hpm hbk hox htx hux hzx hin hinl hbX
          generalize manyT t s = z at hnx hne h2
          go_wp2_with fail; go_ret; exact ⟨rfl, HBX.out⟩
         ·
          have HAL2 : Hid (∀ e ∈ l, e ∈ leftM l seen' ∨ ¬ 2 < manyT t e.1) := fun e he => by
           rcases hall e he with h1 | h1
           ·
            rcases List.mem_cons.1 (hpm.mem_iff.1 h1) with rfl | h3
            ·
             exact Or.inr h2
            ·
             exact Or.inl h3
           ·
            exact Or.inr h1
          clear hall htm hbw hit2 htm2 hpm hbk hox htx hux hzx hin hinl hbX
          generalize manyT t s = z at hnx hne h2
          go_wp2_with fail
          go_roundw
          case rel => exact ⟨seen', HI2.out, HT2.out, HBX.out, HAL2.out⟩
          case measure => exact unhide HLN
def catchE (t : Tr) (s : Bool) : Option Int := match nmE s t.tx with
 | some e => some e
 | none => if hasB (namesT (kidT t 0) false) t.tx then some 9 else none
structure PlAt (b : Nat) (s i d : Bool) (w : World) : Prop where
 c0 : w.cell? ⟨b, 0, none⟩ = some (.bool s)
 c1 : w.cell? ⟨b, 1, none⟩ = some (.bool i)
 c2 : w.cell? ⟨b, 2, none⟩ = some (.bool d)
theorem PlAt.new (w : World) (s i d : Bool) : PlAt w.heap.size s i d (w.alloc (.cells #[.bool s, .bool i, .bool d] 112)) :=
 ⟨by rw [cell_of (heap_new _ _)]; rfl, by rw [cell_of (heap_new _ _)]; rfl, by rw [cell_of (heap_new _ _)]; rfl⟩
theorem PlAt.later {b : Nat} {s i d : Bool} {w X : World} (h : PlAt b s i d w) (hb : Below w.heap.size w X) : PlAt b s i d X := ⟨keepC hb h.c0, keepC hb h.c1, keepC hb h.c2⟩
theorem wrongCatch_any (t : Tr) (p : Nat) (s i b : Bool) (w : World) (h : NTr w t p) (hk : 1 ≤ t.kids.length) (hc : t.count ≤ 20000) : Calls Tryz.prog 206 #[nPtr p, plV s i b] w fun e w' => e = .returned (erV (catchE t s)) ∧ Below w.heap.size w w' := by
 have htc : t.count = 1 + Tr.counts t.kids := by cases t with | mk kd tx nn ks => exact count_mk _ _ _ _
 have hkl : t.kids.length ≤ 20000 := by have := counts_len t.kids; omega
 obtain ⟨wa, hwa⟩ : ∃ wa, wa = w.alloc (.cells #[.bool s, .bool i, .bool b] 112) := ⟨_, rfl⟩
 have hba : Below w.heap.size w wa := by rw [hwa]; exact (Below.refl _ _).alloc (Nat.le_refl _) _
 have hpa : PlAt w.heap.size s i b wa := by rw [hwa]; exact PlAt.new _ _ _ _
 obtain ⟨hpl, _, c1, u, c3, hr⟩ := (h.later hba).cells
 obtain ⟨g, cap, q, rfl, hg, hcq, hn⟩ := hr.cell 0 (by omega)
 rw [← kidT_eq t 0 (by omega)] at hn
 have hqc : (kidT t 0).count ≤ 20000 := by
  rw [kidT_eq t 0 (by omega)]; have := counts_le t.kids 0 (by omega); omega
 have hbl := cell_lt hpa.c0
 have HPA := hide hpa
 have HNQ := hide hn
 have HBA := hide hba
 unfold catchE
 have HNM := hide (fun W => wrongName_any s i b t.tx W)
 have HNS : Hid (∀ W, Below wa.heap.size wa W → Calls Tryz.prog 35 #[nPtr q, .bool false] W fun e w' => (∃ u, e = .returned u ∧ SRow W.heap.size w' u (namesT (kidT t 0) false)) ∧ Below W.heap.size W w') := fun W hW => names_any (kidT t 0) q false W (hn.later hW) hqc
 have HNL : Hid ((namesT (kidT t 0) false).length ≤ 90000) := by
  have h0 : (kidT t 0).count = 1 + Tr.counts (kidT t 0).kids := by cases (kidT t 0) with | mk kd tx nn ks => exact count_mk _ _ _ _
  have h1 := counts_len (kidT t 0).kids; have h2 := once_len ([] ++ (fnsT (kidT t 0)).map Tr.tx ++ (letsT (kidT t 0)).map Tr.tx); have h3 := fns_len (kidT t 0); have h4 := lets_len (kidT t 0)
  show (namesT (kidT t 0) false).length ≤ _
  unfold namesT; simp only [Bool.false_eq_true, if_false]; simp only [List.length_append, List.length_map, List.length_nil] at h2; omega
 generalize namesT (kidT t 0) false = ns at HNS HNL
 generalize t.tx = tx at c1 HNM
 generalize t.kids.length = L at c3 hk hkl
 generalize nmE s tx = er at HNM
 obtain ⟨r, hrr⟩ : ∃ r, r = hasB ns tx := ⟨_, rfl⟩
 rw [← hrr]
 have HRR := hide hrr
 clear h hr hn hba hpa htc hc hqc hrr
 go_enter Tryz.func206, Tryz.ntmps206
 go_wp2_with fail
 rw [← hwa]
 have hS0 : Below wa.heap.size wa wa.drew := (Below.refl _ _).drew
 refine wp_region_held (S := fun X => Below wa.heap.size wa X) (by kernel_rfl) ?_
 change wpAnyH _ _ _ _ _ _ _ _ (World.drew _)
 refine wh 0 (nPtr p) hS0 ?_
 refine wh 1 (nPtr p) hS0 ?_
 refine wh 2 (.pointer (some ⟨p, 1, none⟩)) hS0 ?_
 refine wh 3 (.string tx) hS0 ?_ (hy := Or.inl ⟨by kernel_rfl, fun X hX => by have hh := keepC hX c1; go_simp⟩)
 refine wh 4 (plV s i b) hS0 ?_ (hy := Or.inl ⟨by kernel_rfl, fun X hX => by
  have hh := PlAt.later HPA.out hX; have h0 := hh.c0; have h1 := hh.c1; have h2 := hh.c2; clear hh; go_simp⟩)
 refine wq1 5 fun K hK => ?_
 go_simp
 refine cm (HNM.out _) ?_
 rintro e w2 ⟨rfl, hb2⟩
 rw [← hwa] at hb2
 have hS2 : Below wa.heap.size wa w2 := hS0.trans (hb2.mono (Nat.le_refl _))
 refine hK.out _ _ hS2 (fun _ => ?_)
 clear hK K
 refine wh 6 (erV er) hS2 ?_
 refine wpAnyH_done (by kernel_rfl) ?_ _
 go_simp
 have HS2 := hide hS2
 clear hb2 hS2 hS0
 cases er with
 | some e =>
  unfold erV; exact zbct
 | none =>
  unfold erV; have d1 := keepC HS2.out c1; have d3 := keepC HS2.out c3; have dq := keepC HS2.out hcq; have hpl2 : p < w2.heap.size := cell_lt d1; have hgl2 : g < w2.heap.size := cell_lt dq; have hL0' : ¬ L = 0 := by omega
  go_wp2_with fail; have hS0 : Below w2.heap.size w2 w2.drew := (Below.refl _ _).drew; refine wp_region_held (S := fun X => Below w2.heap.size w2 X) (by kernel_rfl) ?_; change wpAnyH _ _ _ _ _ _ _ _ (World.drew _)
  refine wh 0 (nPtr p) hS0 ?_; refine wh 1 (nPtr p) hS0 ?_; refine wh 2 (.pointer (some ⟨p, 3, none⟩)) hS0 ?_
  refine wh 3 (.slice (some ⟨g, 0, none⟩) L cap) hS0 ?_ (hy := Or.inl ⟨by kernel_rfl, fun X hX => by have hh := keepC hX d3; go_simp⟩)
  refine wh 4 (.pointer (some ⟨g, 0, none⟩)) hS0 ?_ (hy := Or.inl ⟨by kernel_rfl, fun X hX => by have hL0 := hL0'; go_simp⟩)
  refine wh 5 (nPtr q) hS0 ?_ (hy := Or.inl ⟨by kernel_rfl, fun X hX => by have hh := keepC hX dq; go_simp⟩)
  refine wh 7 (nPtr p) hS0 ?_; refine wh 8 (nPtr p) hS0 ?_; refine wh 9 (.pointer (some ⟨p, 1, none⟩)) hS0 ?_; refine wh 10 (.string tx) hS0 ?_ (hy := Or.inl ⟨by kernel_rfl, fun X hX => by have hh := keepC hX d1; go_simp⟩)
  refine wq1 6 fun K hK => ?_; go_simp; refine cm (HNS.out _ (HS2.out.trans (hS0.mono HS2.out.size))) ?_; rintro e w3 ⟨⟨u3, rfl, hr3⟩, hb3⟩; obtain ⟨a3, c3', rfl⟩ := srow_form hr3
  have hS3 : Below w2.heap.size w2 w3 := hS0.trans (hb3.mono (Nat.le_refl _)); refine hK.out _ _ hS3 (fun _ => ?_); clear hK K; have HC := hide (contains_any ns tx _ w3 hr3 (by have := unhide HNL; omega))
  rw [← HRR.out] at HC; clear hr3; refine wq1 11 fun K hK => ?_; go_simp; refine cm HC.out ?_; rintro e w4 ⟨rfl, rfl⟩; refine hK.out _ _ hS3 (fun _ => ?_); clear hK K HC; refine wpAnyH_done (by kernel_rfl) ?_ _; go_simp
  have HS3 := hide (HS2.out.trans (hS3.mono HS2.out.size)); clear hb3 hS3 hS0; clear HRR
  cases r <;>
  ·
   go_wp2_with fail; go_ret; exact ⟨rfl, HBA.out.trans (HS3.out.mono HBA.out.size)⟩
end Go.Proofs.YtodmgaikhbmlnaaGreatDoor
