/-
  Vars and Names of a node.
-/
import Derived.Test.YtodmgaikhbmlnaaGreatDoorHn29
set_option maxRecDepth 100000
set_option maxHeartbeats 16000000
namespace Go.Proofs.YtodmgaikhbmlnaaGreatDoor
open Go.RowKit
theorem zd1 {B B' : Nat} {w : World} {v : Value} {l : List ByteArray} (h : SRow B w v l) (hB : B' ≤ B) : SRow B' w v l := by
 refine ⟨h.1, ?_⟩
 rcases h.2 with hn | ⟨g, cap, cur, hv, hb, rest⟩
 ·
  exact Or.inl hn
 ·
  exact Or.inr ⟨g, cap, cur, hv, by omega, rest⟩
abbrev varV (b : Nat) : Value := .func (.func 62) #[] #[.pointer (some ⟨b, 0, none⟩)]
theorem en62 : ∀ args W, (callFunc 62 args).run Tryz.prog W = .ok (.enter 62 args) W := fun _ _ => by kernel_rfl
theorem walkV (b B : Nat) : ∀ (m : Nat) (t : Tr), t.count ≤ m → ∀ (p : Nat) (l : List ByteArray) (w : World), NAt (fun x => x < B ∧ x ≠ b) w t p → GotS b B l w → l.length + t.count ≤ 90000 →
  Calls Tryz.prog 20 #[nPtr p, varV b] w fun e w' => e = .returned (.tuple #[]) ∧ GotS b B (l ++ vw t) w' ∧ Ap b B w w' := by
 intro m
 induction m with
 | zero =>
  intro t ht
  cases t with
  | mk kd tx nn ks => rw [zqy] at ht; omega
 | succ m ih =>
  intro t ht p l w hnt hG hbd; obtain ⟨u, ps, hblk, hrow, hri, hks⟩ := hnt.opens2; have hlen := NAts.length _ _ hks; have hpB : p < B ∧ p ≠ b := by
   cases t with
   | mk kd tx nn ks => rw [NAt] at hnt; exact hnt.1
  have htc : t.count = 1 + Tr.counts t.kids := by cases t with | mk kd tx nn ks => exact zqy _ _ _ _
  obtain ⟨_, _, _, f3, _⟩ := zzj hblk; obtain ⟨ua, uc, hu⟩ := zj2 hrow; subst hu; have hen := en62
  have hfn : ∀ W : World, (binOp .eql 35 (varV b) .nilFunc).run Tryz.prog W = .ok (.bool false) W := fun W => by kernel_rfl
  have HC := qh (vars1_any hG hnt (by omega)); have HKS := qh hks; have HROW := qh hrow; have HRI := qh hri; have HIH := qh ih; have HTC := qh htc; have HHT := qh ht; have HBD := qh hbd; have HF3 := qh f3
  have HPL := qh (zzq hblk); have HPB := qh hpB; have HLEN := qh hlen; have HVW := qh (vw_eq t); have HOL : Hid ((zmx t).length ≤ 1) := by show _ ≤ _; unfold zmx; split <;> simp
  clear hG hks hrow hri ih htc ht hbd hblk hnt f3 hpB hlen
  cases hx : zg3 t with
  | true =>
   rw [hx] at HC HVW; clear hx; go_enter Tryz.func20, Tryz.ntmps20; go_wp2_with fail; refine cm HC.out ?_; rintro e w1 ⟨rfl, hg1, ha1⟩; have HG1 := qh hg1; have HA1 := qh ha1; clear HC hg1 ha1; go_wp2_with fail
   exact bodyPost_ret (v := .tuple #[]) (by simp [results, Tryz.results20, go_sem]) rfl ⟨rfl, by rw [HVW.out]; simpa using HG1.out, HA1.out⟩
  | false =>
   rw [hx] at HC HVW; clear hx; go_enter Tryz.func20, Tryz.ntmps20; go_wp2_with fail; refine cm HC.out ?_; rintro e w1 ⟨rfl, hg1, ha1⟩; have g3 := (ha1.cell (p := ⟨p, 3, none⟩) HPB.out.1 HPB.out.2).trans HF3.out
   rw [HLEN.out] at g3; have hpl1 : p < w1.heap.size := Nat.lt_of_lt_of_le HPL.out ha1.size; have HG1 := qh hg1; have HA1 := qh ha1; clear HC hg1 ha1; go_wp2_with fail
   go_loopw [23] (fun i wr => ∃ k : Nat, k ≤ t.kids.length ∧ i = .int .i64 k ∧ GotS b B (l ++ zmx t ++ vws (t.kids.take k)) wr ∧ Ap b B w wr) (fun i _ => t.kids.length - (intOf i).toNat)
   case atStart => exact ⟨0, Nat.zero_le _, rfl, by simpa [vws] using HG1.out, HA1.out⟩
   case round =>
    obtain ⟨k, hk, rfl, hg, hap⟩ := hrel; have HGK := qh hg; have HAK := qh hap; clear hg hap
    by_cases hlt : k < t.kids.length
    ·
     obtain ⟨g, cap, hv, hcell⟩ := zw9 HROW.out (by rw [HLEN.out]; omega)
     simp only [Value.slice.injEq] at hv; obtain ⟨rfl, _, rfl⟩ := hv; obtain ⟨hkp, hnk⟩ := NAts.get _ _ HKS.out k hlt; have hgb := zzz HRI g rfl; have hck : wr.cell? ⟨g, k, none⟩ = some (nPtr ps[k]) := by
      rw [HAK.out.cell (p := ⟨g, k, none⟩) hgb.1 hgb.2]; exact hcell k hkp
     have hnk2 : NAt (fun x => x < B ∧ x ≠ b) wr t.kids[k] ps[k] := NAt.later (fun x hx hl => HAK.out.block x hx.1 hx.2) _ _ hnk; have hgl : g < wr.heap.size := Nat.lt_of_lt_of_le (zxj HROW.out g rfl).1 HAK.out.size
     have htk := zhx t.kids k hlt; have hwk := vws_take t.kids k hlt; have hwl := zmk (t.kids.take k); have h1 := zzz HTC; have h2 := zzz HHT; have h3 := zzz HBD; have h4 := zzz HOL
     have htot : Tr.counts (t.kids.take k) + (t.kids[k]).count ≤ Tr.counts t.kids := by
      have : Tr.counts t.kids = Tr.counts (t.kids.take (k + 1)) + Tr.counts (t.kids.drop (k + 1)) := by rw [← zk2, List.take_append_drop]
      omega
     have HC := qh (HIH.out t.kids[k] (by omega) ps[k] _ wr hnk2 HGK.out (by rw [List.length_append, List.length_append]; omega))
     have HWK := qh hwk; obtain ⟨q, hq⟩ : ∃ q, q = ps[k] := ⟨_, rfl⟩; rw [← hq] at hck HC; have hki : (k : Int) < (t.kids.length : Int) := by omega
     have hkb : t.kids.length ≤ 100000 := by have := zvz t.kids; omega
     clear hcell hnk hnk2 htk h1 h2 h3 h4 htot hq hwk hwl; go_wp2_with fail; refine cm HC.out ?_; rintro e w2 ⟨rfl, hc2, ha2⟩; have HC2 := qh hc2; have HA2 := qh (HAK.out.trans ha2); clear hc2 ha2 HC hck
     go_wp2_with fail
     go_roundw
     case rel => exact ⟨k + 1, by omega, by go_num, by rw [HWK.out, ← List.append_assoc]; exact HC2.out, HA2.out⟩
     case measure => simp [intOf]; omega
    ·
     have hk2 : k = t.kids.length := by omega
     subst hk2; go_wp2_with fail
     go_end0
     refine ⟨rfl, ?_, HAK.out⟩; have h := zzz HGK; rw [List.take_length] at h; rw [HVW.out, ← List.append_assoc]; exact h
theorem kids_cell {p n c : Nat} {a : Option Addr} {w : World} (hc : w.cell? ⟨p, 3, none⟩ = some (.slice a n c)) : Calls Tryz.prog 64 #[nPtr p] w fun e w' => e = .returned (.slice a n c) ∧ w' = w := by
 go_enter Tryz.func64, Tryz.ntmps64
 go_wp2_with fail
 go_ret
 exact ⟨rfl, rfl⟩
def zdk (t : Tr) : List ByteArray := zb8 (vws t.kids)
theorem vars_any (t : Tr) (p : Nat) (w : World) (h : NTr w t p) (hc : t.count ≤ 80000) :
  Calls Tryz.prog 29 #[nPtr p] w fun e w' => (∃ u, e = .returned u ∧ SRow w.heap.size w' u (zdk t)) ∧ Below w.heap.size w w' := by
 have hN : NAt (fun x => x < w.heap.size) w t p := NAt.mono (fun b _ hl => hl) _ _ h
 obtain ⟨wa, hwa⟩ : ∃ wa, wa = w.alloc (.cells #[.slice none 0 0] 54) := ⟨_, rfl⟩
 have hba : Below w.heap.size w wa := by rw [hwa]; exact qb.alloc qv _
 have hsa : wa.heap.size = w.heap.size + 1 := by rw [hwa]; simp
 have hga : GotS w.heap.size (w.heap.size + 1) [] wa := ⟨by omega, by omega, _, by rw [hwa]; exact zqx _ _, zfj _ _⟩
 have htc : t.count = 1 + Tr.counts t.kids := by cases t with | mk kd tx nn ks => exact zqy _ _ _ _
 obtain ⟨u, ps, hblk, hrow, hri, hks⟩ := hN.opens2
 have hlen := NAts.length _ _ hks
 obtain ⟨ua, uc, hu⟩ := zj2 hrow
 subst hu
 obtain ⟨_, _, _, f3, _⟩ := zzj hblk
 have HK := qh (kids_cell (w := wa) (p := p) ((World.cell?_of_block (w := w) (a := ⟨p, 3, none⟩) (hba.block p (zzq hblk))).trans f3))
 rw [hlen] at HK
 have HROW := qh hrow
 have HKS := qh hks
 have HRI := qh hri
 have HBA := qh hba
 have HSA := qh hsa
 have HGA := qh hga
 have HTC := qh htc
 have HHC := qh hc
 have HLEN := qh hlen
 have hen := en62
 have hkb : t.kids.length ≤ 100000 := by have := zvz t.kids; omega
 clear h hN hba hga hrow hks hri hblk f3 htc hc hlen hsa
 go_enter Tryz.func29, Tryz.ntmps29
 go_wp2_with fail
 rw [← hwa]
 refine cm HK.out ?_
 rintro e w1 ⟨rfl, rfl⟩
 clear HK hwa
 go_wp2_with fail
 go_loopw [11] (fun i wr => ∃ k : Nat, k ≤ t.kids.length ∧ i = .int .i64 k ∧ GotS w.heap.size (w.heap.size + 1) (vws (t.kids.take k)) wr ∧ Ap w.heap.size (w.heap.size + 1) w1 wr) (fun i _ => t.kids.length - (intOf i).toNat)
 case atStart => exact ⟨0, Nat.zero_le _, rfl, by simpa [vws] using HGA.out, Ap.refl _ _ _⟩
 case round =>
  obtain ⟨k, hk, rfl, hg, hap⟩ := hrel; have HGK := qh hg; have HAK := qh hap; clear hg hap
  by_cases hlt : k < t.kids.length
  ·
   obtain ⟨g, cap, hv, hcell⟩ := zw9 HROW.out (by rw [HLEN.out]; omega)
   simp only [Value.slice.injEq] at hv; obtain ⟨rfl, _, rfl⟩ := hv; obtain ⟨hkp, hnk⟩ := NAts.get _ _ HKS.out k hlt; have hgl : g < w.heap.size := (zxj HROW.out g rfl).1
   have hck : wr.cell? ⟨g, k, none⟩ = some (nPtr ps[k]) := by
    rw [HAK.out.cell (p := ⟨g, k, none⟩) (by show g < _; omega) (by show g ≠ _; omega), World.cell?_of_block (w := w) (a := ⟨g, k, none⟩) (HBA.out.block g hgl)]; exact hcell k hkp
   have hnk2 : NAt (fun x => x < w.heap.size + 1 ∧ x ≠ w.heap.size) wr t.kids[k] ps[k] :=
    NAt.mono (fun x hx _ => ⟨by have h1 : x < w.heap.size := hx; omega, by have h1 : x < w.heap.size := hx; omega⟩) _ _ (NAt.later (I := fun x => x < w.heap.size) (fun x hx hl => (HAK.out.block x (by have h1 : x < w.heap.size := hx; omega) (by have h1 : x < w.heap.size := hx; omega)).trans (HBA.out.block x hx)) _ _ hnk)
   have hglr : g < wr.heap.size := by have := HAK.out.size; have := zzz HSA; omega
   have htk := zhx t.kids k hlt; have hwk := vws_take t.kids k hlt; have hwl := zmk (t.kids.take k); have h1 := zzz HTC; have h3 := zzz HHC
   have htot : Tr.counts (t.kids.take k) + (t.kids[k]).count ≤ Tr.counts t.kids := by
    have : Tr.counts t.kids = Tr.counts (t.kids.take (k + 1)) + Tr.counts (t.kids.drop (k + 1)) := by rw [← zk2, List.take_append_drop]
    omega
   have HC := qh (walkV w.heap.size (w.heap.size + 1) (t.kids[k]).count t.kids[k] qv ps[k] _ wr hnk2 HGK.out (by omega)); have HWK := qh hwk; obtain ⟨q, hq⟩ : ∃ q, q = ps[k] := ⟨_, rfl⟩
   rw [← hq] at hck HC; have hki : (k : Int) < (t.kids.length : Int) := by omega
   clear hcell hnk hnk2 htk h1 h3 htot hq hwk hwl; go_wp2_with fail; refine cm HC.out ?_; rintro e w2 ⟨rfl, hc2, ha2⟩; have HC2 := qh hc2; have HA2 := qh (HAK.out.trans ha2); clear hc2 ha2 HC hck; go_wp2_with fail
   go_roundw
   case rel => exact ⟨k + 1, by omega, by go_num, by rw [HWK.out]; exact HC2.out, HA2.out⟩
   case measure => simp [intOf]; omega
  ·
   have hk2 : k = t.kids.length := by omega
   subst hk2; have hg := zzz HGK; rw [List.take_length] at hg; obtain ⟨_, hz, v, hb, hown⟩ := hg; obtain ⟨oa, oc, rfl⟩ := zz7 hown
   have c0 : wr.cell? ⟨w.heap.size, 0, none⟩ = some (.slice oa (vws t.kids).length oc) := by rw [zqj hb]; rfl
   have hbl := zzq hb; have HBW : Hid (Below w.heap.size w wr) := HBA.out.trans ((HAK.out.mono (by omega)).below qv); have hvl := zmk t.kids
   have HC := qh (zm8 (vws t.kids) _ wr hown (by have := zzz HTC; have := zzz HHC; omega))
   clear hown hb hvl; go_wp2_with fail; refine cm HC.out ?_; rintro e w2 ⟨⟨u, rfl, hr⟩, hb2⟩; obtain ⟨xa, xc, rfl⟩ := zz7 hr; have HR2 := qh hr; have HB2 := qh (HBW.out.trans (hb2.mono HBW.out.size))
   clear HC hr hb2; go_wp2_with fail; go_ret; exact ⟨⟨_, rfl, zd1 HR2.out HBW.out.size⟩, HB2.out⟩
theorem run_app_none {P : Program} {w : World} (base : Nat) (t ty e : TypeId) (i : TypeInfo) (size : Nat) (ht : P.underlying t = some (.slice e)) (hi : P.info? e = some i)
  (v : Value) (n : Nat) (xs : List Value) (hown : w.ownsRow base e size v n xs) (ad : Option Addr) (k : Nat) :
  (Builtin.append_ #[t, t] ty #[v, .slice ad 0 k]).run P w = .ok v w := by
 cases ad <;> rcases hown.2 with ⟨rfl, rfl⟩ | ⟨g, cap, cur, rfl, _, _, hnc, _⟩ <;>
  simp [Builtin.append_, run_underlying ht, sizeOf, typeInfo, Builtin.lenOf, Builtin.firstCells, loadCells, loadCellsFrom, storeCells, *]
theorem zjj {P : Program} {w : World} {ops : Array Oper} {rest : List Oper} {o : Oper} {a : Act} {Q : Exit → Act → World → Prop} (hgd : o.guard = none) (s x : Operand) (t : TypeId)
  (ho : o.op = .call { callee := .builtin .append, args := #[s, x], argTypes := #[t, t] })
  (base B2 : Nat) (e : TypeId) (i : TypeInfo) (z : Value) (bytes : Nat) (ht : P.underlying t = some (.slice e)) (hi : P.info? e = some i) (hz : i.zero = some z)
  (hsize : i.size = 1) (hby : i.bytes = bytes) (hzs : z.cells.size = 1)
  (v : Value) (n : Nat) (xs : List Value) (hs : a.eval s = v) (hown : w.ownsRow base e 1 v n xs)
  (v2 : Value) (m : Nat) (news : List Value) (hx : a.eval x = v2) (hown2 : w.ownsRow B2 e 1 v2 m news) (h1 : ∀ u ∈ news, u.oneCell' = true)
  (h63 : n + m ≤ maxLen) (hbytes : (n + m) * bytes ≤ 140737488355328) (hbase : base ≤ w.heap.size)
  (h : ∀ v' w', w'.ownsRow base e 1 v' (n + m) (xs ++ news) → w.grownBy w' v.ownBlock → wpList P ops Q rest (a.put o.dst v') w') : wpList P ops Q (o :: rest) a w := by
 rcases Nat.eq_zero_or_pos m with rfl | hm
 ·
  have hnews : news = [] := List.length_eq_zero_iff.1 (by rw [hown2.1]); subst hnews; obtain ⟨ad, k, rfl⟩ := zz7 hown2
  have hk := h v w (by rw [List.append_nil]; exact hown) ⟨rfl, rfl, rfl, Nat.le_refl _, fun _ _ _ => rfl⟩
  refine wpList_plain hgd fun K hK => ?_; have hrun := run_app_none (P := P) (w := w) base t o.type e i 1 ht hi v n xs hown ad k; unfold Oper.wp; simp [execOp, ho, resolve, invoke, builtin, hs, hx, hrun, Result.andThen]
  exact hK _ _ hk
 ·
  obtain ⟨g, cap, rfl, _, _⟩ := hown2.form hm
  refine wpList_append_lies w hgd s x t ho base e i z 1 bytes ht hi hz hsize hby hzs (by decide) v n xs hs hown ⟨g, 0, none⟩ m cap news hx hown2.1 (fun j u hj => ?_) h1 hm h63 hbytes hbase _ rfl (fun g' cap' w' a b _ _ => h _ _ a b)
  have hl : j < m * 1 := by
   rw [← hown2.1]; exact (List.getElem?_eq_some_iff.1 hj).1
  have h4 : (⟨g, 0, none⟩ : Addr).add j = ⟨g, j, none⟩ := by simp [Addr.add]; exact Eq.symm
  rw [h4, hown2.cellAt j hl]; exact hj
def zgz (t : Tr) (body : Bool) : List ByteArray := zb8 ((if body then zdk t else []) ++ (fnsT t).map Tr.tx ++ (zm0 t).map Tr.tx)
theorem fns_len (t : Tr) : (fnsT t).length ≤ t.kids.length := List.length_filter_le _ _
theorem lets_len (t : Tr) : (zm0 t).length ≤ t.kids.length := List.length_filter_le _ _
theorem zm2 (t : Tr) : (zdk t).length ≤ Tr.counts t.kids := Nat.le_trans (zp5 _) (zmk _)
theorem names_any (t : Tr) (p : Nat) (body : Bool) (w : World) (h : NTr w t p) (hc : t.count ≤ 20000) :
  Calls Tryz.prog 35 #[nPtr p, .bool body] w fun e w' => (∃ u, e = .returned u ∧ SRow w.heap.size w' u (zgz t body)) ∧ Below w.heap.size w w' := by
 obtain ⟨i0, hi0, hz0, hz1, hz2⟩ := info_parts info9
 have htc : t.count = 1 + Tr.counts t.kids := by cases t with | mk kd tx nn ks => exact zqy _ _ _ _
 have hkl : t.kids.length ≤ 20000 := by have := zvz t.kids; omega
 have hfl := fns_len t
 have hll := lets_len t
 have hvl := zm2 t
 have HN0 := qh h
 unfold zgz
 obtain ⟨F, hF⟩ : ∃ F, F = (fnsT t).map Tr.tx := ⟨_, rfl⟩
 have hFl : F.length ≤ 20000 := by rw [hF, List.length_map]; omega
 obtain ⟨G, hG⟩ : ∃ G, G = (zm0 t).map Tr.tx := ⟨_, rfl⟩
 have hGl : G.length ≤ 20000 := by rw [hG, List.length_map]; omega
 rw [← hF, ← hG]
 have HFF := qh hF
 have HGG := qh hG
 clear hF hG
 cases body with
 | true =>
  have HC0 := qh (vars_any t p w h (by omega)); clear h; simp only [if_true]; obtain ⟨V, hV⟩ : ∃ V, V = zdk t := ⟨_, rfl⟩; have hVl : V.length ≤ 20000 := by rw [hV]; omega
  rw [← hV] at HC0 ⊢; clear hV htc hvl; obtain ⟨VF, hVF⟩ : ∃ VF, VF = V ++ F := ⟨_, rfl⟩; obtain ⟨VFG, hVFG⟩ : ∃ VFG, VFG = VF ++ G := ⟨_, rfl⟩; rw [← hVF, ← hVFG]
  have hvf : VF.length ≤ 40000 := by rw [hVF, List.length_append]; omega
  have hvfg : VFG.length ≤ 60000 := by rw [hVFG, List.length_append]; omega
  have HVF := qh hVF; have HVFG := qh hVFG; clear hVF hVFG; go_enter Tryz.func35, Tryz.ntmps35; go_wp2_with fail; refine cm HC0.out ?_; rintro e w1 ⟨⟨u1, rfl, hr1⟩, hb1⟩; obtain ⟨a1, c1, rfl⟩ := zz7 hr1
  have HB1 := qh hb1; have HN1 := qh (HN0.out.later hb1); have HV1 := qh hr1; clear HC0 hr1 hb1; have HC := qh (funcs_any t p w1 HN1.out (by omega)); go_wp2_with fail; refine cm HC.out ?_
  rintro e w2 ⟨⟨u2, rfl, hr2⟩, hb2⟩; obtain ⟨a2, c2, rfl⟩ := hr2.form; have HB2 := qh (HB1.out.trans (hb2.mono HB1.out.size)); have HN2 := qh (HN1.out.later hb2); have HV2 := qh (SRow.later HV1.out hb2)
  have HC2 := qh (zdw (fnsT t) _ w2 hr2 (by omega)); clear HC hr2 hb2; go_wp2_with fail; refine cm HC2.out ?_; rintro e w3 ⟨⟨u3, rfl, hr3⟩, hb3⟩; rw [← HFF.out] at hr3; obtain ⟨a3, c3, rfl⟩ := zz7 hr3
  have HB3 := qh (HB2.out.trans (hb3.mono HB2.out.size)); have HN3 := qh (HN2.out.later hb3); have HV3 := qh (SRow.later HV2.out hb3); have HR3 := qh hr3; clear HC2 hr3 hb3
  go_wp2_with (at_builtin; refine zjj rfl _ _ 54 rfl w.heap.size _ 9 i0 (.string ByteArray.empty) 16 Tryz.underlying54 hi0 hz0 hz1 hz2 rfl _ _ _ rfl HV3.out _ _ _ rfl HR3.out (zbv F) (by unfold maxLen; omega) (by omega) HB3.out.size ?_)
  intro v4 w4 hown4 hgr4; have hsr4 : SRow w.heap.size w4 v4 VF := by
   show World.ownsRow _ _ _ _ _ _ _
   rw [HVF.out, List.length_append, List.map_append]; exact hown4
  have hob := fun k hk => (zxj HV3.out k hk).2; have HB4 := qh (HB3.out.grown hgr4 HB3.out.size hob); have HN4 : Hid (NTr w4 t p) := NTr.later HN0.out HB4.out; obtain ⟨a4, c4, rfl⟩ := zz7 hsr4
  have HV4 := qh hsr4; clear hown4 hgr4 hsr4 hob; have HC := qh (lets_any t p w4 HN4.out (by omega)); go_wp2_with fail; refine cm HC.out ?_; rintro e w5 ⟨⟨u5, rfl, hr5⟩, hb5⟩; obtain ⟨a5, c5, rfl⟩ := hr5.form
  have HB5 := qh (HB4.out.trans (hb5.mono HB4.out.size)); have HV5 := qh (SRow.later HV4.out hb5); have HC2 := qh (zdw (zm0 t) _ w5 hr5 (by omega)); clear HC hr5 hb5; go_wp2_with fail; refine cm HC2.out ?_
  rintro e w6 ⟨⟨u6, rfl, hr6⟩, hb6⟩; rw [← HGG.out] at hr6; obtain ⟨a6, c6, rfl⟩ := zz7 hr6; have HB6 := qh (HB5.out.trans (hb6.mono HB5.out.size)); have HV6 := qh (SRow.later HV5.out hb6); have HR6 := qh hr6
  clear HC2 hr6 hb6
  go_wp2_with (at_builtin; refine zjj rfl _ _ 54 rfl w.heap.size _ 9 i0 (.string ByteArray.empty) 16 Tryz.underlying54 hi0 hz0 hz1 hz2 rfl _ _ _ rfl HV6.out _ _ _ rfl HR6.out (zbv G) (by unfold maxLen; omega) (by omega) HB6.out.size ?_)
  intro v7 w7 hown7 hgr7; have hsr7 : SRow w.heap.size w7 v7 VFG := by
   show World.ownsRow _ _ _ _ _ _ _
   rw [HVFG.out, List.length_append, List.map_append]; exact hown7
  have hob := fun k hk => (zxj HV6.out k hk).2; have HB7 := qh (HB6.out.grown hgr7 HB6.out.size hob); obtain ⟨a7, c7, rfl⟩ := zz7 hsr7; have HC := qh (zm8 VFG _ w7 hsr7 (by omega))
  clear hown7 hgr7 hsr7 hob; go_wp2_with fail; refine cm HC.out ?_; rintro e w8 ⟨⟨u8, rfl, hr8⟩, hb8⟩; obtain ⟨a8, c8, rfl⟩ := zz7 hr8; have HR8 := qh (zd1 hr8 HB7.out.size)
  have HB8 := qh (HB7.out.trans (hb8.mono HB7.out.size)); clear HC hr8 hb8; go_wp2_with fail; go_ret; exact ⟨⟨_, rfl, HR8.out⟩, HB8.out⟩
 | false =>
  simp only [Bool.false_eq_true, if_false]; obtain ⟨V, hV⟩ : ∃ V : List ByteArray, V = [] := ⟨_, rfl⟩; have hVl : V.length ≤ 20000 := by rw [hV]; simp
  have HB1 : Hid (Below w.heap.size w w) := Below.refl _ _; have HN1 : Hid (NTr w t p) := h; have HV1 : Hid (SRow w.heap.size w (.slice none 0 0) V) := by rw [hV]; exact zfj _ _
  have HGO : Hid (∀ l, l = [] ++ F ++ G → l = V ++ F ++ G) := fun l hl => by rw [hl, hV]
  rw [zzz HGO _ rfl]; clear h hV htc hvl HGO; obtain ⟨VF, hVF⟩ : ∃ VF, VF = V ++ F := ⟨_, rfl⟩; obtain ⟨VFG, hVFG⟩ : ∃ VFG, VFG = VF ++ G := ⟨_, rfl⟩; rw [← hVF, ← hVFG]
  have hvf : VF.length ≤ 40000 := by rw [hVF, List.length_append]; omega
  have hvfg : VFG.length ≤ 60000 := by rw [hVFG, List.length_append]; omega
  have HVF := qh hVF; have HVFG := qh hVFG; clear hVF hVFG; go_enter Tryz.func35, Tryz.ntmps35; have HC := qh (funcs_any t p w HN1.out (by omega)); go_wp2_with fail; refine cm HC.out ?_
  rintro e w2 ⟨⟨u2, rfl, hr2⟩, hb2⟩; obtain ⟨a2, c2, rfl⟩ := hr2.form; have HB2 := qh (HB1.out.trans (hb2.mono HB1.out.size)); have HN2 := qh (HN1.out.later hb2); have HV2 := qh (SRow.later HV1.out hb2)
  have HC2 := qh (zdw (fnsT t) _ w2 hr2 (by omega)); clear HC hr2 hb2; go_wp2_with fail; refine cm HC2.out ?_; rintro e w3 ⟨⟨u3, rfl, hr3⟩, hb3⟩; rw [← HFF.out] at hr3; obtain ⟨a3, c3, rfl⟩ := zz7 hr3
  have HB3 := qh (HB2.out.trans (hb3.mono HB2.out.size)); have HN3 := qh (HN2.out.later hb3); have HV3 := qh (SRow.later HV2.out hb3); have HR3 := qh hr3; clear HC2 hr3 hb3
  go_wp2_with (at_builtin; refine zjj rfl _ _ 54 rfl w.heap.size _ 9 i0 (.string ByteArray.empty) 16 Tryz.underlying54 hi0 hz0 hz1 hz2 rfl _ _ _ rfl HV3.out _ _ _ rfl HR3.out (zbv F) (by unfold maxLen; omega) (by omega) HB3.out.size ?_)
  intro v4 w4 hown4 hgr4; have hsr4 : SRow w.heap.size w4 v4 VF := by
   show World.ownsRow _ _ _ _ _ _ _
   rw [HVF.out, List.length_append, List.map_append]; exact hown4
  have hob := fun k hk => (zxj HV3.out k hk).2; have HB4 := qh (HB3.out.grown hgr4 HB3.out.size hob); have HN4 : Hid (NTr w4 t p) := NTr.later HN0.out HB4.out; obtain ⟨a4, c4, rfl⟩ := zz7 hsr4
  have HV4 := qh hsr4; clear hown4 hgr4 hsr4 hob; have HC := qh (lets_any t p w4 HN4.out (by omega)); go_wp2_with fail; refine cm HC.out ?_; rintro e w5 ⟨⟨u5, rfl, hr5⟩, hb5⟩; obtain ⟨a5, c5, rfl⟩ := hr5.form
  have HB5 := qh (HB4.out.trans (hb5.mono HB4.out.size)); have HV5 := qh (SRow.later HV4.out hb5); have HC2 := qh (zdw (zm0 t) _ w5 hr5 (by omega)); clear HC hr5 hb5; go_wp2_with fail; refine cm HC2.out ?_
  rintro e w6 ⟨⟨u6, rfl, hr6⟩, hb6⟩; rw [← HGG.out] at hr6; obtain ⟨a6, c6, rfl⟩ := zz7 hr6; have HB6 := qh (HB5.out.trans (hb6.mono HB5.out.size)); have HV6 := qh (SRow.later HV5.out hb6); have HR6 := qh hr6
  clear HC2 hr6 hb6
  go_wp2_with (at_builtin; refine zjj rfl _ _ 54 rfl w.heap.size _ 9 i0 (.string ByteArray.empty) 16 Tryz.underlying54 hi0 hz0 hz1 hz2 rfl _ _ _ rfl HV6.out _ _ _ rfl HR6.out (zbv G) (by unfold maxLen; omega) (by omega) HB6.out.size ?_)
  intro v7 w7 hown7 hgr7; have hsr7 : SRow w.heap.size w7 v7 VFG := by
   show World.ownsRow _ _ _ _ _ _ _
   rw [HVFG.out, List.length_append, List.map_append]; exact hown7
  have hob := fun k hk => (zxj HV6.out k hk).2; have HB7 := qh (HB6.out.grown hgr7 HB6.out.size hob); obtain ⟨a7, c7, rfl⟩ := zz7 hsr7; have HC := qh (zm8 VFG _ w7 hsr7 (by omega))
  clear hown7 hgr7 hsr7 hob; go_wp2_with fail; refine cm HC.out ?_; rintro e w8 ⟨⟨u8, rfl, hr8⟩, hb8⟩; obtain ⟨a8, c8, rfl⟩ := zz7 hr8; have HR8 := qh (zd1 hr8 HB7.out.size)
  have HB8 := qh (HB7.out.trans (hb8.mono HB7.out.size)); clear HC hr8 hb8; go_wp2_with fail; go_ret; exact ⟨⟨_, rfl, HR8.out⟩, HB8.out⟩
theorem add_mem {l : List ByteArray} {s x : ByteArray} : x ∈ addB l s ↔ x ∈ l ∨ x = s := by
 unfold addB
 split
 ·
  rename_i h
  constructor
  ·
   exact Or.inl
  ·
   rintro (h1 | rfl)
   ·
    exact h1
   ·
    exact hasB_iff.1 h
 ·
  simp
theorem fold_mem : ∀ (l acc : List ByteArray) (x : ByteArray), x ∈ l.foldl addB acc ↔ x ∈ acc ∨ x ∈ l
 | [], acc, x => by simp
 | s :: l, acc, x => by
  rw [List.foldl_cons, fold_mem l, add_mem]; simp [or_assoc]
theorem addB_in {l : List ByteArray} {x : ByteArray} (h : x ∈ l) : addB l x = l := by unfold addB; rw [if_pos (hasB_iff.2 h)]
theorem fold_add (acc pre : List ByteArray) (x : ByteArray) : (addB pre x).foldl addB acc = addB (pre.foldl addB acc) x := by
 by_cases hx : x ∈ pre
 ·
  rw [show addB pre x = pre by unfold addB; rw [if_pos (hasB_iff.2 hx)]]
  have h2 : x ∈ pre.foldl addB acc := (fold_mem _ _ _).2 (Or.inr hx); rw [addB_in h2]
 ·
  rw [show addB pre x = pre ++ [x] by unfold addB; rw [if_neg (by rw [hasB_no.2 hx]; decide)], List.foldl_append]
  rfl
theorem fold_fold (acc : List ByteArray) : ∀ (l pre : List ByteArray), (l.foldl addB pre).foldl addB acc = l.foldl addB (pre.foldl addB acc)
 | [], _ => rfl
 | x :: l, pre => by rw [List.foldl_cons, fold_fold acc l, fold_add, List.foldl_cons]
theorem fold_once (acc l : List ByteArray) : (zb8 l).foldl addB acc = l.foldl addB acc := fold_fold acc l []
theorem once_once (l : List ByteArray) : zb8 (zb8 l) = zb8 l := fold_once [] l
theorem rhas_any {B : Nat} (l : List ByteArray) (s : ByteArray) (v : Value) (w : World) (h : SRow B w v l) (hl : l.length ≤ 90000) :
  Calls Tryz.prog 79 #[v, .string s] w fun e w' => e = .returned (.bool (hasB l s)) ∧ w' = w := by
 obtain ⟨va, vc, rfl⟩ := zz7 h
 have HR := qh h
 obtain ⟨R, hR⟩ : ∃ R, R = hasB l s := ⟨_, rfl⟩
 rw [← hR]
 have HRR := qh hR
 clear h hR
 go_enter Tryz.func79, Tryz.ntmps79
 go_wp2_with fail
 go_loopw [9] (fun i wr => ∃ k : Nat, k ≤ l.length ∧ i = .int .i64 k ∧ s ∉ l.take k ∧ wr = w) (fun i _ => l.length - (intOf i).toNat)
 case atStart => exact ⟨0, Nat.zero_le _, rfl, by simp, rfl⟩
 case round =>
  obtain ⟨k, hk, rfl, hns, rfl⟩ := hrel; have HNS := qh hns; clear hns
  by_cases hlt : k < l.length
  ·
   obtain ⟨g, cap, hv, hg, _, hc⟩ := zbw HR.out k hlt; simp only [Value.slice.injEq] at hv; obtain ⟨rfl, _, rfl⟩ := hv; have hki : (k : Int) < (l.length : Int) := by omega
   obtain ⟨x, hx⟩ : ∃ x, x = l[k] := ⟨_, rfl⟩; rw [← hx] at hc; have HX := qh hx; clear hx
   by_cases he : x = s
   ·
    have hRt : R = true := by rw [HRR.out, hasB_iff, ← he, HX.out]; exact List.getElem_mem _
    subst he hRt; go_wp2_with fail; go_ret; exact ⟨rfl, rfl⟩
   ·
    have hne := zp2 he; have HE := qh he; clear he; go_wp2_with fail
    go_roundw
    case rel =>
     refine ⟨k + 1, by omega, by go_num, ?_, trivial⟩; rw [List.take_succ_eq_append_getElem hlt]; intro hm
     rcases List.mem_append.1 hm with hm | hm
     ·
      exact zzz HNS hm
     ·
      exact zzz HE (by rw [HX.out]; exact (List.mem_singleton.1 hm).symm)
    case measure => simp [intOf]; omega
  ·
   have hkk : k = l.length := by omega
   subst hkk; have hRf : R = false := by
    have h := zzz HNS; rw [List.take_length] at h; rw [HRR.out, hasB_no]; exact h
   subst hRf; go_wp2_with fail; go_ret; exact ⟨rfl, rfl⟩
theorem zm6 {B : Nat} (l : List ByteArray) (s : ByteArray) (v : Value) (w : World) (h : SRow B w v l) (hl : l.length ≤ 80000) (hB : B ≤ w.heap.size) :
  Calls Tryz.prog 66 #[v, .string s] w fun e w' => (∃ u, e = .returned u ∧ SRow B w' u (addB l s)) ∧ Below w.heap.size w w' := by
 obtain ⟨i0, hi0, hz0, hz1, hz2⟩ := info_parts info9
 have HC := qh (rhas_any l s v w h (by omega))
 obtain ⟨va, vc, rfl⟩ := zz7 h
 have HR := qh h
 unfold addB
 clear h
 cases hh : hasB l s with
 | true =>
  rw [hh] at HC; clear hh; simp only [if_true]; go_enter Tryz.func66, Tryz.ntmps66; go_wp2_with fail; refine cm HC.out ?_; rintro e w1 ⟨rfl, rfl⟩; clear HC; go_wp2_with fail; go_ret
  exact ⟨⟨_, rfl, HR.out⟩, Below.refl _ _⟩
 | false =>
  rw [hh] at HC; clear hh; simp only [Bool.false_eq_true, if_false]; go_enter Tryz.func66, Tryz.ntmps66; go_wp2_with fail; refine cm HC.out ?_; rintro e w1 ⟨rfl, rfl⟩; clear HC
  go_wp2_with (at_builtin; refine zjj rfl _ _ 54 rfl w1.heap.size _ 9 i0 (.string ByteArray.empty) 16 Tryz.underlying54 hi0 hz0 hz1 hz2 rfl _ _ _ rfl (World.ownsRow_lit w1 #[] 0 qv (by decide) rfl) _ _ _ rfl (HR.out.alloc _) (zbv l) (by unfold maxLen; omega) (by omega) (by simp) ?_)
  intro v2 w2 hown2 hgr2; have hsr2 : w2.ownsRow w1.heap.size 9 1 v2 l.length (l.map Value.string) := by simpa using hown2
  have hb2 : Below w1.heap.size w1 w2 := (qb.alloc qv _).grown hgr2 (by simp) (fun k hk => by simp [Value.ownBlock] at hk; omega)
  obtain ⟨a2, c2, rfl⟩ := zz7 hsr2; have HR2 := qh hsr2; have HB2 := qh hb2; have hz2' := hb2.size; clear hown2 hgr2 hsr2 hb2
  go_wp2_with (at_builtin; refine wpList_append_lies _ rfl _ _ 54 rfl w1.heap.size 9 i0 (.string ByteArray.empty) 1 16 Tryz.underlying54 hi0 hz0 hz1 hz2 rfl (by decide) _ _ _ rfl (HR2.out.alloc _) ⟨w2.heap.size, 0, none⟩ 1 1 [.string s] rfl rfl (zp8 w2 s _ rfl) (hoOneS s) (by decide) (by unfold maxLen; omega) (by omega) (by simp; omega) (w2.heap.size + 1) (by simp) ?_)
  intro g' cap' w3 hown' hgrow hg' _; have HB3 := qh ((HB2.out.alloc hz2' (.cells #[.string s] 9)).grown hgrow (by simp; omega) (fun b hb => (zxj HR2.out b hb).2))
  have HO3 : Hid (SRow B w3 (.slice (some ⟨g', 0, none⟩) (l.length + 1) cap') (l ++ [s])) := by
   have h1 : SRow w1.heap.size w3 (.slice (some ⟨g', 0, none⟩) (l.length + 1) cap') (l ++ [s]) := by
    show World.ownsRow _ _ _ _ _ _ _
    rw [List.length_append, List.map_append]; exact hown'
   exact zd1 h1 hB
  clear hown' hgrow hg'; go_wp2_with fail; go_ret; exact ⟨⟨_, rfl, HO3.out⟩, HB3.out⟩
theorem risFunc_any (t : Tr) (p : Nat) (w : World) (h : NTr w t p) : Calls Tryz.prog 67 #[nPtr p] w fun e w' => e = .returned (.bool (zg3 t)) ∧ w' = w := by
 obtain ⟨hpl, c0, _, _⟩ := h.cells
 clear h
 unfold zg3
 generalize t.kd = kd at c0
 cases h3 : (kd == 5)
 all_goals
  go_enter Tryz.func67, Tryz.ntmps67; go_wp2_with fail; go_ret; exact ⟨rfl, rfl⟩
def RvAt (m : Nat) : Prop := ∀ (t : Tr), t.count ≤ m → t.count ≤ 20000 → ∀ (p : Nat) (w : World), NTr w t p →
  Calls Tryz.prog 30 #[nPtr p] w fun e w' => (∃ u, e = .returned u ∧ SRow w.heap.size w' u (zdk t)) ∧ Below w.heap.size w w'
theorem zmz : ∀ (l acc : List ByteArray), (l.foldl addB acc).length ≤ acc.length + l.length
 | [], acc => by simp
 | x :: l, acc => by
  have h := zmz l (addB acc x); have h2 : (addB acc x).length ≤ acc.length + 1 := by unfold addB; split <;> simp
  simp only [List.foldl_cons, List.length_cons]; omega
theorem vars_step (t : Tr) (k : Nat) (hk : k < t.kids.length) : zb8 (vws (t.kids.take (k + 1))) = (vw t.kids[k]).foldl addB (zb8 (vws (t.kids.take k))) := by
 rw [vws_take t.kids k hk, zb8, List.foldl_append]; rfl
theorem rvars_step {m : Nat} (ih : RvAt m) : RvAt (m + 1) := by
 intro t ht hc p w h
 have htc : t.count = 1 + Tr.counts t.kids := by cases t with | mk kd tx nn ks => exact zqy _ _ _ _
 obtain ⟨hpl, _, _, u, c3, hr⟩ := h.cells
 obtain ⟨ua, uc, rfl⟩ := hr.form
 have HR := qh hr
 have hkl : t.kids.length ≤ 20000 := by have := zvz t.kids; omega
 have HIH : Hid (∀ (k : Nat) (hk : k < t.kids.length) (q : Nat) (W : World), NTr W t.kids[k] q → Calls Tryz.prog 30 #[nPtr q] W fun e w' => (∃ u, e = .returned u ∧ SRow W.heap.size w' u (zdk t.kids[k])) ∧ Below W.heap.size W w') := fun k hk q W hq => by
  have h1 := zb4 t.kids k hk; exact ih t.kids[k] (by omega) (by omega) q W hq
 have HLV : Hid (∀ k, (vws (t.kids.take k)).length ≤ 20000) := fun k => by
  have h1 := zmk (t.kids.take k); have h2 : Tr.counts t.kids = Tr.counts (t.kids.take k) + Tr.counts (t.kids.drop k) := by rw [← zk2, List.take_append_drop]
  omega
 have HLK : Hid (∀ k (hk : k < t.kids.length), (zdk t.kids[k]).length ≤ 20000) := fun k hk => by
  have h1 := zb4 t.kids k hk; have h2 := zm2 t.kids[k]; have h3 : (t.kids[k]).count = 1 + Tr.counts (t.kids[k]).kids := by cases t.kids[k] with | mk kd tx nn ks => exact zqy _ _ _ _
  omega
 unfold zdk
 clear h hr htc ht hc ih
 go_enter Tryz.func30, Tryz.ntmps30
 go_wp2_with fail
 go_loopw [3, 15] (fun o j wr => ∃ k : Nat, k ≤ t.kids.length ∧ j = .int .i64 k ∧ SRow w.heap.size wr o (zb8 (vws (t.kids.take k))) ∧ Below w.heap.size w wr) (fun _ j _ => t.kids.length - (intOf j).toNat)
 case atStart => exact ⟨0, Nat.zero_le _, rfl, by simpa [vws, zb8] using zfj _ _, Below.refl _ _⟩
 case round =>
  obtain ⟨k, hk, rfl, hown, hbel⟩ := hrel; have HOWN := qh hown; have HB := qh hbel; obtain ⟨oa, oc, rfl⟩ := zz7 hown; clear hown hbel c3
  by_cases hlt : k < t.kids.length
  ·
   obtain ⟨g, cap, q, hv, hg, hcc, hn⟩ := (HR.out.later HB.out).cell k hlt; simp only [Value.slice.injEq] at hv; obtain ⟨rfl, _, rfl⟩ := hv; have hki : (k : Int) < (t.kids.length : Int) := by omega
   obtain ⟨hql, q0, q1, _⟩ := hn.cells; have HN := qh hn; have HST := qh (vars_step t k hlt); have HVW := qh (vw_eq t.kids[k])
   have HF := qh (fun W (hW : Below wr.heap.size wr W) => risFunc_any t.kids[k] q W (hn.later hW)); have hol := zp5 (vws (t.kids.take k)); have hvl := zzz HLV k; have hvk := zzz HLK k hlt
   have HI := qh (zzz HIH k hlt q); obtain ⟨L, hL⟩ : ∃ L, L = zb8 (vws (t.kids.take k)) := ⟨_, rfl⟩; rw [← hL] at HOWN HST hol ⊢; have hLl : L.length ≤ 20000 := by omega
   have hsz := HB.out.size; have HAD := qh (fun s W (hW : Below wr.heap.size wr W) => zm6 L s (.slice oa L.length oc) W (SRow.later HOWN.out hW) (by omega) (Nat.le_trans hsz hW.size))
   generalize t.kids[k] = x at q0 q1 HN HST HVW HF hvk HI
   clear hn hL hol hvl
   cases hk2 : (x.kd == 2) with
   | true =>
    have HOV : Hid (zmx x = [x.tx]) := by show _ = _; unfold zmx; rw [hk2]; rfl
    have HC0 := qh (zzz HAD x.tx wr qb)
    generalize x.tx = tx at q1 HC0 HOV
    generalize x.kd = kd at q0 hk2
    go_wp2_with fail; refine cm HC0.out ?_; rintro e W1 ⟨⟨u1, rfl, hr1⟩, hb1⟩; obtain ⟨L1, hL1⟩ : ∃ L1, L1 = addB L tx := ⟨_, rfl⟩; rw [← hL1] at hr1; obtain ⟨a1, c1, rfl⟩ := zz7 hr1; have HO1 := qh hr1
    have HW1 := qh hb1; have HB1 := qh (HB.out.trans (hb1.mono HB.out.size))
    have hL1l : L1.length ≤ 30000 := by rw [hL1]; have h2 := zmz [tx] L; simp only [List.foldl_cons, List.foldl_nil, List.length_cons, List.length_nil] at h2; omega
    have HLL := qh hL1; clear HC0 hr1 hb1 hL1
    cases hf : zg3 x with
    | true =>
     rw [hf] at HF HVW; have HC := qh (zzz HF W1 HW1.out); go_wp2_with fail; refine cm HC.out ?_; rintro e w3 ⟨rfl, rfl⟩; clear HC; go_wp2_with fail
     go_roundw
     case rel =>
      refine ⟨k + 1, by omega, by go_num, ?_, HB1.out⟩; rw [HST.out, HVW.out, HOV.out]; simp only [if_true, List.append_nil, List.foldl_cons, List.foldl_nil]; rw [← HLL.out]; exact zzz HO1
     case measure => simp [intOf]; omega
    | false =>
     rw [hf] at HF HVW; have HC := qh (zzz HF W1 HW1.out); go_wp2_with fail; refine cm HC.out ?_; rintro e w3 ⟨rfl, rfl⟩; clear HC; have HC2 := qh (zzz HI w3 (HN.out.later HW1.out)); go_wp2_with fail
     refine cm HC2.out ?_; rintro e w4 ⟨⟨u4, rfl, hr4⟩, hb4⟩; obtain ⟨R, hR⟩ : ∃ R, R = zdk x := ⟨_, rfl⟩; rw [← hR] at hr4 hvk; obtain ⟨a4, c4, rfl⟩ := zz7 hr4; have HR4 := qh hr4
     have HO4 := qh (SRow.later HO1.out hb4); have HB4 := qh (HB1.out.trans (hb4.mono HB1.out.size)); have HFO : Hid ((vw x).foldl addB L = R.foldl addB L1) := by
      show _ = _
      rw [HVW.out, HOV.out, hR, zdk, fold_once, List.foldl_append, HLL.out]; rfl
     clear HC2 hr4 hb4 hR hcc q0 q1; go_wp2_with fail
     go_loopw [3, 36] (fun o j wr2 => ∃ i : Nat, i ≤ R.length ∧ j = .int .i64 i ∧ SRow w.heap.size wr2 o ((R.take i).foldl addB L1) ∧ Below w4.heap.size w4 wr2) (fun _ j _ => R.length - (intOf j).toNat)
     case atStart => exact ⟨0, Nat.zero_le _, rfl, HO4.out, Below.refl _ _⟩
     case round =>
      obtain ⟨i, hi, rfl, hown, hbel⟩ := hrel; have HOWN2 := qh hown; have HB5 := qh hbel; obtain ⟨ob, od, rfl⟩ := zz7 hown; clear hown hbel; have HBW := qh (HB4.out.trans (HB5.out.mono HB4.out.size))
      by_cases hli : i < R.length
      ·
       obtain ⟨g4, cp4, hv, hg4, _, hc4⟩ := zbw (SRow.later HR4.out HB5.out) i hli; simp only [Value.slice.injEq] at hv; obtain ⟨rfl, _, rfl⟩ := hv; have hii : (i : Int) < (R.length : Int) := by omega
       have hfl : ((R.take i).foldl addB L1).length ≤ 60000 := by
        have h1 := zmz (R.take i) L1; rw [List.length_take] at h1; omega
       have HTK : Hid ((R.take (i + 1)).foldl addB L1 = addB ((R.take i).foldl addB L1) R[i]) := by
        show _ = _
        rw [List.take_succ_eq_append_getElem hli, List.foldl_append]; rfl
       have HC := qh (zm6 ((R.take i).foldl addB L1) R[i] _ _ HOWN2.out (by omega) HBW.out.size)
       generalize R[i] = y at hc4 HC HTK
       generalize (R.take i).foldl addB L1 = M at HC HTK HOWN2 hfl
       go_wp2_with fail; refine cm HC.out ?_; rintro e w6 ⟨⟨u6, rfl, hr6⟩, hb6⟩; obtain ⟨a6, c6, rfl⟩ := zz7 hr6; have HR6 := qh hr6; have HB6 := qh (HB5.out.trans (hb6.mono HB5.out.size)); clear HC hr6 hb6
       go_wp2_with fail
       go_roundw
       case rel => exact ⟨i + 1, by omega, by go_num, by rw [HTK.out]; exact HR6.out, HB6.out⟩
       case measure => simp [intOf]; omega
      ·
       have hii : i = R.length := by omega
       subst hii; go_wp2_with fail
       go_roundw
       case rel =>
        refine ⟨k + 1, by omega, by go_num, ?_, HBW.out⟩; rw [HST.out, HFO.out]; have h := zzz HOWN2; rw [List.take_length] at h; rw [List.take_length]; exact h
       case measure => simp [intOf]; omega
   | false =>
    have HOV : Hid (zmx x = []) := by show _ = _; unfold zmx; rw [hk2]; rfl
    obtain ⟨W1, hW1⟩ : ∃ W1, W1 = wr := ⟨_, rfl⟩; obtain ⟨L1, hL1⟩ : ∃ L1, L1 = L := ⟨_, rfl⟩; have HO1 : Hid (SRow w.heap.size W1 (.slice oa L1.length oc) L1) := by rw [hW1, hL1]; exact zzz HOWN
    have HW1 : Hid (Below wr.heap.size wr W1) := by rw [hW1]; exact Below.refl _ _
    have HB1 : Hid (Below w.heap.size w W1) := by rw [hW1]; exact zzz HB
    have hL1l : L1.length ≤ 30000 := by rw [hL1]; omega
    have HLL := qh hL1; subst hW1; rw [← hL1]
    generalize x.kd = kd at q0 hk2
    clear hL1
    cases hf : zg3 x with
    | true =>
     rw [hf] at HF HVW; have HC := qh (zzz HF W1 HW1.out); go_wp2_with fail; refine cm HC.out ?_; rintro e w3 ⟨rfl, rfl⟩; clear HC; go_wp2_with fail
     go_roundw
     case rel =>
      refine ⟨k + 1, by omega, by go_num, ?_, HB1.out⟩; rw [HST.out, HVW.out, HOV.out]; simp only [if_true, List.append_nil, List.foldl_nil]; rw [← HLL.out]; exact zzz HO1
     case measure => simp [intOf]; omega
    | false =>
     rw [hf] at HF HVW; have HC := qh (zzz HF W1 HW1.out); go_wp2_with fail; refine cm HC.out ?_; rintro e w3 ⟨rfl, rfl⟩; clear HC; have HC2 := qh (zzz HI w3 (HN.out.later HW1.out)); go_wp2_with fail
     refine cm HC2.out ?_; rintro e w4 ⟨⟨u4, rfl, hr4⟩, hb4⟩; obtain ⟨R, hR⟩ : ∃ R, R = zdk x := ⟨_, rfl⟩; rw [← hR] at hr4 hvk; obtain ⟨a4, c4, rfl⟩ := zz7 hr4; have HR4 := qh hr4
     have HO4 := qh (SRow.later HO1.out hb4); have HB4 := qh (HB1.out.trans (hb4.mono HB1.out.size)); have HFO : Hid ((vw x).foldl addB L = R.foldl addB L1) := by
      show _ = _
      rw [HVW.out, HOV.out, hR, zdk, fold_once, List.foldl_append, HLL.out]; rfl
     clear HC2 hr4 hb4 hR hcc q0 q1; go_wp2_with fail
     go_loopw [3, 36] (fun o j wr2 => ∃ i : Nat, i ≤ R.length ∧ j = .int .i64 i ∧ SRow w.heap.size wr2 o ((R.take i).foldl addB L1) ∧ Below w4.heap.size w4 wr2) (fun _ j _ => R.length - (intOf j).toNat)
     case atStart => exact ⟨0, Nat.zero_le _, rfl, HO4.out, Below.refl _ _⟩
     case round =>
      obtain ⟨i, hi, rfl, hown, hbel⟩ := hrel; have HOWN2 := qh hown; have HB5 := qh hbel; obtain ⟨ob, od, rfl⟩ := zz7 hown; clear hown hbel; have HBW := qh (HB4.out.trans (HB5.out.mono HB4.out.size))
      by_cases hli : i < R.length
      ·
       obtain ⟨g4, cp4, hv, hg4, _, hc4⟩ := zbw (SRow.later HR4.out HB5.out) i hli; simp only [Value.slice.injEq] at hv; obtain ⟨rfl, _, rfl⟩ := hv; have hii : (i : Int) < (R.length : Int) := by omega
       have hfl : ((R.take i).foldl addB L1).length ≤ 60000 := by
        have h1 := zmz (R.take i) L1; rw [List.length_take] at h1; omega
       have HTK : Hid ((R.take (i + 1)).foldl addB L1 = addB ((R.take i).foldl addB L1) R[i]) := by
        show _ = _
        rw [List.take_succ_eq_append_getElem hli, List.foldl_append]; rfl
       have HC := qh (zm6 ((R.take i).foldl addB L1) R[i] _ _ HOWN2.out (by omega) HBW.out.size)
       generalize R[i] = y at hc4 HC HTK
       generalize (R.take i).foldl addB L1 = M at HC HTK HOWN2 hfl
       go_wp2_with fail; refine cm HC.out ?_; rintro e w6 ⟨⟨u6, rfl, hr6⟩, hb6⟩; obtain ⟨a6, c6, rfl⟩ := zz7 hr6; have HR6 := qh hr6; have HB6 := qh (HB5.out.trans (hb6.mono HB5.out.size)); clear HC hr6 hb6
       go_wp2_with fail
       go_roundw
       case rel => exact ⟨i + 1, by omega, by go_num, by rw [HTK.out]; exact HR6.out, HB6.out⟩
       case measure => simp [intOf]; omega
      ·
       have hii : i = R.length := by omega
       subst hii; go_wp2_with fail
       go_roundw
       case rel =>
        refine ⟨k + 1, by omega, by go_num, ?_, HBW.out⟩; rw [HST.out, HFO.out]; have h := zzz HOWN2; rw [List.take_length] at h; rw [List.take_length]; exact h
       case measure => simp [intOf]; omega
  ·
   have hkk : k = t.kids.length := by omega
   subst hkk; go_wp2_with fail; go_ret; have h := zzz HOWN; rw [List.take_length] at h; refine ⟨⟨_, rfl, ?_⟩, HB.out⟩; rw [List.take_length]; exact h
theorem rvars_all : ∀ m, RvAt m := by
 intro m
 induction m with
 | zero =>
  intro t ht
  cases t with
  | mk kd tx nn ks => rw [zqy] at ht; omega
 | succ m ih => exact rvars_step ih
theorem rvars_any (t : Tr) (p : Nat) (w : World) (h : NTr w t p) (hc : t.count ≤ 20000) :
  Calls Tryz.prog 30 #[nPtr p] w fun e w' => (∃ u, e = .returned u ∧ SRow w.heap.size w' u (zdk t)) ∧ Below w.heap.size w w' := rvars_all t.count t qv hc p w h
theorem cellR {w : World} {b o : Nat} {v : Value} (h : w.cell? ⟨b, o, none⟩ = some v) : b < w.heap.size := by
 rcases Nat.lt_or_ge b w.heap.size with h1 | h1
 ·
  exact h1
 ·
  have h2 : w.heap[b]? = none := Array.getElem?_eq_none h1; simp [World.cell?, h2] at h
theorem keepR {w X : World} {b o : Nat} {v : Value} (hb : Below w.heap.size w X) (h : w.cell? ⟨b, o, none⟩ = some v) : X.cell? ⟨b, o, none⟩ = some v :=
 (World.cell?_of_block (w := w) (a := ⟨b, o, none⟩) (hb.block b (cellR h))).trans h
def NRow0 (w0 : World) (B : Nat) (w : World) (v : Value) (ts : List Tr) : Prop := ∃ ps : List Nat, w.ownsRow B 22 1 v ps.length (ps.map nPtr) ∧ NAts (fun _ => True) w0 ts ps
theorem NRow0.row {w0 w : World} {B : Nat} {v : Value} {ts : List Tr} (h : NRow0 w0 B w v ts) (hb : Below w0.heap.size w0 w) : NRow B w v ts := by
 obtain ⟨ps, h1, h2⟩ := h
 exact ⟨ps, h1, NAts.later (Below.stay hb) _ _ h2⟩
theorem NRow0.low {w0 w : World} {B B' : Nat} {v : Value} {ts : List Tr} (h : NRow0 w0 B w v ts) (hB : B' ≤ B) : NRow0 w0 B' w v ts := by
 obtain ⟨ps, h1, h2⟩ := h
 refine ⟨ps, ⟨h1.1, ?_⟩, h2⟩
 rcases h1.2 with hn | ⟨g, cap, cur, hv, hb, rest⟩
 ·
  exact Or.inl hn
 ·
  exact Or.inr ⟨g, cap, cur, hv, by omega, rest⟩
theorem NRow0.form {w0 w : World} {B : Nat} {v : Value} {ts : List Tr} (h : NRow0 w0 B w v ts) : ∃ a cap, v = .slice a ts.length cap := by
 obtain ⟨ps, h1, h2⟩ := h
 rw [← NAts.length _ _ h2]
 exact zj2 h1
theorem NRow0.later {w0 w w' : World} {B : Nat} {v : Value} {ts : List Tr} (h : NRow0 w0 B w v ts) (hb : Below w.heap.size w w') : NRow0 w0 B w' v ts := by
 obtain ⟨ps, h1, h2⟩ := h
 exact ⟨ps, zj4 (I := fun _ => True) (Below.stay hb) (fun _ _ => trivial) h1, h2⟩
def ofK (zs : List Int) (k : Tr) : List Tr := (zs.filter fun z => k.kd == z).map fun _ => k
def ofKs (zs : List Int) : List Tr → List Tr
 | [] => []
 | k :: ks => ofK zs k ++ ofKs zs ks
theorem ofKs_app (zs : List Int) : ∀ a b : List Tr, ofKs zs (a ++ b) = ofKs zs a ++ ofKs zs b
 | [], b => rfl
 | t :: a, b => by simp [ofKs, ofKs_app zs a b]
theorem ofKs_take (zs : List Int) (ts : List Tr) (k : Nat) (hk : k < ts.length) : ofKs zs (ts.take (k + 1)) = ofKs zs (ts.take k) ++ ofK zs ts[k] := by
 rw [List.take_succ_eq_append_getElem hk, ofKs_app]
 simp [ofKs]
theorem ofK_take (zs : List Int) (k : Tr) (i : Nat) (hi : i < zs.length) : ofK (zs.take (i + 1)) k = ofK (zs.take i) k ++ (if k.kd == zs[i] then [k] else []) := by
 unfold ofK
 rw [List.take_succ_eq_append_getElem hi, List.filter_append, List.map_append]
 simp only [List.filter_cons, List.filter_nil]
 split <;> simp
theorem ofK_len (zs : List Int) (k : Tr) : (ofK zs k).length ≤ zs.length := by unfold ofK; rw [List.length_map]; exact List.length_filter_le _ _
theorem ofKs_len (zs : List Int) : ∀ ts : List Tr, (ofKs zs ts).length ≤ ts.length * zs.length
 | [] => by simp [ofKs]
 | t :: ts => by
  have h1 := ofK_len zs t; have h2 := ofKs_len zs ts; rw [ofKs, List.length_append, List.length_cons, Nat.add_mul]; omega
theorem ofKs_fn : ∀ ts : List Tr, ofKs [5] ts = ts.filter isFnT
 | [] => rfl
 | t :: ts => by
  rw [ofKs, ofKs_fn ts, List.filter_cons]; unfold ofK isFnT; simp only [List.filter_cons, List.filter_nil]
  split <;> simp
theorem ofKs_let : ∀ ts : List Tr, ofKs [3, 4] ts = ts.filter isLetT
 | [] => rfl
 | t :: ts => by
  rw [ofKs, ofKs_let ts, List.filter_cons]; unfold ofK isLetT; simp only [List.filter_cons, List.filter_nil]
  by_cases h3 : t.kd = 3
  ·
   simp [h3]
  ·
   by_cases h4 : t.kd = 4
   ·
    simp [h4]
   ·
    simp [h3, h4]
theorem kinds_any (zs : List Int) (hz : zs.length ≤ 2) (g0 : Nat) (t : Tr) (p : Nat) (w0 w : World) (h : NTr w0 t p) (hb0 : Below w0.heap.size w0 w) (hl : t.kids.length ≤ 20000) (hzr : ∀ i, (hi : i < zs.length) → w.cell? ⟨g0, i, none⟩ = some (.int .i64 zs[i])) :
  Calls Tryz.prog 70 #[nPtr p, .slice (some ⟨g0, 0, none⟩) zs.length zs.length] w fun e w' => (∃ u, e = .returned u ∧ NRow0 w0 w.heap.size w' u (ofKs zs t.kids)) ∧ Below w.heap.size w w' := by
 obtain ⟨i0, hi0, hz0, hz1, hz2⟩ := info_parts zkw
 obtain ⟨hpl0, y0, y1, u, c30, hr⟩ := h.cells
 have c3 := keepR hb0 c30
 have hpl := cellR c3
 have HB0 := qh hb0
 obtain ⟨va, vc, rfl⟩ := hr.form
 have HR := qh hr
 have HZ := qh hzr
 clear h hr hzr y0 y1 hb0 hpl0 c30
 generalize hts : t.kids = ts at HR hl c3
 clear hts t
 go_enter Tryz.func70, Tryz.ntmps70
 go_wp2_with fail
 go_loopw [5, 17] (fun o j wr => ∃ (k : Nat) (qs : List Nat), k ≤ ts.length ∧ j = .int .i64 k ∧ wr.ownsRow w.heap.size 22 1 o qs.length (qs.map nPtr) ∧ NAts (fun _ => True) w0 (ofKs zs (ts.take k)) qs ∧ Below w.heap.size w wr) (fun _ j _ => ts.length - (intOf j).toNat)
 case atStart => exact ⟨0, [], Nat.zero_le _, rfl, ⟨rfl, Or.inl ⟨rfl, rfl⟩⟩, NAts.nil, Below.refl _ _⟩
 case round =>
  obtain ⟨k, qs, hk, rfl, hown, hns, hbel⟩ := hrel; have HO := qh hown; have HNS := qh hns; have HB := qh hbel; obtain ⟨oa, oc, rfl⟩ := zj2 hown; have hql : qs.length ≤ 40000 := by
   rw [NAts.length _ _ hns]; have h1 := ofKs_len zs (ts.take k); rw [List.length_take, Nat.min_eq_left hk] at h1; have h2 : k * zs.length ≤ k * 2 := Nat.mul_le_mul_left k hz; omega
  clear hown hbel hns c3
  by_cases hlt : k < ts.length
  ·
   obtain ⟨g, cap, q, hv, hg, hc0, hn0⟩ := HR.out.cell k hlt; simp only [Value.slice.injEq] at hv; obtain ⟨rfl, _, rfl⟩ := hv
   have hc : wr.cell? ⟨g, k, none⟩ = some (nPtr q) := keepR (HB0.out.trans (HB.out.mono HB0.out.size)) hc0; have hki : (k : Int) < (ts.length : Int) := by omega
   have hgr : g < wr.heap.size := cellR hc; have HN := qh hn0; have HTK := qh (ofKs_take zs ts k hlt); have HLN : Hid ((ofK zs ts[k]).length ≤ 2) := Nat.le_trans (ofK_len _ _) hz; clear hn0 hc0; go_wp2_with fail
   go_loopw [5, 23] (fun o j wr2 => ∃ (i : Nat) (rs : List Nat), i ≤ zs.length ∧ j = .int .i64 i ∧ rs.length ≤ qs.length + i ∧ wr2.ownsRow w.heap.size 22 1 o rs.length (rs.map nPtr) ∧ NAts (fun _ => True) w0 (ofKs zs (ts.take k) ++ ofK (zs.take i) ts[k]) rs ∧ Below w.heap.size w wr2) (fun _ j _ => zs.length - (intOf j).toNat)
   case atStart => exact ⟨0, qs, Nat.zero_le _, rfl, by omega, HO.out, by simpa [ofK] using HNS.out, HB.out⟩
   case round =>
    obtain ⟨i, rs, hi, rfl, hrl, hown, hns, hbel⟩ := hrel; have HO2 := qh hown; have HNS2 := qh hns; have HB2 := qh hbel; obtain ⟨ob, od, rfl⟩ := zj2 hown; clear hown hbel hns
    by_cases hli : i < zs.length
    ·
     have hzi := HZ.out i hli; have HTI := qh (ofK_take zs ts[k] i hli); obtain ⟨z, hzz⟩ : ∃ z, z = zs[i] := ⟨_, rfl⟩; rw [← hzz] at hzi HTI; have hzc := keepR HB2.out hzi
     have hii : (i : Int) < (zs.length : Int) := by omega
     have hgz := cellR hzc; obtain ⟨hql2, k0, _, _⟩ := (HN.out.later (HB0.out.trans (HB2.out.mono HB0.out.size))).cells; obtain ⟨kd, hkd⟩ : ∃ kd, kd = (ts[k]).kd := ⟨_, rfl⟩; rw [← hkd] at k0 HTI
     have HOL := qh (zxj HO2.out); have hsz2 := HB2.out.size; clear hzi hzz hkd
     cases hh : (kd == z) with
     | true =>
      rw [hh] at HTI
      go_wp2_with (at_builtin; refine wpList_append_lies _ rfl _ _ 36 rfl w.heap.size 22 i0 (.pointer none) 1 8 Tryz.underlying36 hi0 hz0 hz1 hz2 rfl (by decide) _ _ _ rfl (HO2.out.alloc _) ⟨wr.heap.size, 0, none⟩ 1 1 [nPtr q] rfl rfl (one_cellsP wr q _ rfl) (one_oneP q) (by decide) (by unfold maxLen; omega) (by omega) (by simp; omega) (wr.heap.size + 1) (by simp) ?_)
      intro g' cap' w3 hown' hgrow hg' _; have HB3 := qh (HB2.out.trans (((Below.refl w.heap.size wr).alloc hsz2 (.cells #[nPtr q] 22)).grown hgrow (by simp; omega) (fun b hb => (zzz HOL b hb).2)))
      have HO3 := qh hown'; clear hown' hgrow hg'; go_wp2_with fail
      go_roundw
      case rel =>
       refine ⟨i + 1, rs ++ [q], by omega, by go_num, by simp; omega, ?_, ?_, HB3.out⟩
       ·
        rw [List.length_append, List.map_append]; exact zzz HO3
       ·
        rw [HTI.out, ← List.append_assoc]; exact NAts.append (NAts.cons HN.out NAts.nil) _ _ HNS2.out
      case measure => simp [intOf]; omega
     | false =>
      rw [hh] at HTI; go_wp2_with fail
      go_roundw
      case rel =>
       refine ⟨i + 1, rs, by omega, by go_num, by omega, HO2.out, ?_, HB2.out⟩; rw [HTI.out]; simp only [Bool.false_eq_true, if_false, List.append_nil]; exact zzz HNS2
      case measure => simp [intOf]; omega
    ·
     have hii : i = zs.length := by omega
     subst hii; go_wp2_with fail
     go_roundw
     case rel =>
      refine ⟨k + 1, rs, by omega, by go_num, HO2.out, ?_, HB2.out⟩; have h := zzz HNS2; rw [List.take_length] at h; rw [HTK.out]; exact h
     case measure => simp [intOf]; omega
  ·
   have hkk : k = ts.length := by omega
   subst hkk; go_wp2_with fail; go_ret; have h := zzz HNS; rw [List.take_length] at h; exact ⟨⟨_, rfl, qs, HO.out, h⟩, HB.out⟩
theorem cells_int1 (w : World) (a : Int) : ∀ i, (hi : i < [a].length) → (w.alloc (.cells #[.int .i64 a] 3)).cell? ⟨w.heap.size, i, none⟩ = some (.int .i64 [a][i]) := fun i hi => by
 rw [zqj (zqx _ _)]
 match i, hi with
 | 0, _ => rfl
theorem cells_int2 (w : World) (a b : Int) : ∀ i, (hi : i < [a, b].length) → (w.alloc (.cells #[.int .i64 a, .int .i64 b] 3)).cell? ⟨w.heap.size, i, none⟩ = some (.int .i64 [a, b][i]) := fun i hi => by
 rw [zqj (zqx _ _)]
 match i, hi with
 | 0, _ => rfl
 | 1, _ => rfl
theorem zn3 (t : Tr) (p : Nat) (w0 w : World) (h : NTr w0 t p) (hw : Below w0.heap.size w0 w) (hl : t.kids.length ≤ 20000) :
  Calls Tryz.prog 32 #[nPtr p] w fun e w' => (∃ u, e = .returned u ∧ NRow0 w0 w.heap.size w' u (fnsT t)) ∧ Below w.heap.size w w' := by
 have hb0 : Below w.heap.size w (w.alloc (.cells #[.int .i64 5] 3)) := qb.alloc qv _
 have HC := qh (kinds_any [5] (by decide) w.heap.size t p w0 (w.alloc (.cells #[.int .i64 5] 3)) h (hw.trans (hb0.mono hw.size)) hl (cells_int1 w 5))
 rw [ofKs_fn] at HC
 have HB := qh hb0
 clear h hb0 hw
 unfold fnsT
 go_enter Tryz.func32, Tryz.ntmps32
 go_wp2_with fail
 refine cm HC.out ?_
 rintro e w1 ⟨⟨u, rfl, hr⟩, hb⟩
 obtain ⟨ua, uc, rfl⟩ := hr.form
 have HR := qh (hr.low HB.out.size)
 have HB1 := qh (HB.out.trans (hb.mono HB.out.size))
 clear HC hr hb
 go_wp2_with fail
 go_ret
 exact ⟨⟨_, rfl, HR.out⟩, HB1.out⟩
theorem rlets_any (t : Tr) (p : Nat) (w0 w : World) (h : NTr w0 t p) (hw : Below w0.heap.size w0 w) (hl : t.kids.length ≤ 20000) :
  Calls Tryz.prog 34 #[nPtr p] w fun e w' => (∃ u, e = .returned u ∧ NRow0 w0 w.heap.size w' u (zm0 t)) ∧ Below w.heap.size w w' := by
 have hb0 : Below w.heap.size w (w.alloc (.cells #[.int .i64 3, .int .i64 4] 3)) := qb.alloc qv _
 have HC := qh (kinds_any [3, 4] (by decide) w.heap.size t p w0 (w.alloc (.cells #[.int .i64 3, .int .i64 4] 3)) h (hw.trans (hb0.mono hw.size)) hl (cells_int2 w 3 4))
 rw [ofKs_let] at HC
 have HB := qh hb0
 clear h hb0 hw
 unfold zm0
 go_enter Tryz.func34, Tryz.ntmps34
 go_wp2_with fail
 refine cm HC.out ?_
 rintro e w1 ⟨⟨u, rfl, hr⟩, hb⟩
 obtain ⟨ua, uc, rfl⟩ := hr.form
 have HR := qh (hr.low HB.out.size)
 have HB1 := qh (HB.out.trans (hb.mono HB.out.size))
 clear HC hr hb
 go_wp2_with fail
 go_ret
 exact ⟨⟨_, rfl, HR.out⟩, HB1.out⟩
end Go.Proofs.YtodmgaikhbmlnaaGreatDoor
