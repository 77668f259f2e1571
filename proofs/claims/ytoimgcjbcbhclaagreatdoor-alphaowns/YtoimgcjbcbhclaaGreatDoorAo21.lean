/-
  Names of a node.
-/
import Derived.Test.YtoimgcjbcbhclaaGreatDoorAo20
set_option maxRecDepth 100000
set_option maxHeartbeats 16000000
namespace Go.Proofs.YtoimgcjbcbhclaaGreatDoor
open Go.RowKit
theorem run_app_none {P : Program} {w : World} (base : Nat) (t ty e : TypeId) (i : TypeInfo) (size : Nat) (ht : P.underlying t = some (.slice e)) (hi : P.info? e = some i)
  (v : Value) (n : Nat) (xs : List Value) (hown : w.ownsRow base e size v n xs) (ad : Option Addr) (k : Nat) :
  (Builtin.append_ #[t, t] ty #[v, .slice ad 0 k]).run P w = .ok v w := by
 exact zbed
theorem wpList_app_row {P : Program} {w : World} {ops : Array Oper} {rest : List Oper} {o : Oper} {a : Act} {Q : Exit → Act → World → Prop} (hgd : o.guard = none) (s x : Operand) (t : TypeId)
  (ho : o.op = .call { callee := .builtin .append, args := #[s, x], argTypes := #[t, t] })
  (base B2 : Nat) (e : TypeId) (i : TypeInfo) (z : Value) (bytes : Nat) (ht : P.underlying t = some (.slice e)) (hi : P.info? e = some i) (hz : i.zero = some z)
  (hsize : i.size = 1) (hby : i.bytes = bytes) (hzs : z.cells.size = 1)
  (v : Value) (n : Nat) (xs : List Value) (hs : a.eval s = v) (hown : w.ownsRow base e 1 v n xs)
  (v2 : Value) (m : Nat) (news : List Value) (hx : a.eval x = v2) (hown2 : w.ownsRow B2 e 1 v2 m news) (h1 : ∀ u ∈ news, u.oneCell' = true)
  (h63 : n + m ≤ maxLen) (hbytes : (n + m) * bytes ≤ 140737488355328) (hbase : base ≤ w.heap.size)
  (h : ∀ v' w', w'.ownsRow base e 1 v' (n + m) (xs ++ news) → w.grownBy w' v.ownBlock → wpList P ops Q rest (a.put o.dst v') w') : wpList P ops Q (o :: rest) a w := by
 rcases Nat.eq_zero_or_pos m with rfl | hm
 ·
  have hnews : news = [] := List.length_eq_zero_iff.1 (by rw [hown2.1]); subst hnews; obtain ⟨ad, k, rfl⟩ := srow_form hown2
  have hk := h v w (by rw [List.append_nil]; exact hown) ⟨rfl, rfl, rfl, Nat.le_refl _, fun _ _ _ => rfl⟩
  refine wpList_plain hgd fun K hK => ?_; have hrun := run_app_none (P := P) (w := w) base t o.type e i 1 ht hi v n xs hown ad k; unfold Oper.wp; simp [execOp, ho, resolve, invoke, builtin, hs, hx, hrun, Result.andThen]
  exact hK _ _ hk
 ·
  obtain ⟨g, cap, rfl, _, _⟩ := hown2.form hm
  refine wpList_append_lies w hgd s x t ho base e i z 1 bytes ht hi hz hsize hby hzs (by decide) v n xs hs hown ⟨g, 0, none⟩ m cap news hx hown2.1 (fun j u hj => ?_) h1 hm h63 hbytes hbase _ rfl (fun g' cap' w' a b _ _ => h _ _ a b)
  have hl : j < m * 1 := by
   rw [← hown2.1]; exact (List.getElem?_eq_some_iff.1 hj).1
  have h4 : (⟨g, 0, none⟩ : Addr).add j = ⟨g, j, none⟩ := by simp [Addr.add]; exact Eq.symm
  rw [h4, hown2.cellAt j hl]; exact hj
def namesT (t : Tr) (body : Bool) : List ByteArray := onceL ((if body then varsT t else []) ++ (fnsT t).map Tr.tx ++ (letsT t).map Tr.tx)
theorem fns_len (t : Tr) : (fnsT t).length ≤ t.kids.length := List.length_filter_le _ _
theorem lets_len (t : Tr) : (letsT t).length ≤ t.kids.length := List.length_filter_le _ _
theorem vars_len (t : Tr) : (varsT t).length ≤ Tr.counts t.kids := Nat.le_trans (once_len _) (vws_len _)
def NRowI (I : Nat → Prop) (B : Nat) (w : World) (v : Value) (ts : List Tr) : Prop := ∃ ps : List Nat, w.ownsRow B 22 1 v ps.length (ps.map nPtr) ∧ NLs I w ts ps
theorem owns_lower {w : World} {B B' e sz : Nat} {v : Value} {n : Nat} {xs : List Value} (h : w.ownsRow B e sz v n xs) (hB : B' ≤ B) : w.ownsRow B' e sz v n xs := by
 obtain ⟨h1, h2 | ⟨g, cap, cur, h3, h4, h5⟩⟩ := h
 ·
  exact ⟨h1, Or.inl h2⟩
 ·
  exact ⟨h1, Or.inr ⟨g, cap, cur, h3, Nat.le_trans hB h4, h5⟩⟩
theorem NLs.mono {I J : Nat → Prop} {w : World} (hJ : ∀ b, I b → b < w.heap.size → J b) : ∀ (ts : List Tr) (ps : List Nat), NLs I w ts ps → NLs J w ts ps
 | [], _, h => h
 | _ :: ts, _, ⟨p, ps', e, h1, h2⟩ => ⟨p, ps', e, NAt.mono hJ _ p h1, NLs.mono hJ ts ps' h2⟩
section
variable {I : Nat → Prop}
include I
theorem NRowI.nrow {B : Nat} {w : World} {v : Value} {ts : List Tr} (h : NRowI I B w v ts) : NRow B w v ts := by
 obtain ⟨ps, h1, h2⟩ := h
 exact ⟨ps, h1, NLs.mono (fun _ _ _ => trivial) _ _ h2⟩
theorem NRowI.low {B B' : Nat} {w : World} {v : Value} {ts : List Tr} (h : NRowI I B w v ts) (hB : B' ≤ B) : NRowI I B' w v ts := by
 obtain ⟨ps, h1, h2⟩ := h
 exact ⟨ps, owns_lower h1 hB, h2⟩
theorem NRowI.later {B : Nat} {w w' : World} {v : Value} {ts : List Tr} (h : NRowI I B w v ts) (hb : Below w.heap.size w w') : NRowI I B w' v ts := by
 exact zbfh
theorem NRowI.form {B : Nat} {w : World} {v : Value} {ts : List Tr} (h : NRowI I B w v ts) : ∃ a cap, v = .slice a ts.length cap := h.nrow.form
theorem NRowI.cell {B : Nat} {w : World} {v : Value} {ts : List Tr} (h : NRowI I B w v ts) (k : Nat) (hk : k < ts.length) : ∃ g cap p, v = .slice (some ⟨g, 0, none⟩) ts.length cap ∧ g < w.heap.size ∧ w.cell? ⟨g, k, none⟩ = some (nPtr p) ∧ NAt I w ts[k] p := by
 exact zbec
theorem NAt.cellsI {w : World} {t : Tr} {p : Nat} (h : NAt I w t p) : p < w.heap.size ∧ w.cell? ⟨p, 0, none⟩ = some (.int .i64 t.kd) ∧ w.cell? ⟨p, 1, none⟩ = some (.string t.tx) ∧ ∃ u, w.cell? ⟨p, 3, none⟩ = some u ∧ NRowI I 0 w u t.kids := by
 exact zbfb
theorem kidsI_any (t : Tr) (p : Nat) (w : World) (h : NAt I w t p) : Calls Tryz.prog 257 #[nPtr p] w fun e w' => (∃ u, e = .returned u ∧ NRowI I 0 w u t.kids) ∧ w' = w := by
 obtain ⟨hpl, _, _, u, c3, hr⟩ := NAt.cellsI h
 obtain ⟨ua, uc, rfl⟩ := hr.form
 have HR := hide hr
 clear hr h
 go_enter Tryz.func257, Tryz.ntmps257
 go_wp2_with fail
 go_ret
 exact ⟨⟨_, rfl, HR.out⟩, rfl⟩
theorem kidsThatI_any (F : Nat) (f : Tr → Bool) (hen : ∀ args W, (callFunc F args).run Tryz.prog W = .ok (.enter F args) W) (hF : ∀ t p W, NTr W t p → Calls Tryz.prog F #[nPtr p] W fun e w' => e = .returned (.bool (f t)) ∧ w' = W) (t : Tr) (p : Nat) (w : World) (h : NAt I w t p) (hl : t.kids.length ≤ 90000) :
  Calls Tryz.prog 214 #[nPtr p, fnV F] w fun e w' => (∃ u, e = .returned u ∧ NRowI I w.heap.size w' u (t.kids.filter f)) ∧ Below w.heap.size w w' := by
 obtain ⟨i0, hi0, hz0, hz1, hz2⟩ := info_parts info22
 have HK := hide (kidsI_any t p w h)
 have HF := hide hF
 clear h hF
 generalize hts : t.kids = ts at HK hl
 clear hts t
 go_enter Tryz.func214, Tryz.ntmps214
 go_wp2_with fail
 refine cm HK.out ?_
 rintro e w1 ⟨⟨u, rfl, hr⟩, rfl⟩
 obtain ⟨va, vc, rfl⟩ := hr.form
 have HR := hide hr
 clear HK hr
 go_wp2_with fail
 go_loopw [5, 11] (fun o i wr => ∃ (k : Nat) (qs : List Nat), k ≤ ts.length ∧ i = .int .i64 k ∧ wr.ownsRow w1.heap.size 22 1 o qs.length (qs.map nPtr) ∧ NLs I w1 ((ts.take k).filter f) qs ∧ Below w1.heap.size w1 wr) (fun _ i _ => ts.length - (intOf i).toNat)
 case atStart => exact ⟨0, [], Nat.zero_le _, rfl, ⟨rfl, Or.inl ⟨rfl, rfl⟩⟩, NLs.nil, Below.refl _ _⟩
 case round =>
  obtain ⟨k, qs, hk, rfl, hown, hns, hbel⟩ := hrel; have HO := hide hown; have HNS := hide hns; have HBEL := hide hbel; obtain ⟨oa, oc, rfl⟩ := row_shut hown; have hql := NLs.length _ _ hns; clear hown hbel hns
  by_cases hlt : k < ts.length
  ·
   obtain ⟨g, cap, q, hv, hg, hc0, hn0⟩ := HR.out.cell k hlt; simp only [Value.slice.injEq] at hv; obtain ⟨rfl, _, rfl⟩ := hv
   have hc : wr.cell? ⟨g, k, none⟩ = some (nPtr q) := by rw [HBEL.out.cell (p := ⟨g, k, none⟩) hg]; exact hc0
   have hki : (k : Int) < (ts.length : Int) := by omega
   have hsz := HBEL.out.size; have HC := hide (unhide HF ts[k] q wr (hn0.nt.later HBEL.out)); have HN := hide hn0; have HTK := hide (List.take_succ_eq_append_getElem hlt); have hgr : g < wr.heap.size := by omega
   have hLl : qs.length ≤ k := by rw [hql]; have := List.length_filter_le f (ts.take k); rw [List.length_take] at this; omega
   have HOL := hide (own_lt HO.out); clear hn0 hc0 hql
   cases hh : f ts[k] with
   | true =>
    rw [hh] at HC; have HH := hide hh; clear hh; go_wp2_with fail; refine cm HC.out ?_; rintro e w2 ⟨rfl, rfl⟩; clear HC
    go_wp2_with (at_builtin; refine wpList_append_lies _ rfl _ _ 46 rfl w1.heap.size 22 i0 (.pointer none) 1 8 Tryz.underlying46 hi0 hz0 hz1 hz2 rfl (by decide) _ _ _ rfl (HO.out.alloc _) ⟨w2.heap.size, 0, none⟩ 1 1 [nPtr q] rfl rfl (one_cellsP w2 q _ rfl) (one_oneP q) (by decide) (by unfold maxLen; omega) (by omega) (by simp; omega) (w2.heap.size + 1) (by simp) ?_)
    intro g' cap' w3 hown' hgrow hg' _; have HB3 := hide (HBEL.out.trans (((Below.refl w1.heap.size w2).alloc hsz (.cells #[nPtr q] 22)).grown hgrow (by simp; omega) (fun b hb => (unhide HOL b hb).2)))
    have HO3 := hide hown'; clear hown' hgrow hg'; go_wp2_with fail
    go_roundw
    case rel =>
     refine ⟨k + 1, qs ++ [q], by omega, by go_num, ?_, ?_, HB3.out⟩
     ·
      rw [List.length_append, List.map_append]; exact unhide HO3
     ·
      rw [HTK.out, List.filter_append]; simp only [List.filter_cons, HH.out, List.filter_nil, if_true]; exact NLs.append (NLs.cons HN.out NLs.nil) _ _ HNS.out
    case measure => simp [intOf]; omega
   | false =>
    rw [hh] at HC; have HH := hide hh; clear hh; go_wp2_with fail; refine cm HC.out ?_; rintro e w2 ⟨rfl, rfl⟩; clear HC; go_wp2_with fail
    go_roundw
    case rel =>
     refine ⟨k + 1, qs, by omega, by go_num, HO.out, ?_, HBEL.out⟩; rw [HTK.out, List.filter_append]; simp only [List.filter_cons, HH.out, List.filter_nil, Bool.false_eq_true, if_false, List.append_nil]; exact unhide HNS
    case measure => simp [intOf]; omega
  ·
   have hkk : k = ts.length := by omega
   subst hkk; go_wp2_with fail; go_ret; have h := unhide HNS; rw [List.take_length] at h; exact ⟨⟨_, rfl, qs, HO.out, NLs.later (Below.stay HBEL.out) _ _ h⟩, HBEL.out⟩
end
section
variable {I : Nat → Prop} (t : Tr) (p : Nat) (w : World) (h : NAt I w t p) (hl : t.kids.length ≤ 90000)
include I t p w h hl
theorem funcsI_any :
  Calls Tryz.prog 196 #[nPtr p] w fun e w' => (∃ u, e = .returned u ∧ NRowI I w.heap.size w' u (fnsT t)) ∧ Below w.heap.size w w' := by
 have HC := hide (kidsThatI_any 258 isFnT en69 funcs1_any t p w h hl)
 clear h
 go_enter Tryz.func196, Tryz.ntmps196
 exact zbea
theorem letsI_any :
  Calls Tryz.prog 126 #[nPtr p] w fun e w' => (∃ u, e = .returned u ∧ NRowI I w.heap.size w' u (letsT t)) ∧ Below w.heap.size w w' := by
 have HC := hide (kidsThatI_any 215 isLetT en71 lets1_any t p w h hl)
 clear h
 go_enter Tryz.func126, Tryz.ntmps126
 exact zbea
end
theorem concatI_any {I : Nat → Prop} {B : Nat} (g : Nat) (us : List Value) (tss : List (List Tr)) (w : World) (hl : us.length = tss.length) (hn : us.length ≤ 4) (hgl : g < w.heap.size) (hc : ∀ j (hj : j < us.length), w.cell? ⟨g, j, none⟩ = some us[j]) (hr : ∀ j (hj : j < us.length) (hj2 : j < tss.length), NRowI I B w us[j] tss[j]) (ht : lenS tss ≤ 90000) (n : Nat) (hnn : n = us.length) :
  Calls Tryz.prog 216 #[.slice (some ⟨g, 0, none⟩) n n] w fun e w' => (∃ v, e = .returned v ∧ NRowI I w.heap.size w' v tss.flatten) ∧ Below w.heap.size w w' := by
 subst hnn
 obtain ⟨i0, hi0, hz0, hz1, hz2⟩ := info_parts info22
 have HC := hide hc
 have HR := hide hr
 have HL := hide hl
 clear hc hr hl
 go_enter Tryz.func216, Tryz.ntmps216
 go_wp2_with fail
 go_loopw [3, 11] (fun s i wr => ∃ k : Nat, k ≤ us.length ∧ i = .int .i64 k ∧ s = .int .i64 (lenS (tss.take k) : Nat) ∧ wr = w) (fun _ i _ => us.length - (intOf i).toNat)
 case atStart => exact ⟨0, Nat.zero_le _, rfl, rfl, rfl⟩
 case round =>
  obtain ⟨k, hk, rfl, rfl, hw⟩ := hrel; obtain rfl : w = wr := hw.symm; clear hw
  by_cases hlt : k < us.length
  ·
   have hlt2 : k < tss.length := by have := unhide HL; omega
   have c1 := HC.out k hlt; obtain ⟨a, c, hu⟩ := (HR.out k hlt hlt2).form; rw [hu] at c1; have hle := lenS_le hlt2; have HT := hide (lenS_take hlt2)
   generalize tss[k].length = m at c1 hle HT
   generalize lenS (tss.take k) = S at hle HT ⊢
   have hneg : ¬ ((S : Int) + (m : Int) < 0) := by omega
   clear hu; go_wp2_with fail
   go_roundw
   case rel => exact ⟨k + 1, by omega, by go_num, by rw [HT.out]; go_num, by first | rfl | trivial⟩
   case measure => simp [intOf]; omega
  ·
   have hkk : k = us.length := by omega
   subst hkk; have hS : lenS (tss.take us.length) = lenS tss := by rw [HL.out, List.take_length]
   have HG := hide (grow_any (lenS tss) (by omega) w); rw [hS]; clear hS; go_wp2_with fail; refine cm HG.out ?_; rintro e w1 ⟨⟨v1, rfl, hown1⟩, hb1⟩; have HO1 := hide hown1; have HB1 := hide hb1
   obtain ⟨oa, oc, rfl⟩ := srow_form hown1; clear hown1 hb1 HG; go_wp2_with fail
   go_loopw [6, 27] (fun o i wr => ∃ (k : Nat) (ps : List Nat), k ≤ us.length ∧ i = .int .i64 k ∧ wr.ownsRow w.heap.size 22 1 o ps.length (ps.map nPtr) ∧ NLs I w (tss.take k).flatten ps ∧ Below w.heap.size w wr) (fun _ i _ => us.length - (intOf i).toNat)
   case atStart => exact ⟨0, [], Nat.zero_le _, rfl, HO1.out, NLs.nil, HB1.out⟩
   case round =>
    obtain ⟨k, ps, hk, rfl, hown, hls, hbq⟩ := hrel; have HO := hide hown; have HLS := hide hls; have HB := hide hbq; have hpl : ps.length = lenS (tss.take k) := by rw [NLs.length _ _ hls, flat_len]
    obtain ⟨oa2, oc2, rfl⟩ := srow_form hown; clear hown hls hbq
    by_cases hlt : k < us.length
    ·
     have hlt2 : k < tss.length := by have := unhide HL; omega
     have c1 := HC.out k hlt; have hle := lenS_le hlt2; have hfl : (tss.take (k + 1)).flatten = (tss.take k).flatten ++ tss[k] := by rw [List.take_succ_eq_append_getElem hlt2, List.flatten_append, List.flatten_singleton]
     have HFL := hide hfl; clear hfl; obtain ⟨qs, hq, hqs⟩ := HR.out k hlt hlt2; have hql := NLs.length _ _ hqs
     have hq2 : wr.ownsRow B 22 1 us[k] qs.length (qs.map nPtr) := owns_stay (I := fun _ => True) (fun b _ hl => HB.out.block b hl) (fun _ _ => trivial) hq; have HQS := hide hqs
     have c2 : wr.cell? ⟨g, k, none⟩ = some us[k] := by rw [HB.out.cell (p := ⟨g, k, none⟩) hgl]; exact c1
     have hgq : g < wr.heap.size := Nat.lt_of_lt_of_le hgl HB.out.size; obtain ⟨ua, uc, hu⟩ := row_shut hq2; have hsz := HB.out.size
     generalize us[k] = u at hq2 c2 hu
     subst hu; have HQ := hide hq2; have hsum : ps.length + qs.length ≤ 90000 := by omega
     have HPL := hide hpl; have HQL := hide hql; clear c1 hq hqs hq2 hpl hql hle
     by_cases hz : qs.length = 0
     ·
      have HZ := hide hz; clear hz
      go_wp2_with (at_builtin; refine wpList_app_zero rfl _ _ 46 rfl w.heap.size 22 i0 1 Tryz.underlying46 hi0 _ ps.length (ps.map nPtr) rfl HO.out _ _ _ HZ.out rfl ?_)
      go_wp2_with fail
      go_roundw
      case rel =>
       refine ⟨k + 1, ps, by omega, by go_num, HO.out, ?_, HB.out⟩; have hqn : qs = [] := List.length_eq_zero_iff.1 HZ.out; have h := NLs.append HQS.out _ _ HLS.out; rw [hqn, List.append_nil] at h; rw [HFL.out]; exact h
      case measure => simp [intOf]; omega
     ·
      obtain ⟨g2, cap2, hv2, hg2, hg2l⟩ := HQ.out.form (by omega); simp only [Value.slice.injEq] at hv2; obtain ⟨rfl, -, rfl⟩ := hv2; have HOB := hide (own_lt HO.out)
      go_wp2_with (at_builtin; refine wpList_append_lies _ rfl _ _ 46 rfl w.heap.size 22 i0 (.pointer none) 1 8 Tryz.underlying46 hi0 hz0 hz1 hz2 rfl (by decide) _ _ _ rfl HO.out ⟨g2, 0, none⟩ qs.length _ (qs.map nPtr) rfl (by simp) (row_cellsP HQ.out) (map_oneP qs) (by omega) (by unfold maxLen; omega) (by omega) hsz _ rfl ?_)
      intro g' cap' w3 hown' hgrow hg' _; have HB3 := hide (HB.out.grown hgrow hsz (fun b hb => (unhide HOB b hb).2)); have HO3 := hide hown'; clear hown' hg'; go_wp2_with fail
      go_roundw
      case rel =>
       refine ⟨k + 1, ps ++ qs, by omega, by go_num, by rw [List.length_append, List.map_append]; exact HO3.out, ?_, HB3.out⟩
       rw [HFL.out]; exact NLs.append HQS.out _ _ HLS.out
      case measure => simp [intOf]; omega
    ·
     have hkk : k = us.length := by omega
     subst hkk; go_wp2_with fail; go_ret; refine ⟨⟨_, rfl, ps, HO.out, ?_⟩, HB.out⟩; have h := NLs.later (fun b _ hl => HB.out.block b hl) _ _ HLS.out; rw [HL.out, List.take_length] at h; exact h
def namedB (l : List Tr) (x : ByteArray) : Bool := l.any fun k => decide (k.tx = x)
theorem cell_lt {w : World} {b o : Nat} {v : Value} (h : w.cell? ⟨b, o, none⟩ = some v) : b < w.heap.size := by
 exact zbfg
theorem keepC {w X : World} {b o : Nat} {v : Value} (hb : Below w.heap.size w X) (h : w.cell? ⟨b, o, none⟩ = some v) : X.cell? ⟨b, o, none⟩ = some v :=
 (World.cell?_of_block (w := w) (a := ⟨b, o, none⟩) (hb.block b (cell_lt h))).trans h
abbrev tEval : ByteArray := ⟨#[101, 118, 97, 108]⟩
abbrev tArgs : ByteArray := ⟨#[97, 114, 103, 117, 109, 101, 110, 116, 115]⟩
def erV : Option Int → Value
 | none => .nilIface
 | some e => .iface 31 (.int .i64 e)
abbrev plV (s i b : Bool) : Value := .agg #[.bool s, .bool i, .bool b]
def isSp (x : ByteArray) : Bool := decide (x = tEval) || decide (x = tArgs)
def nmE (s : Bool) (x : ByteArray) : Option Int := if s && isSp x then some 5 else none
def strictT (t : Tr) : Bool := (t.kd == 1 || t.kd == 6) && decide (t.tx = tStrict)
def kidT (t : Tr) (k : Nat) : Tr := t.kids.getD k t
def declK (t : Tr) : Bool := t.kd == 3 || t.kd == 4 || t.kd == 5
end Go.Proofs.YtoimgcjbcbhclaaGreatDoor
namespace Go.Proofs.YtoimgcjbcbhclaaGreatDoor
def need (kd : Int) : Nat := if kd = 5 ∨ kd = 37 ∨ kd = 9 then 2 else if kd = 13 ∨ kd = 24 ∨ kd = 34 ∨ kd = 35 then 1 else 0
def ar (kd : Int) (n : Nat) : Nat := if need kd ≤ n then 0 else 1
mutual
def Tr.ill : Tr → Nat
 | .mk kd _ _ ks => ar kd ks.length + Tr.ills ks
def Tr.ills : List Tr → Nat
 | [] => 0
 | t :: ts => t.ill + Tr.ills ts
end
theorem ill_mk (kd : Int) (tx : ByteArray) (n : Int) (ks : List Tr) : (Tr.mk kd tx n ks).ill = ar kd ks.length + Tr.ills ks := by rw [Tr.ill]
theorem need_two (kd : Int) : need kd ≤ 2 := by
 unfold need
 split
 ·
  omega
 ·
  split <;> omega
theorem ar_two (kd : Int) (n : Nat) (h : 2 ≤ n) : ar kd n = 0 := by
 unfold ar
 rw [if_pos (Nat.le_trans (need_two kd) h)]
theorem ar_small {kd : Int} (h : need kd = 0) (n : Nat) : ar kd n = 0 := by unfold ar; rw [h, if_pos (Nat.zero_le _)]
theorem ills_nil : Tr.ills [] = 0 := by rw [Tr.ills]
theorem ills_cons (t : Tr) (ts : List Tr) : Tr.ills (t :: ts) = t.ill + Tr.ills ts := by rw [Tr.ills]
theorem ills_app : ∀ (ts us : List Tr), Tr.ills (ts ++ us) = Tr.ills ts + Tr.ills us
 | [], us => by rw [List.nil_append, ills_nil, Nat.zero_add]
 | t :: ts, us => by rw [List.cons_append, ills_cons, ills_cons, ills_app ts us, Nat.add_assoc]
theorem code_ill (t : Tr) : (codeT t).ill = t.ill := by
 unfold codeT
 split
 ·
  rw [ill_mk, ill_mk]
 ·
  rfl
theorem sgP_ar {k : Int} {x : ByteArray} {s : Sg} (h : sgP k x = some s) : s ∈ sgs ∧ s.parts = k := by
 unfold sgP at h
 have h1 := Option.filter_eq_some_iff.1 h
 exact ⟨List.mem_of_find?_eq_some h1.1, by simpa using h1.2⟩
section
variable {x : ByteArray}
include x
theorem sgP_ar0 {s : Sg} (h : sgP 0 x = some s) : ar s.kd 0 = 0 := by
 have h1 := sgP_ar h
 have h2 : ∀ s ∈ sgs, s.parts = 0 → ar s.kd 0 = 0 := by decide +kernel
 exact h2 s h1.1 h1.2
theorem sgP_ar1 {s : Sg} (h : sgP 1 x = some s) : ar s.kd 1 = 0 := by
 have h1 := sgP_ar h
 have h2 : ∀ s ∈ sgs, s.parts = 1 → ar s.kd 1 = 0 := by decide +kernel
 exact h2 s h1.1 h1.2
theorem hd_kw {q : Nat} (h : look2 stKeys x = some q) (hq : q ≠ 5) (n : Nat) : ar (hdKind x) n = 0 := by
 refine ar_small ?_ n
 unfold look2 at h
 cases hf : stKeys.find? (fun e => decide (x = e.1)) with
 | none => rw [hf] at h; cases h
 | some e =>
  rw [hf] at h; have h1 := List.mem_of_find?_eq_some hf; have h3 : x = e.1 := by simpa using List.find?_some hf
  have h2 : ∀ e ∈ stKeys, e.2 ≠ 5 → need (hdKind e.1) = 0 := by decide +kernel
  rw [h3]; refine h2 e h1 ?_; cases h; exact hq
end
theorem fx_tx {l : List Tk} {i q : Nat} (h : look2 stKeys (fx l i) = some q) : fx l i = (tkA l i).tx := by
 unfold fx at h ⊢
 split
 ·
  rfl
 ·
  rename_i hn
  rw [if_neg hn] at h; exact absurd h (by rw [show look2 stKeys noText = none from by decide +kernel]; nofun)
section
variable {l : List Tk}
def Kw (_ : Nat) (r : PR Tr) : Prop := ∀ t j, r = .ok t j → t.ill ≤ 0
def Kws (_ : Nat) (r : PR (List Tr)) : Prop := ∀ t j, r = .ok t j → Tr.ills t ≤ 0
theorem deep_kw {f : Nat → Nat → PR Tr} {d i : Nat} (h : Kw i (f (d + 1) i)) : Kw i (deepP l f d i) := by
 unfold deepP
 split
 ·
  intro t j e; cases e
 ·
  exact h
theorem listLoop_kw {shut : ByteArray} {begins : Nat → Bool} {part : Nat → PR Tr} (hp : ∀ i, Kw i (part i)) : ∀ k acc i t j, listLoop l shut begins part k acc i = .ok t j → Tr.ills t ≤ Tr.ills acc := by
 intro k
 induction k with
 | zero => intro acc i t j h; cases h
 | succ k ih =>
  intro acc i t j h; unfold listLoop at h
  split at h
  ·
   cases h
  ·
   obtain ⟨u, i1, h1, h⟩ := binds h; have := hp i u i1 h1
   split at h
   ·
    cases h; rw [ills_app, ills_cons, ills_nil]; first | omega | (simp [ar, need] <;> omega) | (simp [ar, need] at * <;> omega)
   ·
    obtain ⟨_, i2, h2, h⟩ := binds h; have h3 := must_eq h2; have h4 := ih _ _ _ _ h; rw [ills_app, ills_cons, ills_nil] at h4; exact zbcf
theorem list_kw {opn shut : ByteArray} {begins : Nat → Bool} {part : Nat → PR Tr} (hp : ∀ i, Kw i (part i)) {k i j : Nat} {t : List Tr} (h : listP l opn shut begins part k i = .ok t j) : Tr.ills t ≤ 0 := by
 unfold listP at h
 obtain ⟨_, i1, h1, h⟩ := binds h
 have h2 := must_eq h1
 split at h
 ·
  cases h; rw [ills_nil]; first | omega | (simp [ar, need] <;> omega) | (simp [ar, need] at * <;> omega)
 ·
  have := listLoop_kw hp _ _ _ _ _ h; rw [ills_nil] at this; exact zbcf
structure FKw (F : Fns) : Prop where
 st : ∀ d i, Kw i (F.st d i)
 vl : ∀ d i, Kw i (F.vl d i)
 pr : ∀ b d i, Kw i (F.pr b d i)
 sg : ∀ d i, Kw i (F.sg d i)
variable {F : Fns} (hF : FKw F)
include hF
theorem blockLoop_kw {d : Nat} : ∀ k acc i t j, blockLoop l F d k acc i = .ok t j → Tr.ills t ≤ Tr.ills acc := by
 intro k
 induction k with
 | zero => intro acc i t j h; cases h
 | succ k ih =>
  intro acc i t j h; unfold blockLoop at h; exact zcbp
theorem block_kw {d i j : Nat} {t : Tr} (h : blockP l F d i = .ok t j) : t.ill ≤ 0 := by
 unfold blockP at h
 obtain ⟨_, i1, h1, h⟩ := binds h
 obtain ⟨ts, i2, h2, h⟩ := binds h
 cases h
 have h3 := must_eq h1
 have h4 := blockLoop_kw hF _ _ _ _ _ h2
 rw [ills_nil] at h4
 rw [ill_mk]; first | omega | (simp [ar, need] <;> omega) | (simp [ar, need] at * <;> omega)
omit hF in
theorem param_kw (i : Nat) : Kw i (paramP l i) := by
 intro t j h
 unfold paramP at h
 obtain ⟨_, i1, h1, h⟩ := binds h
 cases h
 have := name_eq h1
 rw [ill_mk, ills_nil]; first | omega | (simp [ar, need] <;> omega) | (simp [ar, need] at * <;> omega)
omit hF in
theorem params_kw {i j : Nat} {t : Tr} (h : paramsP l F i = .ok t j) : t.ill ≤ 0 := by
 unfold paramsP at h
 obtain ⟨ts, i1, h1, h⟩ := binds h
 cases h
 have := list_kw param_kw h1
 rw [ill_mk]; first | omega | (simp [ar, need] <;> omega) | (simp [ar, need] at * <;> omega)
section
variable (d i : Nat)
include d i
theorem arg_kw : Kw i (argP l F d i) := deep_kw (hF.vl _ _)
theorem prop_kw : Kw i (propP l F d i) := by
 intro t j h
 unfold propP at h
 obtain ⟨_, i1, h1, h⟩ := binds h
 obtain ⟨_, i2, h2, h⟩ := binds h
 obtain ⟨u, i3, h3, h⟩ := binds h
 cases h
 have e1 := name_eq h1
 have e2 := must_eq h2
 have e3 := deep_kw (l := l) (hF.vl _ _) u _ h3
 rw [ill_mk, ills_cons, ills_nil]; first | omega | (simp [ar, need] <;> omega) | (simp [ar, need] at * <;> omega)
theorem inPar_kw : Kw i (inParP l F d i) := by
 intro t j h
 unfold inParP at h
 obtain ⟨_, i1, h1, h⟩ := binds h
 obtain ⟨u, i2, h2, h⟩ := binds h
 obtain ⟨_, i3, h3, h⟩ := binds h
 cases h
 have e1 := must_eq h1
 have e2 := deep_kw (l := l) (hF.vl _ _) _ _ h2
 have e3 := must_eq h3
 first | omega | (simp [ar, need] <;> omega) | (simp [ar, need] at * <;> omega)
theorem object_kw : Kw i (objectP l F d i) := by
 intro t j h
 unfold objectP at h
 obtain ⟨ts, i1, h1, h⟩ := binds h
 cases h
 have := list_kw (prop_kw hF d) h1
 rw [ill_mk]; first | omega | (simp [ar, need] <;> omega) | (simp [ar, need] at * <;> omega)
end
theorem tail_kw {kd : Int} {s : ByteArray} {d i j : Nat} {t : Tr} (h : funcTail l F kd s d i = .ok t j) : t.ill ≤ 0 := by
 unfold funcTail at h
 obtain ⟨ps, i1, h1, h⟩ := binds h
 obtain ⟨b, i2, h2, h⟩ := binds h
 cases h
 have e1 := params_kw h1
 have e2 := block_kw hF h2
 rw [ill_mk, ills_cons, ills_cons, ills_nil, code_ill, ar_two _ _ (by simp)]; omega
theorem lambda_kw (d i : Nat) : Kw i (lambdaP l F d i) := by
 intro t j h
 unfold lambdaP at h
 obtain ⟨_, i1, h1, h⟩ := binds h
 have e1 := must_eq h1
 split at h
 ·
  obtain ⟨_, i2, h2, h⟩ := binds h; have e2 := name_eq h2; have := tail_kw hF h; exact zbcf
 ·
  have := tail_kw hF h; exact zbcf
theorem func_kw (d i : Nat) : Kw i (funcP l F d i) := by
 intro t j h
 unfold funcP at h
 obtain ⟨_, i1, h1, h⟩ := binds h
 obtain ⟨_, i2, h2, h⟩ := binds h
 have e1 := must_eq h1
 have e2 := name_eq h2
 have := tail_kw hF h
 exact zbcf
theorem alone_kw (d i : Nat) : Kw i (aloneP l F d i) := by
 unfold aloneP
 split
 ·
  exact inPar_kw hF d i
 ·
  exact object_kw hF d i
 ·
  exact lambda_kw hF d i
 ·
  split
  ·
   rename_i hsg; intro t j h; cases h; have h0 := sgP_ar0 hsg; rw [ill_mk, ills_nil]; show ar _ 0 + 0 ≤ 0; omega
  ·
   split
   ·
    exact zbdy
   ·
    split
    ·
     exact zbdy
    ·
     split
     ·
      exact zbdy
     ·
      intro t j h; cases h
theorem askedLoop_kw {d : Nat} : ∀ k u i t j, askedLoop l F d k u i = .ok t j → t.ill ≤ u.ill := by
 intro k
 induction k with
 | zero => intro u i t j h; cases h
 | succ k ih =>
  intro u i t j h; unfold askedLoop at h
  split at h
  ·
   obtain ⟨s, i1, h1, h⟩ := binds h; have e1 := name_eq h1; have e2 := ih _ _ _ _ h; rw [ill_mk, ills_cons, ills_nil] at e2; have hk36 : ∀ n, ar 36 n = 0 := ar_small (by decide); rw [hk36] at e2; omega
  ·
   split at h
   ·
    obtain ⟨ts, i1, h1, h⟩ := binds h; have e1 := list_kw (arg_kw hF d) h1; have e2 := ih _ _ _ _ h; rw [ill_mk, ills_cons] at e2
    have hk35 : ∀ n, ar 35 (n + 1) = 0 := (fun n => by simp [ar, need]); rw [List.length_cons, hk35] at e2; omega
   ·
    exact zbdh
theorem asked_kw (d i : Nat) : Kw i (askedP l F d i) := by
 intro t j h
 unfold askedP at h
 obtain ⟨u, i1, h1, h⟩ := binds h
 have e1 := alone_kw hF d i u i1 h1
 have e2 := askedLoop_kw hF _ _ _ _ _ h
 exact zbcf
theorem single_kw (d i : Nat) : Kw i (singleP l F d i) := by
 unfold singleP
 split
 ·
  rename_i hsg
  intro t j h; obtain ⟨u, i1, h1, h⟩ := binds h; cases h; have := deep_kw (l := l) (hF.sg _ _) u _ h1; have h0 := sgP_ar1 hsg; rw [ill_mk, ills_cons, ills_nil]; show ar _ 1 + _ ≤ 0; omega
 ·
  exact asked_kw hF d i
theorem pairLoop_kw {b : Int} {d : Nat} : ∀ k u i t j, pairLoop l F b d k u i = .ok t j → t.ill ≤ u.ill := by
 intro k
 induction k with
 | zero => intro u i t j h; cases h
 | succ k ih =>
  intro u i t j h; unfold pairLoop at h
  split at h
  ·
   exact zbdh
  ·
   rename_i hsg
   split at h
   ·
    exact zbdh
   ·
    obtain ⟨v, i1, h1, h⟩ := binds h; have e1 := hF.pr _ _ _ v i1 h1; have e2 := ih _ _ _ _ h; rw [ill_mk, ills_cons, ills_cons, ills_nil, ar_two _ _ (by simp)] at e2; omega
theorem pair_kw (b : Int) (d i : Nat) : Kw i (pairP l F b d i) := by
 intro t j h
 unfold pairP at h
 obtain ⟨u, i1, h1, h⟩ := binds h
 have e1 := hF.sg _ _ u i1 h1
 have e2 := pairLoop_kw hF _ _ _ _ _ h
 exact zbcf
theorem value_kw (d i : Nat) : Kw i (valueP l F d i) := by
 intro t j h
 unfold valueP at h
 obtain ⟨u, i1, h1, h⟩ := binds h
 have e1 := hF.pr _ _ _ u i1 h1
 split at h
 ·
  split at h
  ·
   obtain ⟨v, i2, h2, h⟩ := binds h; cases h; have e2 := deep_kw (l := l) (hF.vl _ _) v _ h2; rw [ill_mk, ills_cons, ills_cons, ills_nil]; first | omega | (simp [ar, need] <;> omega) | (simp [ar, need] at * <;> omega)
  ·
   cases h
 ·
  cases h; exact e1
theorem part_kw (d q i : Nat) (hq : look2 stKeys (fx l i) = some q) : Kw i (partP l F d q i) := by
 rw [fx_tx hq] at hq
 intro t j h
 unfold partP at h
 split at h
 ·
  unfold declP at h; obtain ⟨s, i1, h1, h⟩ := binds h; have e1 := name_eq h1
  split at h
  ·
   cases h
  ·
   split at h
   ·
    obtain ⟨v, i2, h2, h⟩ := binds h; obtain ⟨_, i3, h3, h⟩ := binds h; cases h; have e2 := deep_kw (l := l) (hF.vl _ _) v _ h2; have e3 := must_eq h3; rw [ill_mk, ills_cons, ills_nil, hd_kw hq (by decide)]; omega
   ·
    obtain ⟨_, i3, h3, h⟩ := binds h; cases h; have e3 := must_eq h3; rw [ill_mk, ills_nil, hd_kw hq (by decide)]; omega
 ·
  exact func_kw hF d i t j h
 ·
  have := block_kw hF h; first | omega | (simp [ar, need] <;> omega) | (simp [ar, need] at * <;> omega)
 ·
  obtain ⟨_, i3, h3, h⟩ := binds h; cases h; have e3 := must_eq h3; rw [ill_mk, ills_nil]; first | omega | (simp [ar, need] <;> omega) | (simp [ar, need] at * <;> omega)
 ·
  unfold choiceP at h; obtain ⟨v, i1, h1, h⟩ := binds h; obtain ⟨s, i2, h2, h⟩ := binds h; have e1 := inPar_kw hF d _ v i1 h1; have e2 := deep_kw (l := l) (hF.st _ _) s _ h2
  split at h
  ·
   obtain ⟨s2, i3, h3, h⟩ := binds h; cases h; have e3 := deep_kw (l := l) (hF.st _ _) s2 _ h3; rw [ill_mk, ills_cons, ills_cons, ills_cons, ills_nil, ar_two _ _ (by simp)]; omega
  ·
   cases h; rw [ill_mk, ills_cons, ills_cons, ills_nil, ar_two _ _ (by simp)]; omega
 ·
  unfold behindP at h; obtain ⟨v, i1, h1, h⟩ := binds h; obtain ⟨s, i2, h2, h⟩ := binds h; cases h; have e1 := inPar_kw hF d _ v i1 h1; have e2 := deep_kw (l := l) (hF.st _ _) s _ h2
  rw [ill_mk, ills_cons, ills_cons, ills_nil, ar_two _ _ (by simp)]; omega
 ·
  unfold givingP at h
  split at h
  ·
   obtain ⟨v, i1, h1, h⟩ := binds h; obtain ⟨_, i2, h2, h⟩ := binds h; cases h; have e1 := deep_kw (l := l) (hF.vl _ _) v _ h1; have e2 := must_eq h2; rw [ill_mk, ills_cons, ills_nil, hd_kw hq (by decide)]; omega
  ·
   obtain ⟨_, i2, h2, h⟩ := binds h; cases h; have e2 := must_eq h2; rw [ill_mk, ills_nil, hd_kw hq (by decide)]; omega
 ·
  unfold attemptP at h; obtain ⟨_, i0, h0, h⟩ := binds h; obtain ⟨b, i1, h1, h⟩ := binds h; obtain ⟨c, i2, h2, h⟩ := binds h; obtain ⟨f, i3, h3, h⟩ := binds h; have e0 := must_eq h0; have e1 := block_kw hF h1
  have e2 : Tr.ills c ≤ 0 := by
   unfold catchP at h2
   split at h2
   ·
    obtain ⟨_, k1, g1, h2⟩ := binds h2; obtain ⟨_, k2, g2, h2⟩ := binds h2; obtain ⟨_, k3, g3, h2⟩ := binds h2; obtain ⟨bb, k4, g4, h2⟩ := binds h2; cases h2; have := must_eq g1; have := name_eq g2; have := must_eq g3
    have := block_kw hF g4; rw [ills_cons, ill_mk, ills_cons, ills_nil]; first | omega | (simp [ar, need] <;> omega) | (simp [ar, need] at * <;> omega)
   ·
    cases h2; rw [ills_nil]; first | omega | (simp [ar, need] <;> omega) | (simp [ar, need] at * <;> omega)
  have e3 : Tr.ills f ≤ 0 := by
   unfold finallyP at h3
   split at h3
   ·
    obtain ⟨bb, k4, g4, h3⟩ := binds h3; cases h3; have := block_kw hF g4; rw [ills_cons, ill_mk, ills_cons, ills_nil]; first | omega | (simp [ar, need] <;> omega) | (simp [ar, need] at * <;> omega)
   ·
    cases h3; rw [ills_nil]; first | omega | (simp [ar, need] <;> omega) | (simp [ar, need] at * <;> omega)
  split at h
  ·
   cases h
  ·
   cases h; rw [ill_mk, ills_cons, ills_app]; first | omega | (simp [ar, need] <;> omega) | (simp [ar, need] at * <;> omega)
theorem statement_kw (d i : Nat) : Kw i (statementP l F d i) := by
 unfold statementP
 split
 ·
  rename_i q hq
  exact part_kw hF d _ i hq
 ·
  intro t j h; unfold exprP at h; obtain ⟨v, i1, h1, h⟩ := binds h; obtain ⟨_, i2, h2, h⟩ := binds h; cases h; have e1 := deep_kw (l := l) (hF.vl _ _) v _ h1; have e2 := must_eq h2
  rw [ill_mk, ills_cons, ills_nil]; first | omega | (simp [ar, need] <;> omega) | (simp [ar, need] at * <;> omega)
omit hF in
theorem fns_kw : ∀ k, FKw (fns l k) := by
 intro k
 induction k with
 | zero => exact ⟨fun _ _ _ _ h => by (cases h), fun _ _ _ _ h => by (cases h), fun _ _ _ _ _ h => by (cases h), fun _ _ _ _ h => by (cases h)⟩
 | succ k ih => exact ⟨statement_kw ih, value_kw ih, pair_kw ih, single_kw ih⟩
theorem progLoop_kw : ∀ k acc i t j, progLoop l F k acc i = .ok t j → Tr.ills t ≤ Tr.ills acc := by
 intro k
 induction k with
 | zero => intro acc i t j h; cases h
 | succ k ih =>
  intro acc i t j h; unfold progLoop at h; exact zcbp
theorem prog_kw {t : Tr} {j : Nat} (h : progP l F = .ok t j) : t.ill ≤ 0 := by
 unfold progP at h
 obtain ⟨ts, i1, h1, h⟩ := binds h
 cases h
 have := progLoop_kw hF _ _ _ _ _ h1
 rw [ills_nil] at this
 rw [code_ill, ill_mk]; first | omega | (simp [ar, need] <;> omega) | (simp [ar, need] at * <;> omega)
end
theorem ills_all : ∀ (ks : List Tr), Tr.ills ks = 0 → ∀ k ∈ ks, k.ill = 0
 | [], _ => fun k hk => absurd hk (by simp)
 | t :: ts, h => fun k hk => by
  rw [ills_cons] at h
  rcases List.mem_cons.1 hk with rfl | hk
  ·
   omega
  ·
   exact ills_all ts (by omega) k hk
theorem ill_of (t : Tr) (h : t.ill = 0) : need t.kd ≤ t.kids.length ∧ ∀ k ∈ t.kids, k.ill = 0 := by
 cases t with
 | mk kd tx n ks =>
  rw [ill_mk] at h; refine ⟨?_, ills_all ks (by omega)⟩; have h1 : ar kd ks.length = 0 := by omega
  unfold ar at h1
  split at h1
  ·
   assumption
  ·
   omega
theorem prog_ill {l : List Tk} {t : Tr} {j k : Nat} (h : progP l (fns l k) = .ok t j) : t.ill = 0 := by
 have h1 : t.ill ≤ 0 := prog_kw (fns_kw k) h
 exact Nat.le_zero.1 h1
theorem parse_ill {ws gs : List ByteArray} {s : ByteArray} {t : Tr} (h : parseS ws gs s = .ok t) : t.ill = 0 := by
 unfold parseS at h
 split at h
 ·
  cases h
 ·
  split at h
  ·
   cases h
  ·
   rename_i l _
   cases hp : progP l (fns l KK) with
   | out => rw [hp] at h; cases h
   | bad er p => rw [hp] at h; cases h
   | ok t2 j =>
    rw [hp] at h; simp only at h
    split at h
    ·
     cases h
    ·
     cases h; exact prog_ill hp
end Go.Proofs.YtoimgcjbcbhclaaGreatDoor
namespace Go.Proofs.YtoimgcjbcbhclaaGreatDoor
open Go.RowKit
def ceT (t : Tr) : Bool := t.kd == 35 && (match t.kids with | k :: _ => k.kd == 23 && decide (k.tx = tEval) | [] => false)
mutual
def evW : Tr → Bool
 | .mk kd tx n ks => ceT (.mk kd tx n ks) || (if isFunT (.mk kd tx n ks) then false else evWs ks)
def evWs : List Tr → Bool
 | [] => false
 | t :: ts => evW t || evWs ts
end
def evalsT (t : Tr) : Bool := ceT t || evWs t.kids
theorem AAt.first {I : Nat → Prop} {w : World} {a k : Ad} {ks : List Ad} (h : AAt I w a) (hk : a.ks = k :: ks) : ∃ g cap, w.cell? ⟨a.p, 3, none⟩ = some (.slice (some ⟨g, 0, none⟩) (ks.length + 1) cap) ∧ g < w.heap.size ∧ w.cell? ⟨g, 0, none⟩ = some (nPtr k.p) ∧ AAt I w k := by
 obtain ⟨_, _, _, _, v, c3, hr, _⟩ := h.cells
 rw [hk] at hr
 obtain ⟨g, cap, rfl, hc⟩ := row_open hr (by simp)
 refine ⟨g, cap, ?_, (own_lt hr g rfl).1, ?_, h.parts k (by rw [hk]; simp)⟩
 ·
  rw [c3]; simp
 ·
  have := hc 0 (by simp); simpa using this
structure Evs (fb nb root : Nat) (b : Bool) (w : World) : Prop where
 found : w.heap[fb]? = some (.cells #[.bool b] 4 (0, 0))
 word : w.heap[nb]? = some (.cells #[nPtr root] 22 (0, 0))
 node : Cl w root
def evF (root : Nat) (b : Bool) (t : Ad) : Bool × Bool := (b || ceT t.tr, decide (t.p = root) || !isFunT t.tr)
mutual
theorem evW_wk (root : Nat) : ∀ (t : Ad) (b : Bool), root ∉ t.ads → wk (evF root) b t = (b || evW t.tr)
 | .mk p kd tx n ks, b, h => by
  rw [Ad.ads, List.mem_cons, not_or] at h; rw [wk, Ad.tr, evW]; have hp : decide ((Ad.mk p kd tx n ks).p = root) = false := decide_eq_false (fun e => h.1 e.symm); simp only [evF, hp, Bool.false_or]; rw [Ad.tr]
  cases isFunT (.mk kd tx n (Ad.trs ks)) with
  | true => simp
  | false =>
   simp only [Bool.not_false, if_true, Bool.false_eq_true, if_false]; rw [evWs_wk root ks _ h.2, Bool.or_assoc]
theorem evWs_wk (root : Nat) : ∀ (ts : List Ad) (b : Bool), root ∉ Ad.adss ts → wks (evF root) b ts = (b || evWs (Ad.trs ts))
 | [], b, _ => by rw [wks, Ad.trs, evWs, Bool.or_false]
 | t :: ts, b, h => by
  rw [Ad.adss, List.mem_append, not_or] at h; rw [wks, evW_wk root t b h.1, evWs_wk root ts _ h.2, Ad.trs, evWs, Bool.or_assoc]
end
theorem ill_parts {t : Ad} (h : t.tr.ill = 0) : ∀ k ∈ t.ks, k.tr.ill = 0 := by
 intro k hk
 refine (ill_of _ h).2 _ ?_
 rw [t.tr_eq.2.2]
 exact List.mem_map_of_mem hk
end Go.Proofs.YtoimgcjbcbhclaaGreatDoor
