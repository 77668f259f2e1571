/-
  Walk with any function that looks at nodes.
-/
import Derived.Test.YtoimgcjbcbhclaaGreatDoorWh26
import Derived.Test.YtoimgcjbcbhclaaGreatDoorWh9
import Derived.LaidEql
import Derived.Test.YtoimgcjbcbhclaaGreatDoorWh25
import Derived.Test.YtoimgcjbcbhclaaGreatDoorWh15
set_option maxRecDepth 100000
set_option maxHeartbeats 16000000
namespace Go.Proofs.YtoimgcjbcbhclaaGreatDoor
open Go.RowKit

mutual
def wk {α : Type} (f : α → Ad → α × Bool) : α → Ad → α
  | a, .mk p kd tx n ks => if (f a (.mk p kd tx n ks)).2 then wks f (f a (.mk p kd tx n ks)).1 ks else (f a (.mk p kd tx n ks)).1
def wks {α : Type} (f : α → Ad → α × Bool) : α → List Ad → α
  | a, [] => a
  | a, k :: ks => wks f (wk f a k) ks
end
theorem wk_eq {α : Type} (f : α → Ad → α × Bool) (a : α) (t : Ad) : wk f a t = if (f a t).2 then wks f (f a t).1 t.ks else (f a t).1 := by
  cases t with
  | mk p kd tx n ks => rw [wk]; rfl
theorem wks_app {α : Type} (f : α → Ad → α × Bool) : ∀ (l m : List Ad) (a : α), wks f a (l ++ m) = wks f (wks f a l) m
  | [], m, a => by rw [List.nil_append, wks]
  | k :: l, m, a => by rw [List.cons_append, wks, wks, wks_app f l m]
theorem wks_take {α : Type} (f : α → Ad → α × Bool) (l : List Ad) (a : α) (k : Nat) (hk : k < l.length) : wks f a (l.take (k + 1)) = wk f (wks f a (l.take k)) l[k] := by
  rw [List.take_succ_eq_append_getElem hk, wks_app, wks, wks]

theorem walkG {α : Type} (F : Nat) (x : Value) (I : Nat → Prop) (Rl : World → World → Prop) (Inv : α → World → Prop) (f : α → Ad → α × Bool) (P : α → List Ad → Prop)
    (hen : ∀ args W, (callFunc F args).run Tryz.prog W = .ok (.enter F args) W) (hfn : ∀ W : World, (binOp .eql 54 (.func (.func F) #[] #[x]) .nilFunc).run Tryz.prog W = .ok (.bool false) W)
    (htr : ∀ a b c, Rl a b → Rl b c → Rl a c) (hsy : ∀ w w', Rl w w' → Stay I w w' ∧ w.heap.size ≤ w'.heap.size)
    (hP : ∀ a t ts, P a (t :: ts) → P (f a t).1 ((if (f a t).2 then t.ks else []) ++ ts))
    (hst : ∀ a t ts w, P a (t :: ts) → Inv a w → AAt I w t → Calls Tryz.prog F #[nPtr t.p, x] w fun e w' => e = .returned (.bool (f a t).2) ∧ Inv (f a t).1 w' ∧ Rl w w') :
    ∀ (m : Nat) (t : Ad), t.cnt ≤ m → m ≤ 90000 → ∀ (ts : List Ad) (a : α) (w : World), P a (t :: ts) → Inv a w → AAt I w t →
      Calls Tryz.prog 31 #[nPtr t.p, .func (.func F) #[] #[x]] w fun e w' => e = .returned (.tuple #[]) ∧ Inv (wk f a t) w' ∧ P (wk f a t) ts ∧ Rl w w' := by
  intro m
  induction m with
  | zero => intro t ht; have := cnt_pos t; omega
  | succ m ih =>
    intro t ht hm ts a w hp0 hi hnt
    obtain ⟨hIp, hpl, _, _, v, f3, hrow, hri⟩ := hnt.cells
    have hlen : (t.ks.map Ad.p).length = t.ks.length := List.length_map _
    obtain ⟨ua, uc, hu⟩ := row_shut hrow
    subst hu
    rw [hlen] at f3
    have HC := hide (hst a t ts w hp0 hi hnt)
    have HP0 := hide (hP a t ts hp0)
    have HW := hide (wk_eq f a t)
    have HKS := hide hnt.parts
    have HROW := hide hrow
    have HRI := hide hri
    have HIH := hide (ih)
    have HHT := hide ht
    have HHM := hide hm
    have HF3 := hide f3
    have HPL := hide hpl
    have HIP := hide hIp
    have HLEN := hide hlen
    have HTR := hide htr
    have HSY := hide hsy
    have hkb : t.ks.length ≤ 90000 := by have h1 := cnts_len t.ks; have h2 := cnt_eq t; omega
    clear hst hP hi hnt hrow hri ih ht hm f3 hpl hIp hlen htr hsy hp0
    obtain ⟨p, hp⟩ : ∃ p, p = t.p := ⟨_, rfl⟩
    rw [← hp] at HC HF3 HPL HIP ⊢
    clear hp
    cases hx : (f a t).2 with
    | false =>
      rw [hx] at HC HP0 HW
      clear hx
      go_enter Tryz.func31, Tryz.ntmps31
      go_wp2_with fail
      refine Calls.mono HC.out ?_
      rintro e w1 ⟨rfl, hg1, ha1⟩
      have HG1 := hide hg1
      have HA1 := hide ha1
      clear HC hg1 ha1
      go_wp2_with fail
      exact bodyPost_ret (v := .tuple #[]) (by simp [results, Tryz.results31, go_sem]) rfl ⟨rfl, by rw [unhide HW]; exact unhide HG1, by rw [unhide HW]; exact unhide HP0, unhide HA1⟩
    | true =>
      rw [hx] at HC HP0 HW
      clear hx
      obtain ⟨a1, ha1⟩ : ∃ a1, a1 = (f a t).1 := ⟨_, rfl⟩
      rw [← ha1] at HC HP0 HW
      clear ha1
      go_enter Tryz.func31, Tryz.ntmps31
      go_wp2_with fail
      refine Calls.mono HC.out ?_
      rintro e w1 ⟨rfl, hg1, ha1⟩
      obtain ⟨hs1, hz1⟩ := unhide HSY _ _ ha1
      have g3 : w1.cell? ⟨p, 3, none⟩ = some (.slice ua t.ks.length uc) := by rw [World.cell?_of_block (w := w) (hs1 p (unhide HIP) (unhide HPL))]; exact unhide HF3
      have hpl1 : p < w1.heap.size := Nat.lt_of_lt_of_le (unhide HPL) hz1
      have HG1 := hide hg1
      have HA1 := hide ha1
      clear HC hg1 ha1 hs1 hz1
      go_wp2_with fail
      go_loopw [23] (fun i wr => ∃ k : Nat, k ≤ t.ks.length ∧ i = .int .i64 k ∧ Inv (wks f a1 (t.ks.take k)) wr ∧ P (wks f a1 (t.ks.take k)) (t.ks.drop k ++ ts) ∧ Rl w wr) (fun i _ => t.ks.length - (intOf i).toNat)
      case atStart => exact ⟨0, Nat.zero_le _, rfl, by rw [List.take_zero, wks]; exact unhide HG1, by rw [List.take_zero, wks]; exact unhide HP0, unhide HA1⟩
      case round =>
        obtain ⟨k, hk, rfl, hg, hpk, hap⟩ := hrel
        have HGK := hide hg
        have HPK := hide hpk
        have HAK := hide hap
        clear hg hap hpk
        by_cases hlt : k < t.ks.length
        · obtain ⟨g, cap, hv, hcell⟩ := row_open (unhide HROW) (by rw [unhide HLEN]; omega)
          simp only [Value.slice.injEq] at hv
          obtain ⟨rfl, _, rfl⟩ := hv
          have hkp : k < (t.ks.map Ad.p).length := by rw [unhide HLEN]; exact hlt
          have hgb := unhide HRI g rfl
          have hgl := (own_lt (unhide HROW) g rfl).1
          obtain ⟨hs2, hz2⟩ := unhide HSY _ _ (unhide HAK)
          obtain ⟨q, hq⟩ : ∃ q, q = (t.ks[k]).p := ⟨_, rfl⟩
          have hck : wr.cell? ⟨g, k, none⟩ = some (nPtr q) := by
            rw [World.cell?_of_block (w := w) (a := ⟨g, k, none⟩) (hs2 g hgb hgl), hcell k hkp, List.getElem_map, hq]
          have hnk : AAt I wr t.ks[k] := AAt.later hs2 _ (unhide HKS _ (List.getElem_mem hlt))
          have hgl2 : g < wr.heap.size := Nat.lt_of_lt_of_le hgl hz2
          have hcn : (t.ks[k]).cnt ≤ m := by
            have h1 := cnts_mem t.ks _ (List.getElem_mem hlt)
            have h2 := cnt_eq t
            have h3 := unhide HHT
            omega
          have hpk := unhide HPK
          rw [List.drop_eq_getElem_cons hlt, List.cons_append] at hpk
          have HC := hide ((unhide HIH) t.ks[k] hcn (by have := unhide HHM; omega) (t.ks.drop (k + 1) ++ ts) _ wr hpk (unhide HGK) hnk)
          have HWK := hide (wks_take f t.ks a1 k hlt)
          rw [← hq] at HC
          have hki : (k : Int) < (t.ks.length : Int) := by omega
          clear hcell hnk hcn hpk hs2 hz2 hq
          go_wp2_with fail
          refine Calls.mono HC.out ?_
          rintro e w2 ⟨rfl, hc2, hp2, ha2⟩
          have HC2 := hide hc2
          have HP2 := hide hp2
          have HA2 := hide (unhide HTR _ _ _ (unhide HAK) ha2)
          clear hc2 ha2 hp2 HC hck
          go_wp2_with fail
          go_roundw
          case rel => exact ⟨k + 1, by omega, by go_num, by rw [unhide HWK]; exact unhide HC2, by rw [unhide HWK]; exact unhide HP2, unhide HA2⟩
          case measure => simp [intOf]; omega
        · have hk2 : k = t.ks.length := by omega
          subst hk2
          go_wp2_with fail
          go_end0
          have h1 := unhide HGK
          have h2 := unhide HPK
          rw [List.take_length] at h1 h2
          rw [List.drop_length, List.nil_append] at h2
          rw [unhide HW]
          exact ⟨rfl, h1, h2, unhide HAK⟩

theorem walkG2 {α : Type} (F : Nat) (x y : Value) (I : Nat → Prop) (Rl : World → World → Prop) (Inv : α → World → Prop) (f : α → Ad → α × Bool) (P : α → List Ad → Prop)
    (hen : ∀ args W, (callFunc F args).run Tryz.prog W = .ok (.enter F args) W) (hfn : ∀ W : World, (binOp .eql 54 (.func (.func F) #[] #[x, y]) .nilFunc).run Tryz.prog W = .ok (.bool false) W)
    (htr : ∀ a b c, Rl a b → Rl b c → Rl a c) (hsy : ∀ w w', Rl w w' → Stay I w w' ∧ w.heap.size ≤ w'.heap.size)
    (hP : ∀ a t ts, P a (t :: ts) → P (f a t).1 ((if (f a t).2 then t.ks else []) ++ ts))
    (hst : ∀ a t ts w, P a (t :: ts) → Inv a w → AAt I w t → Calls Tryz.prog F #[nPtr t.p, x, y] w fun e w' => e = .returned (.bool (f a t).2) ∧ Inv (f a t).1 w' ∧ Rl w w') :
    ∀ (m : Nat) (t : Ad), t.cnt ≤ m → m ≤ 90000 → ∀ (ts : List Ad) (a : α) (w : World), P a (t :: ts) → Inv a w → AAt I w t →
      Calls Tryz.prog 31 #[nPtr t.p, .func (.func F) #[] #[x, y]] w fun e w' => e = .returned (.tuple #[]) ∧ Inv (wk f a t) w' ∧ P (wk f a t) ts ∧ Rl w w' := by
  intro m
  induction m with
  | zero => intro t ht; have := cnt_pos t; omega
  | succ m ih =>
    intro t ht hm ts a w hp0 hi hnt
    obtain ⟨hIp, hpl, _, _, v, f3, hrow, hri⟩ := hnt.cells
    have hlen : (t.ks.map Ad.p).length = t.ks.length := List.length_map _
    obtain ⟨ua, uc, hu⟩ := row_shut hrow
    subst hu
    rw [hlen] at f3
    have HC := hide (hst a t ts w hp0 hi hnt)
    have HP0 := hide (hP a t ts hp0)
    have HW := hide (wk_eq f a t)
    have HKS := hide hnt.parts
    have HROW := hide hrow
    have HRI := hide hri
    have HIH := hide (ih)
    have HHT := hide ht
    have HHM := hide hm
    have HF3 := hide f3
    have HPL := hide hpl
    have HIP := hide hIp
    have HLEN := hide hlen
    have HTR := hide htr
    have HSY := hide hsy
    have hkb : t.ks.length ≤ 90000 := by have h1 := cnts_len t.ks; have h2 := cnt_eq t; omega
    clear hst hP hi hnt hrow hri ih ht hm f3 hpl hIp hlen htr hsy hp0
    obtain ⟨p, hp⟩ : ∃ p, p = t.p := ⟨_, rfl⟩
    rw [← hp] at HC HF3 HPL HIP ⊢
    clear hp
    cases hx : (f a t).2 with
    | false =>
      rw [hx] at HC HP0 HW
      clear hx
      go_enter Tryz.func31, Tryz.ntmps31
      go_wp2_with fail
      refine Calls.mono HC.out ?_
      rintro e w1 ⟨rfl, hg1, ha1⟩
      have HG1 := hide hg1
      have HA1 := hide ha1
      clear HC hg1 ha1
      go_wp2_with fail
      exact bodyPost_ret (v := .tuple #[]) (by simp [results, Tryz.results31, go_sem]) rfl ⟨rfl, by rw [unhide HW]; exact unhide HG1, by rw [unhide HW]; exact unhide HP0, unhide HA1⟩
    | true =>
      rw [hx] at HC HP0 HW
      clear hx
      obtain ⟨a1, ha1⟩ : ∃ a1, a1 = (f a t).1 := ⟨_, rfl⟩
      rw [← ha1] at HC HP0 HW
      clear ha1
      go_enter Tryz.func31, Tryz.ntmps31
      go_wp2_with fail
      refine Calls.mono HC.out ?_
      rintro e w1 ⟨rfl, hg1, ha1⟩
      obtain ⟨hs1, hz1⟩ := unhide HSY _ _ ha1
      have g3 : w1.cell? ⟨p, 3, none⟩ = some (.slice ua t.ks.length uc) := by rw [World.cell?_of_block (w := w) (hs1 p (unhide HIP) (unhide HPL))]; exact unhide HF3
      have hpl1 : p < w1.heap.size := Nat.lt_of_lt_of_le (unhide HPL) hz1
      have HG1 := hide hg1
      have HA1 := hide ha1
      clear HC hg1 ha1 hs1 hz1
      go_wp2_with fail
      go_loopw [23] (fun i wr => ∃ k : Nat, k ≤ t.ks.length ∧ i = .int .i64 k ∧ Inv (wks f a1 (t.ks.take k)) wr ∧ P (wks f a1 (t.ks.take k)) (t.ks.drop k ++ ts) ∧ Rl w wr) (fun i _ => t.ks.length - (intOf i).toNat)
      case atStart => exact ⟨0, Nat.zero_le _, rfl, by rw [List.take_zero, wks]; exact unhide HG1, by rw [List.take_zero, wks]; exact unhide HP0, unhide HA1⟩
      case round =>
        obtain ⟨k, hk, rfl, hg, hpk, hap⟩ := hrel
        have HGK := hide hg
        have HPK := hide hpk
        have HAK := hide hap
        clear hg hap hpk
        by_cases hlt : k < t.ks.length
        · obtain ⟨g, cap, hv, hcell⟩ := row_open (unhide HROW) (by rw [unhide HLEN]; omega)
          simp only [Value.slice.injEq] at hv
          obtain ⟨rfl, _, rfl⟩ := hv
          have hkp : k < (t.ks.map Ad.p).length := by rw [unhide HLEN]; exact hlt
          have hgb := unhide HRI g rfl
          have hgl := (own_lt (unhide HROW) g rfl).1
          obtain ⟨hs2, hz2⟩ := unhide HSY _ _ (unhide HAK)
          obtain ⟨q, hq⟩ : ∃ q, q = (t.ks[k]).p := ⟨_, rfl⟩
          have hck : wr.cell? ⟨g, k, none⟩ = some (nPtr q) := by
            rw [World.cell?_of_block (w := w) (a := ⟨g, k, none⟩) (hs2 g hgb hgl), hcell k hkp, List.getElem_map, hq]
          have hnk : AAt I wr t.ks[k] := AAt.later hs2 _ (unhide HKS _ (List.getElem_mem hlt))
          have hgl2 : g < wr.heap.size := Nat.lt_of_lt_of_le hgl hz2
          have hcn : (t.ks[k]).cnt ≤ m := by
            have h1 := cnts_mem t.ks _ (List.getElem_mem hlt)
            have h2 := cnt_eq t
            have h3 := unhide HHT
            omega
          have hpk := unhide HPK
          rw [List.drop_eq_getElem_cons hlt, List.cons_append] at hpk
          have HC := hide ((unhide HIH) t.ks[k] hcn (by have := unhide HHM; omega) (t.ks.drop (k + 1) ++ ts) _ wr hpk (unhide HGK) hnk)
          have HWK := hide (wks_take f t.ks a1 k hlt)
          rw [← hq] at HC
          have hki : (k : Int) < (t.ks.length : Int) := by omega
          clear hcell hnk hcn hpk hs2 hz2 hq
          go_wp2_with fail
          refine Calls.mono HC.out ?_
          rintro e w2 ⟨rfl, hc2, hp2, ha2⟩
          have HC2 := hide hc2
          have HP2 := hide hp2
          have HA2 := hide (unhide HTR _ _ _ (unhide HAK) ha2)
          clear hc2 ha2 hp2 HC hck
          go_wp2_with fail
          go_roundw
          case rel => exact ⟨k + 1, by omega, by go_num, by rw [unhide HWK]; exact unhide HC2, by rw [unhide HWK]; exact unhide HP2, unhide HA2⟩
          case measure => simp [intOf]; omega
        · have hk2 : k = t.ks.length := by omega
          subst hk2
          go_wp2_with fail
          go_end0
          have h1 := unhide HGK
          have h2 := unhide HPK
          rw [List.take_length] at h1 h2
          rw [List.drop_length, List.nil_append] at h2
          rw [unhide HW]
          exact ⟨rfl, h1, h2, unhide HAK⟩

def mkP (e : (Nat × Value) × Nat) : MapEntry := { key := nPtr e.1.1, val := e.1.2, born := e.2 }
def mapP (l : List (Nat × Value)) : Array MapEntry := ((l.zipIdx).map mkP).toArray
/-- A block of cells, none of them shut. -/
def Cl (W : World) (p : Nat) : Prop := ∃ cs t, W.heap[p]? = some (.cells cs t (0, 0))
theorem sz49 (W : World) : (sizeOf 49).run Tryz.prog W = .ok 4 W := by kernel_rfl

theorem eq_ptr {W : World} {p q : Nat} (hp : Cl W p) (hq : Cl W q) : (Op.equal 22 (nPtr p) (nPtr q)).run Tryz.prog W = .ok (decide (p = q)) W := by
  obtain ⟨ca, ta, ha⟩ := hp
  obtain ⟨cb, tb, hb⟩ := hq
  have h22 := Tryz.underlying22
  show (Op.equalIn (9999 + 1) 22 (nPtr p) (nPtr q)).run Tryz.prog W = _
  rw [Op.equalIn, Sem.run_bind, run_underlying h22 W]
  simp only [Result.andThen_ok, Sem.run_bind, sz49]
  by_cases h : p = q
  · subst h
    rw [decide_eq_true rfl]
    exact run_sameAddr_same _ _
  · rw [decide_eq_false h]
    exact run_sameAddr_other W (a := ⟨p, 0, none⟩) (b := ⟨q, 0, none⟩) (fun e => h (by cases e; rfl)) ha hb

theorem find_ptr {W : World} {p : Nat} (hp : Cl W p) : ∀ (l : List (Nat × Value)) (n i : Nat), (∀ e ∈ l, Cl W e.1) →
    ∃ o, (Instr.findAsking 22 (nPtr p) ((l.zipIdx n).map mkP) i).run Tryz.prog W = .ok o W ∧ o.map (·.2) = (l.find? (fun e => decide (p = e.1))).map (·.2)
  | [], _, _, _ => ⟨none, rfl, rfl⟩
  | e :: l, n, i, h => by
    have h1 := eq_ptr hp (h e (by simp))
    simp only [List.zipIdx_cons, List.map_cons, Instr.findAsking, mkP, Sem.run_bind, h1, Result.andThen_ok, List.find?_cons]
    cases hd : decide (p = e.1)
    · simp only [Bool.false_eq_true, if_false]
      exact find_ptr hp l (n + 1) (i + 1) (fun e he => h e (by simp [he]))
    · exact ⟨some (i, e.2), rfl, rfl⟩
theorem key_ptr {W : World} {p : Nat} (hp : Cl W p) (l : List (Nat × Value)) (h : ∀ e ∈ l, Cl W e.1) :
    ∃ o, (Instr.findKey 22 (nPtr p) (mapP l).toList).run Tryz.prog W = .ok o W ∧ o.map (·.2) = (l.find? (fun e => decide (p = e.1))).map (·.2) := by
  have h22 := Tryz.underlying22
  cases l with
  | nil =>
    refine ⟨none, ?_, rfl⟩
    unfold Instr.findKey
    rw [Sem.run_bind, run_underlying h22 W]
    rfl
  | cons e l =>
    obtain ⟨o, h1, h2⟩ := find_ptr hp (e :: l) 0 0 h
    refine ⟨o, ?_, h2⟩
    unfold Instr.findKey
    rw [Sem.run_bind, run_underlying h22 W]
    simp only [Result.andThen_ok, mapP]
    exact h1
theorem lookup_ptr (m k : Nat) (l : List (Nat × Value)) (p : Nat) (W : World) (hm : W.heap[m]? = some (.map (mapP l) k)) (hp : Cl W p) (hl : ∀ e ∈ l, Cl W e.1) :
    (Instr.lookup 44 (.map (some m)) (nPtr p) false).run Tryz.prog W = .ok (((l.find? (fun e => decide (p = e.1))).map (·.2)).getD (.int .i64 0)) W := by
  obtain ⟨o, h3, h2⟩ := key_ptr hp l hl
  have h22 := Tryz.underlying22
  have h44 := Tryz.underlying44
  have hz : (zeroValue 3).run Tryz.prog W = .ok (.int .i64 0) W := by kernel_rfl
  unfold Instr.lookup
  rw [Sem.run_bind, run_underlying h44 W]
  have hck : ∀ b, (Instr.checkKey b 10000 22 (nPtr p)).run Tryz.prog W = .ok () W := by
    intro b
    rw [Instr.checkKey, Sem.run_bind, run_underlying h22 W]
    rfl
  have hg : (getObj m).run Tryz.prog W = .ok (.map (mapP l) k) W := by simp [getObj, Sem.run, hm]
  simp only [Result.andThen_ok, Sem.run_bind, hg, Sem.run_pure, hck, h3]
  cases o with
  | none =>
    cases hf : l.find? (fun e => decide (p = e.1)) with
    | none => simp [hz]
    | some x => rw [hf] at h2; simp at h2
  | some y =>
    cases hf : l.find? (fun e => decide (p = e.1)) with
    | none => rw [hf] at h2; simp at h2
    | some x => rw [hf] at h2; simp at h2; simp [h2]
theorem mapP_snoc (l : List (Nat × Value)) (k : Nat) (v : Value) : (mapP l).push { key := nPtr k, val := v, born := l.length } = mapP (l ++ [(k, v)]) := by
  unfold mapP
  rw [List.zipIdx_append, List.map_append]
  simp [mkP, List.zipIdx]
theorem update_ptr (m : Nat) (l : List (Nat × Value)) (p : Nat) (v : Value) (W : World) (hm : W.heap[m]? = some (.map (mapP l) l.length)) (hp : Cl W p) (hl : ∀ e ∈ l, Cl W e.1) (hn : l.find? (fun e => decide (p = e.1)) = none) :
    (Instr.mapUpdate 44 (.map (some m)) (nPtr p) v).run Tryz.prog W = .ok () (setMap W m (.map (mapP (l ++ [(p, v)])) (l.length + 1))) := by
  obtain ⟨o, h3, h2⟩ := key_ptr hp l hl
  have h22 := Tryz.underlying22
  have h44 := Tryz.underlying44
  have ho : o = none := by
    rw [hn] at h2
    cases o with
    | none => rfl
    | some y => simp at h2
  subst ho
  have hck : ∀ b, (Instr.checkKey b 10000 22 (nPtr p)).run Tryz.prog W = .ok () W := by
    intro b
    rw [Instr.checkKey, Sem.run_bind, run_underlying h22 W]
    rfl
  have hg : (getObj m).run Tryz.prog W = .ok (.map (mapP l) l.length) W := by simp [getObj, Sem.run, hm]
  unfold Instr.mapUpdate
  rw [Sem.run_bind, run_underlying h44 W]
  simp only [Result.andThen_ok, Sem.run_bind, hg, hck, h3]
  rw [mapP_snoc]
  simp [setObj, Sem.run, hm, setMap]
theorem len_ptr (l : List (Nat × Value)) : (mapP l).size = l.length := by simp [mapP]

def nodL (l : List Nat) : List (Nat × Value) := l.zipIdx.map fun e => (e.1, .int .i64 (e.2 : Int))
theorem nodL_len (l : List Nat) : (nodL l).length = l.length := by simp [nodL]
theorem nodL_snoc (l : List Nat) (p : Nat) : nodL (l ++ [p]) = nodL l ++ [(p, .int .i64 (l.length : Int))] := by
  simp [nodL, List.zipIdx_append, List.zipIdx]
theorem nodL_mem {l : List Nat} {e : Nat × Value} (h : e ∈ nodL l) : e.1 ∈ l := by
  unfold nodL at h
  obtain ⟨x, hx, rfl⟩ := List.mem_map.1 h
  obtain ⟨x1, x2⟩ := x
  have := List.mem_zipIdx hx
  simp only
  rw [this.2.2]
  exact List.getElem_mem _
theorem find_zip (p : Nat) : ∀ (l : List Nat) (n : Nat), p ∈ l → (((l.zipIdx n).map fun e => (e.1, Value.int .i64 (e.2 : Int))).find? (fun e => decide (p = e.1))).map (·.2) = some (.int .i64 ((n + l.idxOf p : Nat) : Int))
  | [], _, h => absurd h (by simp)
  | x :: l, n, h => by
    rw [List.zipIdx_cons, List.map_cons, List.find?_cons, List.idxOf_cons]
    by_cases hx : p = x
    · subst hx
      simp
    · have h2 : p ∈ l := by exact (List.mem_cons.1 h).resolve_left hx
      have h3 : (x == p) = false := beq_eq_false_iff_ne.2 (Ne.symm hx)
      simp only [decide_eq_false hx, h3]
      rw [find_zip p l (n + 1) h2]
      simp only [cond_false]
      congr 3
      omega
theorem nodL_find {p : Nat} {l : List Nat} (h : p ∈ l) : (((nodL l).find? (fun e => decide (p = e.1))).map (·.2)).getD (.int .i64 0) = .int .i64 ((l.idxOf p : Nat) : Int) := by
  unfold nodL
  rw [find_zip p l 0 h, Nat.zero_add]
  rfl
theorem nodL_none {p : Nat} {l : List Nat} (h : p ∉ l) : (nodL l).find? (fun e => decide (p = e.1)) = none := by
  rw [List.find?_eq_none]
  intro e he
  have := nodL_mem he
  simp only [decide_eq_true_eq]
  rintro rfl
  exact h this

/-- The numbers so far: the map's block, and that of its word. -/
structure Nms (mb nb : Nat) (l : List Nat) (w : World) : Prop where
  word : w.heap[nb]? = some (.cells #[.map (some mb)] 44 (0, 0))
  map : w.heap[mb]? = some (.map (mapP (nodL l)) l.length)
  old : ∀ p ∈ l, Cl w p

def nmF (l : List Nat) (t : Ad) : List Nat × Bool := (l ++ [t.p], true)
mutual
theorem wk_nm : ∀ (t : Ad) (l : List Nat), wk nmF l t = l ++ t.ads
  | .mk p kd tx n ks, l => by
    rw [wk, Ad.ads]
    simp only [nmF, if_true]
    rw [show (Ad.mk p kd tx n ks).p = p from rfl, wks_nm ks, List.append_assoc]
    rfl
theorem wks_nm : ∀ (ts : List Ad) (l : List Nat), wks nmF l ts = l ++ Ad.adss ts
  | [], l => by rw [wks, Ad.adss, List.append_nil]
  | t :: ts, l => by rw [wks, wk_nm t, wks_nm ts, Ad.adss, List.append_assoc]
end

theorem AAt.cl {I : Nat → Prop} {w : World} {a : Ad} (h : AAt I w a) : Cl w a.p := by
  cases a with
  | mk p kd tx n ks =>
    rw [AAt] at h
    obtain ⟨_, _, ⟨v, hb, _⟩, _⟩ := h
    exact ⟨_, _, hb⟩

theorem number1_any {mb nb : Nat} {l : List Nat} {t : Ad} {I : Nat → Prop} {w : World} (hN : Nms mb nb l w) (ht : AAt I w t) (hp : t.p ∉ l) :
    Calls Tryz.prog 67 #[nPtr t.p, .pointer (some ⟨nb, 0, none⟩)] w fun e w' => e = .returned (.bool true) ∧ w' = setMap w mb (.map (mapP (nodL (l ++ [t.p]))) (l.length + 1)) := by
  have hw : w.cell? ⟨nb, 0, none⟩ = some (.map (some mb)) := by rw [cell_of hN.word]; rfl
  have hu := update_ptr mb (nodL l) t.p (.int .i64 (l.length : Int)) w (by rw [nodL_len]; exact hN.map) ht.cl (fun e he => hN.old _ (nodL_mem he)) (nodL_none hp)
  rw [nodL_len, ← nodL_snoc] at hu
  have hl : (Builtin.len_ #[44] 3 #[.map (some mb)]).run Tryz.prog w = .ok (.int .i64 (l.length : Int)) w := by
    simp [Builtin.len_, getObj, Sem.run, hN.map, len_ptr, nodL_len, goInt]
  obtain ⟨p, hp2⟩ : ∃ p, p = t.p := ⟨_, rfl⟩
  rw [← hp2] at hu ⊢
  clear hN ht hp hp2
  go_enter Tryz.func67, Tryz.ntmps67
  go_wp2_with fail
  go_ret
  exact ⟨rfl, rfl⟩
theorem Cl.set {w : World} {m p : Nat} {o : Obj} {es : Array MapEntry} {k : Nat} (h : Cl w p) (hm : w.heap[m]? = some (.map es k)) : Cl (setMap w m o) p := by
  obtain ⟨cs, t, hc⟩ := h
  refine ⟨cs, t, ?_⟩
  rw [setMap_other (fun e => by rw [e, hm] at hc; cases hc)]
  exact hc
theorem Nms.next {mb nb : Nat} {l : List Nat} {p : Nat} {w : World} (h : Nms mb nb l w) (hp : Cl w p) (hne : nb ≠ mb) : Nms mb nb (l ++ [p]) (setMap w mb (.map (mapP (nodL (l ++ [p]))) (l.length + 1))) := by
  refine ⟨by rw [setMap_other hne]; exact h.word, by rw [setMap_at (lt_of_heap h.map), List.length_append]; rfl, fun q hq => ?_⟩
  rcases List.mem_append.1 hq with hq | hq
  · exact (h.old q hq).set h.map
  · rw [List.mem_singleton.1 hq]
    exact hp.set h.map
theorem ap_setMap {m B : Nat} (w : World) (o : Obj) : Ap m B w (setMap w m o) := ⟨rfl, rfl, rfl, by rw [setMap_size]; exact Nat.le_refl _, fun k _ hk => setMap_other hk⟩
theorem en67 : ∀ args W, (callFunc 67 args).run Tryz.prog W = .ok (.enter 67 args) W := fun _ _ => by kernel_rfl

theorem number_any {I : Nat → Prop} (t : Ad) (w : World) (ht : AAt I w t) (hd : t.ads.Nodup) (hc : t.cnt ≤ 90000) :
    Calls Tryz.prog 24 #[nPtr t.p] w fun e w' => (∃ mb, e = .returned (.map (some mb)) ∧ w.heap.size ≤ mb ∧ w'.heap[mb]? = some (.map (mapP (nodL t.ads)) t.ads.length)) ∧ Below w.heap.size w w' := by
  obtain ⟨w2, hw2⟩ : ∃ w2, w2 = (w.alloc (.map #[] 0)).alloc (.cells #[.map (some w.heap.size)] 44) := ⟨_, rfl⟩
  have hb2 : Below w.heap.size w w2 := by
    rw [hw2]
    exact ((Below.refl _ _).alloc (Nat.le_refl _) _).alloc (by simp) _
  have hs2 : w2.heap.size = w.heap.size + 2 := by rw [hw2]; simp
  have e1 : (w.alloc (.map #[] 0)).heap.size = w.heap.size + 1 := by simp
  have hN : Nms w.heap.size (w.heap.size + 1) [] w2 := by
    refine ⟨?_, ?_, fun p hp => absurd hp (by simp)⟩
    · rw [hw2, ← e1]
      exact heap_new _ _
    · rw [hw2, Below.heap_alloc _ _ _ (by simp)]
      exact heap_new _ _
  have HC := hide (walkG 67 (.pointer (some ⟨w.heap.size + 1, 0, none⟩)) (fun b => b < w.heap.size + 2 ∧ b ≠ w.heap.size) (Ap w.heap.size (w.heap.size + 2)) (Nms w.heap.size (w.heap.size + 1)) nmF (fun l ts => (l ++ Ad.adss ts).Nodup) en67 (fun W => by kernel_rfl)
    (fun _ _ _ h k => h.trans k) (fun w w' h => ⟨fun b hb _ => h.block b hb.1 hb.2, h.size⟩)
    (fun l t ts h => by
      simp only [nmF, if_true]
      rw [Ad.adss, ads_eq] at h
      rw [adss_app]
      simpa using h)
    (fun l t ts w' h hI hA => by
      have hp : t.p ∉ l := by
        rw [Ad.adss, ads_eq, List.nodup_append] at h
        exact fun hm => h.2.2 _ hm _ (by simp) rfl
      refine (number1_any hI hA hp).mono ?_
      rintro e w3 ⟨rfl, rfl⟩
      exact ⟨rfl, hI.next hA.cl (by omega), ap_setMap _ _⟩)
    t.cnt t (Nat.le_refl _) hc [] [] w2 (by rw [List.nil_append, Ad.adss, Ad.adss, List.append_nil]; exact hd) hN
    (AAt.later (I := fun b => b < w.heap.size + 2 ∧ b ≠ w.heap.size) (fun b hb hl => hb2.block b hl) _ (AAt.mono (fun b _ hl => ⟨by omega, by omega⟩) _ ht)))
  rw [wk_nm, List.nil_append] at HC
  obtain ⟨p, hp⟩ : ∃ p, p = t.p := ⟨_, rfl⟩
  rw [← hp] at HC ⊢
  have HB2 := hide hb2
  have HS2 := hide hs2
  rw [hw2] at HC
  have HW2 := hide hw2
  have hmk := mkMap 44
  clear hb2 hs2 e1 hN ht hd hc hp hw2
  go_enter Tryz.func24, Tryz.ntmps24
  go_wp2_with fail
  refine Calls.mono HC.out ?_
  rintro e w3 ⟨rfl, hn3, _, ha3⟩
  have hw : w3.cell? ⟨w.heap.size + 1, 0, none⟩ = some (.map (some w.heap.size)) := by rw [cell_of hn3.word]; rfl
  have HM := hide hn3.map
  rw [← unhide HW2] at ha3
  have HB3 : Hid (Below w.heap.size w w3) := (unhide HB2).trans ((ha3.mono (by omega)).below (Nat.le_refl _))
  clear hn3 ha3 HC
  go_wp2_with fail
  go_ret
  exact ⟨⟨_, rfl, Nat.le_refl _, unhide HM⟩, unhide HB3⟩

theorem indexF0 (F : Nat) (f : Tr → Bool) (hen : ∀ args W, (callFunc F args).run Tryz.prog W = .ok (.enter F args) W) (ts : List Tr) (v : Value) (w : World) {B : Nat} (h : NRow B w v ts) (hl : ts.length ≤ 90000)
    (hF : ∀ t ∈ ts, ∀ p W, Below w.heap.size w W → NTr W t p → Calls Tryz.prog F #[nPtr p] W fun e w' => e = .returned (.bool (f t)) ∧ Below W.heap.size W w') :
    Calls Tryz.prog 222 #[v, fnV F] w fun e w' => (∃ k : Int, e = .returned (.int .i64 k) ∧ decide (0 ≤ k) = ts.any f) ∧ Below w.heap.size w w' := by
  obtain ⟨va, vc, rfl⟩ := h.form
  have HR := hide h
  have HF := hide hF
  clear h hF
  go_enter Tryz.func222, Tryz.ntmps222
  go_wp2_with fail
  go_loopw [8] (fun i wr => ∃ k : Nat, k ≤ ts.length ∧ i = .int .i64 k ∧ (ts.take k).any f = false ∧ Below w.heap.size w wr) (fun i _ => ts.length - (intOf i).toNat)
  case atStart => exact ⟨0, Nat.zero_le _, rfl, rfl, Below.refl _ _⟩
  case round =>
    obtain ⟨k, hk, rfl, hns, hb⟩ := hrel
    have HNS := hide hns
    have HB := hide hb
    clear hns hb
    by_cases hlt : k < ts.length
    · obtain ⟨g, cap, q, hv, hg, hc, hn⟩ := ((unhide HR).later (unhide HB)).cell k hlt
      simp only [Value.slice.injEq] at hv
      obtain ⟨rfl, _, rfl⟩ := hv
      have hki : (k : Int) < (ts.length : Int) := by omega
      have HC := hide (unhide HF ts[k] (List.getElem_mem _) q wr (unhide HB) hn)
      have HTK := hide (List.take_succ_eq_append_getElem hlt)
      clear hn
      cases hh : f ts[k] with
      | true =>
        rw [hh] at HC
        have HH := hide hh
        clear hh
        go_wp2_with fail
        refine Calls.mono HC.out ?_
        rintro e w2 ⟨rfl, hb2⟩
        have HB2 := hide ((unhide HB).trans (hb2.mono (unhide HB).size))
        clear HC hb2
        go_wp2_with fail
        go_ret
        refine ⟨⟨k, rfl, ?_⟩, unhide HB2⟩
        rw [decide_eq_true (by omega), eq_comm, List.any_eq_true]
        exact ⟨ts[k], List.getElem_mem _, unhide HH⟩
      | false =>
        rw [hh] at HC
        have HH := hide hh
        clear hh
        go_wp2_with fail
        refine Calls.mono HC.out ?_
        rintro e w2 ⟨rfl, hb2⟩
        have HB2 := hide ((unhide HB).trans (hb2.mono (unhide HB).size))
        clear HC hb2
        go_wp2_with fail
        go_roundw
        case rel =>
          refine ⟨k + 1, by omega, by go_num, ?_, unhide HB2⟩
          rw [unhide HTK, List.any_append, unhide HNS]
          simp [unhide HH]
        case measure => simp [intOf]; omega
    · have hkk : k = ts.length := by omega
      subst hkk
      go_wp2_with fail
      go_ret
      refine ⟨⟨-1, rfl, ?_⟩, unhide HB⟩
      have h := unhide HNS
      rw [List.take_length] at h
      rw [h]
      rfl

theorem containsF0 (F : Nat) (f : Tr → Bool) (hen : ∀ args W, (callFunc F args).run Tryz.prog W = .ok (.enter F args) W) (ts : List Tr) (v : Value) (w : World) {B : Nat} (h : NRow B w v ts) (hl : ts.length ≤ 90000)
    (hF : ∀ t ∈ ts, ∀ p W, Below w.heap.size w W → NTr W t p → Calls Tryz.prog F #[nPtr p] W fun e w' => e = .returned (.bool (f t)) ∧ Below W.heap.size W w') :
    Calls Tryz.prog 269 #[v, fnV F] w fun e w' => e = .returned (.bool (ts.any f)) ∧ Below w.heap.size w w' := by
  have HC := hide (indexF0 F f hen ts v w h hl hF)
  obtain ⟨va, vc, rfl⟩ := h.form
  clear h hF
  go_enter Tryz.func269, Tryz.ntmps269
  go_wp2_with fail
  refine Calls.mono HC.out ?_
  rintro e w1 ⟨⟨k, rfl, hk⟩, hb⟩
  have HK := hide hk
  have HB := hide hb
  clear hk HC hb
  go_wp2_with fail
  go_ret
  exact ⟨ret_bool (unhide HK), unhide HB⟩

theorem indexF1 (F : Nat) (c : Value) (f : Tr → Bool) (hen : ∀ args W, (callFunc F args).run Tryz.prog W = .ok (.enter F args) W) (ts : List Tr) (v : Value) (w : World) {B : Nat} (h : NRow B w v ts) (hl : ts.length ≤ 90000)
    (hF : ∀ t ∈ ts, ∀ p W, Below w.heap.size w W → NTr W t p → Calls Tryz.prog F #[nPtr p, c] W fun e w' => e = .returned (.bool (f t)) ∧ Below W.heap.size W w') :
    Calls Tryz.prog 222 #[v, .func (.func F) #[] #[c]] w fun e w' => (∃ k : Int, e = .returned (.int .i64 k) ∧ decide (0 ≤ k) = ts.any f) ∧ Below w.heap.size w w' := by
  obtain ⟨va, vc, rfl⟩ := h.form
  have HR := hide h
  have HF := hide hF
  clear h hF
  go_enter Tryz.func222, Tryz.ntmps222
  go_wp2_with fail
  go_loopw [8] (fun i wr => ∃ k : Nat, k ≤ ts.length ∧ i = .int .i64 k ∧ (ts.take k).any f = false ∧ Below w.heap.size w wr) (fun i _ => ts.length - (intOf i).toNat)
  case atStart => exact ⟨0, Nat.zero_le _, rfl, rfl, Below.refl _ _⟩
  case round =>
    obtain ⟨k, hk, rfl, hns, hb⟩ := hrel
    have HNS := hide hns
    have HB := hide hb
    clear hns hb
    by_cases hlt : k < ts.length
    · obtain ⟨g, cap, q, hv, hg, hc, hn⟩ := ((unhide HR).later (unhide HB)).cell k hlt
      simp only [Value.slice.injEq] at hv
      obtain ⟨rfl, _, rfl⟩ := hv
      have hki : (k : Int) < (ts.length : Int) := by omega
      have HC := hide (unhide HF ts[k] (List.getElem_mem _) q wr (unhide HB) hn)
      have HTK := hide (List.take_succ_eq_append_getElem hlt)
      clear hn
      cases hh : f ts[k] with
      | true =>
        rw [hh] at HC
        have HH := hide hh
        clear hh
        go_wp2_with fail
        refine Calls.mono HC.out ?_
        rintro e w2 ⟨rfl, hb2⟩
        have HB2 := hide ((unhide HB).trans (hb2.mono (unhide HB).size))
        clear HC hb2
        go_wp2_with fail
        go_ret
        refine ⟨⟨k, rfl, ?_⟩, unhide HB2⟩
        rw [decide_eq_true (by omega), eq_comm, List.any_eq_true]
        exact ⟨ts[k], List.getElem_mem _, unhide HH⟩
      | false =>
        rw [hh] at HC
        have HH := hide hh
        clear hh
        go_wp2_with fail
        refine Calls.mono HC.out ?_
        rintro e w2 ⟨rfl, hb2⟩
        have HB2 := hide ((unhide HB).trans (hb2.mono (unhide HB).size))
        clear HC hb2
        go_wp2_with fail
        go_roundw
        case rel =>
          refine ⟨k + 1, by omega, by go_num, ?_, unhide HB2⟩
          rw [unhide HTK, List.any_append, unhide HNS]
          simp [unhide HH]
        case measure => simp [intOf]; omega
    · have hkk : k = ts.length := by omega
      subst hkk
      go_wp2_with fail
      go_ret
      refine ⟨⟨-1, rfl, ?_⟩, unhide HB⟩
      have h := unhide HNS
      rw [List.take_length] at h
      rw [h]
      rfl

theorem containsF1 (F : Nat) (c : Value) (f : Tr → Bool) (hen : ∀ args W, (callFunc F args).run Tryz.prog W = .ok (.enter F args) W) (ts : List Tr) (v : Value) (w : World) {B : Nat} (h : NRow B w v ts) (hl : ts.length ≤ 90000)
    (hF : ∀ t ∈ ts, ∀ p W, Below w.heap.size w W → NTr W t p → Calls Tryz.prog F #[nPtr p, c] W fun e w' => e = .returned (.bool (f t)) ∧ Below W.heap.size W w') :
    Calls Tryz.prog 269 #[v, .func (.func F) #[] #[c]] w fun e w' => e = .returned (.bool (ts.any f)) ∧ Below w.heap.size w w' := by
  have HC := hide (indexF1 F c f hen ts v w h hl hF)
  obtain ⟨va, vc, rfl⟩ := h.form
  clear h hF
  go_enter Tryz.func269, Tryz.ntmps269
  go_wp2_with fail
  refine Calls.mono HC.out ?_
  rintro e w1 ⟨⟨k, rfl, hk⟩, hb⟩
  have HK := hide hk
  have HB := hide hb
  clear hk HC hb
  go_wp2_with fail
  go_ret
  exact ⟨ret_bool (unhide HK), unhide HB⟩

def namedB (l : List Tr) (x : ByteArray) : Bool := l.any fun k => decide (k.tx = x)
theorem en268 : ∀ args W, (callFunc 290 args).run Tryz.prog W = .ok (.enter 290 args) W := fun _ _ => by kernel_rfl

theorem named1_any (t : Tr) (p b : Nat) (x : ByteArray) (w : World) (h : NTr w t p) (hx : w.cell? ⟨b, 0, none⟩ = some (.string x)) : Calls Tryz.prog 290 #[nPtr p, .pointer (some ⟨b, 0, none⟩)] w fun e w' => e = .returned (.bool (decide (t.tx = x))) ∧ Below w.heap.size w w' := by
  obtain ⟨hpl, _, c1, _⟩ := h.cells
  obtain ⟨tx, htx⟩ : ∃ tx, tx = t.tx := ⟨_, rfl⟩
  rw [← htx] at c1 ⊢
  have hbl : b < w.heap.size := by
    rcases Nat.lt_or_ge b w.heap.size with h1 | h1
    · exact h1
    · have h2 : w.heap[b]? = none := Array.getElem?_eq_none h1
      simp [World.cell?, h2] at hx
  clear h htx
  by_cases he : tx = x
  · subst he
    have e1 : decide (tx = tx) = true := decide_eq_true rfl
    rw [e1]
    clear e1
    go_enter Tryz.func290, Tryz.ntmps290
    go_wp2_with fail
    go_region
    go_wp2_with fail
    go_ret
    exact ⟨rfl, (Below.refl _ _).drew⟩
  · rw [decide_eq_false he]
    have hne := tl_ne he
    clear he
    go_enter Tryz.func290, Tryz.ntmps290
    go_wp2_with fail
    go_region
    go_wp2_with fail
    go_ret
    exact ⟨rfl, (Below.refl _ _).drew⟩

theorem named_any (ts : List Tr) (v : Value) (x : ByteArray) (w : World) {B : Nat} (h : NRow B w v ts) (hl : ts.length ≤ 90000) :
    Calls Tryz.prog 267 #[v, .string x] w fun e w' => e = .returned (.bool (namedB ts x)) ∧ Below w.heap.size w w' := by
  obtain ⟨wa, hwa⟩ : ∃ wa, wa = w.alloc (.cells #[.string x] 9) := ⟨_, rfl⟩
  have hba : Below w.heap.size w wa := by rw [hwa]; exact (Below.refl _ _).alloc (Nat.le_refl _) _
  have hsa : wa.heap.size = w.heap.size + 1 := by rw [hwa]; simp
  have hxa : wa.cell? ⟨w.heap.size, 0, none⟩ = some (.string x) := by rw [hwa, cell_of (heap_new _ _)]; rfl
  have HC := hide (containsF1 290 (.pointer (some ⟨w.heap.size, 0, none⟩)) (fun k => decide (k.tx = x)) en268 ts v wa (h.later hba) hl (fun t _ p W hb hn => named1_any t p _ x W hn ((World.cell?_of_block (w := wa) (a := ⟨w.heap.size, 0, none⟩) (hb.block w.heap.size (by omega))).trans hxa)))
  obtain ⟨va, vc, rfl⟩ := h.form
  have HBA := hide hba
  clear h hba hsa hxa
  go_enter Tryz.func267, Tryz.ntmps267
  go_wp2_with fail
  rw [← hwa]
  refine Calls.mono HC.out ?_
  rintro e w1 ⟨rfl, hb⟩
  have HB := hide ((unhide HBA).trans (hb.mono (unhide HBA).size))
  clear HC hb hwa
  go_wp2_with fail
  go_ret
  exact ⟨rfl, unhide HB⟩
end Go.Proofs.YtoimgcjbcbhclaaGreatDoor
