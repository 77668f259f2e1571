/-
  A program's statements, up to the end.
-/
import Derived.Test.YtodmgaikhbmlnaaGreatDoorEm12
import Derived.Recover
import Derived.Defers
set_option maxRecDepth 100000
set_option maxHeartbeats 16000000
namespace Go.Proofs.YtodmgaikhbmlnaaGreatDoor
open Go.RowKit

theorem program_any {c : Ctx} {F : Fns} (hF : FC c F) (hN : ∃ k, FNx c.l k F) (hK : FOk F) (w : World) (r : PR Tr) (hs : progP c.l F = r) (ho : r ≠ .out) (h : Rdr c w 0 0) : Calls Tryz.prog 112 #[rPtr c] w (PPost c w 0 (NV w.heap.size) r) := by
  have hmf := mf_bound c.R 170
  have HR0 := hide h
  have HE := hide h.base.ends
  have HL := hide h.base.len
  have HLO := hide h.base.size
  obtain ⟨i0, hi0, hz0, hz1, hz2⟩ := info_parts info22
  have HA0 := hide (Ap.refl c.R w.heap.size w)
  have HLT := hide h.rlt
  have HFC := hide hF
  have HNX := hide hN
  have HFO := hide hK
  unfold progP at hs
  have HS := hide hs
  have HO := hide ho
  clear h hs ho hF hN hK
  go_enter Tryz.func112, Tryz.ntmps112
  go_wp2_with fail
  go_loopw [3] (fun v wr => ∃ k acc j, (progLoop c.l F k acc j).bind (fun ts i => PR.ok (codeT (.mk 1 noText 0 ts)) i) = r ∧ Rdr c wr j 0 ∧ Ap c.R w.heap.size w wr ∧ KV w.heap.size wr acc v ∧ acc.length ≤ j ∧ ∀ t ∈ acc, t.kd = 15 → ∃ v r, t.kids = v :: r) (fun _ wr => c.l.length - nxt c wr)
  case atStart => exact ⟨F.fuel, [], 0, unhide HS, unhide HR0, unhide HA0, KV.nil _ _, Nat.zero_le _, fun _ hu => absurd hu (by simp)⟩
  case round =>
    obtain ⟨k, acc, j, hq, hrd, hap, hkv, hle, hex⟩ := hrel
    have HEX := hide hex
    clear hex HS HR0 HA0
    cases k with
    | zero => exact absurd hq.symm (unhide HO)
    | succ k =>
      have hL := unhide HL
      have hjl := hrd.lt
      have HR2 := hide hrd
      have HRM := hide hrd
      have HA2 := hide hap
      have HK2 := hide hkv
      have HLE := hide hle
      have hfl := fldKind (tkA c.l j)
      by_cases hx : (tkA c.l j).kd = 6
      · have HQ : Hid (PR.ok (codeT (.mk 1 noText 0 acc)) j = r) := by
          unfold progLoop at hq
          rw [if_pos hx, bind_ok] at hq
          exact hq
        have b6 : ((tkA c.l j).kd != 6) = false := by rw [hx]; rfl
        have HC := hide (token_any c wr j 0 hrd)
        unfold tkV at HC
        obtain ⟨va, vc, rfl⟩ := hkv.shape
        clear hq hrd hap hkv hle hx
        go_wp2_with fail
        refine Calls.mono HC.out ?_
        rintro e w3 ⟨rfl, hb3⟩
        have HA3 := hide ((unhide HA2).next (Ap.of hb3))
        have HR3 := hide ((unhide HR2).later hb3)
        have HK3 := hide (KV.later (unhide HK2) (Ap.of hb3) (unhide HLT))
        clear hb3 HC HA2 HR2 HK2
        have HC := hide (node_any 1 noText (.slice va acc.length vc) w3 ⟨_, _, _, rfl⟩)
        go_wp2_with fail
        refine Calls.mono HC.out ?_
        rintro e wn ⟨rfl, rfl⟩
        clear HC
        obtain ⟨m1, m2, m3⟩ := made0 (unhide HR3) (unhide HA3) (unhide HK3) 1 noText _ rfl
        have HC := hide (code_any w.heap.size (.mk 1 noText 0 acc) (nPtr w3.heap.size) _ m1 (fun k1 r1 hk1 h15 => unhide HEX k1 (by have hk2 : acc = k1 :: r1 := hk1; rw [hk2]; simp) h15))
        have HM2 := hide m2
        have HM3 := hide m3
        clear m1 m2 m3
        go_wp2_with fail
        refine Calls.mono HC.out ?_
        rintro e w5 ⟨rfl, hev, hbw⟩
        have HEV := hide hev
        have HR5 := hide ((unhide HM2).ap hbw (unhide HLO))
        have HA5 := hide ((unhide HM3).trans (Ap.of hbw))
        clear hev hbw
        go_wp2_with fail
        go_ret
        exact ppOk (unhide HQ).symm (unhide HEV).nv (unhide HR5) (unhide HA5)
      · have HQ : Hid ((deepP c.l F.st 0 j).bind (fun t i1 => (progLoop c.l F k (acc ++ [t]) i1).bind fun ts i => PR.ok (codeT (.mk 1 noText 0 ts)) i) = r) := by
          unfold progLoop at hq
          rw [if_neg hx] at hq
          rw [← hq]
          cases deepP c.l F.st 0 j <;> rfl
        have b6 : ((tkA c.l j).kd != 6) = true := bne_iff_ne.2 hx
        have HC := hide (token_any c wr j 0 hrd)
        unfold tkV at HC
        clear hq hrd hap hkv hle hx
        cases hr : deepP c.l F.st 0 j with
        | out =>
          rw [hr] at HQ
          simp only [bind_out] at HQ
          exact absurd (unhide HQ).symm (unhide HO)
        | bad er p =>
          have HRR := hide hr
          rw [hr] at HQ
          simp only [bind_bad] at HQ
          clear hr
          go_wp2_with fail
          refine Calls.mono HC.out ?_
          rintro e w3 ⟨rfl, hb3⟩
          have HA3 := hide ((unhide HA2).next (Ap.of hb3))
          have HR3 := hide ((unhide HR2).later hb3)
          clear hb3 HC HA2 HR2
          have HC := hide (deepS (unhide HFC) w3 0 j (unhide HR3) (by rw [unhide HRR]; nofun))
          rw [unhide HRR] at HC
          go_wp2_with fail
          refine Calls.mono HC.out ?_
          intro e w' hp
          obtain ⟨rfl, ha⟩ := hp
          exact ⟨rfl, ppBad (unhide HQ).symm ((unhide HA3).next ha)⟩
        | ok t j2 =>
          have HRR := hide hr
          rw [hr] at HQ
          simp only [bind_ok] at HQ
          clear hr
          go_wp2_with fail
          refine Calls.mono HC.out ?_
          rintro e w3 ⟨rfl, hb3⟩
          have HA3 := hide ((unhide HA2).next (Ap.of hb3))
          have HR3 := hide ((unhide HR2).later hb3)
          have HK3 := hide (KV.later (unhide HK2) (Ap.of hb3) (unhide HLT))
          clear hb3 HC HA2 HR2 HK2
          have HC := hide (deepS (unhide HFC) w3 0 j (unhide HR3) (by rw [unhide HRR]; nofun))
          rw [unhide HRR] at HC
          go_wp2_with fail
          refine Calls.mono HC.out ?_
          intro e w4 hp
          obtain ⟨⟨v4, rfl, p4, rfl, hn4⟩, hrd, ha⟩ := hp
          have HA4 := hide ((unhide HA3).next ha)
          have HR4 := hide hrd
          have HN4 := hide (apart_own (unhide HK3) (unhide HA3).size hn4)
          have HK4 := hide (KV.later (unhide HK3) ha (unhide HLT))
          have hlt2 := hrd.lt
          have hgt : j < j2 := by
            obtain ⟨kk, hkk⟩ := unhide HNX
            exact ((deepP_nx (l := c.l) (d := 0) (hkk.st (0 + 1) j hjl)).2 t j2 (unhide HRR)).1
          clear hrd ha hn4 HC HA3 HR3 HK3
          obtain ⟨ps, hown, hk4⟩ := unhide HK4
          have hlen := NAts.length _ _ hk4
          have hOB := own_lt hown
          rw [hlen] at hown
          have HOWN := hide hown
          have HLEN := hide hlen
          have HKK := hide hk4
          have hsz := (unhide HA4).size
          have hle := unhide HLE
          have HOB := hide hOB
          clear hown hk4 HK4 hOB hlen
          go_wp2_with (at_builtin; refine wpList_append_lies _ rfl _ _ 36 rfl w.heap.size 22 i0 (.pointer none) 1 8 Tryz.underlying36 hi0 hz0 hz1 hz2 rfl (by decide) _ _ _ rfl ((unhide HOWN).alloc _) ⟨w4.heap.size, 0, none⟩ 1 1 [nPtr p4] rfl rfl (one_cells w4 p4 _ rfl) (one_one p4) (by decide) (by unfold maxLen; omega) (by omega) (by simp; omega) (w4.heap.size + 1) (by simp) ?_)
          intro g cap w5 hown' hgrow hg _
          have HK5 : Hid (KV w.heap.size w5 (acc ++ [t]) (.slice (some ⟨g, 0, none⟩) (acc.length + 1) cap)) := kv_push (unhide HKK) (NAts.cons (unhide HN4) NAts.nil) (by rw [List.map_append]; exact hown') (by simp [unhide HLEN]) hgrow hg
          have HA5 := hide (((unhide HA4).alloc hsz (.cells #[nPtr p4] 22)).grown hgrow (by simp; omega) (fun k hk => (unhide HOB k hk).2))
          have HR5 := hide ((unhide HR4).ap (((Below.refl w.heap.size w4).alloc hsz (.cells #[nPtr p4] 22)).grown hgrow (by simp; omega) (fun k hk => (unhide HOB k hk).2)) (unhide HLO))
          clear hown' hgrow hg HKK HOWN
          go_wp2_with fail
          go_roundw
          case rel => exact ⟨k, acc ++ [t], j2, unhide HQ, unhide HR5, unhide HA5, unhide HK5, by simp; omega, fun u hu => by
              rcases List.mem_append.1 hu with hu | hu
              · exact unhide HEX u hu
              · rw [List.mem_singleton] at hu
                subst hu
                exact unhide HFO _ _ _ _ (deepP_ok (unhide HRR))⟩
          case measure => rw [nxt_eq (unhide HR5), nxt_eq (unhide HRM)]; omega
theorem catch_idle (p q : Addr) (w : World) :
    CallsD Tryz.prog 110 #[.pointer (some p), .pointer (some q)] .returning w fun e u' w' => e = .returned (.tuple #[]) ∧ u' = .returning ∧ w' = w := by
  refine callsD_of_wpS Tryz.func110 rfl fun c₀ cs hu => ?_
  apply wpS_seq
  apply wpS_region
  simp [wpOpsS, go_sem, recoverD, hu, Tryz.ntmps110, Exit.thenS]
  apply wpS_seq
  apply wpS_seq
  apply wpS_region
  simp [wpOpsS, go_sem, Exit.thenS]
  refine wpS_cond (t := true) (by simp [Act.eval, Array.replicate]) ?_
  simp only [if_true]
  refine wpS_of_wp ?_
  refine wp_ret ?_
  cases c₀
  simp_all [bodyPostS, results, Tryz.results110, Exit.thenS]

theorem catch_fault (p q : Nat) (er : Int) (pl : Nat) (w : World) (a b : Value) (hp : w.cell? ⟨p, 0, none⟩ = some a) (hpf : ∀ o, w.frozen? ⟨p, o, none⟩ = false) (hq : w.cell? ⟨q, 0, none⟩ = some b) (hqf : ∀ o, w.frozen? ⟨q, o, none⟩ = false) (hqp : ¬ q = p) (hpl : p < w.heap.size) (hql : q < w.heap.size) :
    CallsD Tryz.prog 110 #[.pointer (some ⟨p, 0, none⟩), .pointer (some ⟨q, 0, none⟩)] (.panicking (faultV er pl)) w fun e u' w' =>
      e = .returned (.tuple #[]) ∧ u' = .panicking [{ v := .iface 127 (.agg #[.int .i64 er, .int .i64 (pl : Int)]), recovered := true }] ∧ w' = ((((w.setCell ⟨p, 0, none⟩ (.pointer none)).setCell ⟨q, 0, none⟩ (.iface 129 (.pointer (some ⟨w.heap.size + 1, 0, none⟩)))).alloc (.cells #[.int .i64 er, .int .i64 (pl : Int)] 127)).alloc (.cells #[.int .i64 er, .int .i64 (pl : Int)] 130)).drew := by
  refine callsD_of_wpS Tryz.func110 rfl fun c₀ cs hu => ?_
  unfold faultV at hu
  have ta : ∀ W : World, (Instr.typeAssert (.iface 127 (.agg #[.int .i64 er, .int .i64 (pl : Int)])) 20 127 true).run Tryz.prog W = .ok (.tuple #[.agg #[.int .i64 er, .int .i64 (pl : Int)], .bool true]) W := fun W => by kernel_rfl
  rw [Tryz.ntmps110]
  rw [show (#[.pointer (some ⟨p, 0, none⟩), .pointer (some ⟨q, 0, none⟩)] : Array Value) ++ Array.replicate (23 - (#[.pointer (some ⟨p, 0, none⟩), .pointer (some ⟨q, 0, none⟩)] : Array Value).size) undef = #[.pointer (some ⟨p, 0, none⟩), .pointer (some ⟨q, 0, none⟩), undef, undef, undef, undef, undef, undef, undef, undef, undef, undef, undef, undef, undef, undef, undef, undef, undef, undef, undef, undef, undef] from by kernel_rfl]
  apply wpS_seq
  apply wpS_region
  simp [wpOpsS, go_sem, recoverD, hu, Exit.thenS]
  apply wpS_seq
  apply wpS_seq
  apply wpS_region
  simp [wpOpsS, go_sem, Exit.thenS]
  refine wpS_cond (t := false) (by simp [Act.eval]) ?_
  simp only [Bool.false_eq_true, if_false]
  refine wpS_of_wp (wp_skip ?_)
  simp only [Exit.thenS]
  apply wpS_seq
  apply wpS_region
  simp [wpOpsS, go_sem, Exit.thenS, ta]
  apply wpS_seq
  refine wpS_of_wp ?_
  go_wp2_with fail
  simp only [Exit.thenS]
  refine wpS_of_wp ?_
  go_region
  simp [bodyPostS, results, Tryz.results110]

/-- What a reader of tokens hands back. -/
def RdPost (r : PR Tr) (w : World) (e : Ending) (w' : World) : Prop :=
  match r with
  | .ok t _ => ∃ p, e = .returned (.tuple #[nPtr p, .nilIface]) ∧ NAt (From w.heap.size) w' t p ∧ Below w.heap.size w w'
  | .bad er pl => ∃ b, e = .returned (.tuple #[.pointer none, .iface 129 (.pointer (some ⟨b, 0, none⟩))]) ∧ w'.heap[b]? = some (.cells #[.int .i64 er, .int .i64 (pl : Int)] 130 (0, 0)) ∧ w.heap.size ≤ b ∧ Below w.heap.size w w'
  | .out => True

abbrev RW (w : World) : World := (w.alloc (.cells #[.pointer none] 22)).alloc (.cells #[.nilIface] 29)

theorem read_ok (w : World) (l : List Tk) (tb cap : Nat) (t : Tr) (j : Nat)
    (HN : Calls Tryz.prog 111 #[.slice (some ⟨tb, 0, none⟩) l.length cap] (RW w) fun e w' => ∃ c : Ctx, e = .returned (rPtr c) ∧ c.l = l ∧ (RW w).heap.size ≤ c.R ∧ Rdr c w' 0 0 ∧ Below (RW w).heap.size (RW w) w')
    (HP : ∀ (c : Ctx) (W : World), c.l = l → Rdr c W 0 0 → Calls Tryz.prog 112 #[rPtr c] W (PPost c W 0 (NV W.heap.size) (.ok t j))) :
    Calls Tryz.prog 51 #[.slice (some ⟨tb, 0, none⟩) l.length cap] w (RdPost (.ok t j) w) := by
  have hmf := mf_run
  have HN := hide HN
  have HP := hide HP
  go_enter_defers Tryz.func51, Tryz.ntmps51
  go_wp2_with fail
  refine Calls.mono (unhide HN) ?_
  rintro e w2 ⟨c, rfl, hcl, hcR, hrd, hb2⟩
  have HC := hide ((unhide HP) c w2 hcl hrd)
  have HB2 := hide hb2
  have HCR := hide hcR
  clear hcl hcR hrd hb2
  go_wp2_with fail
  refine Calls.mono HC.out ?_
  intro e w3 hp
  obtain ⟨⟨v, rfl, p, rfl, hn⟩, hrd, ha⟩ := hp
  have hszR : (RW w).heap.size = w.heap.size + 2 := by simp
  have hsz2 := (unhide HB2).size
  have hR := unhide HCR
  have c0 : w3.heap[w.heap.size]? = some (.cells #[.pointer none] 22 (0, 0)) := by
    rw [ha.block _ (by omega) (by omega), (unhide HB2).block _ (by omega), Below.heap_alloc _ _ _ (by simp)]
    exact heap_new _ _
  have c1 : w3.heap[w.heap.size + 1]? = some (.cells #[.nilIface] 29 (0, 0)) := by
    rw [ha.block _ (by omega) (by omega), (unhide HB2).block _ (by omega)]
    have := heap_new (w.alloc (.cells #[.pointer none] 22)) (.cells #[.nilIface] 29)
    simpa using this
  have d0 : w3.cell? ⟨w.heap.size, 0, none⟩ = some (.pointer none) := by rw [cell_of c0]; rfl
  have d0f := frozen_of c0
  have d1 : w3.cell? ⟨w.heap.size + 1, 0, none⟩ = some .nilIface := by rw [cell_of c1]; rfl
  have d1f := frozen_of c1
  have HBW : Hid (Below w.heap.size w w3) := by
    have h1 : Below w.heap.size w (RW w) := ((Below.refl _ _).alloc (Nat.le_refl _) _).alloc (by simp) _
    have h2 : Below w.heap.size w w2 := h1.trans ((unhide HB2).mono (by omega))
    exact h2.trans ((ha.mono (B' := w.heap.size) (by omega)).below (by omega))
  have HNN := hide hn
  have H2 : Hid (w.heap.size + 2 ≤ w2.heap.size) := by show _ ≤ _; omega
  clear hn hrd ha c0 c1 HC HN HP hszR hsz2 hR
  go_wp2_with fail
  refine leaves_cons (f := 110) (args := #[.pointer (some ⟨w.heap.size, 0, none⟩), .pointer (some ⟨w.heap.size + 1, 0, none⟩)]) (by simp) (by simp [go_sem]) ?_
  refine (catch_idle ⟨w.heap.size, 0, none⟩ ⟨w.heap.size + 1, 0, none⟩ _).mono ?_
  rintro e u' w'' ⟨rfl, rfl, rfl⟩
  show Leaves _ _ _ _ [] .returning _
  refine ⟨.tuple #[nPtr p, .nilIface], by simp [results, Tryz.results51, go_sem, d0, d1], p, rfl, ?_, ?_⟩
  · refine NAt.mono (J := From w.heap.size) (fun b hb _ => ?_) _ _ (NAt.later (I := fun b => w2.heap.size ≤ b) (fun b hb _ => ?_) _ _ (unhide HNN))
    · have h2 := unhide H2
      have h3 : w2.heap.size ≤ b := hb
      show w.heap.size ≤ b
      omega
    · have h2 := unhide H2
      have h3 : w2.heap.size ≤ b := hb
      rw [Below.heap_setCell _ ⟨w.heap.size + 1, 0, none⟩ _ b (by show b ≠ w.heap.size + 1; omega), Below.heap_setCell _ ⟨w.heap.size, 0, none⟩ _ b (by show b ≠ w.heap.size; omega)]
  · exact ((unhide HBW).setCell (p := ⟨w.heap.size, 0, none⟩) (Nat.le_refl _) _).setCell (p := ⟨w.heap.size + 1, 0, none⟩) (Nat.le_succ _) _

theorem read_bad (w : World) (l : List Tk) (tb cap : Nat) (er : Int) (pl : Nat)
    (HN : Calls Tryz.prog 111 #[.slice (some ⟨tb, 0, none⟩) l.length cap] (RW w) fun e w' => ∃ c : Ctx, e = .returned (rPtr c) ∧ c.l = l ∧ (RW w).heap.size ≤ c.R ∧ Rdr c w' 0 0 ∧ Below (RW w).heap.size (RW w) w')
    (HP : ∀ (c : Ctx) (W : World), c.l = l → Rdr c W 0 0 → Calls Tryz.prog 112 #[rPtr c] W (PPost c W 0 (NV W.heap.size) (.bad er pl))) :
    Calls Tryz.prog 51 #[.slice (some ⟨tb, 0, none⟩) l.length cap] w (RdPost (.bad er pl) w) := by
  have hmf := mf_run
  have HN := hide HN
  have HP := hide HP
  go_enter_defers Tryz.func51, Tryz.ntmps51
  go_wp2_with fail
  refine Calls.mono (unhide HN) ?_
  rintro e w2 ⟨c, rfl, hcl, hcR, hrd, hb2⟩
  have HC := hide ((unhide HP) c w2 hcl hrd)
  have HB2 := hide hb2
  have HCR := hide hcR
  clear hcl hcR hrd hb2
  go_wp2_with fail
  refine Calls.mono HC.out ?_
  intro e w3 hp
  obtain ⟨rfl, ha⟩ := hp
  have hszR : (RW w).heap.size = w.heap.size + 2 := by simp
  have hsz2 := (unhide HB2).size
  have hR := unhide HCR
  have c0 : w3.heap[w.heap.size]? = some (.cells #[.pointer none] 22 (0, 0)) := by
    rw [ha.block _ (by omega) (by omega), (unhide HB2).block _ (by omega), Below.heap_alloc _ _ _ (by simp)]
    exact heap_new _ _
  have c1 : w3.heap[w.heap.size + 1]? = some (.cells #[.nilIface] 29 (0, 0)) := by
    rw [ha.block _ (by omega) (by omega), (unhide HB2).block _ (by omega)]
    have := heap_new (w.alloc (.cells #[.pointer none] 22)) (.cells #[.nilIface] 29)
    simpa using this
  have d0 : w3.cell? ⟨w.heap.size, 0, none⟩ = some (.pointer none) := by rw [cell_of c0]; rfl
  have d0f := frozen_of c0
  have d1 : w3.cell? ⟨w.heap.size + 1, 0, none⟩ = some .nilIface := by rw [cell_of c1]; rfl
  have d1f := frozen_of c1
  have HBW : Hid (Below w.heap.size w w3) := by
    have h1 : Below w.heap.size w (RW w) := ((Below.refl _ _).alloc (Nat.le_refl _) _).alloc (by simp) _
    have h2 : Below w.heap.size w w2 := h1.trans ((unhide HB2).mono (by omega))
    exact h2.trans ((ha.mono (B' := w.heap.size) (by omega)).below (by omega))
  have H2 : Hid (w.heap.size + 2 ≤ w2.heap.size) := by show _ ≤ _; omega
  have h3l : w.heap.size + 1 < w3.heap.size := lt_of_heap c1
  have C0 := hide c0
  have C1 := hide c1
  clear ha c0 c1 HC HN HP hszR hsz2 hR H2
  refine leaves_cons (f := 110) (args := #[.pointer (some ⟨w.heap.size, 0, none⟩), .pointer (some ⟨w.heap.size + 1, 0, none⟩)]) (by simp) (by simp [go_sem]) ?_
  refine (catch_fault w.heap.size (w.heap.size + 1) er pl w3 _ _ d0 d0f d1 d1f (by omega) (by omega) h3l).mono ?_
  rintro e u' w'' ⟨rfl, rfl, rfl⟩
  show Leaves _ _ _ _ [] .returning _
  have g0 : ((((w3.setCell ⟨w.heap.size, 0, none⟩ (.pointer none)).setCell ⟨w.heap.size + 1, 0, none⟩ (.iface 129 (.pointer (some ⟨w3.heap.size + 1, 0, none⟩)))).alloc (.cells #[.int .i64 er, .int .i64 (pl : Int)] 127)).alloc (.cells #[.int .i64 er, .int .i64 (pl : Int)] 130)).drew.heap[w.heap.size]? = some (.cells #[.pointer none] 22 (0, 0)) := by
    show ((((w3.setCell ⟨w.heap.size, 0, none⟩ (.pointer none)).setCell ⟨w.heap.size + 1, 0, none⟩ (.iface 129 (.pointer (some ⟨w3.heap.size + 1, 0, none⟩)))).alloc (.cells #[.int .i64 er, .int .i64 (pl : Int)] 127)).alloc (.cells #[.int .i64 er, .int .i64 (pl : Int)] 130)).heap[w.heap.size]? = _
    rw [Below.heap_alloc _ _ _ (by simp; omega), Below.heap_alloc _ _ _ (by simp; omega), Below.heap_setCell _ ⟨w.heap.size + 1, 0, none⟩ _ _ (by show w.heap.size ≠ w.heap.size + 1; omega), heap_set (unhide C0)]
    rfl
  have g1 : ((((w3.setCell ⟨w.heap.size, 0, none⟩ (.pointer none)).setCell ⟨w.heap.size + 1, 0, none⟩ (.iface 129 (.pointer (some ⟨w3.heap.size + 1, 0, none⟩)))).alloc (.cells #[.int .i64 er, .int .i64 (pl : Int)] 127)).alloc (.cells #[.int .i64 er, .int .i64 (pl : Int)] 130)).drew.heap[w.heap.size + 1]? = some (.cells #[.iface 129 (.pointer (some ⟨w3.heap.size + 1, 0, none⟩))] 29 (0, 0)) := by
    show ((((w3.setCell ⟨w.heap.size, 0, none⟩ (.pointer none)).setCell ⟨w.heap.size + 1, 0, none⟩ (.iface 129 (.pointer (some ⟨w3.heap.size + 1, 0, none⟩)))).alloc (.cells #[.int .i64 er, .int .i64 (pl : Int)] 127)).alloc (.cells #[.int .i64 er, .int .i64 (pl : Int)] 130)).heap[w.heap.size + 1]? = _
    have hs : (w3.setCell ⟨w.heap.size, 0, none⟩ (.pointer none)).heap[w.heap.size + 1]? = some (.cells #[.nilIface] 29 (0, 0)) := by
      rw [Below.heap_setCell _ ⟨w.heap.size, 0, none⟩ _ _ (by show w.heap.size + 1 ≠ w.heap.size; omega)]; exact unhide C1
    rw [Below.heap_alloc _ _ _ (by simp; omega), Below.heap_alloc _ _ _ (by simp; omega), heap_set hs]
    rfl
  have e0 : ((((w3.setCell ⟨w.heap.size, 0, none⟩ (.pointer none)).setCell ⟨w.heap.size + 1, 0, none⟩ (.iface 129 (.pointer (some ⟨w3.heap.size + 1, 0, none⟩)))).alloc (.cells #[.int .i64 er, .int .i64 (pl : Int)] 127)).alloc (.cells #[.int .i64 er, .int .i64 (pl : Int)] 130)).drew.cell? ⟨w.heap.size, 0, none⟩ = some (.pointer none) := by rw [cell_of g0]; rfl
  have e1 : ((((w3.setCell ⟨w.heap.size, 0, none⟩ (.pointer none)).setCell ⟨w.heap.size + 1, 0, none⟩ (.iface 129 (.pointer (some ⟨w3.heap.size + 1, 0, none⟩)))).alloc (.cells #[.int .i64 er, .int .i64 (pl : Int)] 127)).alloc (.cells #[.int .i64 er, .int .i64 (pl : Int)] 130)).drew.cell? ⟨w.heap.size + 1, 0, none⟩ = some (.iface 129 (.pointer (some ⟨w3.heap.size + 1, 0, none⟩))) := by rw [cell_of g1]; rfl
  obtain ⟨WZ, hWZ⟩ : ∃ WZ, WZ = ((((w3.setCell ⟨w.heap.size, 0, none⟩ (.pointer none)).setCell ⟨w.heap.size + 1, 0, none⟩ (.iface 129 (.pointer (some ⟨w3.heap.size + 1, 0, none⟩)))).alloc (.cells #[.int .i64 er, .int .i64 (pl : Int)] 127)).alloc (.cells #[.int .i64 er, .int .i64 (pl : Int)] 130)).drew := ⟨_, rfl⟩
  rw [← hWZ] at e0 e1
  rw [← hWZ]
  refine ⟨.tuple #[.pointer none, .iface 129 (.pointer (some ⟨w3.heap.size + 1, 0, none⟩))], by simp [results, Tryz.results51, go_sem, e0, e1], w3.heap.size + 1, rfl, ?_, by omega, ?_⟩
  all_goals rw [hWZ]
  · have := heap_new (((w3.setCell ⟨w.heap.size, 0, none⟩ (.pointer none)).setCell ⟨w.heap.size + 1, 0, none⟩ (.iface 129 (.pointer (some ⟨w3.heap.size + 1, 0, none⟩)))).alloc (.cells #[.int .i64 er, .int .i64 (pl : Int)] 127)) (.cells #[.int .i64 er, .int .i64 (pl : Int)] 130)
    rw [show ((((w3.setCell ⟨w.heap.size, 0, none⟩ (.pointer none)).setCell ⟨w.heap.size + 1, 0, none⟩ (.iface 129 (.pointer (some ⟨w3.heap.size + 1, 0, none⟩)))).alloc (.cells #[.int .i64 er, .int .i64 (pl : Int)] 127)).heap.size) = w3.heap.size + 1 by simp] at this
    exact this
  · have hs := (unhide HBW).size
    exact ((((((unhide HBW).setCell (p := ⟨w.heap.size, 0, none⟩) (Nat.le_refl _) _).setCell (p := ⟨w.heap.size + 1, 0, none⟩) (Nat.le_succ _) _).alloc (by simpa using hs) _).alloc (by simp; omega) _).drew)
end Go.Proofs.YtodmgaikhbmlnaaGreatDoor
