/-
  What is thrown is caught, in one place.
-/
import Derived.Test.YtodmgaikhbmlnaaGreatDoorTk9
import Derived.Recover
import Derived.Defers
import Derived.Test.YtodmgaikhbmlnaaGreatDoorTk8
set_option maxRecDepth 100000
set_option maxHeartbeats 16000000
namespace Go.Proofs.YtodmgaikhbmlnaaGreatDoor
open Go.RowKit
theorem catch_idle (p q : Addr) (w : World) :
    CallsD Tryz.prog 110 #[.pointer (some p), .pointer (some q)] .returning w fun e u' w' => e = .returned (.tuple #[]) ∧ u' = .returning ∧ w' = w := by
  refine callsD_of_wpS Tryz.func110 rfl fun c₀ cs hu => ?_
  apply wpS_seq
  apply wpS_region
  simp [wpOpsS, go_sem, recoverD, hu, Tryz.ntmps110, Exit.thenS]
  apply wpS_seq
  apply wpS_seq
  apply wpS_region
  simp [wpOpsS, go_sem, Exit.thenS]
  refine wpS_cond (t := true) (by simp [Act.eval, Array.replicate]) ?_
  simp only [if_true]
  refine wpS_of_wp ?_
  refine wp_ret ?_
  cases c₀
  simp_all [bodyPostS, results, Tryz.results110, Exit.thenS]

theorem catch_fault (p q : Nat) (er : Int) (pl : Nat) (w : World) (a b : Value) (hp : w.cell? ⟨p, 0, none⟩ = some a) (hpf : ∀ o, w.frozen? ⟨p, o, none⟩ = false) (hq : w.cell? ⟨q, 0, none⟩ = some b) (hqf : ∀ o, w.frozen? ⟨q, o, none⟩ = false) (hqp : ¬ q = p) (hpl : p < w.heap.size) (hql : q < w.heap.size) :
    CallsD Tryz.prog 110 #[.pointer (some ⟨p, 0, none⟩), .pointer (some ⟨q, 0, none⟩)] (.panicking (faultV er pl)) w fun e u' w' =>
      e = .returned (.tuple #[]) ∧ u' = .panicking [{ v := .iface 127 (.agg #[.int .i64 er, .int .i64 (pl : Int)]), recovered := true }] ∧ w' = ((((w.setCell ⟨p, 0, none⟩ (.pointer none)).setCell ⟨q, 0, none⟩ (.iface 129 (.pointer (some ⟨w.heap.size + 1, 0, none⟩)))).alloc (.cells #[.int .i64 er, .int .i64 (pl : Int)] 127)).alloc (.cells #[.int .i64 er, .int .i64 (pl : Int)] 130)).drew := by
  refine callsD_of_wpS Tryz.func110 rfl fun c₀ cs hu => ?_
  unfold faultV at hu
  have ta : ∀ W : World, (Instr.typeAssert (.iface 127 (.agg #[.int .i64 er, .int .i64 (pl : Int)])) 20 127 true).run Tryz.prog W = .ok (.tuple #[.agg #[.int .i64 er, .int .i64 (pl : Int)], .bool true]) W := fun W => by kernel_rfl
  rw [Tryz.ntmps110]
  rw [show (#[.pointer (some ⟨p, 0, none⟩), .pointer (some ⟨q, 0, none⟩)] : Array Value) ++ Array.replicate (23 - (#[.pointer (some ⟨p, 0, none⟩), .pointer (some ⟨q, 0, none⟩)] : Array Value).size) undef = #[.pointer (some ⟨p, 0, none⟩), .pointer (some ⟨q, 0, none⟩), undef, undef, undef, undef, undef, undef, undef, undef, undef, undef, undef, undef, undef, undef, undef, undef, undef, undef, undef, undef, undef] from by kernel_rfl]
  apply wpS_seq
  apply wpS_region
  simp [wpOpsS, go_sem, recoverD, hu, Exit.thenS]
  apply wpS_seq
  apply wpS_seq
  apply wpS_region
  simp [wpOpsS, go_sem, Exit.thenS]
  refine wpS_cond (t := false) (by simp [Act.eval]) ?_
  simp only [Bool.false_eq_true, if_false]
  refine wpS_of_wp (wp_skip ?_)
  simp only [Exit.thenS]
  apply wpS_seq
  apply wpS_region
  simp [wpOpsS, go_sem, Exit.thenS, ta]
  apply wpS_seq
  refine wpS_of_wp ?_
  go_wp2_with fail
  simp only [Exit.thenS]
  refine wpS_of_wp ?_
  go_region
  simp [bodyPostS, results, Tryz.results110]

/-- What a reader of tokens hands back. -/
def RdPost (r : PR Tr) (w : World) (e : Ending) (w' : World) : Prop :=
  match r with
  | .ok t _ => ∃ p, e = .returned (.tuple #[nPtr p, .nilIface]) ∧ NAt (From w.heap.size) w' t p ∧ Below w.heap.size w w'
  | .bad er pl => ∃ b, e = .returned (.tuple #[.pointer none, .iface 129 (.pointer (some ⟨b, 0, none⟩))]) ∧ w'.heap[b]? = some (.cells #[.int .i64 er, .int .i64 (pl : Int)] 130 (0, 0)) ∧ w.heap.size ≤ b ∧ Below w.heap.size w w'
  | .out => True

abbrev RW (w : World) : World := (w.alloc (.cells #[.pointer none] 22)).alloc (.cells #[.nilIface] 29)

theorem read_ok (w : World) (l : List Tk) (tb cap : Nat) (t : Tr) (j : Nat)
    (HN : Calls Tryz.prog 111 #[.slice (some ⟨tb, 0, none⟩) l.length cap] (RW w) fun e w' => ∃ c : Ctx, e = .returned (rPtr c) ∧ c.l = l ∧ (RW w).heap.size ≤ c.R ∧ Rdr c w' 0 0 ∧ Below (RW w).heap.size (RW w) w')
    (HP : ∀ (c : Ctx) (W : World), c.l = l → Rdr c W 0 0 → Calls Tryz.prog 112 #[rPtr c] W (PPost c W 0 (NV W.heap.size) (.ok t j))) :
    Calls Tryz.prog 51 #[.slice (some ⟨tb, 0, none⟩) l.length cap] w (RdPost (.ok t j) w) := by
  have hmf := mf_run
  have HN := hide HN
  have HP := hide HP
  go_enter_defers Tryz.func51, Tryz.ntmps51
  go_wp2_with fail
  refine Calls.mono (unhide HN) ?_
  rintro e w2 ⟨c, rfl, hcl, hcR, hrd, hb2⟩
  have HC := hide ((unhide HP) c w2 hcl hrd)
  have HB2 := hide hb2
  have HCR := hide hcR
  clear hcl hcR hrd hb2
  go_wp2_with fail
  refine Calls.mono HC.out ?_
  intro e w3 hp
  obtain ⟨⟨v, rfl, p, rfl, hn⟩, hrd, ha⟩ := hp
  have hszR : (RW w).heap.size = w.heap.size + 2 := by simp
  have hsz2 := (unhide HB2).size
  have hR := unhide HCR
  have c0 : w3.heap[w.heap.size]? = some (.cells #[.pointer none] 22 (0, 0)) := by
    rw [ha.block _ (by omega) (by omega), (unhide HB2).block _ (by omega), Below.heap_alloc _ _ _ (by simp)]
    exact heap_new _ _
  have c1 : w3.heap[w.heap.size + 1]? = some (.cells #[.nilIface] 29 (0, 0)) := by
    rw [ha.block _ (by omega) (by omega), (unhide HB2).block _ (by omega)]
    have := heap_new (w.alloc (.cells #[.pointer none] 22)) (.cells #[.nilIface] 29)
    simpa using this
  have d0 : w3.cell? ⟨w.heap.size, 0, none⟩ = some (.pointer none) := by rw [cell_of c0]; rfl
  have d0f := frozen_of c0
  have d1 : w3.cell? ⟨w.heap.size + 1, 0, none⟩ = some .nilIface := by rw [cell_of c1]; rfl
  have d1f := frozen_of c1
  have HBW : Hid (Below w.heap.size w w3) := by
    have h1 : Below w.heap.size w (RW w) := ((Below.refl _ _).alloc (Nat.le_refl _) _).alloc (by simp) _
    have h2 : Below w.heap.size w w2 := h1.trans ((unhide HB2).mono (by omega))
    exact h2.trans ((ha.mono (B' := w.heap.size) (by omega)).below (by omega))
  have HNN := hide hn
  have H2 : Hid (w.heap.size + 2 ≤ w2.heap.size) := by show _ ≤ _; omega
  clear hn hrd ha c0 c1 HC HN HP hszR hsz2 hR
  go_wp2_with fail
  refine leaves_cons (f := 110) (args := #[.pointer (some ⟨w.heap.size, 0, none⟩), .pointer (some ⟨w.heap.size + 1, 0, none⟩)]) (by simp) (by simp [go_sem]) ?_
  refine (catch_idle ⟨w.heap.size, 0, none⟩ ⟨w.heap.size + 1, 0, none⟩ _).mono ?_
  rintro e u' w'' ⟨rfl, rfl, rfl⟩
  show Leaves _ _ _ _ [] .returning _
  refine ⟨.tuple #[nPtr p, .nilIface], by simp [results, Tryz.results51, go_sem, d0, d1], p, rfl, ?_, ?_⟩
  · refine NAt.mono (J := From w.heap.size) (fun b hb _ => ?_) _ _ (NAt.later (I := fun b => w2.heap.size ≤ b) (fun b hb _ => ?_) _ _ (unhide HNN))
    · have h2 := unhide H2
      have h3 : w2.heap.size ≤ b := hb
      show w.heap.size ≤ b
      omega
    · have h2 := unhide H2
      have h3 : w2.heap.size ≤ b := hb
      rw [Below.heap_setCell _ ⟨w.heap.size + 1, 0, none⟩ _ b (by show b ≠ w.heap.size + 1; omega), Below.heap_setCell _ ⟨w.heap.size, 0, none⟩ _ b (by show b ≠ w.heap.size; omega)]
  · exact ((unhide HBW).setCell (p := ⟨w.heap.size, 0, none⟩) (Nat.le_refl _) _).setCell (p := ⟨w.heap.size + 1, 0, none⟩) (Nat.le_succ _) _

theorem read_bad (w : World) (l : List Tk) (tb cap : Nat) (er : Int) (pl : Nat)
    (HN : Calls Tryz.prog 111 #[.slice (some ⟨tb, 0, none⟩) l.length cap] (RW w) fun e w' => ∃ c : Ctx, e = .returned (rPtr c) ∧ c.l = l ∧ (RW w).heap.size ≤ c.R ∧ Rdr c w' 0 0 ∧ Below (RW w).heap.size (RW w) w')
    (HP : ∀ (c : Ctx) (W : World), c.l = l → Rdr c W 0 0 → Calls Tryz.prog 112 #[rPtr c] W (PPost c W 0 (NV W.heap.size) (.bad er pl))) :
    Calls Tryz.prog 51 #[.slice (some ⟨tb, 0, none⟩) l.length cap] w (RdPost (.bad er pl) w) := by
  have hmf := mf_run
  have HN := hide HN
  have HP := hide HP
  go_enter_defers Tryz.func51, Tryz.ntmps51
  go_wp2_with fail
  refine Calls.mono (unhide HN) ?_
  rintro e w2 ⟨c, rfl, hcl, hcR, hrd, hb2⟩
  have HC := hide ((unhide HP) c w2 hcl hrd)
  have HB2 := hide hb2
  have HCR := hide hcR
  clear hcl hcR hrd hb2
  go_wp2_with fail
  refine Calls.mono HC.out ?_
  intro e w3 hp
  obtain ⟨rfl, ha⟩ := hp
  have hszR : (RW w).heap.size = w.heap.size + 2 := by simp
  have hsz2 := (unhide HB2).size
  have hR := unhide HCR
  have c0 : w3.heap[w.heap.size]? = some (.cells #[.pointer none] 22 (0, 0)) := by
    rw [ha.block _ (by omega) (by omega), (unhide HB2).block _ (by omega), Below.heap_alloc _ _ _ (by simp)]
    exact heap_new _ _
  have c1 : w3.heap[w.heap.size + 1]? = some (.cells #[.nilIface] 29 (0, 0)) := by
    rw [ha.block _ (by omega) (by omega), (unhide HB2).block _ (by omega)]
    have := heap_new (w.alloc (.cells #[.pointer none] 22)) (.cells #[.nilIface] 29)
    simpa using this
  have d0 : w3.cell? ⟨w.heap.size, 0, none⟩ = some (.pointer none) := by rw [cell_of c0]; rfl
  have d0f := frozen_of c0
  have d1 : w3.cell? ⟨w.heap.size + 1, 0, none⟩ = some .nilIface := by rw [cell_of c1]; rfl
  have d1f := frozen_of c1
  have HBW : Hid (Below w.heap.size w w3) := by
    have h1 : Below w.heap.size w (RW w) := ((Below.refl _ _).alloc (Nat.le_refl _) _).alloc (by simp) _
    have h2 : Below w.heap.size w w2 := h1.trans ((unhide HB2).mono (by omega))
    exact h2.trans ((ha.mono (B' := w.heap.size) (by omega)).below (by omega))
  have H2 : Hid (w.heap.size + 2 ≤ w2.heap.size) := by show _ ≤ _; omega
  have h3l : w.heap.size + 1 < w3.heap.size := lt_of_heap c1
  have C0 := hide c0
  have C1 := hide c1
  clear ha c0 c1 HC HN HP hszR hsz2 hR H2
  refine leaves_cons (f := 110) (args := #[.pointer (some ⟨w.heap.size, 0, none⟩), .pointer (some ⟨w.heap.size + 1, 0, none⟩)]) (by simp) (by simp [go_sem]) ?_
  refine (catch_fault w.heap.size (w.heap.size + 1) er pl w3 _ _ d0 d0f d1 d1f (by omega) (by omega) h3l).mono ?_
  rintro e u' w'' ⟨rfl, rfl, rfl⟩
  show Leaves _ _ _ _ [] .returning _
  have g0 : ((((w3.setCell ⟨w.heap.size, 0, none⟩ (.pointer none)).setCell ⟨w.heap.size + 1, 0, none⟩ (.iface 129 (.pointer (some ⟨w3.heap.size + 1, 0, none⟩)))).alloc (.cells #[.int .i64 er, .int .i64 (pl : Int)] 127)).alloc (.cells #[.int .i64 er, .int .i64 (pl : Int)] 130)).drew.heap[w.heap.size]? = some (.cells #[.pointer none] 22 (0, 0)) := by
    show ((((w3.setCell ⟨w.heap.size, 0, none⟩ (.pointer none)).setCell ⟨w.heap.size + 1, 0, none⟩ (.iface 129 (.pointer (some ⟨w3.heap.size + 1, 0, none⟩)))).alloc (.cells #[.int .i64 er, .int .i64 (pl : Int)] 127)).alloc (.cells #[.int .i64 er, .int .i64 (pl : Int)] 130)).heap[w.heap.size]? = _
    rw [Below.heap_alloc _ _ _ (by simp; omega), Below.heap_alloc _ _ _ (by simp; omega), Below.heap_setCell _ ⟨w.heap.size + 1, 0, none⟩ _ _ (by show w.heap.size ≠ w.heap.size + 1; omega), heap_set (unhide C0)]
    rfl
  have g1 : ((((w3.setCell ⟨w.heap.size, 0, none⟩ (.pointer none)).setCell ⟨w.heap.size + 1, 0, none⟩ (.iface 129 (.pointer (some ⟨w3.heap.size + 1, 0, none⟩)))).alloc (.cells #[.int .i64 er, .int .i64 (pl : Int)] 127)).alloc (.cells #[.int .i64 er, .int .i64 (pl : Int)] 130)).drew.heap[w.heap.size + 1]? = some (.cells #[.iface 129 (.pointer (some ⟨w3.heap.size + 1, 0, none⟩))] 29 (0, 0)) := by
    show ((((w3.setCell ⟨w.heap.size, 0, none⟩ (.pointer none)).setCell ⟨w.heap.size + 1, 0, none⟩ (.iface 129 (.pointer (some ⟨w3.heap.size + 1, 0, none⟩)))).alloc (.cells #[.int .i64 er, .int .i64 (pl : Int)] 127)).alloc (.cells #[.int .i64 er, .int .i64 (pl : Int)] 130)).heap[w.heap.size + 1]? = _
    have hs : (w3.setCell ⟨w.heap.size, 0, none⟩ (.pointer none)).heap[w.heap.size + 1]? = some (.cells #[.nilIface] 29 (0, 0)) := by
      rw [Below.heap_setCell _ ⟨w.heap.size, 0, none⟩ _ _ (by show w.heap.size + 1 ≠ w.heap.size; omega)]; exact unhide C1
    rw [Below.heap_alloc _ _ _ (by simp; omega), Below.heap_alloc _ _ _ (by simp; omega), heap_set hs]
    rfl
  have e0 : ((((w3.setCell ⟨w.heap.size, 0, none⟩ (.pointer none)).setCell ⟨w.heap.size + 1, 0, none⟩ (.iface 129 (.pointer (some ⟨w3.heap.size + 1, 0, none⟩)))).alloc (.cells #[.int .i64 er, .int .i64 (pl : Int)] 127)).alloc (.cells #[.int .i64 er, .int .i64 (pl : Int)] 130)).drew.cell? ⟨w.heap.size, 0, none⟩ = some (.pointer none) := by rw [cell_of g0]; rfl
  have e1 : ((((w3.setCell ⟨w.heap.size, 0, none⟩ (.pointer none)).setCell ⟨w.heap.size + 1, 0, none⟩ (.iface 129 (.pointer (some ⟨w3.heap.size + 1, 0, none⟩)))).alloc (.cells #[.int .i64 er, .int .i64 (pl : Int)] 127)).alloc (.cells #[.int .i64 er, .int .i64 (pl : Int)] 130)).drew.cell? ⟨w.heap.size + 1, 0, none⟩ = some (.iface 129 (.pointer (some ⟨w3.heap.size + 1, 0, none⟩))) := by rw [cell_of g1]; rfl
  obtain ⟨WZ, hWZ⟩ : ∃ WZ, WZ = ((((w3.setCell ⟨w.heap.size, 0, none⟩ (.pointer none)).setCell ⟨w.heap.size + 1, 0, none⟩ (.iface 129 (.pointer (some ⟨w3.heap.size + 1, 0, none⟩)))).alloc (.cells #[.int .i64 er, .int .i64 (pl : Int)] 127)).alloc (.cells #[.int .i64 er, .int .i64 (pl : Int)] 130)).drew := ⟨_, rfl⟩
  rw [← hWZ] at e0 e1
  rw [← hWZ]
  refine ⟨.tuple #[.pointer none, .iface 129 (.pointer (some ⟨w3.heap.size + 1, 0, none⟩))], by simp [results, Tryz.results51, go_sem, e0, e1], w3.heap.size + 1, rfl, ?_, by omega, ?_⟩
  all_goals rw [hWZ]
  · have := heap_new (((w3.setCell ⟨w.heap.size, 0, none⟩ (.pointer none)).setCell ⟨w.heap.size + 1, 0, none⟩ (.iface 129 (.pointer (some ⟨w3.heap.size + 1, 0, none⟩)))).alloc (.cells #[.int .i64 er, .int .i64 (pl : Int)] 127)) (.cells #[.int .i64 er, .int .i64 (pl : Int)] 130)
    rw [show ((((w3.setCell ⟨w.heap.size, 0, none⟩ (.pointer none)).setCell ⟨w.heap.size + 1, 0, none⟩ (.iface 129 (.pointer (some ⟨w3.heap.size + 1, 0, none⟩)))).alloc (.cells #[.int .i64 er, .int .i64 (pl : Int)] 127)).heap.size) = w3.heap.size + 1 by simp] at this
    exact this
  · have hs := (unhide HBW).size
    exact ((((((unhide HBW).setCell (p := ⟨w.heap.size, 0, none⟩) (Nat.le_refl _) _).setCell (p := ⟨w.heap.size + 1, 0, none⟩) (Nat.le_succ _) _).alloc (by simpa using hs) _).alloc (by simp; omega) _).drew)

theorem params_at {c : Ctx} {F : Fns} (w : World) (d i : Nat) (ho : paramsP c.l F i ≠ .out) (h : Rdr c w i d) : Calls Tryz.prog 224 #[rPtr c] w (PPost c w d (NV w.heap.size) (paramsP c.l F i)) :=
  params_any (F := F) w d i _ rfl ho h

theorem func_any {c : Ctx} {F : Fns} (hF : FC c F) (hN : ∃ k, FNx c.l k F) (hK : FOk F) : Does c 158 NV (funcP c.l F) := by
  intro w d i r hs ho h
  have HR0 := hide h
  have HA0 := hide (Ap.refl c.R w.heap.size w)
  have HLT := hide h.rlt
  unfold funcP funcTail at hs
  have HS := hide hs
  have HO := hide ho
  clear h hs ho
  go_enter Tryz.func158, Tryz.ntmps158
  cases hr : mustP c.l tFunction i with
  | out =>
    rw [hr] at HS
    simp only [bind_out] at HS
    exact absurd (unhide HS).symm (unhide HO)
  | bad er p =>
    have HC := hide (must_any c tFunction w i d (unhide HR0) (by decide))
    rw [hr] at HC HS
    simp only [bind_bad] at HS
    clear hr
    go_wp2_with fail
    refine Calls.mono HC.out ?_
    intro e w' hp
    obtain ⟨rfl, ha⟩ := hp
    exact ⟨rfl, ppBad (unhide HS).symm ((unhide HA0).next ha)⟩
  | ok x1 j1 =>
    have HC := hide (must_any c tFunction w i d (unhide HR0) (by decide))
    rw [hr] at HC HS
    simp only [bind_ok] at HS
    clear hr
    go_wp2_with fail
    refine Calls.mono HC.out ?_
    intro e w1 hp
    obtain ⟨⟨v1, rfl, rfl⟩, hrd, ha⟩ := hp
    clear HC
    have HA1 := hide ((unhide HA0).next ha)
    have HR1 := hide hrd
    clear hrd ha HA0 HR0
    cases hr : nameP c.l j1 with
    | out =>
      rw [hr] at HS
      simp only [bind_out] at HS
      exact absurd (unhide HS).symm (unhide HO)
    | bad er p =>
      have HC := hide (name_any c w1 j1 d (unhide HR1))
      rw [hr] at HC HS
      simp only [bind_bad] at HS
      clear hr
      go_wp2_with fail
      refine Calls.mono HC.out ?_
      intro e w' hp
      obtain ⟨rfl, ha⟩ := hp
      exact ⟨rfl, ppBad (unhide HS).symm ((unhide HA1).next ha)⟩
    | ok x2 j2 =>
      have HC := hide (name_any c w1 j1 d (unhide HR1))
      rw [hr] at HC HS
      simp only [bind_ok] at HS
      clear hr
      go_wp2_with fail
      refine Calls.mono HC.out ?_
      intro e w2 hp
      obtain ⟨⟨v2, rfl, rfl⟩, hrd, ha⟩ := hp
      clear HC
      have HA2 := hide ((unhide HA1).next ha)
      have HR2 := hide hrd
      clear hrd ha HA1 HR1
      cases hr : paramsP c.l F j2 with
      | out =>
        rw [hr] at HS
        simp only [bind_out] at HS
        exact absurd (unhide HS).symm (unhide HO)
      | bad er p =>
        have HC := hide (params_at (F := F) w2 d j2 (by rw [hr]; nofun) (unhide HR2))
        rw [hr] at HC HS
        simp only [bind_bad] at HS
        clear hr
        go_wp2_with fail
        refine Calls.mono HC.out ?_
        intro e w' hp
        obtain ⟨rfl, ha⟩ := hp
        exact ⟨rfl, ppBad (unhide HS).symm ((unhide HA2).next ha)⟩
      | ok x3 j3 =>
        have HC := hide (params_at (F := F) w2 d j2 (by rw [hr]; nofun) (unhide HR2))
        rw [hr] at HC HS
        simp only [bind_ok] at HS
        clear hr
        go_wp2_with fail
        refine Calls.mono HC.out ?_
        intro e w3 hp
        obtain ⟨⟨v3, rfl, p3, rfl, hn3⟩, hrd, ha⟩ := hp
        clear HC
        have HA3 := hide ((unhide HA2).next ha)
        have HR3 := hide hrd
        have HN3 := hide (nat_mono hn3 (unhide HA2).size)
        clear hn3
        clear hrd ha HA2 HR2
        have HNP := hide (NAt.mono (J := fun b => w.heap.size ≤ b ∧ b < w3.heap.size) (fun b hb hl => ⟨hb, hl⟩) _ _ (unhide HN3))
        cases hr : blockP c.l F d j3 with
        | out =>
          rw [hr] at HS
          simp only [bind_out] at HS
          exact absurd (unhide HS).symm (unhide HO)
        | bad er p =>
          have HC := hide (block_any hF hN w3 d j3 _ rfl (by rw [hr]; nofun) (unhide HR3))
          rw [hr] at HC HS
          simp only [bind_bad] at HS
          clear hr
          go_wp2_with fail
          refine Calls.mono HC.out ?_
          intro e w' hp
          obtain ⟨rfl, ha⟩ := hp
          exact ⟨rfl, ppBad (unhide HS).symm ((unhide HA3).next ha)⟩
        | ok tb jb =>
          have HX := hide (blockP_exprOk hK hr)
          have HC := hide (block_any hF hN w3 d j3 _ rfl (by rw [hr]; nofun) (unhide HR3))
          rw [hr] at HC HS
          simp only [bind_ok] at HS
          clear hr
          go_wp2_with fail
          refine Calls.mono HC.out ?_
          intro e wb hp
          obtain ⟨⟨vb, rfl, hn⟩, hrd, ha⟩ := hp
          clear HC
          have HAb := hide ((unhide HA3).next ha)
          have HRb := hide hrd
          have HLb := hide (unhide HLT)
          replace HNP := hide (NAt.later (fun b hb _ => ha.block b hb.2 (by have h1 := unhide HLT; have h2 := hb.1; omega)) _ _ (unhide HNP))
          have HC := hide (code_any w3.heap.size tb vb wb hn (unhide HX))
          clear hn hrd ha
          go_wp2_with fail
          refine Calls.mono HC.out ?_
          rintro e wc ⟨rfl, hev, hbw⟩
          clear HC
          have HAc := hide ((unhide HAb).trans ((Ap.of hbw).mono (unhide HA3).size))
          have HRc := hide ((unhide HRb).ap hbw (unhide HR3).base.size)
          replace HNP := hide (NAt.mono (J := From w.heap.size) (fun b hb _ => hb.1) _ _ (NAt.later (fun b hb _ => hbw.block b hb.2) _ _ (unhide HNP)))
          obtain ⟨pb, rfl, hnb⟩ := hev.nv
          have HNB := hide (nat_mono hnb (unhide HA3).size)
          clear hev hbw hnb
          have HC := hide (node_any 5 x2 (.slice (some ⟨wc.heap.size, 0, none⟩) 2 2) (wc.alloc (.cells #[nPtr p3, nPtr pb] 22)) ⟨_, _, _, rfl⟩)
          go_wp2_with fail
          refine Calls.mono HC.out ?_
          rintro e wn ⟨rfl, rfl⟩
          clear HC
          go_wp2_with fail
          go_ret
          obtain ⟨m1, m2, m3⟩ := made (unhide HRc) (unhide HAc) (NAts.cons (unhide HNP) (NAts.cons (unhide HNB) NAts.nil)) (by simp [maxLen]) #[nPtr p3, nPtr pb] rfl 2 rfl 5 x2 (wc.heap.size + 1) rfl
          exact ppOk (unhide HS).symm m1.nv m2 m3

theorem lambda_any {c : Ctx} {F : Fns} (hF : FC c F) (hN : ∃ k, FNx c.l k F) (hK : FOk F) : Does c 167 NV (lambdaP c.l F) := by
  intro w d i r hs ho h
  have HR0 := hide h
  have HA0 := hide (Ap.refl c.R w.heap.size w)
  have HLT := hide h.rlt
  unfold lambdaP funcTail at hs
  have HS := hide hs
  have HO := hide ho
  clear h hs ho
  go_enter Tryz.func167, Tryz.ntmps167
  cases hr : mustP c.l tFunction i with
  | out =>
    rw [hr] at HS
    simp only [bind_out] at HS
    exact absurd (unhide HS).symm (unhide HO)
  | bad er p =>
    have HC := hide (must_any c tFunction w i d (unhide HR0) (by decide))
    rw [hr] at HC HS
    simp only [bind_bad] at HS
    clear hr
    go_wp2_with fail
    refine Calls.mono HC.out ?_
    intro e w' hp
    obtain ⟨rfl, ha⟩ := hp
    exact ⟨rfl, ppBad (unhide HS).symm ((unhide HA0).next ha)⟩
  | ok x1 j1 =>
    have HC := hide (must_any c tFunction w i d (unhide HR0) (by decide))
    rw [hr] at HC HS
    simp only [bind_ok] at HS
    clear hr
    go_wp2_with fail
    refine Calls.mono HC.out ?_
    intro e w1 hp
    obtain ⟨⟨v1, rfl, rfl⟩, hrd, ha⟩ := hp
    clear HC
    have HA1 := hide ((unhide HA0).next ha)
    have HR1 := hide hrd
    clear hrd ha HA0 HR0
    have HC := hide (atName_any c w1 j1 d (unhide HR1))
    cases hb : isName c.l j1 with
    | true =>
      rw [hb] at HC HS
      rw [if_pos rfl] at HS
      clear hb
      go_wp2_with fail
      refine Calls.mono HC.out ?_
      rintro e wq ⟨rfl, hbq⟩
      clear HC
      have HAq := hide ((unhide HA1).next (Ap.of hbq))
      have HRq := hide ((unhide HR1).later hbq)
      clear hbq HA1 HR1
      cases hr : nameP c.l j1 with
      | out =>
        rw [hr] at HS
        simp only [bind_out] at HS
        exact absurd (unhide HS).symm (unhide HO)
      | bad er p =>
        have HC := hide (name_any c wq j1 d (unhide HRq))
        rw [hr] at HC HS
        simp only [bind_bad] at HS
        clear hr
        go_wp2_with fail
        refine Calls.mono HC.out ?_
        intro e w' hp
        obtain ⟨rfl, ha⟩ := hp
        exact ⟨rfl, ppBad (unhide HS).symm ((unhide HAq).next ha)⟩
      | ok x2 j2 =>
        have HC := hide (name_any c wq j1 d (unhide HRq))
        rw [hr] at HC HS
        simp only [bind_ok] at HS
        clear hr
        go_wp2_with fail
        refine Calls.mono HC.out ?_
        intro e w2 hp
        obtain ⟨⟨v2, rfl, rfl⟩, hrd, ha⟩ := hp
        clear HC
        have HA2 := hide ((unhide HAq).next ha)
        have HR2 := hide hrd
        clear hrd ha HAq HRq
        cases hr : paramsP c.l F j2 with
        | out =>
          rw [hr] at HS
          simp only [bind_out] at HS
          exact absurd (unhide HS).symm (unhide HO)
        | bad er p =>
          have HC := hide (params_at (F := F) w2 d j2 (by rw [hr]; nofun) (unhide HR2))
          rw [hr] at HC HS
          simp only [bind_bad] at HS
          clear hr
          go_wp2_with fail
          refine Calls.mono HC.out ?_
          intro e w' hp
          obtain ⟨rfl, ha⟩ := hp
          exact ⟨rfl, ppBad (unhide HS).symm ((unhide HA2).next ha)⟩
        | ok x3 j3 =>
          have HC := hide (params_at (F := F) w2 d j2 (by rw [hr]; nofun) (unhide HR2))
          rw [hr] at HC HS
          simp only [bind_ok] at HS
          clear hr
          go_wp2_with fail
          refine Calls.mono HC.out ?_
          intro e w3 hp
          obtain ⟨⟨v3, rfl, p3, rfl, hn3⟩, hrd, ha⟩ := hp
          clear HC
          have HA3 := hide ((unhide HA2).next ha)
          have HR3 := hide hrd
          have HN3 := hide (nat_mono hn3 (unhide HA2).size)
          clear hn3
          clear hrd ha HA2 HR2
          have HNP := hide (NAt.mono (J := fun b => w.heap.size ≤ b ∧ b < w3.heap.size) (fun b hb hl => ⟨hb, hl⟩) _ _ (unhide HN3))
          cases hr : blockP c.l F d j3 with
          | out =>
            rw [hr] at HS
            simp only [bind_out] at HS
            exact absurd (unhide HS).symm (unhide HO)
          | bad er p =>
            have HC := hide (block_any hF hN w3 d j3 _ rfl (by rw [hr]; nofun) (unhide HR3))
            rw [hr] at HC HS
            simp only [bind_bad] at HS
            clear hr
            go_wp2_with fail
            refine Calls.mono HC.out ?_
            intro e w' hp
            obtain ⟨rfl, ha⟩ := hp
            exact ⟨rfl, ppBad (unhide HS).symm ((unhide HA3).next ha)⟩
          | ok tb jb =>
            have HX := hide (blockP_exprOk hK hr)
            have HC := hide (block_any hF hN w3 d j3 _ rfl (by rw [hr]; nofun) (unhide HR3))
            rw [hr] at HC HS
            simp only [bind_ok] at HS
            clear hr
            go_wp2_with fail
            refine Calls.mono HC.out ?_
            intro e wb hp
            obtain ⟨⟨vb, rfl, hn⟩, hrd, ha⟩ := hp
            clear HC
            have HAb := hide ((unhide HA3).next ha)
            have HRb := hide hrd
            have HLb := hide (unhide HLT)
            replace HNP := hide (NAt.later (fun b hb _ => ha.block b hb.2 (by have h1 := unhide HLT; have h2 := hb.1; omega)) _ _ (unhide HNP))
            have HC := hide (code_any w3.heap.size tb vb wb hn (unhide HX))
            clear hn hrd ha
            go_wp2_with fail
            refine Calls.mono HC.out ?_
            rintro e wc ⟨rfl, hev, hbw⟩
            clear HC
            have HAc := hide ((unhide HAb).trans ((Ap.of hbw).mono (unhide HA3).size))
            have HRc := hide ((unhide HRb).ap hbw (unhide HR3).base.size)
            replace HNP := hide (NAt.mono (J := From w.heap.size) (fun b hb _ => hb.1) _ _ (NAt.later (fun b hb _ => hbw.block b hb.2) _ _ (unhide HNP)))
            obtain ⟨pb, rfl, hnb⟩ := hev.nv
            have HNB := hide (nat_mono hnb (unhide HA3).size)
            clear hev hbw hnb
            have HC := hide (node_any 37 x2 (.slice (some ⟨wc.heap.size, 0, none⟩) 2 2) (wc.alloc (.cells #[nPtr p3, nPtr pb] 22)) ⟨_, _, _, rfl⟩)
            go_wp2_with fail
            refine Calls.mono HC.out ?_
            rintro e wn ⟨rfl, rfl⟩
            clear HC
            go_wp2_with fail
            go_ret
            obtain ⟨m1, m2, m3⟩ := made (unhide HRc) (unhide HAc) (NAts.cons (unhide HNP) (NAts.cons (unhide HNB) NAts.nil)) (by simp [maxLen]) #[nPtr p3, nPtr pb] rfl 2 rfl 37 x2 (wc.heap.size + 1) rfl
            exact ppOk (unhide HS).symm m1.nv m2 m3
    | false =>
      rw [hb] at HC HS
      rw [if_neg (by decide)] at HS
      clear hb
      go_wp2_with fail
      refine Calls.mono HC.out ?_
      rintro e wq ⟨rfl, hbq⟩
      clear HC
      have HAq := hide ((unhide HA1).next (Ap.of hbq))
      have HRq := hide ((unhide HR1).later hbq)
      clear hbq HA1 HR1
      cases hr : paramsP c.l F j1 with
      | out =>
        rw [hr] at HS
        simp only [bind_out] at HS
        exact absurd (unhide HS).symm (unhide HO)
      | bad er p =>
        have HC := hide (params_at (F := F) wq d j1 (by rw [hr]; nofun) (unhide HRq))
        rw [hr] at HC HS
        simp only [bind_bad] at HS
        clear hr
        go_wp2_with fail
        refine Calls.mono HC.out ?_
        intro e w' hp
        obtain ⟨rfl, ha⟩ := hp
        exact ⟨rfl, ppBad (unhide HS).symm ((unhide HAq).next ha)⟩
      | ok x2 j2 =>
        have HC := hide (params_at (F := F) wq d j1 (by rw [hr]; nofun) (unhide HRq))
        rw [hr] at HC HS
        simp only [bind_ok] at HS
        clear hr
        go_wp2_with fail
        refine Calls.mono HC.out ?_
        intro e w2 hp
        obtain ⟨⟨v2, rfl, p2, rfl, hn2⟩, hrd, ha⟩ := hp
        clear HC
        have HA2 := hide ((unhide HAq).next ha)
        have HR2 := hide hrd
        have HN2 := hide (nat_mono hn2 (unhide HAq).size)
        clear hn2
        clear hrd ha HAq HRq
        have HNP := hide (NAt.mono (J := fun b => w.heap.size ≤ b ∧ b < w2.heap.size) (fun b hb hl => ⟨hb, hl⟩) _ _ (unhide HN2))
        cases hr : blockP c.l F d j2 with
        | out =>
          rw [hr] at HS
          simp only [bind_out] at HS
          exact absurd (unhide HS).symm (unhide HO)
        | bad er p =>
          have HC := hide (block_any hF hN w2 d j2 _ rfl (by rw [hr]; nofun) (unhide HR2))
          rw [hr] at HC HS
          simp only [bind_bad] at HS
          clear hr
          go_wp2_with fail
          refine Calls.mono HC.out ?_
          intro e w' hp
          obtain ⟨rfl, ha⟩ := hp
          exact ⟨rfl, ppBad (unhide HS).symm ((unhide HA2).next ha)⟩
        | ok tb jb =>
          have HX := hide (blockP_exprOk hK hr)
          have HC := hide (block_any hF hN w2 d j2 _ rfl (by rw [hr]; nofun) (unhide HR2))
          rw [hr] at HC HS
          simp only [bind_ok] at HS
          clear hr
          go_wp2_with fail
          refine Calls.mono HC.out ?_
          intro e wb hp
          obtain ⟨⟨vb, rfl, hn⟩, hrd, ha⟩ := hp
          clear HC
          have HAb := hide ((unhide HA2).next ha)
          have HRb := hide hrd
          have HLb := hide (unhide HLT)
          replace HNP := hide (NAt.later (fun b hb _ => ha.block b hb.2 (by have h1 := unhide HLT; have h2 := hb.1; omega)) _ _ (unhide HNP))
          have HC := hide (code_any w2.heap.size tb vb wb hn (unhide HX))
          clear hn hrd ha
          go_wp2_with fail
          refine Calls.mono HC.out ?_
          rintro e wc ⟨rfl, hev, hbw⟩
          clear HC
          have HAc := hide ((unhide HAb).trans ((Ap.of hbw).mono (unhide HA2).size))
          have HRc := hide ((unhide HRb).ap hbw (unhide HR2).base.size)
          replace HNP := hide (NAt.mono (J := From w.heap.size) (fun b hb _ => hb.1) _ _ (NAt.later (fun b hb _ => hbw.block b hb.2) _ _ (unhide HNP)))
          obtain ⟨pb, rfl, hnb⟩ := hev.nv
          have HNB := hide (nat_mono hnb (unhide HA2).size)
          clear hev hbw hnb
          have HC := hide (node_any 37 noText (.slice (some ⟨wc.heap.size, 0, none⟩) 2 2) (wc.alloc (.cells #[nPtr p2, nPtr pb] 22)) ⟨_, _, _, rfl⟩)
          go_wp2_with fail
          refine Calls.mono HC.out ?_
          rintro e wn ⟨rfl, rfl⟩
          clear HC
          go_wp2_with fail
          go_ret
          obtain ⟨m1, m2, m3⟩ := made (unhide HRc) (unhide HAc) (NAts.cons (unhide HNP) (NAts.cons (unhide HNB) NAts.nil)) (by simp [maxLen]) #[nPtr p2, nPtr pb] rfl 2 rfl 37 noText (wc.heap.size + 1) rfl
          exact ppOk (unhide HS).symm m1.nv m2 m3

end Go.Proofs.YtodmgaikhbmlnaaGreatDoor
