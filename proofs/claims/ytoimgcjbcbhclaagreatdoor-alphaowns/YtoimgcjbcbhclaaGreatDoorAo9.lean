/-
  What is thrown is caught, in one place.
-/
import Derived.Test.YtoimgcjbcbhclaaGreatDoorAo1
import Derived.Test.YtoimgcjbcbhclaaGreatDoorAo0
import Derived.Test.YtoimgcjbcbhclaaGreatDoorAo8
import Derived.Recover
import Derived.Defers
import Derived.Test.YtoimgcjbcbhclaaGreatDoorAo7
set_option maxRecDepth 100000
set_option maxHeartbeats 16000000
namespace Go.Proofs.YtoimgcjbcbhclaaGreatDoor
open Go.RowKit
theorem catch_idle (p q : Addr) (w : World) :
  CallsD Tryz.prog 101 #[.pointer (some p), .pointer (some q)] .returning w fun e u' w' => e = .returned (.tuple #[]) ∧ u' = .returning ∧ w' = w := by
 refine callsD_of_wpS Tryz.func101 rfl fun c₀ cs hu => ?_
 apply wpS_seq
 apply wpS_region
 simp [wpOpsS, go_sem, recoverD, hu, Tryz.ntmps101, Exit.thenS]
 apply wpS_seq
 apply wpS_seq
 apply wpS_region
 simp [wpOpsS, go_sem, Exit.thenS]
 refine wpS_cond (t := true) (by simp [Act.eval, Array.replicate]) ?_
 simp only [if_true]
 refine wpS_of_wp ?_
 refine wp_ret ?_
 cases c₀
 simp_all [bodyPostS, results, Tryz.results101, Exit.thenS]
theorem catch_fault (p q : Nat) (er : Int) (pl : Nat) (w : World) (a b : Value) (hp : w.cell? ⟨p, 0, none⟩ = some a) (hpf : ∀ o, w.frozen? ⟨p, o, none⟩ = false) (hq : w.cell? ⟨q, 0, none⟩ = some b) (hqf : ∀ o, w.frozen? ⟨q, o, none⟩ = false) (hqp : ¬ q = p) (hpl : p < w.heap.size) (hql : q < w.heap.size) :
  CallsD Tryz.prog 101 #[.pointer (some ⟨p, 0, none⟩), .pointer (some ⟨q, 0, none⟩)] (.panicking (faultV er pl)) w fun e u' w' =>
   e = .returned (.tuple #[]) ∧ u' = .panicking [{ v := .iface 142 (.agg #[.int .i64 er, .int .i64 (pl : Int)]), recovered := true }] ∧ w' = ((((w.setCell ⟨p, 0, none⟩ (.pointer none)).setCell ⟨q, 0, none⟩ (.iface 144 (.pointer (some ⟨w.heap.size + 1, 0, none⟩)))).alloc (.cells #[.int .i64 er, .int .i64 (pl : Int)] 142)).alloc (.cells #[.int .i64 er, .int .i64 (pl : Int)] 145)).drew := by
 refine callsD_of_wpS Tryz.func101 rfl fun c₀ cs hu => ?_
 unfold faultV at hu
 have ta : ∀ W : World, (Instr.typeAssert (.iface 142 (.agg #[.int .i64 er, .int .i64 (pl : Int)])) 20 142 true).run Tryz.prog W = .ok (.tuple #[.agg #[.int .i64 er, .int .i64 (pl : Int)], .bool true]) W := fun W => by kernel_rfl
 rw [Tryz.ntmps101]
 rw [show (#[.pointer (some ⟨p, 0, none⟩), .pointer (some ⟨q, 0, none⟩)] : Array Value) ++ Array.replicate (23 - (#[.pointer (some ⟨p, 0, none⟩), .pointer (some ⟨q, 0, none⟩)] : Array Value).size) undef = #[.pointer (some ⟨p, 0, none⟩), .pointer (some ⟨q, 0, none⟩), undef, undef, undef, undef, undef, undef, undef, undef, undef, undef, undef, undef, undef, undef, undef, undef, undef, undef, undef, undef, undef] from by kernel_rfl]
 apply wpS_seq
 apply wpS_region
 simp [wpOpsS, go_sem, recoverD, hu, Exit.thenS]
 apply wpS_seq
 apply wpS_seq
 apply wpS_region
 simp [wpOpsS, go_sem, Exit.thenS]
 refine wpS_cond (t := false) (by simp [Act.eval]) ?_
 simp only [Bool.false_eq_true, if_false]
 refine wpS_of_wp (wp_skip ?_)
 simp only [Exit.thenS]
 apply wpS_seq
 apply wpS_region
 simp [wpOpsS, go_sem, Exit.thenS, ta]
 apply wpS_seq
 refine wpS_of_wp ?_
 go_wp2_with fail
 simp only [Exit.thenS]
 refine wpS_of_wp ?_
 go_region
 simp [bodyPostS, results, Tryz.results101]
def RdPost (r : PR Tr) (w : World) (e : Ending) (w' : World) : Prop :=
 match r with
 | .ok t _ => ∃ p, e = .returned (.tuple #[nPtr p, .nilIface]) ∧ NAt (From w.heap.size) w' t p ∧ Below w.heap.size w w'
 | .bad er pl => ∃ b, e = .returned (.tuple #[.pointer none, .iface 144 (.pointer (some ⟨b, 0, none⟩))]) ∧ w'.heap[b]? = some (.cells #[.int .i64 er, .int .i64 (pl : Int)] 145 (0, 0)) ∧ w.heap.size ≤ b ∧ Below w.heap.size w w'
 | .out => True
abbrev RW (w : World) : World := (w.alloc (.cells #[.pointer none] 22)).alloc (.cells #[.nilIface] 28)
section
variable (w : World) (l : List Tk) (tb cap : Nat)
include w l tb cap
theorem read_ok (t : Tr) (j : Nat) (HN : Calls Tryz.prog 102 #[.slice (some ⟨tb, 0, none⟩) l.length cap] (RW w) fun e w' => ∃ c : Ctx, e = .returned (rPtr c) ∧ c.l = l ∧ (RW w).heap.size ≤ c.R ∧ Rdr c w' 0 0 ∧ Below (RW w).heap.size (RW w) w') (HP : ∀ (c : Ctx) (W : World), c.l = l → Rdr c W 0 0 → Calls Tryz.prog 103 #[rPtr c] W (PPost c W 0 (NV W.heap.size) (.ok t j))) :
  Calls Tryz.prog 43 #[.slice (some ⟨tb, 0, none⟩) l.length cap] w (RdPost (.ok t j) w) := by
 have hmf := mf_run
 have HN := hide HN
 have HP := hide HP
 go_enter_defers Tryz.func43, Tryz.ntmps43
 go_wp2_with fail
 refine cm HN.out ?_
 rintro e w2 ⟨c, rfl, hcl, hcR, hrd, hb2⟩
 have HC := hide (HP.out c w2 hcl hrd)
 have HB2 := hide hb2
 have HCR := hide hcR
 clear hcl hcR hrd hb2
 go_wp2_with fail
 refine cm HC.out ?_
 intro e w3 hp
 obtain ⟨⟨v, rfl, p, rfl, hn⟩, hrd, ha⟩ := hp
 have hszR : (RW w).heap.size = w.heap.size + 2 := by simp
 have hsz2 := HB2.out.size
 have hR := unhide HCR
 have c0 : w3.heap[w.heap.size]? = some (.cells #[.pointer none] 22 (0, 0)) := by
  rw [ha.block _ (by omega) (by omega), HB2.out.block _ (by omega), Below.heap_alloc _ _ _ (by simp)]; exact heap_new _ _
 have c1 : w3.heap[w.heap.size + 1]? = some (.cells #[.nilIface] 28 (0, 0)) := by
  exact zbfa
 have d0 : w3.cell? ⟨w.heap.size, 0, none⟩ = some (.pointer none) := by rw [cell_of c0]; rfl
 have d0f := frozen_of c0
 have d1 : w3.cell? ⟨w.heap.size + 1, 0, none⟩ = some .nilIface := by rw [cell_of c1]; rfl
 have d1f := frozen_of c1
 have HBW : Hid (Below w.heap.size w w3) := by
  exact zbdz
 have HNN := hide hn
 have H2 : Hid (w.heap.size + 2 ≤ w2.heap.size) := by show _ ≤ _; omega
 clear hn hrd ha c0 c1 HC HN HP hszR hsz2 hR
 go_wp2_with fail
 refine leaves_cons (f := 101) (args := #[.pointer (some ⟨w.heap.size, 0, none⟩), .pointer (some ⟨w.heap.size + 1, 0, none⟩)]) (by simp) (by simp [go_sem]) ?_
 refine (catch_idle ⟨w.heap.size, 0, none⟩ ⟨w.heap.size + 1, 0, none⟩ _).mono ?_
 rintro e u' w'' ⟨rfl, rfl, rfl⟩
 show Leaves _ _ _ _ [] .returning _
 refine ⟨.tuple #[nPtr p, .nilIface], by simp [results, Tryz.results43, go_sem, d0, d1], p, rfl, ?_, ?_⟩
 ·
  refine NAt.mono (J := From w.heap.size) (fun b hb _ => ?_) _ _ (NAt.later (I := fun b => w2.heap.size ≤ b) (fun b hb _ => ?_) _ _ HNN.out)
  ·
   have h2 := unhide H2; have h3 : w2.heap.size ≤ b := hb
   show w.heap.size ≤ b
   omega
  ·
   have h2 := unhide H2; have h3 : w2.heap.size ≤ b := hb
   rw [Below.heap_setCell _ ⟨w.heap.size + 1, 0, none⟩ _ b (by show b ≠ w.heap.size + 1; omega), Below.heap_setCell _ ⟨w.heap.size, 0, none⟩ _ b (by show b ≠ w.heap.size; omega)]
 ·
  exact (HBW.out.setCell (p := ⟨w.heap.size, 0, none⟩) (Nat.le_refl _) _).setCell (p := ⟨w.heap.size + 1, 0, none⟩) (Nat.le_succ _) _
theorem read_bad (er : Int) (pl : Nat) (HN : Calls Tryz.prog 102 #[.slice (some ⟨tb, 0, none⟩) l.length cap] (RW w) fun e w' => ∃ c : Ctx, e = .returned (rPtr c) ∧ c.l = l ∧ (RW w).heap.size ≤ c.R ∧ Rdr c w' 0 0 ∧ Below (RW w).heap.size (RW w) w') (HP : ∀ (c : Ctx) (W : World), c.l = l → Rdr c W 0 0 → Calls Tryz.prog 103 #[rPtr c] W (PPost c W 0 (NV W.heap.size) (.bad er pl))) :
  Calls Tryz.prog 43 #[.slice (some ⟨tb, 0, none⟩) l.length cap] w (RdPost (.bad er pl) w) := by
 have hmf := mf_run
 have HN := hide HN
 have HP := hide HP
 go_enter_defers Tryz.func43, Tryz.ntmps43
 go_wp2_with fail
 refine cm HN.out ?_
 rintro e w2 ⟨c, rfl, hcl, hcR, hrd, hb2⟩
 have HC := hide (HP.out c w2 hcl hrd)
 have HB2 := hide hb2
 have HCR := hide hcR
 clear hcl hcR hrd hb2
 go_wp2_with fail
 refine cm HC.out ?_
 intro e w3 hp
 obtain ⟨rfl, ha⟩ := hp
 have hszR : (RW w).heap.size = w.heap.size + 2 := by simp
 have hsz2 := HB2.out.size
 have hR := unhide HCR
 have c0 : w3.heap[w.heap.size]? = some (.cells #[.pointer none] 22 (0, 0)) := by
  rw [ha.block _ (by omega) (by omega), HB2.out.block _ (by omega), Below.heap_alloc _ _ _ (by simp)]; exact heap_new _ _
 have c1 : w3.heap[w.heap.size + 1]? = some (.cells #[.nilIface] 28 (0, 0)) := by
  exact zbfa
 have d0 : w3.cell? ⟨w.heap.size, 0, none⟩ = some (.pointer none) := by rw [cell_of c0]; rfl
 have d0f := frozen_of c0
 have d1 : w3.cell? ⟨w.heap.size + 1, 0, none⟩ = some .nilIface := by rw [cell_of c1]; rfl
 have d1f := frozen_of c1
 have HBW : Hid (Below w.heap.size w w3) := by
  exact zbdz
 have H2 : Hid (w.heap.size + 2 ≤ w2.heap.size) := by show _ ≤ _; omega
 have h3l : w.heap.size + 1 < w3.heap.size := lt_of_heap c1
 have C0 := hide c0
 have C1 := hide c1
 clear ha c0 c1 HC HN HP hszR hsz2 hR H2
 refine leaves_cons (f := 101) (args := #[.pointer (some ⟨w.heap.size, 0, none⟩), .pointer (some ⟨w.heap.size + 1, 0, none⟩)]) (by simp) (by simp [go_sem]) ?_
 refine (catch_fault w.heap.size (w.heap.size + 1) er pl w3 _ _ d0 d0f d1 d1f (by omega) (by omega) h3l).mono ?_
 rintro e u' w'' ⟨rfl, rfl, rfl⟩
 show Leaves _ _ _ _ [] .returning _
 have g0 : ((((w3.setCell ⟨w.heap.size, 0, none⟩ (.pointer none)).setCell ⟨w.heap.size + 1, 0, none⟩ (.iface 144 (.pointer (some ⟨w3.heap.size + 1, 0, none⟩)))).alloc (.cells #[.int .i64 er, .int .i64 (pl : Int)] 142)).alloc (.cells #[.int .i64 er, .int .i64 (pl : Int)] 145)).drew.heap[w.heap.size]? = some (.cells #[.pointer none] 22 (0, 0)) := by
  show ((((w3.setCell ⟨w.heap.size, 0, none⟩ (.pointer none)).setCell ⟨w.heap.size + 1, 0, none⟩ (.iface 144 (.pointer (some ⟨w3.heap.size + 1, 0, none⟩)))).alloc (.cells #[.int .i64 er, .int .i64 (pl : Int)] 142)).alloc (.cells #[.int .i64 er, .int .i64 (pl : Int)] 145)).heap[w.heap.size]? = _
  rw [Below.heap_alloc _ _ _ (by simp; omega), Below.heap_alloc _ _ _ (by simp; omega), Below.heap_setCell _ ⟨w.heap.size + 1, 0, none⟩ _ _ (by show w.heap.size ≠ w.heap.size + 1; omega), heap_set C0.out]
  rfl
 have g1 : ((((w3.setCell ⟨w.heap.size, 0, none⟩ (.pointer none)).setCell ⟨w.heap.size + 1, 0, none⟩ (.iface 144 (.pointer (some ⟨w3.heap.size + 1, 0, none⟩)))).alloc (.cells #[.int .i64 er, .int .i64 (pl : Int)] 142)).alloc (.cells #[.int .i64 er, .int .i64 (pl : Int)] 145)).drew.heap[w.heap.size + 1]? = some (.cells #[.iface 144 (.pointer (some ⟨w3.heap.size + 1, 0, none⟩))] 28 (0, 0)) := by
  show ((((w3.setCell ⟨w.heap.size, 0, none⟩ (.pointer none)).setCell ⟨w.heap.size + 1, 0, none⟩ (.iface 144 (.pointer (some ⟨w3.heap.size + 1, 0, none⟩)))).alloc (.cells #[.int .i64 er, .int .i64 (pl : Int)] 142)).alloc (.cells #[.int .i64 er, .int .i64 (pl : Int)] 145)).heap[w.heap.size + 1]? = _
  have hs : (w3.setCell ⟨w.heap.size, 0, none⟩ (.pointer none)).heap[w.heap.size + 1]? = some (.cells #[.nilIface] 28 (0, 0)) := by
   rw [Below.heap_setCell _ ⟨w.heap.size, 0, none⟩ _ _ (by show w.heap.size + 1 ≠ w.heap.size; omega)]; exact unhide C1
  rw [Below.heap_alloc _ _ _ (by simp; omega), Below.heap_alloc _ _ _ (by simp; omega), heap_set hs]
  rfl
 have e0 : ((((w3.setCell ⟨w.heap.size, 0, none⟩ (.pointer none)).setCell ⟨w.heap.size + 1, 0, none⟩ (.iface 144 (.pointer (some ⟨w3.heap.size + 1, 0, none⟩)))).alloc (.cells #[.int .i64 er, .int .i64 (pl : Int)] 142)).alloc (.cells #[.int .i64 er, .int .i64 (pl : Int)] 145)).drew.cell? ⟨w.heap.size, 0, none⟩ = some (.pointer none) := by rw [cell_of g0]; rfl
 have e1 : ((((w3.setCell ⟨w.heap.size, 0, none⟩ (.pointer none)).setCell ⟨w.heap.size + 1, 0, none⟩ (.iface 144 (.pointer (some ⟨w3.heap.size + 1, 0, none⟩)))).alloc (.cells #[.int .i64 er, .int .i64 (pl : Int)] 142)).alloc (.cells #[.int .i64 er, .int .i64 (pl : Int)] 145)).drew.cell? ⟨w.heap.size + 1, 0, none⟩ = some (.iface 144 (.pointer (some ⟨w3.heap.size + 1, 0, none⟩))) := by rw [cell_of g1]; rfl
 obtain ⟨WZ, hWZ⟩ : ∃ WZ, WZ = ((((w3.setCell ⟨w.heap.size, 0, none⟩ (.pointer none)).setCell ⟨w.heap.size + 1, 0, none⟩ (.iface 144 (.pointer (some ⟨w3.heap.size + 1, 0, none⟩)))).alloc (.cells #[.int .i64 er, .int .i64 (pl : Int)] 142)).alloc (.cells #[.int .i64 er, .int .i64 (pl : Int)] 145)).drew := ⟨_, rfl⟩
 rw [← hWZ] at e0 e1
 rw [← hWZ]
 refine ⟨.tuple #[.pointer none, .iface 144 (.pointer (some ⟨w3.heap.size + 1, 0, none⟩))], by simp [results, Tryz.results43, go_sem, e0, e1], w3.heap.size + 1, rfl, ?_, by omega, ?_⟩
 all_goals rw [hWZ]
 ·
  have := heap_new (((w3.setCell ⟨w.heap.size, 0, none⟩ (.pointer none)).setCell ⟨w.heap.size + 1, 0, none⟩ (.iface 144 (.pointer (some ⟨w3.heap.size + 1, 0, none⟩)))).alloc (.cells #[.int .i64 er, .int .i64 (pl : Int)] 142)) (.cells #[.int .i64 er, .int .i64 (pl : Int)] 145)
  rw [show ((((w3.setCell ⟨w.heap.size, 0, none⟩ (.pointer none)).setCell ⟨w.heap.size + 1, 0, none⟩ (.iface 144 (.pointer (some ⟨w3.heap.size + 1, 0, none⟩)))).alloc (.cells #[.int .i64 er, .int .i64 (pl : Int)] 142)).heap.size) = w3.heap.size + 1 by simp] at this
  exact this
 ·
  have hs := HBW.out.size
  exact (((((HBW.out.setCell (p := ⟨w.heap.size, 0, none⟩) (Nat.le_refl _) _).setCell (p := ⟨w.heap.size + 1, 0, none⟩) (Nat.le_succ _) _).alloc (by simpa using hs) _).alloc (by simp; omega) _).drew)
end
theorem params_at {c : Ctx} {F : Fns} (w : World) (d i : Nat) (ho : paramsP c.l F i ≠ .out) (h : Rdr c w i d) : Calls Tryz.prog 245 #[rPtr c] w (PPost c w d (NV w.heap.size) (paramsP c.l F i)) :=
 params_any (F := F) w d i _ rfl ho h
section
variable {c : Ctx} {F : Fns} (hF : FC c F) (hN : ∃ k, FNx c.l k F) (hK : FOk F)
include c F hF hN hK
theorem func_any : Does c 164 NV (funcP c.l F) := by
 intro w d i r hs ho h
 have HR0 := hide h
 have HA0 := hide (Ap.refl c.R w.heap.size w)
 have HLT := hide h.rlt
 unfold funcP funcTail at hs
 have HS := hide hs
 have HO := hide ho
 clear h hs ho
 go_enter Tryz.func164, Tryz.ntmps164
 cases hr : mustP c.l tFunction i with
 | out =>
  exact zbak
 | bad er p =>
  have HC := hide (must_any c tFunction w i d HR0.out (by decide)); exact zbas
 | ok x1 j1 =>
  have HC := hide (must_any c tFunction w i d HR0.out (by decide)); rw [hr] at HC HS; simp only [bind_ok] at HS; clear hr; go_wp2_with fail; refine cm HC.out ?_; intro e w1 hp; obtain ⟨⟨v1, rfl, rfl⟩, hrd, ha⟩ := hp
  clear HC; have HA1 := hide (HA0.out.next ha); have HR1 := hide hrd; clear hrd ha HA0 HR0
  cases hr : nameP c.l j1 with
  | out =>
   exact zbak
  | bad er p =>
   have HC := hide (name_any c w1 j1 d HR1.out); exact zbbz
  | ok x2 j2 =>
   have HC := hide (name_any c w1 j1 d HR1.out); rw [hr] at HC HS; simp only [bind_ok] at HS; clear hr; go_wp2_with fail; refine cm HC.out ?_; intro e w2 hp; obtain ⟨⟨v2, rfl, rfl⟩, hrd, ha⟩ := hp; clear HC
   have HA2 := hide (HA1.out.next ha); have HR2 := hide hrd; clear hrd ha HA1 HR1
   cases hr : paramsP c.l F j2 with
   | out =>
    exact zbak
   | bad er p =>
    have HC := hide (params_at (F := F) w2 d j2 (by rw [hr]; nofun) HR2.out)
    exact zbby
   | ok x3 j3 =>
    have HC := hide (params_at (F := F) w2 d j2 (by rw [hr]; nofun) HR2.out)
    rw [hr] at HC HS; simp only [bind_ok] at HS; clear hr; go_wp2_with fail; refine cm HC.out ?_; intro e w3 hp; obtain ⟨⟨v3, rfl, p3, rfl, hn3⟩, hrd, ha⟩ := hp; clear HC; have HA3 := hide (HA2.out.next ha)
    have HR3 := hide hrd; have HN3 := hide (nat_mono hn3 HA2.out.size); clear hn3; clear hrd ha HA2 HR2; have HNP := hide (NAt.mono (J := fun b => w.heap.size ≤ b ∧ b < w3.heap.size) (fun _ hb hl => ⟨hb, hl⟩) _ _ HN3.out)
    cases hr : blockP c.l F d j3 with
    | out =>
     exact zbak
    | bad er p =>
     exact zbdr
    | ok tb jb =>
     have HX := hide (blockP_exprOk hK hr); have HC := hide (block_any hF hN w3 d j3 _ rfl (by rw [hr]; nofun) HR3.out)
     rw [hr] at HC HS; simp only [bind_ok] at HS; clear hr; go_wp2_with fail; refine cm HC.out ?_; intro e wb hp; obtain ⟨⟨vb, rfl, hn⟩, hrd, ha⟩ := hp; clear HC; have HAb := hide (HA3.out.next ha); have HRb := hide hrd
     have HLb := hide HLT.out; replace HNP := hide (NAt.later (fun b hb _ => ha.block b hb.2 (by have h1 := unhide HLT; have h2 := hb.1; omega)) _ _ HNP.out)
     have HC := hide (code_any w3.heap.size tb vb wb hn HX.out); clear hn hrd ha; go_wp2_with fail; refine cm HC.out ?_; rintro e wc ⟨rfl, hev, hbw⟩; clear HC
     have HAc := hide (HAb.out.trans ((Ap.of hbw).mono HA3.out.size)); have HRc := hide (HRb.out.ap hbw HR3.out.base.size); replace HNP := hide (NAt.later (fun b hb _ => hbw.block b hb.2) _ _ HNP.out)
     obtain ⟨pb, rfl, hnb⟩ := hev.nv; have HNB := hide (NAt.mono (J := fun b => From w.heap.size b ∧ w3.heap.size ≤ b) (fun _ hb _ => ⟨Nat.le_trans HA3.out.size hb, hb⟩) _ _ hnb); clear hev hbw hnb
     have HC := hide (node_any 5 x2 (.slice (some ⟨wc.heap.size, 0, none⟩) 2 2) (wc.alloc (.cells #[nPtr p3, nPtr pb] 22)) ⟨_, _, _, rfl⟩); go_wp2_with fail; refine cm HC.out ?_; rintro e wn ⟨rfl, rfl⟩; clear HC
     go_wp2_with fail; go_ret; obtain ⟨m1, m2, m3⟩ := made HRc.out HAc.out (NAts.pair (I := From w.heap.size) HNP.out HNB.out) (by simp [maxLen]) #[nPtr p3, nPtr pb] rfl 2 rfl 5 x2 (wc.heap.size + 1) rfl
     exact ppOk HS.out.symm m1.nv m2 m3
theorem lambda_any : Does c 173 NV (lambdaP c.l F) := by
 intro w d i r hs ho h
 have HR0 := hide h
 have HA0 := hide (Ap.refl c.R w.heap.size w)
 have HLT := hide h.rlt
 unfold lambdaP funcTail at hs
 have HS := hide hs
 have HO := hide ho
 clear h hs ho
 go_enter Tryz.func173, Tryz.ntmps173
 cases hr : mustP c.l tFunction i with
 | out =>
  exact zbak
 | bad er p =>
  have HC := hide (must_any c tFunction w i d HR0.out (by decide)); exact zbas
 | ok x1 j1 =>
  have HC := hide (must_any c tFunction w i d HR0.out (by decide)); rw [hr] at HC HS; simp only [bind_ok] at HS; clear hr; go_wp2_with fail; refine cm HC.out ?_; intro e w1 hp; obtain ⟨⟨v1, rfl, rfl⟩, hrd, ha⟩ := hp
  clear HC; have HA1 := hide (HA0.out.next ha); have HR1 := hide hrd; clear hrd ha HA0 HR0; have HC := hide (atName_any c w1 j1 d HR1.out)
  cases hb : isName c.l j1 with
  | true =>
   rw [hb] at HC HS; rw [if_pos rfl] at HS; clear hb; go_wp2_with fail; refine cm HC.out ?_; rintro e wq ⟨rfl, hbq⟩; clear HC; have HAq := hide (HA1.out.next (Ap.of hbq)); have HRq := hide (HR1.out.later hbq)
   clear hbq HA1 HR1
   cases hr : nameP c.l j1 with
   | out =>
    exact zbak
   | bad er p =>
    have HC := hide (name_any c wq j1 d HRq.out); exact zbcz
   | ok x2 j2 =>
    have HC := hide (name_any c wq j1 d HRq.out); rw [hr] at HC HS; simp only [bind_ok] at HS; clear hr; go_wp2_with fail; refine cm HC.out ?_; intro e w2 hp; obtain ⟨⟨v2, rfl, rfl⟩, hrd, ha⟩ := hp; clear HC
    have HA2 := hide (HAq.out.next ha); have HR2 := hide hrd; clear hrd ha HAq HRq
    cases hr : paramsP c.l F j2 with
    | out =>
     exact zbak
    | bad er p =>
     have HC := hide (params_at (F := F) w2 d j2 (by rw [hr]; nofun) HR2.out)
     exact zbby
    | ok x3 j3 =>
     have HC := hide (params_at (F := F) w2 d j2 (by rw [hr]; nofun) HR2.out)
     rw [hr] at HC HS; simp only [bind_ok] at HS; clear hr; go_wp2_with fail; refine cm HC.out ?_; intro e w3 hp; obtain ⟨⟨v3, rfl, p3, rfl, hn3⟩, hrd, ha⟩ := hp; clear HC; have HA3 := hide (HA2.out.next ha)
     have HR3 := hide hrd; have HN3 := hide (nat_mono hn3 HA2.out.size); clear hn3; clear hrd ha HA2 HR2; have HNP := hide (NAt.mono (J := fun b => w.heap.size ≤ b ∧ b < w3.heap.size) (fun _ hb hl => ⟨hb, hl⟩) _ _ HN3.out)
     cases hr : blockP c.l F d j3 with
     | out =>
      exact zbak
     | bad er p =>
      exact zbdr
     | ok tb jb =>
      have HX := hide (blockP_exprOk hK hr); have HC := hide (block_any hF hN w3 d j3 _ rfl (by rw [hr]; nofun) HR3.out)
      rw [hr] at HC HS; simp only [bind_ok] at HS; clear hr; go_wp2_with fail; refine cm HC.out ?_; intro e wb hp; obtain ⟨⟨vb, rfl, hn⟩, hrd, ha⟩ := hp; clear HC; have HAb := hide (HA3.out.next ha); have HRb := hide hrd
      have HLb := hide HLT.out; replace HNP := hide (NAt.later (fun b hb _ => ha.block b hb.2 (by have h1 := unhide HLT; have h2 := hb.1; omega)) _ _ HNP.out)
      have HC := hide (code_any w3.heap.size tb vb wb hn HX.out); clear hn hrd ha; go_wp2_with fail; refine cm HC.out ?_; rintro e wc ⟨rfl, hev, hbw⟩; clear HC
      have HAc := hide (HAb.out.trans ((Ap.of hbw).mono HA3.out.size)); have HRc := hide (HRb.out.ap hbw HR3.out.base.size); replace HNP := hide (NAt.later (fun b hb _ => hbw.block b hb.2) _ _ HNP.out)
      obtain ⟨pb, rfl, hnb⟩ := hev.nv; have HNB := hide (NAt.mono (J := fun b => From w.heap.size b ∧ w3.heap.size ≤ b) (fun _ hb _ => ⟨Nat.le_trans HA3.out.size hb, hb⟩) _ _ hnb); clear hev hbw hnb
      have HC := hide (node_any 37 x2 (.slice (some ⟨wc.heap.size, 0, none⟩) 2 2) (wc.alloc (.cells #[nPtr p3, nPtr pb] 22)) ⟨_, _, _, rfl⟩); go_wp2_with fail; refine cm HC.out ?_; rintro e wn ⟨rfl, rfl⟩; clear HC
      go_wp2_with fail; go_ret; obtain ⟨m1, m2, m3⟩ := made HRc.out HAc.out (NAts.pair (I := From w.heap.size) HNP.out HNB.out) (by simp [maxLen]) #[nPtr p3, nPtr pb] rfl 2 rfl 37 x2 (wc.heap.size + 1) rfl
      exact ppOk HS.out.symm m1.nv m2 m3
  | false =>
   rw [hb] at HC HS; rw [if_neg (by decide)] at HS; clear hb; go_wp2_with fail; refine cm HC.out ?_; rintro e wq ⟨rfl, hbq⟩; clear HC; have HAq := hide (HA1.out.next (Ap.of hbq)); have HRq := hide (HR1.out.later hbq)
   clear hbq HA1 HR1
   cases hr : paramsP c.l F j1 with
   | out =>
    exact zbak
   | bad er p =>
    have HC := hide (params_at (F := F) wq d j1 (by rw [hr]; nofun) HRq.out)
    exact zbcz
   | ok x2 j2 =>
    have HC := hide (params_at (F := F) wq d j1 (by rw [hr]; nofun) HRq.out)
    rw [hr] at HC HS; simp only [bind_ok] at HS; clear hr; go_wp2_with fail; refine cm HC.out ?_; intro e w2 hp; obtain ⟨⟨v2, rfl, p2, rfl, hn2⟩, hrd, ha⟩ := hp; clear HC; have HA2 := hide (HAq.out.next ha)
    have HR2 := hide hrd; have HN2 := hide (nat_mono hn2 HAq.out.size); clear hn2; clear hrd ha HAq HRq; have HNP := hide (NAt.mono (J := fun b => w.heap.size ≤ b ∧ b < w2.heap.size) (fun _ hb hl => ⟨hb, hl⟩) _ _ HN2.out)
    cases hr : blockP c.l F d j2 with
    | out =>
     exact zbak
    | bad er p =>
     have HC := hide (block_any hF hN w2 d j2 _ rfl (by rw [hr]; nofun) HR2.out)
     exact zbby
    | ok tb jb =>
     have HX := hide (blockP_exprOk hK hr); have HC := hide (block_any hF hN w2 d j2 _ rfl (by rw [hr]; nofun) HR2.out)
     rw [hr] at HC HS; simp only [bind_ok] at HS; clear hr; go_wp2_with fail; refine cm HC.out ?_; intro e wb hp; obtain ⟨⟨vb, rfl, hn⟩, hrd, ha⟩ := hp; clear HC; have HAb := hide (HA2.out.next ha); have HRb := hide hrd
     have HLb := hide HLT.out; replace HNP := hide (NAt.later (fun b hb _ => ha.block b hb.2 (by have h1 := unhide HLT; have h2 := hb.1; omega)) _ _ HNP.out)
     have HC := hide (code_any w2.heap.size tb vb wb hn HX.out); clear hn hrd ha; go_wp2_with fail; refine cm HC.out ?_; rintro e wc ⟨rfl, hev, hbw⟩; clear HC
     have HAc := hide (HAb.out.trans ((Ap.of hbw).mono HA2.out.size)); have HRc := hide (HRb.out.ap hbw HR2.out.base.size); replace HNP := hide (NAt.later (fun b hb _ => hbw.block b hb.2) _ _ HNP.out)
     obtain ⟨pb, rfl, hnb⟩ := hev.nv; have HNB := hide (NAt.mono (J := fun b => From w.heap.size b ∧ w2.heap.size ≤ b) (fun _ hb _ => ⟨Nat.le_trans HA2.out.size hb, hb⟩) _ _ hnb); clear hev hbw hnb
     have HC := hide (node_any 37 noText (.slice (some ⟨wc.heap.size, 0, none⟩) 2 2) (wc.alloc (.cells #[nPtr p2, nPtr pb] 22)) ⟨_, _, _, rfl⟩); go_wp2_with fail; refine cm HC.out ?_; rintro e wn ⟨rfl, rfl⟩; clear HC
     go_wp2_with fail; go_ret; obtain ⟨m1, m2, m3⟩ := made HRc.out HAc.out (NAts.pair (I := From w.heap.size) HNP.out HNB.out) (by simp [maxLen]) #[nPtr p2, nPtr pb] rfl 2 rfl 37 noText (wc.heap.size + 1) rfl
     exact ppOk HS.out.symm m1.nv m2 m3
end
theorem st_some {c : Ctx} (f : Nat) (hen : ∀ args W, (callFunc f args).run Tryz.prog W = .ok (.enter f args) W) (w : World) (d i : Nat) (r : PR Tr) (ho : r ≠ .out) (q : Nat) (hq : look2 stKeys (fx c.l i) = some q) (hf : stFn q = f) (hp : ∀ W, Rdr c W i d → Calls Tryz.prog f #[rPtr c] W (PPost c W d (NV W.heap.size) r)) (h : Rdr c w i d) :
  Calls Tryz.prog 176 #[rPtr c] w (PPost c w d (NV w.heap.size) r) := by
 have HL : Hid (∀ W : World, Rdr c W i d → (Instr.lookup 201 (.map (some c.mT)) (.string (fx c.l i)) true).run Tryz.prog W = .ok (.tuple #[.func (.func f) #[.pointer (some ⟨c.R, 0, none⟩)] #[], .bool true]) W) := fun W hW => by
  have := look_stms c (fx c.l i) W hW.base.stms; rw [hq] at this; simp only [stVO, hf] at this; exact this
 have HR0 := hide h
 have HA0 := hide (Ap.refl c.R w.heap.size w)
 have HP := hide hp
 have HLT := hide h.rlt
 have HO := hide ho
 clear h ho hq hf hp
 go_enter Tryz.func176, Tryz.ntmps176
 go_wp2_with fail
 refine wp_region_held (S := fun W => Rdr c W i d) (by kernel_rfl) ?_
 change wpAnyH _ _ _ _ _ _ _ _ (World.drew _)
 refine wh 0 (rPtr c) HR0.out.drew ?_
 refine wh 1 (rPtr c) HR0.out.drew ?_
 refine wh 2 (.pointer (some ⟨c.R, 4, none⟩)) HR0.out.drew ?_
 refine wg 3 (.map (some c.mT)) rfl (Or.inl ⟨by kernel_rfl, fun W hW => by have hh := Rdr.c4 hW; go_simp⟩) HR0.out.drew ?_
 exact zbbc
theorem st_none {c : Ctx} {F : Fns} (hF : FC c F) (w : World) (d i : Nat) (r : PR Tr) (hs : exprP c.l F d i = r) (ho : r ≠ .out) (hq : look2 stKeys (fx c.l i) = none) (h : Rdr c w i d) : Calls Tryz.prog 176 #[rPtr c] w (PPost c w d (NV w.heap.size) r) := by
 have hmf := mf_bound c.R 243
 have HL : Hid (∀ W : World, Rdr c W i d → (Instr.lookup 201 (.map (some c.mT)) (.string (fx c.l i)) true).run Tryz.prog W = .ok (.tuple #[.nilFunc, .bool false]) W) := fun W hW => by
  have := look_stms c (fx c.l i) W hW.base.stms; rw [hq] at this; exact this
 clear hq
 have HR0 := hide h
 have HA0 := hide (Ap.refl c.R w.heap.size w)
 have HLT := hide h.rlt
 unfold exprP at hs
 have HS := hide hs
 have HO := hide ho
 clear h hs ho
 go_enter Tryz.func176, Tryz.ntmps176
 go_wp2_with fail
 refine wp_region_held (S := fun W => Rdr c W i d) (by kernel_rfl) ?_
 change wpAnyH _ _ _ _ _ _ _ _ (World.drew _)
 refine wh 0 (rPtr c) HR0.out.drew ?_
 refine wh 1 (rPtr c) HR0.out.drew ?_
 refine wh 2 (.pointer (some ⟨c.R, 4, none⟩)) HR0.out.drew ?_
 refine wg 3 (.map (some c.mT)) rfl (Or.inl ⟨by kernel_rfl, fun W hW => by have hh := Rdr.c4 hW; go_simp⟩) HR0.out.drew ?_
 refine wh 4 (rPtr c) HR0.out.drew ?_
 refine wq1 5 fun K hK => ?_
 go_simp
 refine cm (fixed_any c _ i d HR0.out.drew) ?_
 rintro e wq ⟨rfl, hbq⟩
 have HRq := hide (HR0.out.drew.later hbq)
 have HAq := hide (HA0.out.next (Ap.of ((Below.refl _ _).drew.trans hbq)))
 clear hbq
 refine hK.out _ _ HRq.out (fun _ => ?_)
 clear hK K
 refine wg 6 (.tuple #[.nilFunc, .bool false]) rfl (Or.inl ⟨by kernel_rfl, fun W hW => by have hh := HL.out W hW; go_simp⟩) HRq.out ?_
 refine wh 7 (.tuple #[.nilFunc, .bool false]) HRq.out ?_
 refine wh 8 .nilFunc HRq.out ?_
 refine wh 9 (.bool false) HRq.out ?_
 refine wh 10 .nilFunc HRq.out ?_
 refine wh 11 (.bool false) HRq.out ?_
 refine wpAnyH_done (by kernel_rfl) ?_ _
 go_simp
 cases hr : deepP c.l F.vl d i with
 | out =>
  exact zbak
 | bad er p =>
  have HC := hide (deepV hF wq d i HRq.out (by rw [hr]; nofun))
  exact zbcz
 | ok x1 j1 =>
  have HC := hide (deepV hF wq d i HRq.out (by rw [hr]; nofun))
  rw [hr] at HC HS; simp only [bind_ok] at HS; clear hr; go_wp2_with fail; refine cm HC.out ?_; intro e w1 hp; obtain ⟨⟨v1, rfl, p1, rfl, hn1⟩, hrd, ha⟩ := hp; clear HC; have HA1 := hide (HAq.out.next ha)
  have HR1 := hide hrd; have HN1 := hide (nat_mono hn1 HAq.out.size); clear hn1; clear hrd ha HAq HRq
  cases hr : mustP c.l tSemi j1 with
  | out =>
   exact zbak
  | bad er p =>
   have HC := hide (must_any c tSemi w1 j1 d HR1.out (by decide)); exact zbbz
  | ok x2 j2 =>
   have HC := hide (must_any c tSemi w1 j1 d HR1.out (by decide)); rw [hr] at HC HS; simp only [bind_ok] at HS; clear hr; go_wp2_with fail; refine cm HC.out ?_; intro e w2 hp; obtain ⟨⟨v2, rfl, rfl⟩, hrd, ha⟩ := hp
   clear HC; have HA2 := hide (HA1.out.next ha); have HR2 := hide hrd; replace HN1 := hide (nat_later HN1.out ha HLT.out); clear hrd ha HA1 HR1
   have HC := hide (node_any 15 noText (.slice (some ⟨w2.heap.size, 0, none⟩) 1 1) (w2.alloc (.cells #[nPtr p1] 22)) ⟨_, _, _, rfl⟩); go_wp2_with fail; refine cm HC.out ?_; rintro e wn ⟨rfl, rfl⟩; clear HC
   go_wp2_with fail; go_ret; obtain ⟨m1, m2, m3⟩ := made HR2.out HA2.out (NAts.cons HN1.out NAts.nil) (by simp [maxLen]) #[nPtr p1] rfl 1 rfl 15 noText (w2.heap.size + 1) rfl; exact ppOk HS.out.symm m1.nv m2 m3
end Go.Proofs.YtoimgcjbcbhclaaGreatDoor
