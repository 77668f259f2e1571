/-
  Tell, Place and at: an error taken apart.
-/
import Derived.Test.YtodmgaikhbmlnaaGreatDoorTk40
import Derived.Test.YtodmgaikhbmlnaaGreatDoorTk0
import Derived.WalkSmall
import Derived.Deep.QuietTactic
import Derived.BigQuiet
import Derived.Test.YtodmgaikhbmlnaaGreatDoorTk39
namespace Go.Proofs.YtodmgaikhbmlnaaGreatDoor
open Go.RowKit Go.Extern.Stop Go.Stop Go.Extern

abbrev errType (w : World) : Prop := w.cell? ⟨1, 0, none⟩ = some (.iface 187 (.agg #[.pointer (some ⟨13, 29, none⟩)]))

theorem lt_of_errType {w : World} (h : errType w) : 1 < w.heap.size := by
  rcases Nat.lt_or_ge 1 w.heap.size with h' | h'
  · exact h'
  · simp [errType, World.cell?, Array.getElem?_eq_none h'] at h

theorem errType_later {w w' : World} (h : errType w) (hb : Below w.heap.size w w') : errType w' := by
  unfold errType
  rw [hb.cell (p := ⟨1, 0, none⟩) (lt_of_errType h)]; exact h

set_option maxRecDepth 100000 in
set_option maxHeartbeats 1000000 in
theorem Tell_hit (n : Int) (w : World) (hg : errType w) :
    Calls Tryz.prog 26 #[.iface 23 (.int .i64 n)] w fun e w' => e = .returned (.int .i64 n) ∧ Below w.heap.size w w' := by
  have hgl := lt_of_errType hg
  obtain ⟨W1, hW1⟩ : ∃ W1, W1 = w.alloc (.cells #[.int .i64 0] 23) := ⟨_, rfl⟩
  have hT : W1.cell? ⟨w.heap.size, 0, none⟩ = some (.int .i64 0) := by rw [hW1, World.cell?_alloc_at _ _ _ _ rfl]; rfl
  have hF : W1.frozen? ⟨w.heap.size, 0, none⟩ = false := by rw [hW1]; exact World.frozen?_alloc_at _ _ _ _ rfl
  have hz1 : W1.heap.size = w.heap.size + 1 := by rw [hW1]; simp
  have hg1 : errType W1 := by unfold errType; rw [hW1, World.cell?_alloc_past _ _ _ hgl]; exact hg
  have hB1 : Below w.heap.size w W1 := by rw [hW1]; exact (Below.refl _ _).alloc (Nat.le_refl _) _
  have HC : Hid _ := As_hit n w.heap.size W1 hT hF (by omega) hg1
  have HB1 := hide hB1
  rw [hW1] at HC HB1
  clear hB1 hg1 hz1 hF hT hW1 W1 hgl
  go_enter Tryz.func26, Tryz.ntmps26
  go_wp2_with fail
  refine Calls.mono HC.out ?_
  rintro e w2 ⟨rfl, hc2, hb2⟩
  have HB2 := hide hb2
  clear hb2
  go_wp2_with fail
  go_ret
  exact ⟨rfl, (unhide HB1).trans (unhide HB2)⟩

set_option maxRecDepth 100000 in
set_option maxHeartbeats 1000000 in
theorem Tell_at (n : Int) (b : Nat) (w : World) (hg : errType w) (hb : w.cell? ⟨b, 0, none⟩ = some (.int .i64 n)) (hbl : b < w.heap.size) :
    Calls Tryz.prog 26 #[.iface 129 (.pointer (some ⟨b, 0, none⟩))] w fun e w' => e = .returned (.int .i64 n) ∧ Below w.heap.size w w' := by
  have hgl := lt_of_errType hg
  obtain ⟨W1, hW1⟩ : ∃ W1, W1 = w.alloc (.cells #[.int .i64 0] 23) := ⟨_, rfl⟩
  have hT : W1.cell? ⟨w.heap.size, 0, none⟩ = some (.int .i64 0) := by rw [hW1, World.cell?_alloc_at _ _ _ _ rfl]; rfl
  have hF : W1.frozen? ⟨w.heap.size, 0, none⟩ = false := by rw [hW1]; exact World.frozen?_alloc_at _ _ _ _ rfl
  have hz1 : W1.heap.size = w.heap.size + 1 := by rw [hW1]; simp
  have hg1 : errType W1 := by unfold errType; rw [hW1, World.cell?_alloc_past _ _ _ hgl]; exact hg
  have hB1 : Below w.heap.size w W1 := by rw [hW1]; exact (Below.refl _ _).alloc (Nat.le_refl _) _
  have hbb : W1.cell? ⟨b, 0, none⟩ = some (.int .i64 n) := by rw [hW1, World.cell?_alloc_past _ _ _ hbl]; exact hb
  have HC : Hid _ := As_at n b w.heap.size W1 hT hF (by omega) hg1 hbb (by omega)
  have HB1 := hide hB1
  rw [hW1] at HC HB1
  clear hB1 hg1 hz1 hF hT hW1 W1 hbb hgl
  go_enter Tryz.func26, Tryz.ntmps26
  go_wp2_with fail
  refine Calls.mono HC.out ?_
  rintro e w2 ⟨rfl, hc2, hb2⟩
  have HB2 := hide hb2
  clear hb2
  go_wp2_with fail
  go_ret
  exact ⟨rfl, (unhide HB1).trans (unhide HB2)⟩

set_option maxRecDepth 100000 in
set_option maxHeartbeats 1000000 in
theorem Place_hit (n : Int) (w : World) (hg : errType w) :
    Calls Tryz.prog 53 #[.iface 23 (.int .i64 n)] w fun e w' => e = .returned (.tuple #[.int .i64 n, .int .i64 (-1)]) ∧ Below w.heap.size w w' := by
  have n61 : ∀ (v : Value) (xT : TypeId) (w : World), (Instr.typeAssert (.iface 23 v) xT 135 true).run Tryz.prog w = .ok (.tuple #[.nilIface, .bool false]) w := fun v xT w => run_typeAssert_lacksB Tryz.underlying135 (by kernel_rfl) (by kernel_rfl) v xT w
  have a23 : ∀ w : World, (Instr.typeAssert (.iface 23 (.int .i64 n)) 29 129 true).run Tryz.prog w = .ok (.tuple #[.pointer none, .bool false]) w := fun w => by kernel_rfl
  have HG := hide hg
  clear hg
  go_enter Tryz.func53, Tryz.ntmps53
  go_wp2_with fail
  refine (Tell_hit n w (unhide HG)).mono ?_
  rintro e w1 ⟨rfl, hb⟩
  have HB := hide hb
  clear hb
  go_wp2_with fail
  refine wp_loop_rounds 1 ?_
  rw [rounds_succ]
  go_wp2_with fail
  go_ret2
  exact ⟨rfl, unhide HB⟩

set_option maxRecDepth 100000 in
set_option maxHeartbeats 1000000 in
theorem Place_at (n p : Int) (b : Nat) (w : World) (hg : errType w) (hb : w.cell? ⟨b, 0, none⟩ = some (.int .i64 n)) (hb1 : w.cell? ⟨b, 1, none⟩ = some (.int .i64 p)) (hbl : b < w.heap.size) :
    Calls Tryz.prog 53 #[.iface 129 (.pointer (some ⟨b, 0, none⟩))] w fun e w' => e = .returned (.tuple #[.int .i64 n, .int .i64 p]) ∧ Below w.heap.size w w' := by
  have a58 : ∀ w : World, (Instr.typeAssert (.iface 129 (.pointer (some ⟨b, 0, none⟩))) 29 129 true).run Tryz.prog w = .ok (.tuple #[.pointer (some ⟨b, 0, none⟩), .bool true]) w := fun w => by kernel_rfl
  have HG := hide hg
  have HBB := hide hb
  have HBB1 := hide hb1
  clear hg hb hb1
  go_enter Tryz.func53, Tryz.ntmps53
  go_wp2_with fail
  refine (Tell_at n b w (unhide HG) (unhide HBB) hbl).mono ?_
  rintro e w1 ⟨rfl, hb⟩
  have c1 : w1.cell? ⟨b, 1, none⟩ = some (.int .i64 p) := by rw [hb.cell (p := ⟨b, 1, none⟩) hbl]; exact unhide HBB1
  have HB := hide hb
  clear hb
  go_wp2_with fail
  refine wp_loop_rounds 1 ?_
  rw [rounds_succ]
  go_wp2_with fail
  go_quiet (fail)
  go_wp2_with fail
  go_ret2
  exact ⟨rfl, below_drewN (unhide HB) _⟩

set_option maxRecDepth 100000 in
set_option maxHeartbeats 1000000 in
theorem at_hit (n : Int) (w : World) (hg : errType w) :
    Calls Tryz.prog 14 #[.iface 23 (.int .i64 n), .agg #[.int .i64 n, .int .i64 (-1)]] w fun e w' => e = .returned (.bool true) ∧ Below w.heap.size w w' := by
  have HC : Hid _ := Place_hit n (w.alloc (.cells #[.int .i64 n, .int .i64 (-1)] 25)) (errType_later hg ((Below.refl _ _).alloc (Nat.le_refl _) _))
  clear hg
  go_enter Tryz.func14, Tryz.ntmps14
  go_wp2_with fail
  refine Calls.mono HC.out ?_
  rintro e w1 ⟨rfl, hb⟩
  obtain ⟨hc, hf⟩ := bcell hb
  have HB := hide hb
  clear hb
  go_wp2_with fail
  go_ret
  exact ⟨rfl, ((Below.refl _ _).alloc (Nat.le_refl _) _).trans ((unhide HB).mono (by simp))⟩

set_option maxRecDepth 100000 in
set_option maxHeartbeats 1000000 in
theorem at_at (n p : Int) (b : Nat) (w : World) (hg : errType w) (hb : w.heap[b]? = some (.cells #[.int .i64 n, .int .i64 p] 130 (0, 0))) :
    Calls Tryz.prog 14 #[.iface 129 (.pointer (some ⟨b, 0, none⟩)), .agg #[.int .i64 n, .int .i64 p]] w fun e w' => e = .returned (.bool true) ∧ Below w.heap.size w w' := by
  have hbl : b < w.heap.size := (Array.getElem?_eq_some_iff.1 hb).1
  have hb0 : w.cell? ⟨b, 0, none⟩ = some (.int .i64 n) := by simp [World.cell?, hb]
  have hb1 : w.cell? ⟨b, 1, none⟩ = some (.int .i64 p) := by simp [World.cell?, hb]
  have HC : Hid _ := Place_at n p b (w.alloc (.cells #[.int .i64 n, .int .i64 p] 25)) (errType_later hg ((Below.refl _ _).alloc (Nat.le_refl _) _)) (by rw [World.cell?_alloc_past _ _ _ hbl]; exact hb0) (by rw [World.cell?_alloc_past _ _ _ hbl]; exact hb1) (by simp; omega)
  clear hg hb hb0 hb1
  go_enter Tryz.func14, Tryz.ntmps14
  go_wp2_with fail
  refine Calls.mono HC.out ?_
  rintro e w1 ⟨rfl, hb⟩
  obtain ⟨hc, hf⟩ := bcell hb
  have HB := hide hb
  clear hb
  go_wp2_with fail
  go_ret
  exact ⟨rfl, ((Below.refl _ _).alloc (Nat.le_refl _) _).trans ((unhide HB).mono (by simp))⟩

end Go.Proofs.YtodmgaikhbmlnaaGreatDoor
set_option maxRecDepth 100000
set_option maxHeartbeats 16000000
namespace Go.Proofs.YtodmgaikhbmlnaaGreatDoor
open Go.RowKit

theorem nb_of {B : Nat} {w : World} {t : Tr} {p : Nat} (h : NAt (From B) w t p) : NB w.heap.size w t p := NAt.mono (fun _ _ hl => hl) _ _ h
theorem tl_same (s : ByteArray) : (s.toList == s.toList) = true := by simp

theorem back_none (s : ByteArray) (w : World) (hT : Treed w) (hr : Calls Tryz.prog 24 #[.string s] w fun e w' => e = .returned (.tuple #[.pointer none, .bool false]) ∧ Below w.heap.size w w') :
    Calls Tryz.prog 5 #[.string s] w fun e w' => e = .returned (.bool true) ∧ Below w.heap.size w w' := by
  have HR := hide hr
  have HT := hide hT
  clear hr hT
  go_enter Tryz.func5, Tryz.ntmps5
  go_wp2_with fail
  refine Calls.mono HR.out ?_
  rintro e w1 ⟨rfl, hb1⟩
  have HB1 := hide hb1
  have HC := hide ((unhide HT) w1 hb1)
  clear hb1 HR
  go_wp2_with fail
  refine Calls.mono HC.out ?_
  rintro e w2 ⟨rfl, hb2⟩
  have HB2 := hide ((unhide HB1).trans (hb2.mono (unhide HB1).size))
  clear hb2 HC HB1
  have HC := hide ((unhide HT) w2 (unhide HB2))
  go_wp2_with fail
  refine Calls.mono HC.out ?_
  rintro e w3 ⟨rfl, hb3⟩
  have HB3 := hide ((unhide HB2).trans (hb3.mono (unhide HB2).size))
  clear hb3 HC
  go_wp2_with fail
  go_ret
  exact ⟨rfl, unhide HB3⟩

theorem back_some (s : ByteArray) (t : Tr) (w : World) (hs : parseS wordsS signsS s = .ok t) (hL : Lists wordsS signsS w) (hgs : ∀ g ∈ signsS, 1 ≤ g.size) (hTb : Tabs w) (hW : TabW w) (hE : errType w) (hT : Treed w)
    (hr : Calls Tryz.prog 24 #[.string s] w fun e w' => ∃ p, e = .returned (.tuple #[nPtr p, .bool true]) ∧ NAt (From w.heap.size) w' t p ∧ Below w.heap.size w w') :
    Calls Tryz.prog 5 #[.string s] w fun e w' => e = .returned (.bool true) ∧ Below w.heap.size w w' := by
  have hcnt := (parseS_kd hs).2
  have HR := hide hr
  have HT := hide hT
  have HTX := hide (fun (p : Nat) (W : World) (hb : Below w.heap.size w W) (hN : NB W.heap.size W t p) => textB_of hs p W hN (hTb.later hb) (hW.later hb))
  have HPA := hide (fun (W : World) (hb : Below w.heap.size w W) => parse_any wordsS signsS (textB t) W (hL.later hb) hgs (hTb.later hb))
  have HBP := hide (back_parse hs)
  have HE := hide hE
  have HSM := hide (fun (I J : Nat → Prop) (p q : Nat) (W : World) (h1 : NAt I W t p) (h2 : NAt J W t q) => same_any I J t.count t (Nat.le_refl _) (by omega) p q W h1 h2)
  generalize textB t = T at HTX HPA HBP
  clear hr hT hTb hW hL hgs hs hE hcnt
  go_enter Tryz.func5, Tryz.ntmps5
  go_wp2_with fail
  refine Calls.mono HR.out ?_
  rintro e w1 ⟨p, rfl, hn1, hb1⟩
  have HB1 := hide hb1
  have HN1 := hide hn1
  have HC := hide ((unhide HT) w1 hb1)
  clear hb1 hn1 HR
  go_wp2_with fail
  refine Calls.mono HC.out ?_
  rintro e w2 ⟨rfl, hb2⟩
  have HB2 := hide ((unhide HB1).trans (hb2.mono (unhide HB1).size))
  have HN2 : Hid (NAt (From w.heap.size) w2 t p) := NAt.later (I := From w.heap.size) (fun b _ hl => hb2.block b hl) _ _ (unhide HN1)
  clear hb2 HC HB1 HN1
  have HC := hide ((unhide HTX) p w2 (unhide HB2) (nb_of (unhide HN2)))
  go_wp2_with fail
  refine Calls.mono HC.out ?_
  rintro e w3 ⟨rfl, hb3⟩
  have HB3 := hide ((unhide HB2).trans (hb3.mono (unhide HB2).size))
  have HN3 : Hid (NAt (From w.heap.size) w3 t p) := NAt.later (I := From w.heap.size) (fun b _ hl => hb3.block b hl) _ _ (unhide HN2)
  clear hb3 HC HB2 HN2
  by_cases hz : 3000 < T.size
  · have hz2 : (3000 : Int) < (T.size : Int) := by omega
    go_wp2_with fail
    go_ret
    exact ⟨rfl, unhide HB3⟩
  · have hz2 : ¬ (3000 : Int) < (T.size : Int) := by omega
    have hpa := (unhide HPA) w3 (unhide HB3)
    rcases unhide HBP with h | h | ⟨pl, h⟩
    · rw [h] at hpa
      have HC : Hid (Calls Tryz.prog 13 #[.string T] w3 fun e w' => ∃ q, e = .returned (.tuple #[nPtr q, .nilIface]) ∧ NAt (From w3.heap.size) w' t q ∧ Below w3.heap.size w3 w') := hpa
      clear hpa h HPA HBP
      go_wp2_with fail
      refine Calls.mono HC.out ?_
      rintro e w4 ⟨q, rfl, hn4, hb4⟩
      have HB4 := hide ((unhide HB3).trans (hb4.mono (unhide HB3).size))
      have HN4 : Hid (NAt (From w.heap.size) w4 t p) := NAt.later (I := From w.heap.size) (fun b _ hl => hb4.block b hl) _ _ (unhide HN3)
      have HQ4 := hide hn4
      clear hb4 hn4 HC HB3 HN3
      have HC := hide ((unhide HSM) _ _ p q w4 (unhide HN4) (unhide HQ4))
      go_wp2_with fail
      refine Calls.mono HC.out ?_
      rintro e w5 ⟨rfl, hb5⟩
      have HB5 := hide ((unhide HB4).trans (hb5.mono (unhide HB4).size))
      have HQ5 : Hid (NB w5.heap.size w5 t q) := nb_of (NAt.later (I := From w3.heap.size) (fun b _ hl => hb5.block b hl) _ _ (unhide HQ4))
      clear hb5 HC HB4 HN4 HQ4
      have HC := hide ((unhide HTX) q w5 (unhide HB5) (unhide HQ5))
      go_wp2_with fail
      refine Calls.mono HC.out ?_
      rintro e w6 ⟨rfl, hb6⟩
      have HB6 := hide ((unhide HB5).trans (hb6.mono (unhide HB5).size))
      clear hb6 HC HB5
      have hsm := tl_same T
      go_wp2_with fail
      go_ret
      exact ⟨rfl, unhide HB6⟩
    · rw [h] at hpa
      have HC := hide hpa
      clear hpa h HPA HBP
      go_wp2_with fail
      refine Calls.mono HC.out ?_
      rintro e w4 ⟨rfl, hb4⟩
      have HB4 := hide ((unhide HB3).trans (hb4.mono (unhide HB3).size))
      clear hb4 HC HB3 HN3
      have HC := hide (Tell_hit 4 w4 (errType_later (unhide HE) (unhide HB4)))
      go_wp2_with fail
      refine Calls.mono HC.out ?_
      rintro e w5 ⟨rfl, hb5⟩
      have HB5 := hide ((unhide HB4).trans (hb5.mono (unhide HB4).size))
      clear hb5 HC HB4
      go_wp2_with fail
      go_ret
      exact ⟨rfl, unhide HB5⟩
    · rw [h] at hpa
      have HC := hide hpa
      clear hpa h HPA HBP
      go_wp2_with fail
      refine Calls.mono HC.out ?_
      rintro e w4 ⟨b, rfl, hb, hlo, hb4⟩
      have HB4 := hide ((unhide HB3).trans (hb4.mono (unhide HB3).size))
      have hbc : w4.cell? ⟨b, 0, none⟩ = some (.int .i64 4) := by rw [Lib.cell_of_heap hb]; rfl
      have HC2 := hide (Tell_at 4 b w4 (errType_later (unhide HE) (unhide HB4)) hbc (lt_of_heap hb))
      clear hb4 HC HB3 HN3 hb hbc hlo
      go_wp2_with fail
      refine Calls.mono HC2.out ?_
      rintro e w5 ⟨rfl, hb5⟩
      have HB5 := hide ((unhide HB4).trans (hb5.mono (unhide HB4).size))
      clear hb5 HC2 HB4
      go_wp2_with fail
      go_ret
      exact ⟨rfl, unhide HB5⟩

theorem back_any (s : ByteArray) (w : World) (hL : Lists wordsS signsS w) (hgs : ∀ g ∈ signsS, 1 ≤ g.size) (hTb : Tabs w) (hW : TabW w) (hE : errType w) :
    Calls Tryz.prog 5 #[.string s] w fun e w' => e = .returned (.bool true) ∧ Below w.heap.size w w' := by
  have hT := treed_all w hL hgs hTb hW
  have hr := read_any22 wordsS signsS s w hL hgs hTb
  cases hp : parseS wordsS signsS s with
  | ok t => rw [hp] at hr; exact back_some s t w hp hL hgs hTb hW hE hT hr
  | «at» er pl => rw [hp] at hr; exact back_none s w hT hr
  | bare => rw [hp] at hr; exact back_none s w hT hr
end Go.Proofs.YtodmgaikhbmlnaaGreatDoor
