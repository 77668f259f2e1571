/-
  Tell, Place and at: an error taken apart.
-/
import Derived.Test.YtodmgaikhbmlnaaGreatDoorEc45
import Derived.WalkSmall
import Derived.Deep.QuietTactic
import Derived.BigQuiet
namespace Go.Proofs.YtodmgaikhbmlnaaGreatDoor
open Go.RowKit Go.Extern.Stop Go.Stop Go.Extern
abbrev errType (w : World) : Prop := w.cell? ⟨1, 0, none⟩ = some (.iface 187 (.agg #[.pointer (some ⟨13, 29, none⟩)]))
theorem lt_of_errType {w : World} (h : errType w) : 1 < w.heap.size := by
 rcases Nat.lt_or_ge 1 w.heap.size with h' | h'
 ·
  exact h'
 ·
  simp [errType, World.cell?, Array.getElem?_eq_none h'] at h
theorem errType_later {w w' : World} (h : errType w) (hb : Below w.heap.size w w') : errType w' := by
 unfold errType
 rw [hb.cell (p := ⟨1, 0, none⟩) (lt_of_errType h)]; exact h
section
variable (n : Int) (w : World) (hg : errType w)
include n w hg
set_option maxRecDepth 100000 in
set_option maxHeartbeats 1000000 in
theorem Tell_hit :
  Calls Tryz.prog 26 #[.iface 23 (.int .i64 n)] w fun e w' => e = .returned (.int .i64 n) ∧ Below w.heap.size w w' := by
 have hgl := lt_of_errType hg
 obtain ⟨W1, hW1⟩ : ∃ W1, W1 = w.alloc (.cells #[.int .i64 0] 23) := ⟨_, rfl⟩
 have hT : W1.cell? ⟨w.heap.size, 0, none⟩ = some (.int .i64 0) := by rw [hW1, World.cell?_alloc_at _ _ _ _ rfl]; rfl
 have hF : W1.frozen? ⟨w.heap.size, 0, none⟩ = false := by rw [hW1]; exact World.frozen?_alloc_at _ _ _ _ rfl
 have hz1 : W1.heap.size = w.heap.size + 1 := by rw [hW1]; simp
 have hg1 : errType W1 := by unfold errType; rw [hW1, World.cell?_alloc_past _ _ _ hgl]; exact hg
 have hB1 : Below w.heap.size w W1 := by rw [hW1]; exact (Below.refl _ _).alloc (Nat.le_refl _) _
 have HC : Hid _ := As_hit n w.heap.size W1 hT hF (by omega) hg1
 have HB1 := hide hB1
 rw [hW1] at HC HB1
 clear hB1 hg1 hz1 hF hT hW1 W1 hgl
 go_enter Tryz.func26, Tryz.ntmps26
 go_wp2_with fail
 refine cm HC.out ?_
 rintro e w2 ⟨rfl, hc2, hb2⟩
 have HB2 := hide hb2
 clear hb2
 go_wp2_with fail
 go_ret
 exact ⟨rfl, HB1.out.trans HB2.out⟩
set_option maxRecDepth 100000 in
set_option maxHeartbeats 1000000 in
theorem Place_hit :
  Calls Tryz.prog 53 #[.iface 23 (.int .i64 n)] w fun e w' => e = .returned (.tuple #[.int .i64 n, .int .i64 (-1)]) ∧ Below w.heap.size w w' := by
 have n61 : ∀ (v : Value) (xT : TypeId) (w : World), (Instr.typeAssert (.iface 23 v) xT 135 true).run Tryz.prog w = .ok (.tuple #[.nilIface, .bool false]) w := fun v xT w => run_typeAssert_lacksB Tryz.underlying135 (by kernel_rfl) (by kernel_rfl) v xT w
 have a23 : ∀ w : World, (Instr.typeAssert (.iface 23 (.int .i64 n)) 29 129 true).run Tryz.prog w = .ok (.tuple #[.pointer none, .bool false]) w := fun w => by kernel_rfl
 have HG := hide hg
 clear hg
 go_enter Tryz.func53, Tryz.ntmps53
 go_wp2_with fail
 refine (Tell_hit n w HG.out).mono ?_
 rintro e w1 ⟨rfl, hb⟩
 have HB := hide hb
 clear hb
 go_wp2_with fail
 refine wp_loop_rounds 1 ?_
 rw [rounds_succ]
 go_wp2_with fail
 go_ret2
 exact ⟨rfl, HB.out⟩
set_option maxRecDepth 100000 in
set_option maxHeartbeats 1000000 in
theorem at_hit :
  Calls Tryz.prog 14 #[.iface 23 (.int .i64 n), .agg #[.int .i64 n, .int .i64 (-1)]] w fun e w' => e = .returned (.bool true) ∧ Below w.heap.size w w' := by
 have HC : Hid _ := Place_hit n (w.alloc (.cells #[.int .i64 n, .int .i64 (-1)] 25)) (errType_later hg ((Below.refl _ _).alloc (Nat.le_refl _) _))
 clear hg
 go_enter Tryz.func14, Tryz.ntmps14
 go_wp2_with fail
 refine cm HC.out ?_
 rintro e w1 ⟨rfl, hb⟩
 obtain ⟨hc, hf⟩ := bcell hb
 have HB := hide hb
 clear hb
 go_wp2_with fail
 go_ret
 exact ⟨rfl, ((Below.refl _ _).alloc (Nat.le_refl _) _).trans (HB.out.mono (by simp))⟩
end
end Go.Proofs.YtodmgaikhbmlnaaGreatDoor
set_option maxRecDepth 100000
set_option maxHeartbeats 16000000
namespace Go.Proofs.YtodmgaikhbmlnaaGreatDoor
open Go.RowKit
theorem ecTell_none (w : World) : Calls Tryz.prog 26 #[.nilIface] w fun e w' => e = .returned (.int .i64 0) ∧ w' = w := by
 go_enter Tryz.func26, Tryz.ntmps26
 go_wp2_with fail
 go_ret
 exact ⟨rfl, rfl⟩
theorem ecPlace_none (w : World) : Calls Tryz.prog 53 #[.nilIface] w fun e w' => e = .returned (.tuple #[.int .i64 0, .int .i64 (-1)]) ∧ w' = w := by
 go_enter Tryz.func53, Tryz.ntmps53
 go_wp2_with fail
 refine (ecTell_none w).mono ?_
 rintro e w1 ⟨rfl, rfl⟩
 go_wp2_with fail
 refine wp_loop_rounds 1 ?_
 rw [rounds_succ]
 go_wp2_with fail
 go_ret2
 exact ⟨rfl, rfl⟩
theorem ecAt_none (w : World) : Calls Tryz.prog 14 #[.nilIface, .agg #[.int .i64 0, .int .i64 (-1)]] w fun e w' => e = .returned (.bool true) ∧ Below w.heap.size w w' := by
 have HC : Hid _ := ecPlace_none (w.alloc (.cells #[.int .i64 0, .int .i64 (-1)] 25))
 go_enter Tryz.func14, Tryz.ntmps14
 go_wp2_with fail
 refine cm HC.out ?_
 rintro e w1 ⟨rfl, rfl⟩
 clear HC
 go_wp2_with fail
 go_ret
 exact ⟨rfl, (Below.refl _ _).alloc (Nat.le_refl _) _⟩
theorem ecRBare_any (e : Int) (w : World) : Calls Tryz.prog 49 #[.int .i64 e] w fun r w' => r = .returned (.agg #[.int .i64 e, .int .i64 (-1)]) ∧ Below w.heap.size w w' := by
 go_enter Tryz.func49, Tryz.ntmps49
 go_wp2_with fail
 refine bodyPost_ret (v := .agg #[.int .i64 e, .int .i64 (-1)]) (by simp [results, go_sem]) rfl ⟨rfl, ?_⟩
 exact (Below.refl _ _).alloc (Nat.le_refl _) _
def eN : Option Int → Int
 | none => 0
 | some e => e
theorem eI_eq (o : Option Int) : eI o = .int .i64 (eN o) := by cases o <;> rfl
section
variable (o : Option Int) (w : World) (hg : errType w)
include o w hg
theorem atE_any : Calls Tryz.prog 14 #[erV o, .agg #[.int .i64 (eN o), .int .i64 (-1)]] w fun e w' => e = .returned (.bool true) ∧ Below w.heap.size w w' := by
 cases o with
 | none => exact ecAt_none w
 | some e => exact at_hit e w hg
theorem ecBare_any : Calls Tryz.prog 41 #[erV o, eI o] w fun e w' => e = .returned (.bool true) ∧ Below w.heap.size w w' := by
 rw [eI_eq]
 have HC1 := hide (ecRBare_any (eN o) w)
 have HC2 := hide (fun W (hb : Below w.heap.size w W) => atE_any o W (errType_later hg hb))
 clear hg
 generalize eN o = n at HC1 HC2
 generalize erV o = v at HC2
 go_enter Tryz.func41, Tryz.ntmps41
 go_wp2_with fail
 refine cm HC1.out ?_
 rintro e w1 ⟨rfl, hb1⟩
 have HB1 := hide hb1
 clear HC1 hb1
 go_wp2_with fail
 refine cm (unhide HC2 w1 HB1.out) ?_
 rintro e w2 ⟨rfl, hb2⟩
 have HB2 := hide (HB1.out.trans (hb2.mono HB1.out.size))
 clear HC2 hb2
 go_wp2_with fail
 go_ret
 exact ⟨rfl, HB2.out⟩
end
theorem ecCheck_nil (s i : Bool) (w : World) : Calls Tryz.prog 42 #[.pointer none, .bool s, .bool i] w fun e w' => e = .returned .nilIface ∧ w' = w := by
 go_enter Tryz.func42, Tryz.ntmps42
 go_wp2_with fail
 go_ret
 exact ⟨rfl, rfl⟩
theorem ech_none (x : ByteArray) (s i : Bool) (w : World) (h : Calls Tryz.prog 19 #[.string x] w (BoPost none w)) : Calls Tryz.prog 10 #[.string x, .bool s, .bool i] w fun e w' => e = .returned (.bool true) ∧ Below w.heap.size w w' := by
 have HC := hide h
 clear h
 go_enter Tryz.func10, Tryz.ntmps10
 go_wp2_with fail
 refine cm HC.out ?_
 rintro e w1 ⟨rfl, hb⟩
 have HB1 := hide hb
 clear hb HC
 go_wp2_with fail
 go_ret
 exact ⟨rfl, HB1.out⟩
theorem ech_some {Nm : ByteArray → Prop} (x : ByteArray) (t : Tr) (s i : Bool) (w : World) (hE : errType w) (hc : t.count ≤ 1500) (hsh : Shp Nm 9 t) (hill : t.ill = 0) (h : Calls Tryz.prog 19 #[.string x] w (BoPost (some t) w)) : Calls Tryz.prog 10 #[.string x, .bool s, .bool i] w fun e w' => e = .returned (.bool true) ∧ Below w.heap.size w w' := by
 have HC := hide h
 have HE := hide hE
 have HSH := hide hsh
 have HIL := hide hill
 clear h hE hsh hill
 go_enter Tryz.func10, Tryz.ntmps10
 go_wp2_with fail
 refine cm HC.out ?_
 rintro e w1 ⟨p, q, rfl, hnp, hnq, hb⟩
 have HB1 := hide hb
 have HNQ := hide (NAt.nt hnq)
 have HC1 := hide (Check_any t p s i w1 (NAt.nt hnp) HIL.out (by omega))
 have HC2 : Hid (∀ X, Below w1.heap.size w1 X → Calls Tryz.prog 43 #[nPtr q, .bool s, .bool i] X fun e w' => e = .returned (eI (chk t s i false)) ∧ Below X.heap.size X w') := fun X hX => by
  rw [← early_eq HSH.out]; exact rEarly_any t HSH.out q s i X (HNQ.out.later hX) hc
 have HC3 : Hid (∀ X, Below w1.heap.size w1 X → Calls Tryz.prog 41 #[erV (chk t s i false), eI (chk t s i false)] X fun e w' => e = .returned (.bool true) ∧ Below X.heap.size X w') := fun X hX =>
  ecBare_any _ X (errType_later HE.out (HB1.out.trans (hX.mono HB1.out.size)))
 clear hb HC hnp hnq hc HE
 generalize chk t s i false = o at HC1 HC2 HC3
 generalize erV o = v at HC1 HC3
 generalize eI o = z at HC2 HC3
 go_wp2_with fail
 refine cm HC1.out ?_
 rintro e w2 ⟨rfl, hb2⟩
 have HB2 := hide hb2
 clear HC1 hb2
 go_wp2_with fail
 refine cm (unhide HC2 w2 HB2.out) ?_
 rintro e w3 ⟨rfl, hb3⟩
 have HB3 := hide (HB2.out.trans (hb3.mono HB2.out.size))
 clear HC2 hb3
 go_wp2_with fail
 refine cm (unhide HC3 w3 HB3.out) ?_
 rintro e w4 ⟨rfl, hb4⟩
 have HB4 := hide (HB3.out.trans (hb4.mono HB3.out.size))
 clear HC3 hb4
 go_wp2_with fail
 refine cm (ecCheck_nil s i w4) ?_
 rintro e w5 ⟨rfl, rfl⟩
 go_wp2_with fail
 go_ret
 exact ⟨rfl, HB1.out.trans (HB4.out.mono HB1.out.size)⟩
theorem ech_any (ws gs : List ByteArray) (x : ByteArray) (s i : Bool) (w : World) (hL : Lists ws gs w) (hT : Tabs w) (hR : RefLists ws w) (hE : errType w) (hg : gs = signsS) (hws : ∀ x ∈ ws, sgP 2 x = none) : Calls Tryz.prog 10 #[.string x, .bool s, .bool i] w fun e w' => e = .returned (.bool true) ∧ Below w.heap.size w w' := by
 have hb := both_any ws gs x w hL hT hR hg hws
 cases h : bothS ws x with
 | none => rw [h] at hb; exact ech_none x s i w hb
 | some t =>
  rw [h] at hb; have h1 := bothS_count hg hws h; obtain ⟨l, _, hsh⟩ := parse_sh h1.2.2; exact ech_some x t s i w hE h1.1 hsh (parse_ill h1.2.2) hb
end Go.Proofs.YtodmgaikhbmlnaaGreatDoor
