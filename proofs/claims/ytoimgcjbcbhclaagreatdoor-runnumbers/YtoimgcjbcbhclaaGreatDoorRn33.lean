/-
  Rounds of the reference's Tokens: blanks, words and names.
-/
import Derived.Test.YtoimgcjbcbhclaaGreatDoorRn32
set_option maxRecDepth 100000
set_option maxHeartbeats 16000000
namespace Go.Proofs.YtoimgcjbcbhclaaGreatDoor
open Go.RowKit
theorem way_gap1 (ws : List ByteArray) (s : ByteArray) (w wr : World) (r : TR) (K : Act → World → Prop) (f : Nat → Value) (v : Value) (j : Nat) (acc : List Tk) (hs : s.size ≤ 3000) (hlt : j < s.size) (hal : acc.length ≤ j) (hL : RefLists ws w)
  (he : zj7 ws signsS s (zz3 gapB s j) acc = r) (hinv : RInv w acc v wr)
  (hgap : gapB (s[j].toNat : Int) = true) (g1 : (((s[j].toNat : Nat) : Int) == 32) = true) :
  Code.wp Tryz.prog zh4 (Q6 ws s w r K (s.size - j)) (fr s w.heap.size v (.int .i64 (j : Int)) f) wr := by
 have _h1 := hL
 have _h2 := hal
 clear _h1 _h2
 have HST := qh ((congrArg (fun p => zj7 ws signsS s p acc) (zxj gapB s j hlt hgap)).trans he)
 have HI := qh hinv
 clear he hinv hgap hL
 conv => arg 2; whnf
 unfold fr Q6
 go_wp2_with fail
 exact ⟨znx (j + 1) acc v (by omega) (by omega) HST.out HI.out (by kernel_rfl), by simp [mu6, intOf]; omega⟩
theorem way_gap2 (ws : List ByteArray) (s : ByteArray) (w wr : World) (r : TR) (K : Act → World → Prop) (f : Nat → Value) (v : Value) (j : Nat) (acc : List Tk) (hs : s.size ≤ 3000) (hlt : j < s.size) (hal : acc.length ≤ j) (hL : RefLists ws w)
  (he : zj7 ws signsS s (zz3 gapB s j) acc = r) (hinv : RInv w acc v wr)
  (hgap : gapB (s[j].toNat : Int) = true) (g1 : (((s[j].toNat : Nat) : Int) == 32) = false) (g2 : (((s[j].toNat : Nat) : Int) == 10) = true) :
  Code.wp Tryz.prog zh4 (Q6 ws s w r K (s.size - j)) (fr s w.heap.size v (.int .i64 (j : Int)) f) wr := by
 have _h1 := hL
 have _h2 := hal
 clear _h1 _h2
 have HST := qh ((congrArg (fun p => zj7 ws signsS s p acc) (zxj gapB s j hlt hgap)).trans he)
 have HI := qh hinv
 clear he hinv hgap hL
 conv => arg 2; whnf
 unfold fr Q6
 go_wp2_with fail
 exact ⟨znx (j + 1) acc v (by omega) (by omega) HST.out HI.out (by kernel_rfl), by simp [mu6, intOf]; omega⟩
theorem way_word_mid (ws : List ByteArray) (s : ByteArray) (w wr : World) (r : TR) (K : Act → World → Prop) (f : Nat → Value) (v : Value) (j : Nat) (acc : List Tk) (hs : s.size ≤ 3000) (hlt : j < s.size) (hal : acc.length ≤ j) (hL : RefLists ws w)
  (he : zj7 ws signsS s (zz3 gapB s j) acc = r) (hinv : RInv w acc v wr) (hng : gapB (s[j].toNat : Int) = false)
  (hlet : letB (s[j].toNat : Int) = true) (e : Nat) (hee : zz3 lodB s j = e) (hge : j < e) (hes : e ≤ s.size) (hex : e < s.size) (hw : isIn ws (s.extract j e) = true) (hrd : zj6 ws signsS s j = .tok 2 (s.extract j e) 0 e) :
  Code.wp Tryz.prog zh4 (Q6 ws s w r K (s.size - j)) (fr s w.heap.size v (.int .i64 (j : Int)) f) wr := by
 have _h3 := hge
 clear _h3
 have _h1 := hL
 have _h2 := hal
 clear _h1 _h2
 obtain ⟨i0, hi, hz0, hz1, hz2⟩ := info_parts zw3
 have hps := zqq gapB s j hlt hng
 rw [hps] at he
 have HE := qh he
 have hng2 := hng
 simp only [gapB, Bool.or_eq_false_iff] at hng2
 obtain ⟨g1, g2⟩ := hng2
 have HI := qh hinv
 obtain ⟨rc0, rc1, rf0, rf1⟩ := hinv.cells
 have HLR := qh (hinv.lists hL)
 clear he hinv hng hps hL
 have HST := qh ((zv7 ws signsS s j acc (2) (0) (s.extract j e) e hlt hrd (by omega)).symm.trans HE.out)
 have HEE := qh hee
 have HLET := qh hlet
 have HW := qh hw
 clear hee hlet hw HE hrd
 conv => arg 2; whnf
 unfold fr Q6
 go_wp2_with fail
 refine (zz2 _ _).mono ?_
 rw [HLET.out]
 rintro e1 w1 ⟨rfl, rfl⟩
 go_wp2_with fail
 go_loop [5] (fun v => ∃ q : Nat, j ≤ q ∧ q ≤ e ∧ v = .int .i64 q ∧ zz3 lodB s q = e) (fun v => s.size - (intOf v).toNat)
 case atStart => exact ⟨j, Nat.le_refl _, by omega, rfl, HEE.out⟩
 case round =>
  obtain ⟨q, hq1, hq2, rfl, hqe⟩ := hrel
  by_cases hqs : q < s.size
  ·
   cases hl : letB (s[q].toNat : Int)
   ·
    cases hd : digB (s[q].toNat : Int)
    ·
     have hst := zqq lodB s q hqs (by unfold lodB; rw [hl, hd]; rfl)
     have hqq : e = q := by omega
     subst hqq; have HL1 := qh hl; have HD1 := qh hd; clear hl hd hst hqe; go_wp2_with fail; refine (zz2 _ _).mono ?_; rw [HL1.out]; rintro e2 w2 ⟨rfl, rfl⟩; go_wp2_with fail; refine (zz5 _ _).mono ?_
     rw [HD1.out]; rintro e2 w2 ⟨rfl, rfl⟩; go_wp2_with fail; refine (HLR.out.word (s.extract j e)).mono ?_; rw [HW.out]; rintro e3 w3 ⟨rfl, rfl⟩
     go_wp2_with (at_builtin; refine wpList_append_own _ rfl _ _ 161 rfl (w.heap.size + 1) 167 i0 zwv 4 40 Tryz.underlying161 hi hz0 hz1 hz2 rfl (by decide) _ _ _ rfl (HI.out.own.alloc _) ⟨w3.heap.size, 0, none⟩ 1 1 [.int .i64 2, .string (s.extract j e), .int .i64 0, .int .i64 (j : Int)] rfl rfl ?c1 ?c2 ?c3 ?c4 ?c5 ?_)
     case c1 =>
      intro j u hj
      match j, hj with
      | 0, hj => simp at hj; subst hj; simp [Addr.add]
      | 1, hj => simp at hj; subst hj; simp [Addr.add]
      | 2, hj => simp at hj; subst hj; simp [Addr.add]
      | 3, hj => simp at hj; subst hj; simp [Addr.add]
     case c2 =>
      intro u hu; simp only [List.mem_cons, List.not_mem_nil, or_false] at hu
      rcases hu with rfl | rfl | rfl | rfl <;> rfl
     case c3 => unfold maxLen; omega
     case c4 => omega
     case c5 => have := HI.out.size; simp; omega
     intro v' w5 hown' hgrow _; have HI5 := qh (HI.out.app (t := Tk.mk 2 (s.extract j e) 0 j) _ hown' hgrow); clear hown' hgrow; go_wp2_with fail
     exact ⟨znx e (acc ++ [Tk.mk 2 (s.extract j e) 0 j]) v' hes (by simp; omega) HST.out HI5.out (by kernel_rfl), by simp [mu6, intOf]; omega⟩
    ·
     have HST1 := qh ((zxj lodB s q hqs (by unfold lodB; rw [hl, hd]; rfl)).trans hqe)
     have hle := zq8 lodB s (q + 1); rw [HST1.out] at hle; have HL1 := qh hl; have HD1 := qh hd; clear hl hd hqe; go_wp2_with fail; refine (zz2 _ _).mono ?_; rw [HL1.out]; rintro e2 w2 ⟨rfl, rfl⟩
     go_wp2_with fail; refine (zz5 _ _).mono ?_; rw [HD1.out]; rintro e2 w2 ⟨rfl, rfl⟩; go_wp2_with fail
     go_round
     case rel => exact ⟨q + 1, by omega, by omega, by go_num, HST1.out⟩
     case measure => simp [intOf]; omega
   ·
    have HST1 := qh ((zxj lodB s q hqs (by unfold lodB; rw [hl]; rfl)).trans hqe)
    have hle := zq8 lodB s (q + 1); rw [HST1.out] at hle; have HL1 := qh hl; clear hl hqe; go_wp2_with fail; refine (zz2 _ _).mono ?_; rw [HL1.out]; rintro e2 w2 ⟨rfl, rfl⟩; go_wp2_with fail
    go_round
    case rel => exact ⟨q + 1, by omega, by omega, by go_num, HST1.out⟩
    case measure => simp [intOf]; omega
  ·
   exfalso; omega
theorem way_word_end (ws : List ByteArray) (s : ByteArray) (w wr : World) (r : TR) (K : Act → World → Prop) (f : Nat → Value) (v : Value) (j : Nat) (acc : List Tk) (hs : s.size ≤ 3000) (hlt : j < s.size) (hal : acc.length ≤ j) (hL : RefLists ws w)
  (he : zj7 ws signsS s (zz3 gapB s j) acc = r) (hinv : RInv w acc v wr) (hng : gapB (s[j].toNat : Int) = false)
  (hlet : letB (s[j].toNat : Int) = true) (e : Nat) (hee : zz3 lodB s j = e) (hge : j < e) (hes : e ≤ s.size) (hex : e = s.size) (hw : isIn ws (s.extract j e) = true) (hrd : zj6 ws signsS s j = .tok 2 (s.extract j e) 0 e) :
  Code.wp Tryz.prog zh4 (Q6 ws s w r K (s.size - j)) (fr s w.heap.size v (.int .i64 (j : Int)) f) wr := by
 have _h3 := hge
 clear _h3
 have _h1 := hL
 have _h2 := hal
 clear _h1 _h2
 obtain ⟨i0, hi, hz0, hz1, hz2⟩ := info_parts zw3
 have hps := zqq gapB s j hlt hng
 rw [hps] at he
 have HE := qh he
 have hng2 := hng
 simp only [gapB, Bool.or_eq_false_iff] at hng2
 obtain ⟨g1, g2⟩ := hng2
 have HI := qh hinv
 obtain ⟨rc0, rc1, rf0, rf1⟩ := hinv.cells
 have HLR := qh (hinv.lists hL)
 clear he hinv hng hps hL
 have HST := qh ((zv7 ws signsS s j acc (2) (0) (s.extract j e) e hlt hrd (by omega)).symm.trans HE.out)
 have HEE := qh hee
 have HLET := qh hlet
 have HW := qh hw
 clear hee hlet hw HE hrd
 have hex2 : s.size ≤ e := by omega
 clear hex
 conv => arg 2; whnf
 unfold fr Q6
 go_wp2_with fail
 refine (zz2 _ _).mono ?_
 rw [HLET.out]
 rintro e1 w1 ⟨rfl, rfl⟩
 go_wp2_with fail
 go_loop [5] (fun v => ∃ q : Nat, j ≤ q ∧ q ≤ e ∧ v = .int .i64 q ∧ zz3 lodB s q = e) (fun v => s.size - (intOf v).toNat)
 case atStart => exact ⟨j, Nat.le_refl _, by omega, rfl, HEE.out⟩
 case round =>
  obtain ⟨q, hq1, hq2, rfl, hqe⟩ := hrel
  by_cases hqs : q < s.size
  ·
   cases hl : letB (s[q].toNat : Int)
   ·
    cases hd : digB (s[q].toNat : Int)
    ·
     have hst := zqq lodB s q hqs (by unfold lodB; rw [hl, hd]; rfl)
     exfalso; omega
    ·
     have HST1 := qh ((zxj lodB s q hqs (by unfold lodB; rw [hl, hd]; rfl)).trans hqe)
     have hle := zq8 lodB s (q + 1); rw [HST1.out] at hle; have HL1 := qh hl; have HD1 := qh hd; clear hl hd hqe; go_wp2_with fail; refine (zz2 _ _).mono ?_; rw [HL1.out]; rintro e2 w2 ⟨rfl, rfl⟩
     go_wp2_with fail; refine (zz5 _ _).mono ?_; rw [HD1.out]; rintro e2 w2 ⟨rfl, rfl⟩; go_wp2_with fail
     go_round
     case rel => exact ⟨q + 1, by omega, by omega, by go_num, HST1.out⟩
     case measure => simp [intOf]; omega
   ·
    have HST1 := qh ((zxj lodB s q hqs (by unfold lodB; rw [hl]; rfl)).trans hqe)
    have hle := zq8 lodB s (q + 1); rw [HST1.out] at hle; have HL1 := qh hl; clear hl hqe; go_wp2_with fail; refine (zz2 _ _).mono ?_; rw [HL1.out]; rintro e2 w2 ⟨rfl, rfl⟩; go_wp2_with fail
    go_round
    case rel => exact ⟨q + 1, by omega, by omega, by go_num, HST1.out⟩
    case measure => simp [intOf]; omega
  ·
   have hqq : e = q := by have := zw5 lodB s q (by omega); omega
   subst hqq; clear hqe; go_wp2_with fail; refine (HLR.out.word (s.extract j e)).mono ?_; rw [HW.out]; rintro e3 w3 ⟨rfl, rfl⟩
   go_wp2_with (at_builtin; refine wpList_append_own _ rfl _ _ 161 rfl (w.heap.size + 1) 167 i0 zwv 4 40 Tryz.underlying161 hi hz0 hz1 hz2 rfl (by decide) _ _ _ rfl (HI.out.own.alloc _) ⟨w3.heap.size, 0, none⟩ 1 1 [.int .i64 2, .string (s.extract j e), .int .i64 0, .int .i64 (j : Int)] rfl rfl ?c1 ?c2 ?c3 ?c4 ?c5 ?_)
   case c1 =>
    intro j u hj
    match j, hj with
    | 0, hj => simp at hj; subst hj; simp [Addr.add]
    | 1, hj => simp at hj; subst hj; simp [Addr.add]
    | 2, hj => simp at hj; subst hj; simp [Addr.add]
    | 3, hj => simp at hj; subst hj; simp [Addr.add]
   case c2 =>
    intro u hu; simp only [List.mem_cons, List.not_mem_nil, or_false] at hu
    rcases hu with rfl | rfl | rfl | rfl <;> rfl
   case c3 => unfold maxLen; omega
   case c4 => omega
   case c5 => have := HI.out.size; simp; omega
   intro v' w5 hown' hgrow _; have HI5 := qh (HI.out.app (t := Tk.mk 2 (s.extract j e) 0 j) _ hown' hgrow); clear hown' hgrow; go_wp2_with fail
   exact ⟨znx e (acc ++ [Tk.mk 2 (s.extract j e) 0 j]) v' hes (by simp; omega) HST.out HI5.out (by kernel_rfl), by simp [mu6, intOf]; omega⟩
theorem way_name_mid (ws : List ByteArray) (s : ByteArray) (w wr : World) (r : TR) (K : Act → World → Prop) (f : Nat → Value) (v : Value) (j : Nat) (acc : List Tk) (hs : s.size ≤ 3000) (hlt : j < s.size) (hal : acc.length ≤ j) (hL : RefLists ws w)
  (he : zj7 ws signsS s (zz3 gapB s j) acc = r) (hinv : RInv w acc v wr) (hng : gapB (s[j].toNat : Int) = false)
  (hlet : letB (s[j].toNat : Int) = true) (e : Nat) (hee : zz3 lodB s j = e) (hge : j < e) (hes : e ≤ s.size) (hex : e < s.size) (hw : isIn ws (s.extract j e) = false) (h20 : ¬ 20 < e - j) (hrd : zj6 ws signsS s j = .tok 1 (s.extract j e) 0 e) :
  Code.wp Tryz.prog zh4 (Q6 ws s w r K (s.size - j)) (fr s w.heap.size v (.int .i64 (j : Int)) f) wr := by
 have _h3 := hge
 clear _h3
 have _h1 := hL
 have _h2 := hal
 clear _h1 _h2
 obtain ⟨i0, hi, hz0, hz1, hz2⟩ := info_parts zw3
 have hps := zqq gapB s j hlt hng
 rw [hps] at he
 have HE := qh he
 have hng2 := hng
 simp only [gapB, Bool.or_eq_false_iff] at hng2
 obtain ⟨g1, g2⟩ := hng2
 have HI := qh hinv
 obtain ⟨rc0, rc1, rf0, rf1⟩ := hinv.cells
 have HLR := qh (hinv.lists hL)
 clear he hinv hng hps hL
 have HST := qh ((zv7 ws signsS s j acc (1) (0) (s.extract j e) e hlt hrd (by omega)).symm.trans HE.out)
 have HEE := qh hee
 have HLET := qh hlet
 have HW := qh hw
 clear hee hlet hw HE hrd
 conv => arg 2; whnf
 unfold fr Q6
 go_wp2_with fail
 refine (zz2 _ _).mono ?_
 rw [HLET.out]
 rintro e1 w1 ⟨rfl, rfl⟩
 go_wp2_with fail
 go_loop [5] (fun v => ∃ q : Nat, j ≤ q ∧ q ≤ e ∧ v = .int .i64 q ∧ zz3 lodB s q = e) (fun v => s.size - (intOf v).toNat)
 case atStart => exact ⟨j, Nat.le_refl _, by omega, rfl, HEE.out⟩
 case round =>
  obtain ⟨q, hq1, hq2, rfl, hqe⟩ := hrel
  by_cases hqs : q < s.size
  ·
   cases hl : letB (s[q].toNat : Int)
   ·
    cases hd : digB (s[q].toNat : Int)
    ·
     have hst := zqq lodB s q hqs (by unfold lodB; rw [hl, hd]; rfl)
     have hqq : e = q := by omega
     subst hqq; have HL1 := qh hl; have HD1 := qh hd; clear hl hd hst hqe; go_wp2_with fail; refine (zz2 _ _).mono ?_; rw [HL1.out]; rintro e2 w2 ⟨rfl, rfl⟩; go_wp2_with fail; refine (zz5 _ _).mono ?_
     rw [HD1.out]; rintro e2 w2 ⟨rfl, rfl⟩; go_wp2_with fail; refine (HLR.out.word (s.extract j e)).mono ?_; rw [HW.out]; rintro e3 w3 ⟨rfl, rfl⟩
     go_wp2_with (at_builtin; refine wpList_append_own _ rfl _ _ 161 rfl (w.heap.size + 1) 167 i0 zwv 4 40 Tryz.underlying161 hi hz0 hz1 hz2 rfl (by decide) _ _ _ rfl (HI.out.own.alloc _) ⟨w3.heap.size, 0, none⟩ 1 1 [.int .i64 1, .string (s.extract j e), .int .i64 0, .int .i64 (j : Int)] rfl rfl ?c1 ?c2 ?c3 ?c4 ?c5 ?_)
     case c1 =>
      intro j u hj
      match j, hj with
      | 0, hj => simp at hj; subst hj; simp [Addr.add]
      | 1, hj => simp at hj; subst hj; simp [Addr.add]
      | 2, hj => simp at hj; subst hj; simp [Addr.add]
      | 3, hj => simp at hj; subst hj; simp [Addr.add]
     case c2 =>
      intro u hu; simp only [List.mem_cons, List.not_mem_nil, or_false] at hu
      rcases hu with rfl | rfl | rfl | rfl <;> rfl
     case c3 => unfold maxLen; omega
     case c4 => omega
     case c5 => have := HI.out.size; simp; omega
     intro v' w5 hown' hgrow _; have HI5 := qh (HI.out.app (t := Tk.mk 1 (s.extract j e) 0 j) _ hown' hgrow); clear hown' hgrow; go_wp2_with fail
     exact ⟨znx e (acc ++ [Tk.mk 1 (s.extract j e) 0 j]) v' hes (by simp; omega) HST.out HI5.out (by kernel_rfl), by simp [mu6, intOf]; omega⟩
    ·
     have HST1 := qh ((zxj lodB s q hqs (by unfold lodB; rw [hl, hd]; rfl)).trans hqe)
     have hle := zq8 lodB s (q + 1); rw [HST1.out] at hle; have HL1 := qh hl; have HD1 := qh hd; clear hl hd hqe; go_wp2_with fail; refine (zz2 _ _).mono ?_; rw [HL1.out]; rintro e2 w2 ⟨rfl, rfl⟩
     go_wp2_with fail; refine (zz5 _ _).mono ?_; rw [HD1.out]; rintro e2 w2 ⟨rfl, rfl⟩; go_wp2_with fail
     go_round
     case rel => exact ⟨q + 1, by omega, by omega, by go_num, HST1.out⟩
     case measure => simp [intOf]; omega
   ·
    have HST1 := qh ((zxj lodB s q hqs (by unfold lodB; rw [hl]; rfl)).trans hqe)
    have hle := zq8 lodB s (q + 1); rw [HST1.out] at hle; have HL1 := qh hl; clear hl hqe; go_wp2_with fail; refine (zz2 _ _).mono ?_; rw [HL1.out]; rintro e2 w2 ⟨rfl, rfl⟩; go_wp2_with fail
    go_round
    case rel => exact ⟨q + 1, by omega, by omega, by go_num, HST1.out⟩
    case measure => simp [intOf]; omega
  ·
   exfalso; omega
theorem way_name_end (ws : List ByteArray) (s : ByteArray) (w wr : World) (r : TR) (K : Act → World → Prop) (f : Nat → Value) (v : Value) (j : Nat) (acc : List Tk) (hs : s.size ≤ 3000) (hlt : j < s.size) (hal : acc.length ≤ j) (hL : RefLists ws w)
  (he : zj7 ws signsS s (zz3 gapB s j) acc = r) (hinv : RInv w acc v wr) (hng : gapB (s[j].toNat : Int) = false)
  (hlet : letB (s[j].toNat : Int) = true) (e : Nat) (hee : zz3 lodB s j = e) (hge : j < e) (hes : e ≤ s.size) (hex : e = s.size) (hw : isIn ws (s.extract j e) = false) (h20 : ¬ 20 < e - j) (hrd : zj6 ws signsS s j = .tok 1 (s.extract j e) 0 e) :
  Code.wp Tryz.prog zh4 (Q6 ws s w r K (s.size - j)) (fr s w.heap.size v (.int .i64 (j : Int)) f) wr := by
 have _h3 := hge
 clear _h3
 have _h1 := hL
 have _h2 := hal
 clear _h1 _h2
 obtain ⟨i0, hi, hz0, hz1, hz2⟩ := info_parts zw3
 have hps := zqq gapB s j hlt hng
 rw [hps] at he
 have HE := qh he
 have hng2 := hng
 simp only [gapB, Bool.or_eq_false_iff] at hng2
 obtain ⟨g1, g2⟩ := hng2
 have HI := qh hinv
 obtain ⟨rc0, rc1, rf0, rf1⟩ := hinv.cells
 have HLR := qh (hinv.lists hL)
 clear he hinv hng hps hL
 have HST := qh ((zv7 ws signsS s j acc (1) (0) (s.extract j e) e hlt hrd (by omega)).symm.trans HE.out)
 have HEE := qh hee
 have HLET := qh hlet
 have HW := qh hw
 clear hee hlet hw HE hrd
 have hex2 : s.size ≤ e := by omega
 clear hex
 conv => arg 2; whnf
 unfold fr Q6
 go_wp2_with fail
 refine (zz2 _ _).mono ?_
 rw [HLET.out]
 rintro e1 w1 ⟨rfl, rfl⟩
 go_wp2_with fail
 go_loop [5] (fun v => ∃ q : Nat, j ≤ q ∧ q ≤ e ∧ v = .int .i64 q ∧ zz3 lodB s q = e) (fun v => s.size - (intOf v).toNat)
 case atStart => exact ⟨j, Nat.le_refl _, by omega, rfl, HEE.out⟩
 case round =>
  obtain ⟨q, hq1, hq2, rfl, hqe⟩ := hrel
  by_cases hqs : q < s.size
  ·
   cases hl : letB (s[q].toNat : Int)
   ·
    cases hd : digB (s[q].toNat : Int)
    ·
     have hst := zqq lodB s q hqs (by unfold lodB; rw [hl, hd]; rfl)
     exfalso; omega
    ·
     have HST1 := qh ((zxj lodB s q hqs (by unfold lodB; rw [hl, hd]; rfl)).trans hqe)
     have hle := zq8 lodB s (q + 1); rw [HST1.out] at hle; have HL1 := qh hl; have HD1 := qh hd; clear hl hd hqe; go_wp2_with fail; refine (zz2 _ _).mono ?_; rw [HL1.out]; rintro e2 w2 ⟨rfl, rfl⟩
     go_wp2_with fail; refine (zz5 _ _).mono ?_; rw [HD1.out]; rintro e2 w2 ⟨rfl, rfl⟩; go_wp2_with fail
     go_round
     case rel => exact ⟨q + 1, by omega, by omega, by go_num, HST1.out⟩
     case measure => simp [intOf]; omega
   ·
    have HST1 := qh ((zxj lodB s q hqs (by unfold lodB; rw [hl]; rfl)).trans hqe)
    have hle := zq8 lodB s (q + 1); rw [HST1.out] at hle; have HL1 := qh hl; clear hl hqe; go_wp2_with fail; refine (zz2 _ _).mono ?_; rw [HL1.out]; rintro e2 w2 ⟨rfl, rfl⟩; go_wp2_with fail
    go_round
    case rel => exact ⟨q + 1, by omega, by omega, by go_num, HST1.out⟩
    case measure => simp [intOf]; omega
  ·
   have hqq : e = q := by have := zw5 lodB s q (by omega); omega
   subst hqq; clear hqe; go_wp2_with fail; refine (HLR.out.word (s.extract j e)).mono ?_; rw [HW.out]; rintro e3 w3 ⟨rfl, rfl⟩
   go_wp2_with (at_builtin; refine wpList_append_own _ rfl _ _ 161 rfl (w.heap.size + 1) 167 i0 zwv 4 40 Tryz.underlying161 hi hz0 hz1 hz2 rfl (by decide) _ _ _ rfl (HI.out.own.alloc _) ⟨w3.heap.size, 0, none⟩ 1 1 [.int .i64 1, .string (s.extract j e), .int .i64 0, .int .i64 (j : Int)] rfl rfl ?c1 ?c2 ?c3 ?c4 ?c5 ?_)
   case c1 =>
    intro j u hj
    match j, hj with
    | 0, hj => simp at hj; subst hj; simp [Addr.add]
    | 1, hj => simp at hj; subst hj; simp [Addr.add]
    | 2, hj => simp at hj; subst hj; simp [Addr.add]
    | 3, hj => simp at hj; subst hj; simp [Addr.add]
   case c2 =>
    intro u hu; simp only [List.mem_cons, List.not_mem_nil, or_false] at hu
    rcases hu with rfl | rfl | rfl | rfl <;> rfl
   case c3 => unfold maxLen; omega
   case c4 => omega
   case c5 => have := HI.out.size; simp; omega
   intro v' w5 hown' hgrow _; have HI5 := qh (HI.out.app (t := Tk.mk 1 (s.extract j e) 0 j) _ hown' hgrow); clear hown' hgrow; go_wp2_with fail
   exact ⟨znx e (acc ++ [Tk.mk 1 (s.extract j e) 0 j]) v' hes (by simp; omega) HST.out HI5.out (by kernel_rfl), by simp [mu6, intOf]; omega⟩
theorem way_long_mid (ws : List ByteArray) (s : ByteArray) (w wr : World) (r : TR) (K : Act → World → Prop) (f : Nat → Value) (v : Value) (j : Nat) (acc : List Tk) (hs : s.size ≤ 3000) (hlt : j < s.size) (hal : acc.length ≤ j) (hL : RefLists ws w)
  (he : zj7 ws signsS s (zz3 gapB s j) acc = r) (hinv : RInv w acc v wr) (hng : gapB (s[j].toNat : Int) = false)
  (hlet : letB (s[j].toNat : Int) = true) (e : Nat) (hee : zz3 lodB s j = e) (hge : j < e) (hes : e ≤ s.size) (hex : e < s.size) (hw : isIn ws (s.extract j e) = false) (h20 : 20 < e - j) (hrd : zj6 ws signsS s j = .bad 4 j) :
  Code.wp Tryz.prog zh4 (Q6 ws s w r K (s.size - j)) (fr s w.heap.size v (.int .i64 (j : Int)) f) wr := by
 have _h3 := hge
 clear _h3
 have _h1 := hL
 have _h2 := hal
 clear _h1 _h2
 obtain ⟨i0, hi, hz0, hz1, hz2⟩ := info_parts zw3
 have hps := zqq gapB s j hlt hng
 rw [hps] at he
 have HE := qh he
 have hng2 := hng
 simp only [gapB, Bool.or_eq_false_iff] at hng2
 obtain ⟨g1, g2⟩ := hng2
 have HI := qh hinv
 obtain ⟨rc0, rc1, rf0, rf1⟩ := hinv.cells
 have HLR := qh (hinv.lists hL)
 clear he hinv hng hps hL
 have hq : r = .bad 4 j := by rw [← HE.out, zky ws signsS s j acc 4 j hlt hrd]
 subst hq
 have HEE := qh hee
 have HLET := qh hlet
 have HW := qh hw
 clear hee hlet hw HE hrd
 conv => arg 2; whnf
 unfold fr Q6
 go_wp2_with fail
 refine (zz2 _ _).mono ?_
 rw [HLET.out]
 rintro e1 w1 ⟨rfl, rfl⟩
 go_wp2_with fail
 go_loop [5] (fun v => ∃ q : Nat, j ≤ q ∧ q ≤ e ∧ v = .int .i64 q ∧ zz3 lodB s q = e) (fun v => s.size - (intOf v).toNat)
 case atStart => exact ⟨j, Nat.le_refl _, by omega, rfl, HEE.out⟩
 case round =>
  obtain ⟨q, hq1, hq2, rfl, hqe⟩ := hrel
  by_cases hqs : q < s.size
  ·
   cases hl : letB (s[q].toNat : Int)
   ·
    cases hd : digB (s[q].toNat : Int)
    ·
     have hst := zqq lodB s q hqs (by unfold lodB; rw [hl, hd]; rfl)
     have hqq : e = q := by omega
     subst hqq; have HL1 := qh hl; have HD1 := qh hd; clear hl hd hst hqe; go_wp2_with fail; refine (zz2 _ _).mono ?_; rw [HL1.out]; rintro e2 w2 ⟨rfl, rfl⟩; go_wp2_with fail; refine (zz5 _ _).mono ?_
     rw [HD1.out]; rintro e2 w2 ⟨rfl, rfl⟩; go_wp2_with fail; refine (HLR.out.word (s.extract j e)).mono ?_; rw [HW.out]; rintro e3 w3 ⟨rfl, rfl⟩; go_wp2_with fail
     exact bodyPost_ret (v := .tuple #[.slice none 0 0, .agg #[.int .i64 4, .int .i64 (j : Int)]]) (by simp [results, go_sem, rc0, rc1]) rfl ⟨rfl, HI.out.out _ _⟩
    ·
     have HST1 := qh ((zxj lodB s q hqs (by unfold lodB; rw [hl, hd]; rfl)).trans hqe)
     have hle := zq8 lodB s (q + 1); rw [HST1.out] at hle; have HL1 := qh hl; have HD1 := qh hd; clear hl hd hqe; go_wp2_with fail; refine (zz2 _ _).mono ?_; rw [HL1.out]; rintro e2 w2 ⟨rfl, rfl⟩
     go_wp2_with fail; refine (zz5 _ _).mono ?_; rw [HD1.out]; rintro e2 w2 ⟨rfl, rfl⟩; go_wp2_with fail
     go_round
     case rel => exact ⟨q + 1, by omega, by omega, by go_num, HST1.out⟩
     case measure => simp [intOf]; omega
   ·
    have HST1 := qh ((zxj lodB s q hqs (by unfold lodB; rw [hl]; rfl)).trans hqe)
    have hle := zq8 lodB s (q + 1); rw [HST1.out] at hle; have HL1 := qh hl; clear hl hqe; go_wp2_with fail; refine (zz2 _ _).mono ?_; rw [HL1.out]; rintro e2 w2 ⟨rfl, rfl⟩; go_wp2_with fail
    go_round
    case rel => exact ⟨q + 1, by omega, by omega, by go_num, HST1.out⟩
    case measure => simp [intOf]; omega
  ·
   exfalso; omega
theorem way_long_end (ws : List ByteArray) (s : ByteArray) (w wr : World) (r : TR) (K : Act → World → Prop) (f : Nat → Value) (v : Value) (j : Nat) (acc : List Tk) (hs : s.size ≤ 3000) (hlt : j < s.size) (hal : acc.length ≤ j) (hL : RefLists ws w)
  (he : zj7 ws signsS s (zz3 gapB s j) acc = r) (hinv : RInv w acc v wr) (hng : gapB (s[j].toNat : Int) = false)
  (hlet : letB (s[j].toNat : Int) = true) (e : Nat) (hee : zz3 lodB s j = e) (hge : j < e) (hes : e ≤ s.size) (hex : e = s.size) (hw : isIn ws (s.extract j e) = false) (h20 : 20 < e - j) (hrd : zj6 ws signsS s j = .bad 4 j) :
  Code.wp Tryz.prog zh4 (Q6 ws s w r K (s.size - j)) (fr s w.heap.size v (.int .i64 (j : Int)) f) wr := by
 have _h3 := hge
 clear _h3
 have _h1 := hL
 have _h2 := hal
 clear _h1 _h2
 obtain ⟨i0, hi, hz0, hz1, hz2⟩ := info_parts zw3
 have hps := zqq gapB s j hlt hng
 rw [hps] at he
 have HE := qh he
 have hng2 := hng
 simp only [gapB, Bool.or_eq_false_iff] at hng2
 obtain ⟨g1, g2⟩ := hng2
 have HI := qh hinv
 obtain ⟨rc0, rc1, rf0, rf1⟩ := hinv.cells
 have HLR := qh (hinv.lists hL)
 clear he hinv hng hps hL
 have hq : r = .bad 4 j := by rw [← HE.out, zky ws signsS s j acc 4 j hlt hrd]
 subst hq
 have HEE := qh hee
 have HLET := qh hlet
 have HW := qh hw
 clear hee hlet hw HE hrd
 have hex2 : s.size ≤ e := by omega
 clear hex
 conv => arg 2; whnf
 unfold fr Q6
 go_wp2_with fail
 refine (zz2 _ _).mono ?_
 rw [HLET.out]
 rintro e1 w1 ⟨rfl, rfl⟩
 go_wp2_with fail
 go_loop [5] (fun v => ∃ q : Nat, j ≤ q ∧ q ≤ e ∧ v = .int .i64 q ∧ zz3 lodB s q = e) (fun v => s.size - (intOf v).toNat)
 case atStart => exact ⟨j, Nat.le_refl _, by omega, rfl, HEE.out⟩
 case round =>
  obtain ⟨q, hq1, hq2, rfl, hqe⟩ := hrel
  by_cases hqs : q < s.size
  ·
   cases hl : letB (s[q].toNat : Int)
   ·
    cases hd : digB (s[q].toNat : Int)
    ·
     have hst := zqq lodB s q hqs (by unfold lodB; rw [hl, hd]; rfl)
     exfalso; omega
    ·
     have HST1 := qh ((zxj lodB s q hqs (by unfold lodB; rw [hl, hd]; rfl)).trans hqe)
     have hle := zq8 lodB s (q + 1); rw [HST1.out] at hle; have HL1 := qh hl; have HD1 := qh hd; clear hl hd hqe; go_wp2_with fail; refine (zz2 _ _).mono ?_; rw [HL1.out]; rintro e2 w2 ⟨rfl, rfl⟩
     go_wp2_with fail; refine (zz5 _ _).mono ?_; rw [HD1.out]; rintro e2 w2 ⟨rfl, rfl⟩; go_wp2_with fail
     go_round
     case rel => exact ⟨q + 1, by omega, by omega, by go_num, HST1.out⟩
     case measure => simp [intOf]; omega
   ·
    have HST1 := qh ((zxj lodB s q hqs (by unfold lodB; rw [hl]; rfl)).trans hqe)
    have hle := zq8 lodB s (q + 1); rw [HST1.out] at hle; have HL1 := qh hl; clear hl hqe; go_wp2_with fail; refine (zz2 _ _).mono ?_; rw [HL1.out]; rintro e2 w2 ⟨rfl, rfl⟩; go_wp2_with fail
    go_round
    case rel => exact ⟨q + 1, by omega, by omega, by go_num, HST1.out⟩
    case measure => simp [intOf]; omega
  ·
   have hqq : e = q := by have := zw5 lodB s q (by omega); omega
   subst hqq; clear hqe; go_wp2_with fail; refine (HLR.out.word (s.extract j e)).mono ?_; rw [HW.out]; rintro e3 w3 ⟨rfl, rfl⟩; go_wp2_with fail
   exact bodyPost_ret (v := .tuple #[.slice none 0 0, .agg #[.int .i64 4, .int .i64 (j : Int)]]) (by simp [results, go_sem, rc0, rc1]) rfl ⟨rfl, HI.out.out _ _⟩
end Go.Proofs.YtoimgcjbcbhclaaGreatDoor
