/-
  Rounds of the reference's Tokens: numbers.
-/
import Derived.Test.YtoimgcjbcbhclaaGreatDoorRn32
set_option maxRecDepth 100000
set_option maxHeartbeats 16000000
namespace Go.Proofs.YtoimgcjbcbhclaaGreatDoor
open Go.RowKit
theorem way_dlong_mid (ws : List ByteArray) (s : ByteArray) (w wr : World) (r : TR) (K : Act → World → Prop) (f : Nat → Value) (v : Value) (j : Nat) (acc : List Tk) (hs : s.size ≤ 3000) (hlt : j < s.size) (hal : acc.length ≤ j) (hL : RefLists ws w)
  (he : zj7 ws signsS s (zz3 gapB s j) acc = r) (hinv : RInv w acc v wr) (hng : gapB (s[j].toNat : Int) = false)
  (hlet : letB (s[j].toNat : Int) = false) (hdig : digB (s[j].toNat : Int) = true) (e : Nat) (hee : zz3 digB s j = e) (hge : j < e) (hes : e ≤ s.size) (hex : e < s.size) (h10 : 10 < e - j) (hrd : zj6 ws signsS s j = .bad 3 j) :
  Code.wp Tryz.prog zh4 (Q6 ws s w r K (s.size - j)) (fr s w.heap.size v (.int .i64 (j : Int)) f) wr := by
 have _h3 := hge
 have _h4 := hes
 clear _h3 _h4
 have _h1 := hL
 have _h2 := hal
 clear _h1 _h2
 obtain ⟨i0, hi, hz0, hz1, hz2⟩ := info_parts zw3
 have hps := zqq gapB s j hlt hng
 rw [hps] at he
 have HE := qh he
 have hng2 := hng
 simp only [gapB, Bool.or_eq_false_iff] at hng2
 obtain ⟨g1, g2⟩ := hng2
 have HI := qh hinv
 obtain ⟨rc0, rc1, rf0, rf1⟩ := hinv.cells
 have HLR := qh (hinv.lists hL)
 clear he hinv hng hps hL
 have hq : r = .bad 3 j := by rw [← HE.out, zky ws signsS s j acc 3 j hlt hrd]
 subst hq
 have HEE := qh hee
 have HLET := qh hlet
 have HDIG := qh hdig
 clear hee hlet hdig HE hrd
 conv => arg 2; whnf
 unfold fr Q6
 go_wp2_with fail
 refine (zz2 _ _).mono ?_
 rw [HLET.out]
 rintro e1 w1 ⟨rfl, rfl⟩
 go_wp2_with fail
 refine (zz5 _ _).mono ?_
 rw [HDIG.out]
 rintro e1 w1 ⟨rfl, rfl⟩
 go_wp2_with fail
 go_loop [5] (fun v => ∃ q : Nat, j ≤ q ∧ q ≤ e ∧ v = .int .i64 q ∧ zz3 digB s q = e) (fun v => s.size - (intOf v).toNat)
 case atStart => exact ⟨j, Nat.le_refl _, by omega, rfl, HEE.out⟩
 case round =>
  obtain ⟨q, hq1, hq2, rfl, hqe⟩ := hrel
  by_cases hqs : q < s.size
  ·
   cases hd : digB (s[q].toNat : Int)
   ·
    have hst := zqq digB s q hqs hd; have hqq : e = q := by omega
    subst hqq; have HD1 := qh hd; clear hd hst hqe; go_wp2_with fail; refine (zz5 _ _).mono ?_; rw [HD1.out]; rintro e2 w2 ⟨rfl, rfl⟩; go_wp2_with fail
    exact bodyPost_ret (v := .tuple #[.slice none 0 0, .agg #[.int .i64 3, .int .i64 (j : Int)]]) (by simp [results, go_sem, rc0, rc1]) rfl ⟨rfl, HI.out.out _ _⟩
   ·
    have HST1 := qh ((zxj digB s q hqs hd).trans hqe); have hle := zq8 digB s (q + 1); rw [HST1.out] at hle; have HD1 := qh hd; clear hd hqe; go_wp2_with fail; refine (zz5 _ _).mono ?_; rw [HD1.out]
    rintro e2 w2 ⟨rfl, rfl⟩; go_wp2_with fail
    go_round
    case rel => exact ⟨q + 1, by omega, by omega, by go_num, HST1.out⟩
    case measure => simp [intOf]; omega
  ·
   exfalso; omega
theorem way_dlong_end (ws : List ByteArray) (s : ByteArray) (w wr : World) (r : TR) (K : Act → World → Prop) (f : Nat → Value) (v : Value) (j : Nat) (acc : List Tk) (hs : s.size ≤ 3000) (hlt : j < s.size) (hal : acc.length ≤ j) (hL : RefLists ws w)
  (he : zj7 ws signsS s (zz3 gapB s j) acc = r) (hinv : RInv w acc v wr) (hng : gapB (s[j].toNat : Int) = false)
  (hlet : letB (s[j].toNat : Int) = false) (hdig : digB (s[j].toNat : Int) = true) (e : Nat) (hee : zz3 digB s j = e) (hge : j < e) (hes : e ≤ s.size) (hex : e = s.size) (h10 : 10 < e - j) (hrd : zj6 ws signsS s j = .bad 3 j) :
  Code.wp Tryz.prog zh4 (Q6 ws s w r K (s.size - j)) (fr s w.heap.size v (.int .i64 (j : Int)) f) wr := by
 have _h3 := hge
 have _h4 := hes
 clear _h3 _h4
 have _h1 := hL
 have _h2 := hal
 clear _h1 _h2
 obtain ⟨i0, hi, hz0, hz1, hz2⟩ := info_parts zw3
 have hps := zqq gapB s j hlt hng
 rw [hps] at he
 have HE := qh he
 have hng2 := hng
 simp only [gapB, Bool.or_eq_false_iff] at hng2
 obtain ⟨g1, g2⟩ := hng2
 have HI := qh hinv
 obtain ⟨rc0, rc1, rf0, rf1⟩ := hinv.cells
 have HLR := qh (hinv.lists hL)
 clear he hinv hng hps hL
 have hq : r = .bad 3 j := by rw [← HE.out, zky ws signsS s j acc 3 j hlt hrd]
 subst hq
 have HEE := qh hee
 have HLET := qh hlet
 have HDIG := qh hdig
 clear hee hlet hdig HE hrd
 have hex2 : s.size ≤ e := by omega
 clear hex
 conv => arg 2; whnf
 unfold fr Q6
 go_wp2_with fail
 refine (zz2 _ _).mono ?_
 rw [HLET.out]
 rintro e1 w1 ⟨rfl, rfl⟩
 go_wp2_with fail
 refine (zz5 _ _).mono ?_
 rw [HDIG.out]
 rintro e1 w1 ⟨rfl, rfl⟩
 go_wp2_with fail
 go_loop [5] (fun v => ∃ q : Nat, j ≤ q ∧ q ≤ e ∧ v = .int .i64 q ∧ zz3 digB s q = e) (fun v => s.size - (intOf v).toNat)
 case atStart => exact ⟨j, Nat.le_refl _, by omega, rfl, HEE.out⟩
 case round =>
  obtain ⟨q, hq1, hq2, rfl, hqe⟩ := hrel
  by_cases hqs : q < s.size
  ·
   cases hd : digB (s[q].toNat : Int)
   ·
    have hst := zqq digB s q hqs hd; exfalso; omega
   ·
    have HST1 := qh ((zxj digB s q hqs hd).trans hqe); have hle := zq8 digB s (q + 1); rw [HST1.out] at hle; have HD1 := qh hd; clear hd hqe; go_wp2_with fail; refine (zz5 _ _).mono ?_; rw [HD1.out]
    rintro e2 w2 ⟨rfl, rfl⟩; go_wp2_with fail
    go_round
    case rel => exact ⟨q + 1, by omega, by omega, by go_num, HST1.out⟩
    case measure => simp [intOf]; omega
  ·
   have hqq : e = q := by have := zw5 digB s q (by omega); omega
   subst hqq; clear hqe; go_wp2_with fail; exact bodyPost_ret (v := .tuple #[.slice none 0 0, .agg #[.int .i64 3, .int .i64 (j : Int)]]) (by simp [results, go_sem, rc0, rc1]) rfl ⟨rfl, HI.out.out _ _⟩
theorem way_dzero_mid (ws : List ByteArray) (s : ByteArray) (w wr : World) (r : TR) (K : Act → World → Prop) (f : Nat → Value) (v : Value) (j : Nat) (acc : List Tk) (hs : s.size ≤ 3000) (hlt : j < s.size) (hal : acc.length ≤ j) (hL : RefLists ws w)
  (he : zj7 ws signsS s (zz3 gapB s j) acc = r) (hinv : RInv w acc v wr) (hng : gapB (s[j].toNat : Int) = false)
  (hlet : letB (s[j].toNat : Int) = false) (hdig : digB (s[j].toNat : Int) = true) (e : Nat) (hee : zz3 digB s j = e) (hge : j < e) (hes : e ≤ s.size) (hex : e < s.size) (h10 : ¬ 10 < e - j) (h1 : 1 < e - j) (h48 : (((s[j].toNat : Nat) : Int) == 48) = true) (hrd : zj6 ws signsS s j = .bad 3 j) :
  Code.wp Tryz.prog zh4 (Q6 ws s w r K (s.size - j)) (fr s w.heap.size v (.int .i64 (j : Int)) f) wr := by
 have _h3 := hge
 have _h4 := hes
 clear _h3 _h4
 have _h1 := hL
 have _h2 := hal
 clear _h1 _h2
 obtain ⟨i0, hi, hz0, hz1, hz2⟩ := info_parts zw3
 have hps := zqq gapB s j hlt hng
 rw [hps] at he
 have HE := qh he
 have hng2 := hng
 simp only [gapB, Bool.or_eq_false_iff] at hng2
 obtain ⟨g1, g2⟩ := hng2
 have HI := qh hinv
 obtain ⟨rc0, rc1, rf0, rf1⟩ := hinv.cells
 have HLR := qh (hinv.lists hL)
 clear he hinv hng hps hL
 have hq : r = .bad 3 j := by rw [← HE.out, zky ws signsS s j acc 3 j hlt hrd]
 subst hq
 have HEE := qh hee
 have HLET := qh hlet
 have HDIG := qh hdig
 clear hee hlet hdig HE hrd
 conv => arg 2; whnf
 unfold fr Q6
 go_wp2_with fail
 refine (zz2 _ _).mono ?_
 rw [HLET.out]
 rintro e1 w1 ⟨rfl, rfl⟩
 go_wp2_with fail
 refine (zz5 _ _).mono ?_
 rw [HDIG.out]
 rintro e1 w1 ⟨rfl, rfl⟩
 go_wp2_with fail
 go_loop [5] (fun v => ∃ q : Nat, j ≤ q ∧ q ≤ e ∧ v = .int .i64 q ∧ zz3 digB s q = e) (fun v => s.size - (intOf v).toNat)
 case atStart => exact ⟨j, Nat.le_refl _, by omega, rfl, HEE.out⟩
 case round =>
  obtain ⟨q, hq1, hq2, rfl, hqe⟩ := hrel
  by_cases hqs : q < s.size
  ·
   cases hd : digB (s[q].toNat : Int)
   ·
    have hst := zqq digB s q hqs hd; have hqq : e = q := by omega
    subst hqq; have HD1 := qh hd; clear hd hst hqe; go_wp2_with fail; refine (zz5 _ _).mono ?_; rw [HD1.out]; rintro e2 w2 ⟨rfl, rfl⟩; go_wp2_with fail
    exact bodyPost_ret (v := .tuple #[.slice none 0 0, .agg #[.int .i64 3, .int .i64 (j : Int)]]) (by simp [results, go_sem, rc0, rc1]) rfl ⟨rfl, HI.out.out _ _⟩
   ·
    have HST1 := qh ((zxj digB s q hqs hd).trans hqe); have hle := zq8 digB s (q + 1); rw [HST1.out] at hle; have HD1 := qh hd; clear hd hqe; go_wp2_with fail; refine (zz5 _ _).mono ?_; rw [HD1.out]
    rintro e2 w2 ⟨rfl, rfl⟩; go_wp2_with fail
    go_round
    case rel => exact ⟨q + 1, by omega, by omega, by go_num, HST1.out⟩
    case measure => simp [intOf]; omega
  ·
   exfalso; omega
theorem way_dzero_end (ws : List ByteArray) (s : ByteArray) (w wr : World) (r : TR) (K : Act → World → Prop) (f : Nat → Value) (v : Value) (j : Nat) (acc : List Tk) (hs : s.size ≤ 3000) (hlt : j < s.size) (hal : acc.length ≤ j) (hL : RefLists ws w)
  (he : zj7 ws signsS s (zz3 gapB s j) acc = r) (hinv : RInv w acc v wr) (hng : gapB (s[j].toNat : Int) = false)
  (hlet : letB (s[j].toNat : Int) = false) (hdig : digB (s[j].toNat : Int) = true) (e : Nat) (hee : zz3 digB s j = e) (hge : j < e) (hes : e ≤ s.size) (hex : e = s.size) (h10 : ¬ 10 < e - j) (h1 : 1 < e - j) (h48 : (((s[j].toNat : Nat) : Int) == 48) = true) (hrd : zj6 ws signsS s j = .bad 3 j) :
  Code.wp Tryz.prog zh4 (Q6 ws s w r K (s.size - j)) (fr s w.heap.size v (.int .i64 (j : Int)) f) wr := by
 have _h3 := hge
 have _h4 := hes
 clear _h3 _h4
 have _h1 := hL
 have _h2 := hal
 clear _h1 _h2
 obtain ⟨i0, hi, hz0, hz1, hz2⟩ := info_parts zw3
 have hps := zqq gapB s j hlt hng
 rw [hps] at he
 have HE := qh he
 have hng2 := hng
 simp only [gapB, Bool.or_eq_false_iff] at hng2
 obtain ⟨g1, g2⟩ := hng2
 have HI := qh hinv
 obtain ⟨rc0, rc1, rf0, rf1⟩ := hinv.cells
 have HLR := qh (hinv.lists hL)
 clear he hinv hng hps hL
 have hq : r = .bad 3 j := by rw [← HE.out, zky ws signsS s j acc 3 j hlt hrd]
 subst hq
 have HEE := qh hee
 have HLET := qh hlet
 have HDIG := qh hdig
 clear hee hlet hdig HE hrd
 have hex2 : s.size ≤ e := by omega
 clear hex
 conv => arg 2; whnf
 unfold fr Q6
 go_wp2_with fail
 refine (zz2 _ _).mono ?_
 rw [HLET.out]
 rintro e1 w1 ⟨rfl, rfl⟩
 go_wp2_with fail
 refine (zz5 _ _).mono ?_
 rw [HDIG.out]
 rintro e1 w1 ⟨rfl, rfl⟩
 go_wp2_with fail
 go_loop [5] (fun v => ∃ q : Nat, j ≤ q ∧ q ≤ e ∧ v = .int .i64 q ∧ zz3 digB s q = e) (fun v => s.size - (intOf v).toNat)
 case atStart => exact ⟨j, Nat.le_refl _, by omega, rfl, HEE.out⟩
 case round =>
  obtain ⟨q, hq1, hq2, rfl, hqe⟩ := hrel
  by_cases hqs : q < s.size
  ·
   cases hd : digB (s[q].toNat : Int)
   ·
    have hst := zqq digB s q hqs hd; exfalso; omega
   ·
    have HST1 := qh ((zxj digB s q hqs hd).trans hqe); have hle := zq8 digB s (q + 1); rw [HST1.out] at hle; have HD1 := qh hd; clear hd hqe; go_wp2_with fail; refine (zz5 _ _).mono ?_; rw [HD1.out]
    rintro e2 w2 ⟨rfl, rfl⟩; go_wp2_with fail
    go_round
    case rel => exact ⟨q + 1, by omega, by omega, by go_num, HST1.out⟩
    case measure => simp [intOf]; omega
  ·
   have hqq : e = q := by have := zw5 digB s q (by omega); omega
   subst hqq; clear hqe; go_wp2_with fail; exact bodyPost_ret (v := .tuple #[.slice none 0 0, .agg #[.int .i64 3, .int .i64 (j : Int)]]) (by simp [results, go_sem, rc0, rc1]) rfl ⟨rfl, HI.out.out _ _⟩
theorem way_dbig_mid (ws : List ByteArray) (s : ByteArray) (w wr : World) (r : TR) (K : Act → World → Prop) (f : Nat → Value) (v : Value) (j : Nat) (acc : List Tk) (hs : s.size ≤ 3000) (hlt : j < s.size) (hal : acc.length ≤ j) (hL : RefLists ws w)
  (he : zj7 ws signsS s (zz3 gapB s j) acc = r) (hinv : RInv w acc v wr) (hng : gapB (s[j].toNat : Int) = false)
  (hlet : letB (s[j].toNat : Int) = false) (hdig : digB (s[j].toNat : Int) = true) (e : Nat) (hee : zz3 digB s j = e) (hge : j < e) (hes : e ≤ s.size) (hex : e < s.size) (n : Int) (hn : numL (s.extract j e).data.toList = n) (h10 : ¬ 10 < e - j) (h1 : 1 < e - j) (h48 : (((s[j].toNat : Nat) : Int) == 48) = false) (hb : 1000000000 < n) (hrd : zj6 ws signsS s j = .bad 2 j) :
  Code.wp Tryz.prog zh4 (Q6 ws s w r K (s.size - j)) (fr s w.heap.size v (.int .i64 (j : Int)) f) wr := by
 have _h3 := hge
 have _h4 := hes
 clear _h3 _h4
 have _h1 := hL
 have _h2 := hal
 clear _h1 _h2
 obtain ⟨i0, hi, hz0, hz1, hz2⟩ := info_parts zw3
 have hps := zqq gapB s j hlt hng
 rw [hps] at he
 have HE := qh he
 have hng2 := hng
 simp only [gapB, Bool.or_eq_false_iff] at hng2
 obtain ⟨g1, g2⟩ := hng2
 have HI := qh hinv
 obtain ⟨rc0, rc1, rf0, rf1⟩ := hinv.cells
 have HLR := qh (hinv.lists hL)
 clear he hinv hng hps hL
 have hq : r = .bad 2 j := by rw [← HE.out, zky ws signsS s j acc 2 j hlt hrd]
 subst hq
 have HEE := qh hee
 have HLET := qh hlet
 have HDIG := qh hdig
 have HNN := qh hn
 clear hn
 clear hee hlet hdig HE hrd
 conv => arg 2; whnf
 unfold fr Q6
 go_wp2_with fail
 refine (zz2 _ _).mono ?_
 rw [HLET.out]
 rintro e1 w1 ⟨rfl, rfl⟩
 go_wp2_with fail
 refine (zz5 _ _).mono ?_
 rw [HDIG.out]
 rintro e1 w1 ⟨rfl, rfl⟩
 go_wp2_with fail
 go_loop [5] (fun v => ∃ q : Nat, j ≤ q ∧ q ≤ e ∧ v = .int .i64 q ∧ zz3 digB s q = e) (fun v => s.size - (intOf v).toNat)
 case atStart => exact ⟨j, Nat.le_refl _, by omega, rfl, HEE.out⟩
 case round =>
  obtain ⟨q, hq1, hq2, rfl, hqe⟩ := hrel
  by_cases hqs : q < s.size
  ·
   cases hd : digB (s[q].toNat : Int)
   ·
    have hst := zqq digB s q hqs hd; have hqq : e = q := by omega
    subst hqq; have HD1 := qh hd; clear hd hst hqe; go_wp2_with fail; refine (zz5 _ _).mono ?_; rw [HD1.out]; rintro e2 w2 ⟨rfl, rfl⟩; go_wp2_with fail
    have hds : ∀ i, (hi : i < (s.extract j e).size) → digB ((s.extract j e)[i].toNat : Int) = true := fun i hi => by
     rw [zk6 s j e i hes hi]; have hi2 : i < e - j := by rw [zq4 s j e (by omega) hes] at hi; exact hi
     exact zh3 digB s (s.size - j) j (by omega) (j + i) (by omega) (by rw [HEE.out]; omega) (by omega)
    have hsz := zq4 s j e (by omega) hes; refine (zbq (s.extract j e) _ (by omega) (by omega) hds).mono ?_; rw [HNN.out]; rintro e3 w3 ⟨rfl, hbel3⟩; have HI3 := qh (HI.out.later hbel3)
    clear rc0 rc1 rf0 rf1; obtain ⟨rc0, rc1, rf0, rf1⟩ := HI3.out.cells; clear hbel3 hds hsz; go_wp2_with fail
    exact bodyPost_ret (v := .tuple #[.slice none 0 0, .agg #[.int .i64 2, .int .i64 (j : Int)]]) (by simp [results, go_sem, rc0, rc1]) rfl ⟨rfl, HI3.out.out _ _⟩
   ·
    have HST1 := qh ((zxj digB s q hqs hd).trans hqe); have hle := zq8 digB s (q + 1); rw [HST1.out] at hle; have HD1 := qh hd; clear hd hqe; go_wp2_with fail; refine (zz5 _ _).mono ?_; rw [HD1.out]
    rintro e2 w2 ⟨rfl, rfl⟩; go_wp2_with fail
    go_round
    case rel => exact ⟨q + 1, by omega, by omega, by go_num, HST1.out⟩
    case measure => simp [intOf]; omega
  ·
   exfalso; omega
theorem way_dbig_end (ws : List ByteArray) (s : ByteArray) (w wr : World) (r : TR) (K : Act → World → Prop) (f : Nat → Value) (v : Value) (j : Nat) (acc : List Tk) (hs : s.size ≤ 3000) (hlt : j < s.size) (hal : acc.length ≤ j) (hL : RefLists ws w)
  (he : zj7 ws signsS s (zz3 gapB s j) acc = r) (hinv : RInv w acc v wr) (hng : gapB (s[j].toNat : Int) = false)
  (hlet : letB (s[j].toNat : Int) = false) (hdig : digB (s[j].toNat : Int) = true) (e : Nat) (hee : zz3 digB s j = e) (hge : j < e) (hes : e ≤ s.size) (hex : e = s.size) (n : Int) (hn : numL (s.extract j e).data.toList = n) (h10 : ¬ 10 < e - j) (h1 : 1 < e - j) (h48 : (((s[j].toNat : Nat) : Int) == 48) = false) (hb : 1000000000 < n) (hrd : zj6 ws signsS s j = .bad 2 j) :
  Code.wp Tryz.prog zh4 (Q6 ws s w r K (s.size - j)) (fr s w.heap.size v (.int .i64 (j : Int)) f) wr := by
 have _h3 := hge
 have _h4 := hes
 clear _h3 _h4
 have _h1 := hL
 have _h2 := hal
 clear _h1 _h2
 obtain ⟨i0, hi, hz0, hz1, hz2⟩ := info_parts zw3
 have hps := zqq gapB s j hlt hng
 rw [hps] at he
 have HE := qh he
 have hng2 := hng
 simp only [gapB, Bool.or_eq_false_iff] at hng2
 obtain ⟨g1, g2⟩ := hng2
 have HI := qh hinv
 obtain ⟨rc0, rc1, rf0, rf1⟩ := hinv.cells
 have HLR := qh (hinv.lists hL)
 clear he hinv hng hps hL
 have hq : r = .bad 2 j := by rw [← HE.out, zky ws signsS s j acc 2 j hlt hrd]
 subst hq
 have HEE := qh hee
 have HLET := qh hlet
 have HDIG := qh hdig
 have HNN := qh hn
 clear hn
 clear hee hlet hdig HE hrd
 have hex2 : s.size ≤ e := by omega
 clear hex
 conv => arg 2; whnf
 unfold fr Q6
 go_wp2_with fail
 refine (zz2 _ _).mono ?_
 rw [HLET.out]
 rintro e1 w1 ⟨rfl, rfl⟩
 go_wp2_with fail
 refine (zz5 _ _).mono ?_
 rw [HDIG.out]
 rintro e1 w1 ⟨rfl, rfl⟩
 go_wp2_with fail
 go_loop [5] (fun v => ∃ q : Nat, j ≤ q ∧ q ≤ e ∧ v = .int .i64 q ∧ zz3 digB s q = e) (fun v => s.size - (intOf v).toNat)
 case atStart => exact ⟨j, Nat.le_refl _, by omega, rfl, HEE.out⟩
 case round =>
  obtain ⟨q, hq1, hq2, rfl, hqe⟩ := hrel
  by_cases hqs : q < s.size
  ·
   cases hd : digB (s[q].toNat : Int)
   ·
    have hst := zqq digB s q hqs hd; exfalso; omega
   ·
    have HST1 := qh ((zxj digB s q hqs hd).trans hqe); have hle := zq8 digB s (q + 1); rw [HST1.out] at hle; have HD1 := qh hd; clear hd hqe; go_wp2_with fail; refine (zz5 _ _).mono ?_; rw [HD1.out]
    rintro e2 w2 ⟨rfl, rfl⟩; go_wp2_with fail
    go_round
    case rel => exact ⟨q + 1, by omega, by omega, by go_num, HST1.out⟩
    case measure => simp [intOf]; omega
  ·
   have hqq : e = q := by have := zw5 digB s q (by omega); omega
   subst hqq; clear hqe; go_wp2_with fail; have hds : ∀ i, (hi : i < (s.extract j e).size) → digB ((s.extract j e)[i].toNat : Int) = true := fun i hi => by
    rw [zk6 s j e i hes hi]; have hi2 : i < e - j := by rw [zq4 s j e (by omega) hes] at hi; exact hi
    exact zh3 digB s (s.size - j) j (by omega) (j + i) (by omega) (by rw [HEE.out]; omega) (by omega)
   have hsz := zq4 s j e (by omega) hes; refine (zbq (s.extract j e) _ (by omega) (by omega) hds).mono ?_; rw [HNN.out]; rintro e3 w3 ⟨rfl, hbel3⟩; have HI3 := qh (HI.out.later hbel3); clear rc0 rc1 rf0 rf1
   obtain ⟨rc0, rc1, rf0, rf1⟩ := HI3.out.cells; clear hbel3 hds hsz; go_wp2_with fail
   exact bodyPost_ret (v := .tuple #[.slice none 0 0, .agg #[.int .i64 2, .int .i64 (j : Int)]]) (by simp [results, go_sem, rc0, rc1]) rfl ⟨rfl, HI3.out.out _ _⟩
theorem way_dmany_mid (ws : List ByteArray) (s : ByteArray) (w wr : World) (r : TR) (K : Act → World → Prop) (f : Nat → Value) (v : Value) (j : Nat) (acc : List Tk) (hs : s.size ≤ 3000) (hlt : j < s.size) (hal : acc.length ≤ j) (hL : RefLists ws w)
  (he : zj7 ws signsS s (zz3 gapB s j) acc = r) (hinv : RInv w acc v wr) (hng : gapB (s[j].toNat : Int) = false)
  (hlet : letB (s[j].toNat : Int) = false) (hdig : digB (s[j].toNat : Int) = true) (e : Nat) (hee : zz3 digB s j = e) (hge : j < e) (hes : e ≤ s.size) (hex : e < s.size) (n : Int) (hn : numL (s.extract j e).data.toList = n) (h10 : ¬ 10 < e - j) (h1 : 1 < e - j) (h48 : (((s[j].toNat : Nat) : Int) == 48) = false) (hb : ¬ 1000000000 < n) (hrd : zj6 ws signsS s j = .tok 3 ⟨#[]⟩ n e) :
  Code.wp Tryz.prog zh4 (Q6 ws s w r K (s.size - j)) (fr s w.heap.size v (.int .i64 (j : Int)) f) wr := by
 have _h3 := hge
 have _h4 := hes
 clear _h3 _h4
 have _h1 := hL
 have _h2 := hal
 clear _h1 _h2
 obtain ⟨i0, hi, hz0, hz1, hz2⟩ := info_parts zw3
 have hps := zqq gapB s j hlt hng
 rw [hps] at he
 have HE := qh he
 have hng2 := hng
 simp only [gapB, Bool.or_eq_false_iff] at hng2
 obtain ⟨g1, g2⟩ := hng2
 have HI := qh hinv
 obtain ⟨rc0, rc1, rf0, rf1⟩ := hinv.cells
 have HLR := qh (hinv.lists hL)
 clear he hinv hng hps hL
 have HST := qh ((zv7 ws signsS s j acc (3) (n) (⟨#[]⟩) e hlt hrd (by omega)).symm.trans HE.out)
 have HEE := qh hee
 have HLET := qh hlet
 have HDIG := qh hdig
 have HNN := qh hn
 clear hn
 clear hee hlet hdig HE hrd
 conv => arg 2; whnf
 unfold fr Q6
 go_wp2_with fail
 refine (zz2 _ _).mono ?_
 rw [HLET.out]
 rintro e1 w1 ⟨rfl, rfl⟩
 go_wp2_with fail
 refine (zz5 _ _).mono ?_
 rw [HDIG.out]
 rintro e1 w1 ⟨rfl, rfl⟩
 go_wp2_with fail
 go_loop [5] (fun v => ∃ q : Nat, j ≤ q ∧ q ≤ e ∧ v = .int .i64 q ∧ zz3 digB s q = e) (fun v => s.size - (intOf v).toNat)
 case atStart => exact ⟨j, Nat.le_refl _, by omega, rfl, HEE.out⟩
 case round =>
  obtain ⟨q, hq1, hq2, rfl, hqe⟩ := hrel
  by_cases hqs : q < s.size
  ·
   cases hd : digB (s[q].toNat : Int)
   ·
    have hst := zqq digB s q hqs hd; have hqq : e = q := by omega
    subst hqq; have HD1 := qh hd; clear hd hst hqe; go_wp2_with fail; refine (zz5 _ _).mono ?_; rw [HD1.out]; rintro e2 w2 ⟨rfl, rfl⟩; go_wp2_with fail
    have hds : ∀ i, (hi : i < (s.extract j e).size) → digB ((s.extract j e)[i].toNat : Int) = true := fun i hi => by
     rw [zk6 s j e i hes hi]; have hi2 : i < e - j := by rw [zq4 s j e (by omega) hes] at hi; exact hi
     exact zh3 digB s (s.size - j) j (by omega) (j + i) (by omega) (by rw [HEE.out]; omega) (by omega)
    have hsz := zq4 s j e (by omega) hes; refine (zbq (s.extract j e) _ (by omega) (by omega) hds).mono ?_; rw [HNN.out]; rintro e3 w3 ⟨rfl, hbel3⟩; have HI3 := qh (HI.out.later hbel3)
    clear rc0 rc1 rf0 rf1; obtain ⟨rc0, rc1, rf0, rf1⟩ := HI3.out.cells; clear hbel3 hds hsz
    go_wp2_with (at_builtin; refine wpList_append_own _ rfl _ _ 161 rfl (w.heap.size + 1) 167 i0 zwv 4 40 Tryz.underlying161 hi hz0 hz1 hz2 rfl (by decide) _ _ _ rfl (HI3.out.own.alloc _) ⟨w3.heap.size, 0, none⟩ 1 1 [.int .i64 3, .string ⟨#[]⟩, .int .i64 n, .int .i64 (j : Int)] rfl rfl ?c1 ?c2 ?c3 ?c4 ?c5 ?_)
    case c1 =>
     intro j u hj
     match j, hj with
     | 0, hj => simp at hj; subst hj; simp [Addr.add]
     | 1, hj => simp at hj; subst hj; simp [Addr.add]
     | 2, hj => simp at hj; subst hj; simp [Addr.add]
     | 3, hj => simp at hj; subst hj; simp [Addr.add]
    case c2 =>
     intro u hu; simp only [List.mem_cons, List.not_mem_nil, or_false] at hu
     rcases hu with rfl | rfl | rfl | rfl <;> rfl
    case c3 => unfold maxLen; omega
    case c4 => omega
    case c5 => have := HI3.out.size; simp; omega
    intro v' w5 hown' hgrow _; have HI5 := qh (HI3.out.app (t := Tk.mk 3 ⟨#[]⟩ n j) _ hown' hgrow); clear hown' hgrow; go_wp2_with fail
    exact ⟨znx e (acc ++ [Tk.mk 3 ⟨#[]⟩ n j]) v' hes (by simp; omega) HST.out HI5.out (by kernel_rfl), by simp [mu6, intOf]; omega⟩
   ·
    have HST1 := qh ((zxj digB s q hqs hd).trans hqe); have hle := zq8 digB s (q + 1); rw [HST1.out] at hle; have HD1 := qh hd; clear hd hqe; go_wp2_with fail; refine (zz5 _ _).mono ?_; rw [HD1.out]
    rintro e2 w2 ⟨rfl, rfl⟩; go_wp2_with fail
    go_round
    case rel => exact ⟨q + 1, by omega, by omega, by go_num, HST1.out⟩
    case measure => simp [intOf]; omega
  ·
   exfalso; omega
theorem way_dmany_end (ws : List ByteArray) (s : ByteArray) (w wr : World) (r : TR) (K : Act → World → Prop) (f : Nat → Value) (v : Value) (j : Nat) (acc : List Tk) (hs : s.size ≤ 3000) (hlt : j < s.size) (hal : acc.length ≤ j) (hL : RefLists ws w)
  (he : zj7 ws signsS s (zz3 gapB s j) acc = r) (hinv : RInv w acc v wr) (hng : gapB (s[j].toNat : Int) = false)
  (hlet : letB (s[j].toNat : Int) = false) (hdig : digB (s[j].toNat : Int) = true) (e : Nat) (hee : zz3 digB s j = e) (hge : j < e) (hes : e ≤ s.size) (hex : e = s.size) (n : Int) (hn : numL (s.extract j e).data.toList = n) (h10 : ¬ 10 < e - j) (h1 : 1 < e - j) (h48 : (((s[j].toNat : Nat) : Int) == 48) = false) (hb : ¬ 1000000000 < n) (hrd : zj6 ws signsS s j = .tok 3 ⟨#[]⟩ n e) :
  Code.wp Tryz.prog zh4 (Q6 ws s w r K (s.size - j)) (fr s w.heap.size v (.int .i64 (j : Int)) f) wr := by
 have _h3 := hge
 have _h4 := hes
 clear _h3 _h4
 have _h1 := hL
 have _h2 := hal
 clear _h1 _h2
 obtain ⟨i0, hi, hz0, hz1, hz2⟩ := info_parts zw3
 have hps := zqq gapB s j hlt hng
 rw [hps] at he
 have HE := qh he
 have hng2 := hng
 simp only [gapB, Bool.or_eq_false_iff] at hng2
 obtain ⟨g1, g2⟩ := hng2
 have HI := qh hinv
 obtain ⟨rc0, rc1, rf0, rf1⟩ := hinv.cells
 have HLR := qh (hinv.lists hL)
 clear he hinv hng hps hL
 have HST := qh ((zv7 ws signsS s j acc (3) (n) (⟨#[]⟩) e hlt hrd (by omega)).symm.trans HE.out)
 have HEE := qh hee
 have HLET := qh hlet
 have HDIG := qh hdig
 have HNN := qh hn
 clear hn
 clear hee hlet hdig HE hrd
 have hex2 : s.size ≤ e := by omega
 clear hex
 conv => arg 2; whnf
 unfold fr Q6
 go_wp2_with fail
 refine (zz2 _ _).mono ?_
 rw [HLET.out]
 rintro e1 w1 ⟨rfl, rfl⟩
 go_wp2_with fail
 refine (zz5 _ _).mono ?_
 rw [HDIG.out]
 rintro e1 w1 ⟨rfl, rfl⟩
 go_wp2_with fail
 go_loop [5] (fun v => ∃ q : Nat, j ≤ q ∧ q ≤ e ∧ v = .int .i64 q ∧ zz3 digB s q = e) (fun v => s.size - (intOf v).toNat)
 case atStart => exact ⟨j, Nat.le_refl _, by omega, rfl, HEE.out⟩
 case round =>
  obtain ⟨q, hq1, hq2, rfl, hqe⟩ := hrel
  by_cases hqs : q < s.size
  ·
   cases hd : digB (s[q].toNat : Int)
   ·
    have hst := zqq digB s q hqs hd; exfalso; omega
   ·
    have HST1 := qh ((zxj digB s q hqs hd).trans hqe); have hle := zq8 digB s (q + 1); rw [HST1.out] at hle; have HD1 := qh hd; clear hd hqe; go_wp2_with fail; refine (zz5 _ _).mono ?_; rw [HD1.out]
    rintro e2 w2 ⟨rfl, rfl⟩; go_wp2_with fail
    go_round
    case rel => exact ⟨q + 1, by omega, by omega, by go_num, HST1.out⟩
    case measure => simp [intOf]; omega
  ·
   have hqq : e = q := by have := zw5 digB s q (by omega); omega
   subst hqq; clear hqe; go_wp2_with fail; have hds : ∀ i, (hi : i < (s.extract j e).size) → digB ((s.extract j e)[i].toNat : Int) = true := fun i hi => by
    rw [zk6 s j e i hes hi]; have hi2 : i < e - j := by rw [zq4 s j e (by omega) hes] at hi; exact hi
    exact zh3 digB s (s.size - j) j (by omega) (j + i) (by omega) (by rw [HEE.out]; omega) (by omega)
   have hsz := zq4 s j e (by omega) hes; refine (zbq (s.extract j e) _ (by omega) (by omega) hds).mono ?_; rw [HNN.out]; rintro e3 w3 ⟨rfl, hbel3⟩; have HI3 := qh (HI.out.later hbel3); clear rc0 rc1 rf0 rf1
   obtain ⟨rc0, rc1, rf0, rf1⟩ := HI3.out.cells; clear hbel3 hds hsz
   go_wp2_with (at_builtin; refine wpList_append_own _ rfl _ _ 161 rfl (w.heap.size + 1) 167 i0 zwv 4 40 Tryz.underlying161 hi hz0 hz1 hz2 rfl (by decide) _ _ _ rfl (HI3.out.own.alloc _) ⟨w3.heap.size, 0, none⟩ 1 1 [.int .i64 3, .string ⟨#[]⟩, .int .i64 n, .int .i64 (j : Int)] rfl rfl ?c1 ?c2 ?c3 ?c4 ?c5 ?_)
   case c1 =>
    intro j u hj
    match j, hj with
    | 0, hj => simp at hj; subst hj; simp [Addr.add]
    | 1, hj => simp at hj; subst hj; simp [Addr.add]
    | 2, hj => simp at hj; subst hj; simp [Addr.add]
    | 3, hj => simp at hj; subst hj; simp [Addr.add]
   case c2 =>
    intro u hu; simp only [List.mem_cons, List.not_mem_nil, or_false] at hu
    rcases hu with rfl | rfl | rfl | rfl <;> rfl
   case c3 => unfold maxLen; omega
   case c4 => omega
   case c5 => have := HI3.out.size; simp; omega
   intro v' w5 hown' hgrow _; have HI5 := qh (HI3.out.app (t := Tk.mk 3 ⟨#[]⟩ n j) _ hown' hgrow); clear hown' hgrow; go_wp2_with fail
   exact ⟨znx e (acc ++ [Tk.mk 3 ⟨#[]⟩ n j]) v' hes (by simp; omega) HST.out HI5.out (by kernel_rfl), by simp [mu6, intOf]; omega⟩
theorem way_done_mid (ws : List ByteArray) (s : ByteArray) (w wr : World) (r : TR) (K : Act → World → Prop) (f : Nat → Value) (v : Value) (j : Nat) (acc : List Tk) (hs : s.size ≤ 3000) (hlt : j < s.size) (hal : acc.length ≤ j) (hL : RefLists ws w)
  (he : zj7 ws signsS s (zz3 gapB s j) acc = r) (hinv : RInv w acc v wr) (hng : gapB (s[j].toNat : Int) = false)
  (hlet : letB (s[j].toNat : Int) = false) (hdig : digB (s[j].toNat : Int) = true) (e : Nat) (hee : zz3 digB s j = e) (hge : j < e) (hes : e ≤ s.size) (hex : e < s.size) (n : Int) (hn : numL (s.extract j e).data.toList = n) (h1 : ¬ 1 < e - j) (hb : ¬ 1000000000 < n) (hrd : zj6 ws signsS s j = .tok 3 ⟨#[]⟩ n e) :
  Code.wp Tryz.prog zh4 (Q6 ws s w r K (s.size - j)) (fr s w.heap.size v (.int .i64 (j : Int)) f) wr := by
 have _h3 := hge
 have _h4 := hes
 clear _h3 _h4
 have _h1 := hL
 have _h2 := hal
 clear _h1 _h2
 obtain ⟨i0, hi, hz0, hz1, hz2⟩ := info_parts zw3
 have hps := zqq gapB s j hlt hng
 rw [hps] at he
 have HE := qh he
 have hng2 := hng
 simp only [gapB, Bool.or_eq_false_iff] at hng2
 obtain ⟨g1, g2⟩ := hng2
 have HI := qh hinv
 obtain ⟨rc0, rc1, rf0, rf1⟩ := hinv.cells
 have HLR := qh (hinv.lists hL)
 clear he hinv hng hps hL
 have HST := qh ((zv7 ws signsS s j acc (3) (n) (⟨#[]⟩) e hlt hrd (by omega)).symm.trans HE.out)
 have HEE := qh hee
 have HLET := qh hlet
 have HDIG := qh hdig
 have HNN := qh hn
 clear hn
 clear hee hlet hdig HE hrd
 conv => arg 2; whnf
 unfold fr Q6
 go_wp2_with fail
 refine (zz2 _ _).mono ?_
 rw [HLET.out]
 rintro e1 w1 ⟨rfl, rfl⟩
 go_wp2_with fail
 refine (zz5 _ _).mono ?_
 rw [HDIG.out]
 rintro e1 w1 ⟨rfl, rfl⟩
 go_wp2_with fail
 go_loop [5] (fun v => ∃ q : Nat, j ≤ q ∧ q ≤ e ∧ v = .int .i64 q ∧ zz3 digB s q = e) (fun v => s.size - (intOf v).toNat)
 case atStart => exact ⟨j, Nat.le_refl _, by omega, rfl, HEE.out⟩
 case round =>
  obtain ⟨q, hq1, hq2, rfl, hqe⟩ := hrel
  by_cases hqs : q < s.size
  ·
   cases hd : digB (s[q].toNat : Int)
   ·
    have hst := zqq digB s q hqs hd; have hqq : e = q := by omega
    subst hqq; have HD1 := qh hd; clear hd hst hqe; go_wp2_with fail; refine (zz5 _ _).mono ?_; rw [HD1.out]; rintro e2 w2 ⟨rfl, rfl⟩; go_wp2_with fail
    have hds : ∀ i, (hi : i < (s.extract j e).size) → digB ((s.extract j e)[i].toNat : Int) = true := fun i hi => by
     rw [zk6 s j e i hes hi]; have hi2 : i < e - j := by rw [zq4 s j e (by omega) hes] at hi; exact hi
     exact zh3 digB s (s.size - j) j (by omega) (j + i) (by omega) (by rw [HEE.out]; omega) (by omega)
    have hsz := zq4 s j e (by omega) hes; refine (zbq (s.extract j e) _ (by omega) (by omega) hds).mono ?_; rw [HNN.out]; rintro e3 w3 ⟨rfl, hbel3⟩; have HI3 := qh (HI.out.later hbel3)
    clear rc0 rc1 rf0 rf1; obtain ⟨rc0, rc1, rf0, rf1⟩ := HI3.out.cells; clear hbel3 hds hsz
    go_wp2_with (at_builtin; refine wpList_append_own _ rfl _ _ 161 rfl (w.heap.size + 1) 167 i0 zwv 4 40 Tryz.underlying161 hi hz0 hz1 hz2 rfl (by decide) _ _ _ rfl (HI3.out.own.alloc _) ⟨w3.heap.size, 0, none⟩ 1 1 [.int .i64 3, .string ⟨#[]⟩, .int .i64 n, .int .i64 (j : Int)] rfl rfl ?c1 ?c2 ?c3 ?c4 ?c5 ?_)
    case c1 =>
     intro j u hj
     match j, hj with
     | 0, hj => simp at hj; subst hj; simp [Addr.add]
     | 1, hj => simp at hj; subst hj; simp [Addr.add]
     | 2, hj => simp at hj; subst hj; simp [Addr.add]
     | 3, hj => simp at hj; subst hj; simp [Addr.add]
    case c2 =>
     intro u hu; simp only [List.mem_cons, List.not_mem_nil, or_false] at hu
     rcases hu with rfl | rfl | rfl | rfl <;> rfl
    case c3 => unfold maxLen; omega
    case c4 => omega
    case c5 => have := HI3.out.size; simp; omega
    intro v' w5 hown' hgrow _; have HI5 := qh (HI3.out.app (t := Tk.mk 3 ⟨#[]⟩ n j) _ hown' hgrow); clear hown' hgrow; go_wp2_with fail
    exact ⟨znx e (acc ++ [Tk.mk 3 ⟨#[]⟩ n j]) v' hes (by simp; omega) HST.out HI5.out (by kernel_rfl), by simp [mu6, intOf]; omega⟩
   ·
    have HST1 := qh ((zxj digB s q hqs hd).trans hqe); have hle := zq8 digB s (q + 1); rw [HST1.out] at hle; have HD1 := qh hd; clear hd hqe; go_wp2_with fail; refine (zz5 _ _).mono ?_; rw [HD1.out]
    rintro e2 w2 ⟨rfl, rfl⟩; go_wp2_with fail
    go_round
    case rel => exact ⟨q + 1, by omega, by omega, by go_num, HST1.out⟩
    case measure => simp [intOf]; omega
  ·
   exfalso; omega
theorem way_done_end (ws : List ByteArray) (s : ByteArray) (w wr : World) (r : TR) (K : Act → World → Prop) (f : Nat → Value) (v : Value) (j : Nat) (acc : List Tk) (hs : s.size ≤ 3000) (hlt : j < s.size) (hal : acc.length ≤ j) (hL : RefLists ws w)
  (he : zj7 ws signsS s (zz3 gapB s j) acc = r) (hinv : RInv w acc v wr) (hng : gapB (s[j].toNat : Int) = false)
  (hlet : letB (s[j].toNat : Int) = false) (hdig : digB (s[j].toNat : Int) = true) (e : Nat) (hee : zz3 digB s j = e) (hge : j < e) (hes : e ≤ s.size) (hex : e = s.size) (n : Int) (hn : numL (s.extract j e).data.toList = n) (h1 : ¬ 1 < e - j) (hb : ¬ 1000000000 < n) (hrd : zj6 ws signsS s j = .tok 3 ⟨#[]⟩ n e) :
  Code.wp Tryz.prog zh4 (Q6 ws s w r K (s.size - j)) (fr s w.heap.size v (.int .i64 (j : Int)) f) wr := by
 have _h3 := hge
 have _h4 := hes
 clear _h3 _h4
 have _h1 := hL
 have _h2 := hal
 clear _h1 _h2
 obtain ⟨i0, hi, hz0, hz1, hz2⟩ := info_parts zw3
 have hps := zqq gapB s j hlt hng
 rw [hps] at he
 have HE := qh he
 have hng2 := hng
 simp only [gapB, Bool.or_eq_false_iff] at hng2
 obtain ⟨g1, g2⟩ := hng2
 have HI := qh hinv
 obtain ⟨rc0, rc1, rf0, rf1⟩ := hinv.cells
 have HLR := qh (hinv.lists hL)
 clear he hinv hng hps hL
 have HST := qh ((zv7 ws signsS s j acc (3) (n) (⟨#[]⟩) e hlt hrd (by omega)).symm.trans HE.out)
 have HEE := qh hee
 have HLET := qh hlet
 have HDIG := qh hdig
 have HNN := qh hn
 clear hn
 clear hee hlet hdig HE hrd
 have hex2 : s.size ≤ e := by omega
 clear hex
 conv => arg 2; whnf
 unfold fr Q6
 go_wp2_with fail
 refine (zz2 _ _).mono ?_
 rw [HLET.out]
 rintro e1 w1 ⟨rfl, rfl⟩
 go_wp2_with fail
 refine (zz5 _ _).mono ?_
 rw [HDIG.out]
 rintro e1 w1 ⟨rfl, rfl⟩
 go_wp2_with fail
 go_loop [5] (fun v => ∃ q : Nat, j ≤ q ∧ q ≤ e ∧ v = .int .i64 q ∧ zz3 digB s q = e) (fun v => s.size - (intOf v).toNat)
 case atStart => exact ⟨j, Nat.le_refl _, by omega, rfl, HEE.out⟩
 case round =>
  obtain ⟨q, hq1, hq2, rfl, hqe⟩ := hrel
  by_cases hqs : q < s.size
  ·
   cases hd : digB (s[q].toNat : Int)
   ·
    have hst := zqq digB s q hqs hd; exfalso; omega
   ·
    have HST1 := qh ((zxj digB s q hqs hd).trans hqe); have hle := zq8 digB s (q + 1); rw [HST1.out] at hle; have HD1 := qh hd; clear hd hqe; go_wp2_with fail; refine (zz5 _ _).mono ?_; rw [HD1.out]
    rintro e2 w2 ⟨rfl, rfl⟩; go_wp2_with fail
    go_round
    case rel => exact ⟨q + 1, by omega, by omega, by go_num, HST1.out⟩
    case measure => simp [intOf]; omega
  ·
   have hqq : e = q := by have := zw5 digB s q (by omega); omega
   subst hqq; clear hqe; go_wp2_with fail; have hds : ∀ i, (hi : i < (s.extract j e).size) → digB ((s.extract j e)[i].toNat : Int) = true := fun i hi => by
    rw [zk6 s j e i hes hi]; have hi2 : i < e - j := by rw [zq4 s j e (by omega) hes] at hi; exact hi
    exact zh3 digB s (s.size - j) j (by omega) (j + i) (by omega) (by rw [HEE.out]; omega) (by omega)
   have hsz := zq4 s j e (by omega) hes; refine (zbq (s.extract j e) _ (by omega) (by omega) hds).mono ?_; rw [HNN.out]; rintro e3 w3 ⟨rfl, hbel3⟩; have HI3 := qh (HI.out.later hbel3); clear rc0 rc1 rf0 rf1
   obtain ⟨rc0, rc1, rf0, rf1⟩ := HI3.out.cells; clear hbel3 hds hsz
   go_wp2_with (at_builtin; refine wpList_append_own _ rfl _ _ 161 rfl (w.heap.size + 1) 167 i0 zwv 4 40 Tryz.underlying161 hi hz0 hz1 hz2 rfl (by decide) _ _ _ rfl (HI3.out.own.alloc _) ⟨w3.heap.size, 0, none⟩ 1 1 [.int .i64 3, .string ⟨#[]⟩, .int .i64 n, .int .i64 (j : Int)] rfl rfl ?c1 ?c2 ?c3 ?c4 ?c5 ?_)
   case c1 =>
    intro j u hj
    match j, hj with
    | 0, hj => simp at hj; subst hj; simp [Addr.add]
    | 1, hj => simp at hj; subst hj; simp [Addr.add]
    | 2, hj => simp at hj; subst hj; simp [Addr.add]
    | 3, hj => simp at hj; subst hj; simp [Addr.add]
   case c2 =>
    intro u hu; simp only [List.mem_cons, List.not_mem_nil, or_false] at hu
    rcases hu with rfl | rfl | rfl | rfl <;> rfl
   case c3 => unfold maxLen; omega
   case c4 => omega
   case c5 => have := HI3.out.size; simp; omega
   intro v' w5 hown' hgrow _; have HI5 := qh (HI3.out.app (t := Tk.mk 3 ⟨#[]⟩ n j) _ hown' hgrow); clear hown' hgrow; go_wp2_with fail
   exact ⟨znx e (acc ++ [Tk.mk 3 ⟨#[]⟩ n j]) v' hes (by simp; omega) HST.out HI5.out (by kernel_rfl), by simp [mu6, intOf]; omega⟩
end Go.Proofs.YtoimgcjbcbhclaaGreatDoor
