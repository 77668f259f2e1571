/-
  Rounds of the reference's Tokens: strings.
-/
import Derived.Test.YtodmgaikhbmlnaaGreatDoorHn25
set_option maxRecDepth 100000
set_option maxHeartbeats 16000000
namespace Go.Proofs.YtodmgaikhbmlnaaGreatDoor
open Go.RowKit
theorem zd5 (w : World) (a c d : Int) (x : ByteArray) (j : Nat) (u : Value) (h : ([.int .i64 a, .string x, .int .i64 c, .int .i64 d] : List Value)[j]? = some u) :
  (w.alloc (.cells #[.int .i64 a, .string x, .int .i64 c, .int .i64 d] 68)).cell? (Addr.add ⟨w.heap.size, 0, none⟩ j) = some u := by
 match j, h with
 | 0, h => simp at h; subst h; simp [Addr.add]
 | 1, h => simp at h; subst h; simp [Addr.add]
 | 2, h => simp at h; subst h; simp [Addr.add]
 | 3, h => simp at h; subst h; simp [Addr.add]
theorem zm9 (a c d : Int) (x : ByteArray) (u : Value) (h : u ∈ ([.int .i64 a, .string x, .int .i64 c, .int .i64 d] : List Value)) : u.oneCell' = true := by
 simp only [List.mem_cons, List.not_mem_nil, or_false] at h
 rcases h with rfl | rfl | rfl | rfl <;> rfl
theorem zp9 (s : ByteArray) (a b : Nat) : (s.extract a b).data.toList = (s.data.toList.drop a).take (b - a) := Lib.extract_data s a b
theorem cat1 (s : ByteArray) (q : Nat) (said : List UInt8) (h : q < s.size) : zq6 said ++ s.extract q (q + 1) = zq6 (said ++ [s[q]]) := by
 apply WideShapes.bytes_inj
 have h1 : (zq6 said ++ s.extract q (q + 1)).data.toList = said ++ (s.extract q (q + 1)).data.toList := by simp [zq6]
 rw [h1, zp9]
 have h2 : q < s.data.toList.length := by simpa using h
 rw [List.drop_eq_getElem_cons h2, show q + 1 - q = 1 from by omega]
 rfl
theorem cat2 (said : List UInt8) : zq6 said ++ ⟨#[10]⟩ = zq6 (said ++ [10]) := by
 apply WideShapes.bytes_inj
 simp [zq6]
theorem zwk (said : List UInt8) : (zq6 said).size = said.length := by simp [zq6, ByteArray.size]
theorem way_sok (ws : List ByteArray) (s : ByteArray) (w wr : World) (r : TR) (K : Act → World → Prop) (f : Nat → Value) (v : Value) (j : Nat) (acc : List Tk) (hs : s.size ≤ 3000) (hlt : j < s.size) (hal : acc.length ≤ j) (hL : RefLists ws w)
  (he : zkz ws signsS s (zz3 gapB s j) acc = r) (hinv : RInv w acc v wr) (hng : gapB (s[j].toNat : Int) = false)
  (hlet : letB (s[j].toNat : Int) = false) (hdig : digB (s[j].toNat : Int) = false) (hquo : (((s[j].toNat : Nat) : Int) == 39) = true) (l : List UInt8) (e : Nat) (hR : strR s (j + 1) [] = .ok l e) (hes : e ≤ s.size) (hje : j < e) (hl : l.length ≤ 500) (hrd : zj9 ws signsS s j = .tok 4 (zq6 l) 0 e) :
  Code.wp Tryz.prog zh7 (Q6 ws s w r K (s.size - j)) (fr s w.heap.size v (.int .i64 (j : Int)) f) wr := by
 have _h1 := hL
 have _h2 := hal
 clear _h1 _h2
 obtain ⟨i0, hi, hz0, hz1, hz2⟩ := info_parts zw5
 have hps := zqk gapB s j hlt hng
 rw [hps] at he
 have HE := qh he
 have hng2 := hng
 simp only [gapB, Bool.or_eq_false_iff] at hng2
 obtain ⟨g1, g2⟩ := hng2
 have HI := qh hinv
 obtain ⟨rc0, rc1, rf0, rf1⟩ := hinv.cells
 have HLR := qh (hinv.lists hL)
 clear he hinv hng hps hL
 have HST := qh ((zwq ws signsS s j acc (4) (0) (zq6 l) e hlt hrd (by omega)).symm.trans HE.out)
 have HR := qh hR
 have HLET := qh hlet
 have HDIG := qh hdig
 clear hlet hdig HE hrd hR
 conv => arg 2; whnf
 unfold fr Q6
 go_wp2_with fail
 refine (zz2 _ _).mono ?_
 rw [HLET.out]
 rintro e1 w1 ⟨rfl, rfl⟩
 go_wp2_with fail
 refine (zz5 _ _).mono ?_
 rw [HDIG.out]
 rintro e1 w1 ⟨rfl, rfl⟩
 go_wp2_with fail
 go_loop [5, 12] (fun i v => ∃ (q : Nat) (said : List UInt8), j + 1 ≤ q ∧ q ≤ s.size ∧ said.length ≤ q ∧ i = .int .i64 q ∧ v = .string (zq6 said) ∧ strR s q said = .ok l e) (fun i _ => s.size - (intOf i).toNat)
 case atStart => exact ⟨j + 1, [], Nat.le_refl _, by omega, by simp, by go_num, rfl, HR.out⟩
 case round =>
  obtain ⟨q, said, hq1, hq2, hq3, rfl, rfl, hqe⟩ := hrel
  by_cases hqs : q < s.size
  ·
   have hbt := bt_eq s q hqs; have b1 := zkj s[q] 39; have b2 := zkj s[q] 10; have b3 := zkj s[q] 92; have ql : ((q : Int) == (s.size : Int)) = false := beq_eq_false_iff_ne.2 (by omega)
   by_cases c1 : s[q] = 39
   ·
    have t1 : (((s[q].toNat : Nat) : Int) == 39) = true := by rw [c1]; rfl
    have t2 : (((s[q].toNat : Nat) : Int) == 10) = false := by rw [c1]; rfl
    rw [zdy s q said hqs (by rw [hbt]; exact c1)] at hqe
    have hp1 := (SR.ok.inj hqe).1; have hp2 := (SR.ok.inj hqe).2; subst hp1; subst hp2; clear hqe; have hos := zwk said; have hos2 : (zq6 said).size ≤ 500 := by omega
    clear hos b1 b2 b3 c1 hbt
    go_wp2_with (at_builtin; refine wpList_append_own _ rfl _ _ 61 rfl (w.heap.size + 1) 68 i0 zw1 4 40 Tryz.underlying61 hi hz0 hz1 hz2 rfl (by decide) _ _ _ rfl (HI.out.own.alloc _) ⟨w1.heap.size, 0, none⟩ 1 1 [.int .i64 4, .string (zq6 said), .int .i64 0, .int .i64 (j : Int)] rfl rfl (zd5 _ _ _ _ _) (zm9 _ _ _ _) (by unfold maxLen; omega) (by omega) (by have := HI.out.size; simp; omega) ?_; intro v' w5 hown' hgrow _; have HI5 := qh (HI.out.app (t := Tk.mk 4 (zq6 said) 0 j) _ hown' hgrow); clear hown' hgrow)
    exact ⟨zpj (q + 1) (acc ++ [Tk.mk 4 (zq6 said) 0 j]) v' hes (by simp; omega) HST.out HI5.out (by kernel_rfl), by simp [mu6, intOf]; omega⟩
   ·
    have t1 : (((s[q].toNat : Nat) : Int) == 39) = false := by rw [show (39 : Int) = (((39 : UInt8).toNat : Nat) : Int) from rfl, b1]; simp [c1]
    by_cases c2 : s[q] = 10
    ·
     have t2 : (((s[q].toNat : Nat) : Int) == 10) = true := by rw [c2]; rfl
     rw [strR_lf s q said hqs (by rw [hbt]; exact c2)] at hqe
     cases hqe
    ·
     have t2 : (((s[q].toNat : Nat) : Int) == 10) = false := by rw [show (10 : Int) = (((10 : UInt8).toNat : Nat) : Int) from rfl, b2]; simp [c2]
     by_cases c3 : s[q] = 92
     ·
      have t3 : (((s[q].toNat : Nat) : Int) != 92) = false := by rw [c3]; rfl
      by_cases hq4 : q + 1 < s.size
      ·
       have ql2 : (((q : Int) + 1) == (s.size : Int)) = false := beq_eq_false_iff_ne.2 (by omega); have hbt2 := bt_eq s (q + 1) hq4; have d1 := zkj s[q + 1] 110; have d2 := zkj s[q + 1] 39
       have d3 := zkj s[q + 1] 92
       by_cases k1 : s[q + 1] = 110
       ·
        have u1 : (((s[q + 1].toNat : Nat) : Int) == 110) = true := by rw [k1]; rfl
        rw [zyy s q said 10 hqs (by rw [hbt]; exact c3) hq4 (by rw [hbt2, k1]; rfl)] at hqe
        have HQ := qh hqe; have hos := zwk said; have hos2 : (zq6 said).size ≤ 3000 := by omega
        clear hqe hos b1 b2 b3 c1 c2 c3 hbt hbt2 d1 d2 d3 k1; go_wp2_with fail
        go_round
        case rel => exact ⟨q + 2, said ++ [10], by omega, by omega, by simp; omega, by go_num, by rw [cat2], HQ.out⟩
        case measure => simp [intOf]; omega
       ·
        have u1 : (((s[q + 1].toNat : Nat) : Int) == 110) = false := by rw [show (110 : Int) = (((110 : UInt8).toNat : Nat) : Int) from rfl, d1]; simp [k1]
        by_cases k2 : s[q + 1] = 39
        ·
         have u2 : (((s[q + 1].toNat : Nat) : Int) == 39) = true := by rw [k2]; rfl
         rw [zyy s q said s[q + 1] hqs (by rw [hbt]; exact c3) hq4 (by rw [hbt2, k2]; rfl)] at hqe
         have HQ := qh hqe; have hos := zwk said; have hos2 : (zq6 said).size ≤ 3000 := by omega
         clear hqe hos b1 b2 b3 c1 c2 c3 hbt hbt2 d1 d2 d3 k1 k2; go_wp2_with fail
         go_round
         case rel => exact ⟨q + 2, said ++ [s[q + 1]], by omega, by omega, by simp; omega, by go_num, by rw [cat1 s (q + 1) said hq4], HQ.out⟩
         case measure => simp [intOf]; omega
        ·
         have u2 : (((s[q + 1].toNat : Nat) : Int) == 39) = false := by rw [show (39 : Int) = (((39 : UInt8).toNat : Nat) : Int) from rfl, d2]; simp [k2]
         by_cases k3 : s[q + 1] = 92
         ·
          have u3 : (((s[q + 1].toNat : Nat) : Int) == 92) = true := by rw [k3]; rfl
          rw [zyy s q said s[q + 1] hqs (by rw [hbt]; exact c3) hq4 (by rw [hbt2, k3]; rfl)] at hqe
          have HQ := qh hqe; have hos := zwk said; have hos2 : (zq6 said).size ≤ 3000 := by omega
          clear hqe hos b1 b2 b3 c1 c2 c3 hbt hbt2 d1 d2 d3 k1 k2 k3; go_wp2_with fail
          go_round
          case rel => exact ⟨q + 2, said ++ [s[q + 1]], by omega, by omega, by simp; omega, by go_num, by rw [cat1 s (q + 1) said hq4], HQ.out⟩
          case measure => simp [intOf]; omega
         ·
          have u3 : (((s[q + 1].toNat : Nat) : Int) == 92) = false := by rw [show (92 : Int) = (((92 : UInt8).toNat : Nat) : Int) from rfl, d3]; simp [k3]
          have hno : esc (bt s (q + 1)) = none := by rw [hbt2]; simp [esc, k1, k2, k3]
          rw [zwz s q said hqs (by rw [hbt]; exact c3) (fun _ => hno)] at hqe
          cases hqe
      ·
       have ql2 : (((q : Int) + 1) == (s.size : Int)) = true := beq_iff_eq.2 (by omega); rw [zwz s q said hqs (by rw [hbt]; exact c3) (fun h => absurd h hq4)] at hqe
       cases hqe
     ·
      have t3 : (((s[q].toNat : Nat) : Int) != 92) = true := by rw [bne, show (92 : Int) = (((92 : UInt8).toNat : Nat) : Int) from rfl, b3]; simp [c3]
      rw [zd0 s q said hqs (by rw [hbt]; exact c1) (by rw [hbt]; exact c2) (by rw [hbt]; exact c3), hbt] at hqe
      have HQ := qh hqe; have hos := zwk said; have hos2 : (zq6 said).size ≤ 3000 := by omega
      clear hqe hos b1 b2 b3 c1 c2 c3 hbt; go_wp2_with fail
      go_round
      case rel => exact ⟨q + 1, said ++ [s[q]], by omega, by omega, by simp; omega, by go_num, by rw [cat1 s q said hqs], HQ.out⟩
      case measure => simp [intOf]; omega
  ·
   have hqq : s.size = q := by omega
   subst hqq; rw [zm3 s s.size said hqs] at hqe; cases hqe
theorem way_slong (ws : List ByteArray) (s : ByteArray) (w wr : World) (r : TR) (K : Act → World → Prop) (f : Nat → Value) (v : Value) (j : Nat) (acc : List Tk) (hs : s.size ≤ 3000) (hlt : j < s.size) (hal : acc.length ≤ j) (hL : RefLists ws w)
  (he : zkz ws signsS s (zz3 gapB s j) acc = r) (hinv : RInv w acc v wr) (hng : gapB (s[j].toNat : Int) = false)
  (hlet : letB (s[j].toNat : Int) = false) (hdig : digB (s[j].toNat : Int) = false) (hquo : (((s[j].toNat : Nat) : Int) == 39) = true) (l : List UInt8) (e : Nat) (hR : strR s (j + 1) [] = .ok l e) (hl : 500 < l.length) (hrd : zj9 ws signsS s j = .bad 4 j) :
  Code.wp Tryz.prog zh7 (Q6 ws s w r K (s.size - j)) (fr s w.heap.size v (.int .i64 (j : Int)) f) wr := by
 have _h1 := hL
 have _h2 := hal
 clear _h1 _h2
 obtain ⟨i0, hi, hz0, hz1, hz2⟩ := info_parts zw5
 have hps := zqk gapB s j hlt hng
 rw [hps] at he
 have HE := qh he
 have hng2 := hng
 simp only [gapB, Bool.or_eq_false_iff] at hng2
 obtain ⟨g1, g2⟩ := hng2
 have HI := qh hinv
 obtain ⟨rc0, rc1, rf0, rf1⟩ := hinv.cells
 have HLR := qh (hinv.lists hL)
 clear he hinv hng hps hL
 have hq : r = .bad 4 j := by rw [← HE.out, zk3 ws signsS s j acc 4 j hlt hrd]
 subst hq
 have HR := qh hR
 have HLET := qh hlet
 have HDIG := qh hdig
 clear hlet hdig HE hrd hR
 conv => arg 2; whnf
 unfold fr Q6
 go_wp2_with fail
 refine (zz2 _ _).mono ?_
 rw [HLET.out]
 rintro e1 w1 ⟨rfl, rfl⟩
 go_wp2_with fail
 refine (zz5 _ _).mono ?_
 rw [HDIG.out]
 rintro e1 w1 ⟨rfl, rfl⟩
 go_wp2_with fail
 go_loop [5, 12] (fun i v => ∃ (q : Nat) (said : List UInt8), j + 1 ≤ q ∧ q ≤ s.size ∧ said.length ≤ q ∧ i = .int .i64 q ∧ v = .string (zq6 said) ∧ strR s q said = .ok l e) (fun i _ => s.size - (intOf i).toNat)
 case atStart => exact ⟨j + 1, [], Nat.le_refl _, by omega, by simp, by go_num, rfl, HR.out⟩
 case round =>
  obtain ⟨q, said, hq1, hq2, hq3, rfl, rfl, hqe⟩ := hrel
  by_cases hqs : q < s.size
  ·
   have hbt := bt_eq s q hqs; have b1 := zkj s[q] 39; have b2 := zkj s[q] 10; have b3 := zkj s[q] 92; have ql : ((q : Int) == (s.size : Int)) = false := beq_eq_false_iff_ne.2 (by omega)
   by_cases c1 : s[q] = 39
   ·
    have t1 : (((s[q].toNat : Nat) : Int) == 39) = true := by rw [c1]; rfl
    have t2 : (((s[q].toNat : Nat) : Int) == 10) = false := by rw [c1]; rfl
    rw [zdy s q said hqs (by rw [hbt]; exact c1)] at hqe
    have hp1 := (SR.ok.inj hqe).1; have hp2 := (SR.ok.inj hqe).2; subst hp1; subst hp2; clear hqe; have hos := zwk said; have hos2 : 500 < (zq6 said).size := by omega
    clear hos b1 b2 b3 c1 hbt; go_wp2_with fail; exact bodyPost_ret (v := .tuple #[.slice none 0 0, .agg #[.int .i64 4, .int .i64 (j : Int)]]) (by simp [results, Tryz.results45, go_sem, rc0, rc1]) rfl ⟨rfl, HI.out.out _ _⟩
   ·
    have t1 : (((s[q].toNat : Nat) : Int) == 39) = false := by rw [show (39 : Int) = (((39 : UInt8).toNat : Nat) : Int) from rfl, b1]; simp [c1]
    by_cases c2 : s[q] = 10
    ·
     have t2 : (((s[q].toNat : Nat) : Int) == 10) = true := by rw [c2]; rfl
     rw [strR_lf s q said hqs (by rw [hbt]; exact c2)] at hqe
     cases hqe
    ·
     have t2 : (((s[q].toNat : Nat) : Int) == 10) = false := by rw [show (10 : Int) = (((10 : UInt8).toNat : Nat) : Int) from rfl, b2]; simp [c2]
     by_cases c3 : s[q] = 92
     ·
      have t3 : (((s[q].toNat : Nat) : Int) != 92) = false := by rw [c3]; rfl
      by_cases hq4 : q + 1 < s.size
      ·
       have ql2 : (((q : Int) + 1) == (s.size : Int)) = false := beq_eq_false_iff_ne.2 (by omega); have hbt2 := bt_eq s (q + 1) hq4; have d1 := zkj s[q + 1] 110; have d2 := zkj s[q + 1] 39
       have d3 := zkj s[q + 1] 92
       by_cases k1 : s[q + 1] = 110
       ·
        have u1 : (((s[q + 1].toNat : Nat) : Int) == 110) = true := by rw [k1]; rfl
        rw [zyy s q said 10 hqs (by rw [hbt]; exact c3) hq4 (by rw [hbt2, k1]; rfl)] at hqe
        have HQ := qh hqe; have hos := zwk said; have hos2 : (zq6 said).size ≤ 3000 := by omega
        clear hqe hos b1 b2 b3 c1 c2 c3 hbt hbt2 d1 d2 d3 k1; go_wp2_with fail
        go_round
        case rel => exact ⟨q + 2, said ++ [10], by omega, by omega, by simp; omega, by go_num, by rw [cat2], HQ.out⟩
        case measure => simp [intOf]; omega
       ·
        have u1 : (((s[q + 1].toNat : Nat) : Int) == 110) = false := by rw [show (110 : Int) = (((110 : UInt8).toNat : Nat) : Int) from rfl, d1]; simp [k1]
        by_cases k2 : s[q + 1] = 39
        ·
         have u2 : (((s[q + 1].toNat : Nat) : Int) == 39) = true := by rw [k2]; rfl
         rw [zyy s q said s[q + 1] hqs (by rw [hbt]; exact c3) hq4 (by rw [hbt2, k2]; rfl)] at hqe
         have HQ := qh hqe; have hos := zwk said; have hos2 : (zq6 said).size ≤ 3000 := by omega
         clear hqe hos b1 b2 b3 c1 c2 c3 hbt hbt2 d1 d2 d3 k1 k2; go_wp2_with fail
         go_round
         case rel => exact ⟨q + 2, said ++ [s[q + 1]], by omega, by omega, by simp; omega, by go_num, by rw [cat1 s (q + 1) said hq4], HQ.out⟩
         case measure => simp [intOf]; omega
        ·
         have u2 : (((s[q + 1].toNat : Nat) : Int) == 39) = false := by rw [show (39 : Int) = (((39 : UInt8).toNat : Nat) : Int) from rfl, d2]; simp [k2]
         by_cases k3 : s[q + 1] = 92
         ·
          have u3 : (((s[q + 1].toNat : Nat) : Int) == 92) = true := by rw [k3]; rfl
          rw [zyy s q said s[q + 1] hqs (by rw [hbt]; exact c3) hq4 (by rw [hbt2, k3]; rfl)] at hqe
          have HQ := qh hqe; have hos := zwk said; have hos2 : (zq6 said).size ≤ 3000 := by omega
          clear hqe hos b1 b2 b3 c1 c2 c3 hbt hbt2 d1 d2 d3 k1 k2 k3; go_wp2_with fail
          go_round
          case rel => exact ⟨q + 2, said ++ [s[q + 1]], by omega, by omega, by simp; omega, by go_num, by rw [cat1 s (q + 1) said hq4], HQ.out⟩
          case measure => simp [intOf]; omega
         ·
          have u3 : (((s[q + 1].toNat : Nat) : Int) == 92) = false := by rw [show (92 : Int) = (((92 : UInt8).toNat : Nat) : Int) from rfl, d3]; simp [k3]
          have hno : esc (bt s (q + 1)) = none := by rw [hbt2]; simp [esc, k1, k2, k3]
          rw [zwz s q said hqs (by rw [hbt]; exact c3) (fun _ => hno)] at hqe
          cases hqe
      ·
       have ql2 : (((q : Int) + 1) == (s.size : Int)) = true := beq_iff_eq.2 (by omega); rw [zwz s q said hqs (by rw [hbt]; exact c3) (fun h => absurd h hq4)] at hqe
       cases hqe
     ·
      have t3 : (((s[q].toNat : Nat) : Int) != 92) = true := by rw [bne, show (92 : Int) = (((92 : UInt8).toNat : Nat) : Int) from rfl, b3]; simp [c3]
      rw [zd0 s q said hqs (by rw [hbt]; exact c1) (by rw [hbt]; exact c2) (by rw [hbt]; exact c3), hbt] at hqe
      have HQ := qh hqe; have hos := zwk said; have hos2 : (zq6 said).size ≤ 3000 := by omega
      clear hqe hos b1 b2 b3 c1 c2 c3 hbt; go_wp2_with fail
      go_round
      case rel => exact ⟨q + 1, said ++ [s[q]], by omega, by omega, by simp; omega, by go_num, by rw [cat1 s q said hqs], HQ.out⟩
      case measure => simp [intOf]; omega
  ·
   have hqq : s.size = q := by omega
   subst hqq; rw [zm3 s s.size said hqs] at hqe; cases hqe
theorem way_sbad (ws : List ByteArray) (s : ByteArray) (w wr : World) (r : TR) (K : Act → World → Prop) (f : Nat → Value) (v : Value) (j : Nat) (acc : List Tk) (hs : s.size ≤ 3000) (hlt : j < s.size) (hal : acc.length ≤ j) (hL : RefLists ws w)
  (he : zkz ws signsS s (zz3 gapB s j) acc = r) (hinv : RInv w acc v wr) (hng : gapB (s[j].toNat : Int) = false)
  (hlet : letB (s[j].toNat : Int) = false) (hdig : digB (s[j].toNat : Int) = false) (hquo : (((s[j].toNat : Nat) : Int) == 39) = true) (p : Nat) (hR : strR s (j + 1) [] = .bad p) (hrd : zj9 ws signsS s j = .bad 3 p) :
  Code.wp Tryz.prog zh7 (Q6 ws s w r K (s.size - j)) (fr s w.heap.size v (.int .i64 (j : Int)) f) wr := by
 have _h1 := hL
 have _h2 := hal
 clear _h1 _h2
 obtain ⟨i0, hi, hz0, hz1, hz2⟩ := info_parts zw5
 have hps := zqk gapB s j hlt hng
 rw [hps] at he
 have HE := qh he
 have hng2 := hng
 simp only [gapB, Bool.or_eq_false_iff] at hng2
 obtain ⟨g1, g2⟩ := hng2
 have HI := qh hinv
 obtain ⟨rc0, rc1, rf0, rf1⟩ := hinv.cells
 have HLR := qh (hinv.lists hL)
 clear he hinv hng hps hL
 have hq : r = .bad 3 p := by rw [← HE.out, zk3 ws signsS s j acc 3 p hlt hrd]
 subst hq
 have HR := qh hR
 have HLET := qh hlet
 have HDIG := qh hdig
 clear hlet hdig HE hrd hR
 conv => arg 2; whnf
 unfold fr Q6
 go_wp2_with fail
 refine (zz2 _ _).mono ?_
 rw [HLET.out]
 rintro e1 w1 ⟨rfl, rfl⟩
 go_wp2_with fail
 refine (zz5 _ _).mono ?_
 rw [HDIG.out]
 rintro e1 w1 ⟨rfl, rfl⟩
 go_wp2_with fail
 go_loop [5, 12] (fun i v => ∃ (q : Nat) (said : List UInt8), j + 1 ≤ q ∧ q ≤ s.size ∧ said.length ≤ q ∧ i = .int .i64 q ∧ v = .string (zq6 said) ∧ strR s q said = .bad p) (fun i _ => s.size - (intOf i).toNat)
 case atStart => exact ⟨j + 1, [], Nat.le_refl _, by omega, by simp, by go_num, rfl, HR.out⟩
 case round =>
  obtain ⟨q, said, hq1, hq2, hq3, rfl, rfl, hqe⟩ := hrel
  by_cases hqs : q < s.size
  ·
   have hbt := bt_eq s q hqs; have b1 := zkj s[q] 39; have b2 := zkj s[q] 10; have b3 := zkj s[q] 92; have ql : ((q : Int) == (s.size : Int)) = false := beq_eq_false_iff_ne.2 (by omega)
   by_cases c1 : s[q] = 39
   ·
    have t1 : (((s[q].toNat : Nat) : Int) == 39) = true := by rw [c1]; rfl
    have t2 : (((s[q].toNat : Nat) : Int) == 10) = false := by rw [c1]; rfl
    rw [zdy s q said hqs (by rw [hbt]; exact c1)] at hqe
    cases hqe
   ·
    have t1 : (((s[q].toNat : Nat) : Int) == 39) = false := by rw [show (39 : Int) = (((39 : UInt8).toNat : Nat) : Int) from rfl, b1]; simp [c1]
    by_cases c2 : s[q] = 10
    ·
     have t2 : (((s[q].toNat : Nat) : Int) == 10) = true := by rw [c2]; rfl
     rw [strR_lf s q said hqs (by rw [hbt]; exact c2)] at hqe
     have hpp := SR.bad.inj hqe; subst hpp; clear hqe; clear b1 b2 b3 c1 c2 hbt; go_wp2_with fail
     exact bodyPost_ret (v := .tuple #[.slice none 0 0, .agg #[.int .i64 3, .int .i64 (q : Int)]]) (by simp [results, Tryz.results45, go_sem, rc0, rc1]) rfl ⟨rfl, HI.out.out _ _⟩
    ·
     have t2 : (((s[q].toNat : Nat) : Int) == 10) = false := by rw [show (10 : Int) = (((10 : UInt8).toNat : Nat) : Int) from rfl, b2]; simp [c2]
     by_cases c3 : s[q] = 92
     ·
      have t3 : (((s[q].toNat : Nat) : Int) != 92) = false := by rw [c3]; rfl
      by_cases hq4 : q + 1 < s.size
      ·
       have ql2 : (((q : Int) + 1) == (s.size : Int)) = false := beq_eq_false_iff_ne.2 (by omega); have hbt2 := bt_eq s (q + 1) hq4; have d1 := zkj s[q + 1] 110; have d2 := zkj s[q + 1] 39
       have d3 := zkj s[q + 1] 92
       by_cases k1 : s[q + 1] = 110
       ·
        have u1 : (((s[q + 1].toNat : Nat) : Int) == 110) = true := by rw [k1]; rfl
        rw [zyy s q said 10 hqs (by rw [hbt]; exact c3) hq4 (by rw [hbt2, k1]; rfl)] at hqe
        have HQ := qh hqe; have hos := zwk said; have hos2 : (zq6 said).size ≤ 3000 := by omega
        clear hqe hos b1 b2 b3 c1 c2 c3 hbt hbt2 d1 d2 d3 k1; go_wp2_with fail
        go_round
        case rel => exact ⟨q + 2, said ++ [10], by omega, by omega, by simp; omega, by go_num, by rw [cat2], HQ.out⟩
        case measure => simp [intOf]; omega
       ·
        have u1 : (((s[q + 1].toNat : Nat) : Int) == 110) = false := by rw [show (110 : Int) = (((110 : UInt8).toNat : Nat) : Int) from rfl, d1]; simp [k1]
        by_cases k2 : s[q + 1] = 39
        ·
         have u2 : (((s[q + 1].toNat : Nat) : Int) == 39) = true := by rw [k2]; rfl
         rw [zyy s q said s[q + 1] hqs (by rw [hbt]; exact c3) hq4 (by rw [hbt2, k2]; rfl)] at hqe
         have HQ := qh hqe; have hos := zwk said; have hos2 : (zq6 said).size ≤ 3000 := by omega
         clear hqe hos b1 b2 b3 c1 c2 c3 hbt hbt2 d1 d2 d3 k1 k2; go_wp2_with fail
         go_round
         case rel => exact ⟨q + 2, said ++ [s[q + 1]], by omega, by omega, by simp; omega, by go_num, by rw [cat1 s (q + 1) said hq4], HQ.out⟩
         case measure => simp [intOf]; omega
        ·
         have u2 : (((s[q + 1].toNat : Nat) : Int) == 39) = false := by rw [show (39 : Int) = (((39 : UInt8).toNat : Nat) : Int) from rfl, d2]; simp [k2]
         by_cases k3 : s[q + 1] = 92
         ·
          have u3 : (((s[q + 1].toNat : Nat) : Int) == 92) = true := by rw [k3]; rfl
          rw [zyy s q said s[q + 1] hqs (by rw [hbt]; exact c3) hq4 (by rw [hbt2, k3]; rfl)] at hqe
          have HQ := qh hqe; have hos := zwk said; have hos2 : (zq6 said).size ≤ 3000 := by omega
          clear hqe hos b1 b2 b3 c1 c2 c3 hbt hbt2 d1 d2 d3 k1 k2 k3; go_wp2_with fail
          go_round
          case rel => exact ⟨q + 2, said ++ [s[q + 1]], by omega, by omega, by simp; omega, by go_num, by rw [cat1 s (q + 1) said hq4], HQ.out⟩
          case measure => simp [intOf]; omega
         ·
          have u3 : (((s[q + 1].toNat : Nat) : Int) == 92) = false := by rw [show (92 : Int) = (((92 : UInt8).toNat : Nat) : Int) from rfl, d3]; simp [k3]
          have hno : esc (bt s (q + 1)) = none := by rw [hbt2]; simp [esc, k1, k2, k3]
          rw [zwz s q said hqs (by rw [hbt]; exact c3) (fun _ => hno)] at hqe
          have hpp := SR.bad.inj hqe; subst hpp; clear hqe; clear hno b1 b2 b3 c1 c2 c3 hbt hbt2 d1 d2 d3 k1 k2 k3; go_wp2_with fail
          exact bodyPost_ret (v := .tuple #[.slice none 0 0, .agg #[.int .i64 3, .int .i64 (((q + 1 : Nat) : Int))]]) (by simp [results, Tryz.results45, go_sem, rc0, rc1]) rfl ⟨rfl, HI.out.out _ _⟩
      ·
       have ql2 : (((q : Int) + 1) == (s.size : Int)) = true := beq_iff_eq.2 (by omega); rw [zwz s q said hqs (by rw [hbt]; exact c3) (fun h => absurd h hq4)] at hqe
       have hpp := SR.bad.inj hqe; subst hpp; clear hqe; clear b1 b2 b3 c1 c2 c3 hbt; go_wp2_with fail
       exact bodyPost_ret (v := .tuple #[.slice none 0 0, .agg #[.int .i64 3, .int .i64 (((q + 1 : Nat) : Int))]]) (by simp [results, Tryz.results45, go_sem, rc0, rc1]) rfl ⟨rfl, HI.out.out _ _⟩
     ·
      have t3 : (((s[q].toNat : Nat) : Int) != 92) = true := by rw [bne, show (92 : Int) = (((92 : UInt8).toNat : Nat) : Int) from rfl, b3]; simp [c3]
      rw [zd0 s q said hqs (by rw [hbt]; exact c1) (by rw [hbt]; exact c2) (by rw [hbt]; exact c3), hbt] at hqe
      have HQ := qh hqe; have hos := zwk said; have hos2 : (zq6 said).size ≤ 3000 := by omega
      clear hqe hos b1 b2 b3 c1 c2 c3 hbt; go_wp2_with fail
      go_round
      case rel => exact ⟨q + 1, said ++ [s[q]], by omega, by omega, by simp; omega, by go_num, by rw [cat1 s q said hqs], HQ.out⟩
      case measure => simp [intOf]; omega
  ·
   have hqq : s.size = q := by omega
   subst hqq; rw [zm3 s s.size said hqs] at hqe; have hpp := SR.bad.inj hqe; subst hpp; clear hqe; go_wp2_with fail
   exact bodyPost_ret (v := .tuple #[.slice none 0 0, .agg #[.int .i64 3, .int .i64 (s.size : Int)]]) (by simp [results, Tryz.results45, go_sem, rc0, rc1]) rfl ⟨rfl, HI.out.out _ _⟩
theorem notEmpty (s : ByteArray) (h1 : 1 ≤ s.size) : s.toList.isEmpty = false := by
 rw [ByteArray.toList_eq]
 cases hd : s.data.toList with
 | nil =>
  have h2 : s.data.toList.length = 0 := by rw [hd]; rfl
  have h3 : s.size = s.data.toList.length := by simp
  omega
 | cons a l => rfl
theorem signs_cells (w : World) (k : Nat) (hk : k < 19) : (w.alloc (.cells #[.string ⟨#[61, 61, 61]⟩, .string ⟨#[38, 38]⟩, .string ⟨#[124, 124]⟩, .string ⟨#[40]⟩, .string ⟨#[41]⟩, .string ⟨#[123]⟩, .string ⟨#[125]⟩, .string ⟨#[91]⟩, .string ⟨#[93]⟩, .string ⟨#[59]⟩, .string ⟨#[58]⟩, .string ⟨#[44]⟩, .string ⟨#[46]⟩, .string ⟨#[61]⟩, .string ⟨#[43]⟩, .string ⟨#[45]⟩, .string ⟨#[42]⟩, .string ⟨#[60]⟩, .string ⟨#[33]⟩] 9)).cell? ⟨w.heap.size, k, none⟩ = some (.string (signsS.getD k ByteArray.empty)) := by
 have h1 : (w.alloc (.cells #[.string ⟨#[61, 61, 61]⟩, .string ⟨#[38, 38]⟩, .string ⟨#[124, 124]⟩, .string ⟨#[40]⟩, .string ⟨#[41]⟩, .string ⟨#[123]⟩, .string ⟨#[125]⟩, .string ⟨#[91]⟩, .string ⟨#[93]⟩, .string ⟨#[59]⟩, .string ⟨#[58]⟩, .string ⟨#[44]⟩, .string ⟨#[46]⟩, .string ⟨#[61]⟩, .string ⟨#[43]⟩, .string ⟨#[45]⟩, .string ⟨#[42]⟩, .string ⟨#[60]⟩, .string ⟨#[33]⟩] 9)).heap[w.heap.size]? = some (.cells #[.string ⟨#[61, 61, 61]⟩, .string ⟨#[38, 38]⟩, .string ⟨#[124, 124]⟩, .string ⟨#[40]⟩, .string ⟨#[41]⟩, .string ⟨#[123]⟩, .string ⟨#[125]⟩, .string ⟨#[91]⟩, .string ⟨#[93]⟩, .string ⟨#[59]⟩, .string ⟨#[58]⟩, .string ⟨#[44]⟩, .string ⟨#[46]⟩, .string ⟨#[61]⟩, .string ⟨#[43]⟩, .string ⟨#[45]⟩, .string ⟨#[42]⟩, .string ⟨#[60]⟩, .string ⟨#[33]⟩] 9) := heap_alloc_new w _
 simp only [World.cell?, h1]
 have h2 : ∀ k : Fin 19, (#[.string ⟨#[61, 61, 61]⟩, .string ⟨#[38, 38]⟩, .string ⟨#[124, 124]⟩, .string ⟨#[40]⟩, .string ⟨#[41]⟩, .string ⟨#[123]⟩, .string ⟨#[125]⟩, .string ⟨#[91]⟩, .string ⟨#[93]⟩, .string ⟨#[59]⟩, .string ⟨#[58]⟩, .string ⟨#[44]⟩, .string ⟨#[46]⟩, .string ⟨#[61]⟩, .string ⟨#[43]⟩, .string ⟨#[45]⟩, .string ⟨#[42]⟩, .string ⟨#[60]⟩, .string ⟨#[33]⟩] : Array Value)[k.val]? = some (.string (signsS.getD k.val ByteArray.empty)) := by
  intro k
  match k with
  | ⟨0, _⟩ => rfl
  | ⟨1, _⟩ => rfl
  | ⟨2, _⟩ => rfl
  | ⟨3, _⟩ => rfl
  | ⟨4, _⟩ => rfl
  | ⟨5, _⟩ => rfl
  | ⟨6, _⟩ => rfl
  | ⟨7, _⟩ => rfl
  | ⟨8, _⟩ => rfl
  | ⟨9, _⟩ => rfl
  | ⟨10, _⟩ => rfl
  | ⟨11, _⟩ => rfl
  | ⟨12, _⟩ => rfl
  | ⟨13, _⟩ => rfl
  | ⟨14, _⟩ => rfl
  | ⟨15, _⟩ => rfl
  | ⟨16, _⟩ => rfl
  | ⟨17, _⟩ => rfl
  | ⟨18, _⟩ => rfl
  | ⟨n + 19, h⟩ => exact absurd h (by omega)
 exact h2 ⟨k, hk⟩
theorem signs_sz : ∀ i, i < 19 → (signsS.getD i ByteArray.empty).size ≤ 3 := by decide +kernel
theorem way_znone (ws : List ByteArray) (s : ByteArray) (w wr : World) (r : TR) (K : Act → World → Prop) (f : Nat → Value) (v : Value) (j : Nat) (acc : List Tk) (hs : s.size ≤ 3000) (hlt : j < s.size) (hal : acc.length ≤ j) (hL : RefLists ws w)
  (he : zkz ws signsS s (zz3 gapB s j) acc = r) (hinv : RInv w acc v wr) (hng : gapB (s[j].toNat : Int) = false)
  (hlet : letB (s[j].toNat : Int) = false) (hdig : digB (s[j].toNat : Int) = false) (hquo : (((s[j].toNat : Nat) : Int) == 39) = false) (hno : ∀ k, k < 19 → pfxB (s.extract j s.size) (signsS.getD k ByteArray.empty) = false) (hrd : zj9 ws signsS s j = .bad 3 j) :
  Code.wp Tryz.prog zh7 (Q6 ws s w r K (s.size - j)) (fr s w.heap.size v (.int .i64 (j : Int)) f) wr := by
 have _h1 := hL
 have _h2 := hal
 clear _h1 _h2
 obtain ⟨i0, hi, hz0, hz1, hz2⟩ := info_parts zw5
 have hps := zqk gapB s j hlt hng
 rw [hps] at he
 have HE := qh he
 have hng2 := hng
 simp only [gapB, Bool.or_eq_false_iff] at hng2
 obtain ⟨g1, g2⟩ := hng2
 have HI := qh hinv
 obtain ⟨rc0, rc1, rf0, rf1⟩ := hinv.cells
 have HLR := qh (hinv.lists hL)
 clear he hinv hng hps hL
 have hq : r = .bad 3 j := by rw [← HE.out, zk3 ws signsS s j acc 3 j hlt hrd]
 subst hq
 have HNO := qh hno
 have HLET := qh hlet
 have HDIG := qh hdig
 clear hlet hdig HE hrd hno
 conv => arg 2; whnf
 unfold fr Q6
 go_wp2_with fail
 refine (zz2 _ _).mono ?_
 rw [HLET.out]
 rintro e1 w1 ⟨rfl, rfl⟩
 go_wp2_with fail
 refine (zz5 _ _).mono ?_
 rw [HDIG.out]
 rintro e1 w1 ⟨rfl, rfl⟩
 go_wp2_with fail
 have HCE := qh (signs_cells w1)
 have HI1 := qh (HI.out.later (qb.alloc qv (.cells #[.string ⟨#[61, 61, 61]⟩, .string ⟨#[38, 38]⟩, .string ⟨#[124, 124]⟩, .string ⟨#[40]⟩, .string ⟨#[41]⟩, .string ⟨#[123]⟩, .string ⟨#[125]⟩, .string ⟨#[91]⟩, .string ⟨#[93]⟩, .string ⟨#[59]⟩, .string ⟨#[58]⟩, .string ⟨#[44]⟩, .string ⟨#[46]⟩, .string ⟨#[61]⟩, .string ⟨#[43]⟩, .string ⟨#[45]⟩, .string ⟨#[42]⟩, .string ⟨#[60]⟩, .string ⟨#[33]⟩] 9)))
 obtain ⟨N, hN⟩ : ∃ N, N = w1.heap.size := ⟨_, rfl⟩
 obtain ⟨W1, hW1⟩ : ∃ W1, W1 = w1.alloc (.cells #[.string ⟨#[61, 61, 61]⟩, .string ⟨#[38, 38]⟩, .string ⟨#[124, 124]⟩, .string ⟨#[40]⟩, .string ⟨#[41]⟩, .string ⟨#[123]⟩, .string ⟨#[125]⟩, .string ⟨#[91]⟩, .string ⟨#[93]⟩, .string ⟨#[59]⟩, .string ⟨#[58]⟩, .string ⟨#[44]⟩, .string ⟨#[46]⟩, .string ⟨#[61]⟩, .string ⟨#[43]⟩, .string ⟨#[45]⟩, .string ⟨#[42]⟩, .string ⟨#[60]⟩, .string ⟨#[33]⟩] 9) := ⟨_, rfl⟩
 rw [← hW1, ← hN]
 rw [← hW1, ← hN] at HCE
 rw [← hW1] at HI1
 clear hW1 hN rc0 rc1 rf0 rf1 HLR
 obtain ⟨rc0, rc1, rf0, rf1⟩ := HI1.out.cells
 go_loop [13, 15, 207] (fun a _ b => ∃ q : Nat, q ≤ 19 ∧ b = .int .i64 q ∧ a = .string ⟨#[]⟩) (fun _ _ b => 19 - (intOf b).toNat)
 case atStart => exact ⟨0, Nat.zero_le _, rfl, rfl⟩
 case round =>
  obtain ⟨q, hq, rfl, rfl⟩ := hrel
  by_cases hq19 : q < 19
  ·
   have hck := zzz HCE q hq19; have hgz := signs_sz q hq19; have hpf := zzz HNO q hq19; obtain ⟨g, hg⟩ : ∃ g, g = signsS.getD q ByteArray.empty := ⟨_, rfl⟩; rw [← hg] at hck hgz hpf; have HPF := qh hpf
   clear hpf hg; go_wp2_with fail; refine (zy4 _ _ _ (by unfold maxLen; simp; omega) (by unfold maxLen; omega)).mono ?_
   rw [HPF.out]; rintro e4 w4 ⟨rfl, rfl⟩; go_wp2_with fail
   go_round
   case rel => exact ⟨q + 1, by omega, by go_num, rfl⟩
   case measure => simp [intOf]; omega
  ·
   go_wp2_with fail; exact bodyPost_ret (v := .tuple #[.slice none 0 0, .agg #[.int .i64 3, .int .i64 (j : Int)]]) (by simp [results, Tryz.results45, go_sem, rc0, rc1]) rfl ⟨rfl, HI1.out.out _ _⟩
theorem way_zsome (ws : List ByteArray) (s : ByteArray) (w wr : World) (r : TR) (K : Act → World → Prop) (f : Nat → Value) (v : Value) (j : Nat) (acc : List Tk) (hs : s.size ≤ 3000) (hlt : j < s.size) (hal : acc.length ≤ j) (hL : RefLists ws w)
  (he : zkz ws signsS s (zz3 gapB s j) acc = r) (hinv : RInv w acc v wr) (hng : gapB (s[j].toNat : Int) = false)
  (hlet : letB (s[j].toNat : Int) = false) (hdig : digB (s[j].toNat : Int) = false) (hquo : (((s[j].toNat : Nat) : Int) == 39) = false) (m : Nat) (hm : m < 19) (g : ByteArray) (hgm : signsS.getD m ByteArray.empty = g) (hg1 : 1 ≤ g.size) (hg3 : g.size ≤ 3) (hno : ∀ k, k < m → pfxB (s.extract j s.size) (signsS.getD k ByteArray.empty) = false) (hyes : pfxB (s.extract j s.size) g = true) (e : Nat) (heg : j + g.size = e) (hes : e ≤ s.size) (hrd : zj9 ws signsS s j = .tok 5 g 0 e) :
  Code.wp Tryz.prog zh7 (Q6 ws s w r K (s.size - j)) (fr s w.heap.size v (.int .i64 (j : Int)) f) wr := by
 have _h1 := hL
 have _h2 := hal
 clear _h1 _h2
 obtain ⟨i0, hi, hz0, hz1, hz2⟩ := info_parts zw5
 have hps := zqk gapB s j hlt hng
 rw [hps] at he
 have HE := qh he
 have hng2 := hng
 simp only [gapB, Bool.or_eq_false_iff] at hng2
 obtain ⟨g1, g2⟩ := hng2
 have HI := qh hinv
 obtain ⟨rc0, rc1, rf0, rf1⟩ := hinv.cells
 have HLR := qh (hinv.lists hL)
 clear he hinv hng hps hL
 have HST := qh ((zwq ws signsS s j acc (5) (0) (g) e hlt hrd (by omega)).symm.trans HE.out)
 have HYES := qh hyes
 have HGM := qh hgm
 have hemp := notEmpty g hg1
 clear hyes hgm
 have HNO := qh hno
 have HLET := qh hlet
 have HDIG := qh hdig
 clear hlet hdig HE hrd hno
 conv => arg 2; whnf
 unfold fr Q6
 go_wp2_with fail
 refine (zz2 _ _).mono ?_
 rw [HLET.out]
 rintro e1 w1 ⟨rfl, rfl⟩
 go_wp2_with fail
 refine (zz5 _ _).mono ?_
 rw [HDIG.out]
 rintro e1 w1 ⟨rfl, rfl⟩
 go_wp2_with fail
 have HCE := qh (signs_cells w1)
 have HI1 := qh (HI.out.later (qb.alloc qv (.cells #[.string ⟨#[61, 61, 61]⟩, .string ⟨#[38, 38]⟩, .string ⟨#[124, 124]⟩, .string ⟨#[40]⟩, .string ⟨#[41]⟩, .string ⟨#[123]⟩, .string ⟨#[125]⟩, .string ⟨#[91]⟩, .string ⟨#[93]⟩, .string ⟨#[59]⟩, .string ⟨#[58]⟩, .string ⟨#[44]⟩, .string ⟨#[46]⟩, .string ⟨#[61]⟩, .string ⟨#[43]⟩, .string ⟨#[45]⟩, .string ⟨#[42]⟩, .string ⟨#[60]⟩, .string ⟨#[33]⟩] 9)))
 obtain ⟨N, hN⟩ : ∃ N, N = w1.heap.size := ⟨_, rfl⟩
 obtain ⟨W1, hW1⟩ : ∃ W1, W1 = w1.alloc (.cells #[.string ⟨#[61, 61, 61]⟩, .string ⟨#[38, 38]⟩, .string ⟨#[124, 124]⟩, .string ⟨#[40]⟩, .string ⟨#[41]⟩, .string ⟨#[123]⟩, .string ⟨#[125]⟩, .string ⟨#[91]⟩, .string ⟨#[93]⟩, .string ⟨#[59]⟩, .string ⟨#[58]⟩, .string ⟨#[44]⟩, .string ⟨#[46]⟩, .string ⟨#[61]⟩, .string ⟨#[43]⟩, .string ⟨#[45]⟩, .string ⟨#[42]⟩, .string ⟨#[60]⟩, .string ⟨#[33]⟩] 9) := ⟨_, rfl⟩
 rw [← hW1, ← hN]
 rw [← hW1, ← hN] at HCE
 rw [← hW1] at HI1
 clear hW1 hN rc0 rc1 rf0 rf1 HLR
 obtain ⟨rc0, rc1, rf0, rf1⟩ := HI1.out.cells
 go_loop [13, 15, 207] (fun a _ b => ∃ q : Nat, q ≤ 19 ∧ b = .int .i64 q ∧ ((q ≤ m ∧ a = .string ⟨#[]⟩) ∨ (m < q ∧ a = .string g))) (fun _ _ b => 19 - (intOf b).toNat)
 case atStart => exact ⟨0, Nat.zero_le _, rfl, Or.inl ⟨Nat.zero_le _, rfl⟩⟩
 case round =>
  obtain ⟨q, hq, rfl, hrest⟩ := hrel
  by_cases hq19 : q < 19
  ·
   have hck := zzz HCE q hq19; have hgz := signs_sz q hq19
   rcases hrest with ⟨hqm, rfl⟩ | ⟨hqm, rfl⟩
   ·
    by_cases hqq : q = m
    ·
     subst hqq; rw [HGM.out] at hck hgz; have HPF := qh HYES.out; go_wp2_with fail; refine (zy4 _ _ _ (by unfold maxLen; simp; omega) (by unfold maxLen; omega)).mono ?_
     rw [HPF.out]; rintro e4 w4 ⟨rfl, rfl⟩; go_wp2_with fail
     go_round
     case rel => exact ⟨q + 1, by omega, by go_num, Or.inr ⟨by omega, rfl⟩⟩
     case measure => simp [intOf]; omega
    ·
     have hpf := zzz HNO q (by omega); obtain ⟨g', hg⟩ : ∃ g', g' = signsS.getD q ByteArray.empty := ⟨_, rfl⟩; rw [← hg] at hck hgz hpf; have HPF := qh hpf; clear hpf hg; go_wp2_with fail
     refine (zy4 _ _ _ (by unfold maxLen; simp; omega) (by unfold maxLen; omega)).mono ?_
     rw [HPF.out]; rintro e4 w4 ⟨rfl, rfl⟩; go_wp2_with fail
     go_round
     case rel => exact ⟨q + 1, by omega, by go_num, Or.inl ⟨by omega, rfl⟩⟩
     case measure => simp [intOf]; omega
   ·
    obtain ⟨g', hg⟩ : ∃ g', g' = signsS.getD q ByteArray.empty := ⟨_, rfl⟩; rw [← hg] at hck hgz; clear hg; go_wp2_with fail
    go_round
    case rel => exact ⟨q + 1, by omega, by go_num, Or.inr ⟨by omega, rfl⟩⟩
    case measure => simp [intOf]; omega
  ·
   rcases hrest with ⟨hqm, rfl⟩ | ⟨hqm, rfl⟩
   ·
    exfalso; omega
   ·
    go_wp2_with (at_builtin; refine wpList_append_own _ rfl _ _ 61 rfl (w.heap.size + 1) 68 i0 zw1 4 40 Tryz.underlying61 hi hz0 hz1 hz2 rfl (by decide) _ _ _ rfl (HI1.out.own.alloc _) ⟨W1.heap.size, 0, none⟩ 1 1 [.int .i64 5, .string g, .int .i64 0, .int .i64 (j : Int)] rfl rfl (zd5 _ _ _ _ _) (zm9 _ _ _ _) (by unfold maxLen; omega) (by omega) (by have := HI1.out.size; simp; omega) ?_; intro v' w5 hown' hgrow _; have HI5 := qh (HI1.out.app (t := Tk.mk 5 g 0 j) _ hown' hgrow); clear hown' hgrow)
    exact ⟨zpj (j + g.size) (acc ++ [Tk.mk 5 g 0 j]) v' (by omega) (by simp; omega) (by have h := zzz HST; rw [← heg] at h; exact h) HI5.out (by kernel_rfl), by simp [mu6, intOf]; omega⟩
theorem zyz (x : ByteArray) : x.data.toList.length = x.size := by simp
theorem rf_bytes_ext {x y : ByteArray} (h : x.data.toList = y.data.toList) : x = y := WideShapes.bytes_inj h
theorem zg7 (x p : ByteArray) : pfxB x p = true ↔ p.data.toList <+: x.data.toList := by
 unfold pfxB
 rw [Bool.and_eq_true, decide_eq_true_eq, beq_iff_eq, ByteArray.toList_eq, ByteArray.toList_eq, zp9, List.drop_zero, Nat.sub_zero, List.prefix_iff_eq_take, zyz]
 constructor
 ·
  rintro ⟨_, h⟩; exact h.symm
 ·
  intro h; refine ⟨?_, h.symm⟩; have := congrArg List.length h; rw [List.length_take, zyz, zyz] at this; omega
theorem rf_sign_cut (gs : List ByteArray) (s : ByteArray) (k : Nat) (g : ByteArray) (hk : k ≤ s.size) (hf : gs.find? (fun g => pfxB (s.extract k s.size) g) = some g) :
  gs.find? (fun g' => pfxB (s.extract k (k + g.size)) g') = some g ∧ k + g.size ≤ s.size ∧ s.extract k (k + g.size) = g := by
 have hp := List.find?_some hf
 have hp2 := (zg7 _ _).1 hp
 have hfull : (s.extract k s.size).data.toList = s.data.toList.drop k := by
  rw [zp9, List.take_of_length_le (by rw [List.length_drop, zyz]; omega)]
 rw [hfull] at hp2
 have hlen := hp2.length_le
 rw [List.length_drop, zyz, zyz] at hlen
 have hx : s.extract k (k + g.size) = g := by
  apply rf_bytes_ext; rw [zp9, Nat.add_sub_cancel_left, ← zyz g]; exact (List.prefix_iff_eq_take.1 hp2).symm
 refine ⟨?_, by by_cases h0 : g.size = 0 <;> omega, hx⟩
 rw [hx]
 rw [List.find?_eq_some_iff_getElem] at hf ⊢
 obtain ⟨_, i, hi, hgi, hall⟩ := hf
 refine ⟨(zg7 _ _).2 (List.prefix_refl _), i, hi, hgi, fun j hj => ?_⟩
 have hn := hall j hj
 cases hc : pfxB g gs[j]
 ·
  rfl
 ·
  have h1 := (zg7 _ _).1 hc; have h2 : pfxB (s.extract k s.size) gs[j] = true := (zg7 _ _).2 (by rw [hfull]; exact h1.trans hp2)
  rw [h2] at hn; simp at hn
theorem zyj : ∀ g ∈ signsS, 1 ≤ g.size := by decide +kernel
theorem round6 (ws : List ByteArray) (s : ByteArray) (w wr : World) (r : TR) (K : Act → World → Prop) (f : Nat → Value) (v : Value) (j : Nat) (acc : List Tk) (hs : s.size ≤ 3000) (hlt : j < s.size) (hal : acc.length ≤ j) (hL : RefLists ws w)
  (he : zkz ws signsS s (zz3 gapB s j) acc = r) (hinv : RInv w acc v wr) : Code.wp Tryz.prog zh7 (Q6 ws s w r K (s.size - j)) (fr s w.heap.size v (.int .i64 (j : Int)) f) wr := by
 have hbt := bt_eq s j hlt
 cases hgap : gapB (s[j].toNat : Int)
 ·
  cases hlet : letB (s[j].toNat : Int)
  ·
   cases hdig : digB (s[j].toNat : Int)
   ·
    by_cases hquo : s[j] = 39
    ·
     have hq2 : (((s[j].toNat : Nat) : Int) == 39) = true := by rw [hquo]; rfl
     have hrd0 : zj9 ws signsS s j = zd2 s j := by unfold zj9; rw [hbt, hlet, hdig, if_neg (by simp), if_neg (by simp), if_pos hquo]
     cases hR : strR s (j + 1) [] with
     | ok l e =>
      have hb := strR_bounds s _ (j + 1) [] l e rfl hR
      by_cases h500 : 500 < l.length
      ·
       exact way_slong ws s w wr r K f v j acc hs hlt hal hL he hinv hgap hlet hdig hq2 l e hR h500 (by rw [hrd0]; unfold zd2; rw [hR]; simp [h500])
      ·
       exact way_sok ws s w wr r K f v j acc hs hlt hal hL he hinv hgap hlet hdig hq2 l e hR hb.2.1 (by omega) (by omega) (by rw [hrd0]; unfold zd2; rw [hR]; simp [h500])
     | bad p => exact way_sbad ws s w wr r K f v j acc hs hlt hal hL he hinv hgap hlet hdig hq2 p hR (by rw [hrd0]; unfold zd2; rw [hR])
    ·
     have hq2 : (((s[j].toNat : Nat) : Int) == 39) = false := by rw [show (39 : Int) = (((39 : UInt8).toNat : Nat) : Int) from rfl, zkj]; simp [hquo]
     have hrd0 : zj9 ws signsS s j = zh9 signsS s j := by unfold zj9; rw [hbt, hlet, hdig, if_neg (by simp), if_neg (by simp), if_neg hquo]
     cases hf : signsS.find? (fun g => pfxB (s.extract j s.size) g) with
     | none =>
      refine way_znone ws s w wr r K f v j acc hs hlt hal hL he hinv hgap hlet hdig hq2 (fun k hk => ?_) (by rw [hrd0]; unfold zh9; rw [hf])
      have hm : signsS.getD k ByteArray.empty ∈ signsS := by rw [List.getD_eq_getElem?_getD, List.getElem?_eq_getElem (by rw [zn1]; exact hk)]; exact List.getElem_mem _
      simpa using List.find?_eq_none.1 hf _ hm
     | some g =>
      have hc := rf_sign_cut signsS s j g (by omega) hf; have hgm := List.mem_of_find?_eq_some hf; have hg1 := zyj g hgm; obtain ⟨hyes, m, hm, hgi, hall⟩ := List.find?_eq_some_iff_getElem.1 hf
      have hm19 : m < 19 := by rw [zn1] at hm; exact hm
      have hgd : signsS.getD m ByteArray.empty = g := by rw [List.getD_eq_getElem?_getD, List.getElem?_eq_getElem hm]; exact hgi
      refine way_zsome ws s w wr r K f v j acc hs hlt hal hL he hinv hgap hlet hdig hq2 m hm19 g hgd hg1 (by rw [← hgd]; exact signs_sz m hm19) (fun k hk => ?_) hyes _ rfl hc.2.1 (by rw [hrd0]; unfold zh9; rw [hf])
      have := hall k hk; rw [List.getD_eq_getElem?_getD, List.getElem?_eq_getElem (by omega)]; simpa using this
   ·
    have hge : j < zz3 digB s j := by rw [← zxv digB s j hlt hdig]; have := zxz digB s (j + 1); omega
    have hes := zwj digB s j (by omega); have hrd0 : zj9 ws signsS s j = zh4 s j := by unfold zj9; rw [hbt, hlet, hdig, if_neg (by simp), if_pos rfl]
    have hat := at_eq s j hlt
    by_cases h10 : 10 < zz3 digB s j - j
    ·
     have hrd : zj9 ws signsS s j = .bad 3 j := by rw [hrd0]; unfold zh4; rw [if_pos h10]
     rcases Nat.lt_or_eq_of_le hes with hx | hx
     ·
      exact way_dlong_mid ws s w wr r K f v j acc hs hlt hal hL he hinv hgap hlet hdig _ rfl hge hes hx h10 hrd
     ·
      exact way_dlong_end ws s w wr r K f v j acc hs hlt hal hL he hinv hgap hlet hdig _ rfl hge hes hx h10 hrd
    ·
     by_cases h1 : 1 < zz3 digB s j - j
     ·
      by_cases h48 : ((s[j].toNat : Nat) : Int) = 48
      ·
       have hrd : zj9 ws signsS s j = .bad 3 j := by rw [hrd0]; unfold zh4; rw [if_neg h10, if_pos ⟨h1, by rw [hat]; exact h48⟩]
       rcases Nat.lt_or_eq_of_le hes with hx | hx
       ·
        exact way_dzero_mid ws s w wr r K f v j acc hs hlt hal hL he hinv hgap hlet hdig _ rfl hge hes hx h10 h1 (beq_iff_eq.2 h48) hrd
       ·
        exact way_dzero_end ws s w wr r K f v j acc hs hlt hal hL he hinv hgap hlet hdig _ rfl hge hes hx h10 h1 (beq_iff_eq.2 h48) hrd
      ·
       have hc : ¬ (1 < zz3 digB s j - j ∧ (((s.data.toList.getD j 0).toNat : Nat) : Int) = 48) := fun h => h48 (by have := h.2; rw [hat] at this; exact this)
       by_cases hb : 1000000000 < numL (s.extract j (zz3 digB s j)).data.toList
       ·
        have hrd : zj9 ws signsS s j = .bad 2 j := by rw [hrd0]; unfold zh4; rw [if_neg h10, if_neg hc, if_pos hb]
        rcases Nat.lt_or_eq_of_le hes with hx | hx
        ·
         exact way_dbig_mid ws s w wr r K f v j acc hs hlt hal hL he hinv hgap hlet hdig _ rfl hge hes hx _ rfl h10 h1 (beq_eq_false_iff_ne.2 h48) hb hrd
        ·
         exact way_dbig_end ws s w wr r K f v j acc hs hlt hal hL he hinv hgap hlet hdig _ rfl hge hes hx _ rfl h10 h1 (beq_eq_false_iff_ne.2 h48) hb hrd
       ·
        have hrd : zj9 ws signsS s j = .tok 3 ⟨#[]⟩ (numL (s.extract j (zz3 digB s j)).data.toList) (zz3 digB s j) := by rw [hrd0]; unfold zh4; rw [if_neg h10, if_neg hc, if_neg hb]
        rcases Nat.lt_or_eq_of_le hes with hx | hx
        ·
         exact way_dmany_mid ws s w wr r K f v j acc hs hlt hal hL he hinv hgap hlet hdig _ rfl hge hes hx _ rfl h10 h1 (beq_eq_false_iff_ne.2 h48) hb hrd
        ·
         exact way_dmany_end ws s w wr r K f v j acc hs hlt hal hL he hinv hgap hlet hdig _ rfl hge hes hx _ rfl h10 h1 (beq_eq_false_iff_ne.2 h48) hb hrd
     ·
      have hc : ¬ (1 < zz3 digB s j - j ∧ (((s.data.toList.getD j 0).toNat : Nat) : Int) = 48) := fun h => h1 h.1; have hsz := zq5 s j (zz3 digB s j) (by omega) hes
      have hds : ∀ b ∈ (s.extract j (zz3 digB s j)).data.toList, digB (b.toNat : Int) = true := by
       have := zn9 (s.extract j (zz3 digB s j)) (fun i hi => by
        rw [zk9 s j _ i hes hi]; exact zh6 digB s (s.size - j) j (by omega) (j + i) (by omega) (by omega) (by omega)) (zz3 digB s j - j)
       rw [List.take_of_length_le (by rw [qzz]; omega)] at this
       exact this
      have hb1 := (zn5 _ hds).2; have hl : (s.extract j (zz3 digB s j)).data.toList.length = 1 := by rw [qzz]; omega
      rw [hl] at hb1; have hb : ¬ 1000000000 < numL (s.extract j (zz3 digB s j)).data.toList := by omega
      have hrd : zj9 ws signsS s j = .tok 3 ⟨#[]⟩ (numL (s.extract j (zz3 digB s j)).data.toList) (zz3 digB s j) := by rw [hrd0]; unfold zh4; rw [if_neg h10, if_neg hc, if_neg hb]
      rcases Nat.lt_or_eq_of_le hes with hx | hx
      ·
       exact way_done_mid ws s w wr r K f v j acc hs hlt hal hL he hinv hgap hlet hdig _ rfl hge hes hx _ rfl h1 hb hrd
      ·
       exact way_done_end ws s w wr r K f v j acc hs hlt hal hL he hinv hgap hlet hdig _ rfl hge hes hx _ rfl h1 hb hrd
  ·
   have hlod : lodB (s[j].toNat : Int) = true := by unfold lodB; rw [hlet]; rfl
   have hge : j < zz3 lodB s j := by rw [← zxv lodB s j hlt hlod]; have := zxz lodB s (j + 1); omega
   have hes := zwj lodB s j (by omega); have hrd0 : zj9 ws signsS s j = zy0 ws s j := by unfold zj9; rw [hbt, hlet, if_pos rfl]
   cases hw : isIn ws (s.extract j (zz3 lodB s j))
   ·
    by_cases h20 : 20 < zz3 lodB s j - j
    ·
     have hrd : zj9 ws signsS s j = .bad 4 j := by rw [hrd0]; unfold zy0; rw [hw]; simp [h20]
     rcases Nat.lt_or_eq_of_le hes with hx | hx
     ·
      exact way_long_mid ws s w wr r K f v j acc hs hlt hal hL he hinv hgap hlet _ rfl hge hes hx hw h20 hrd
     ·
      exact way_long_end ws s w wr r K f v j acc hs hlt hal hL he hinv hgap hlet _ rfl hge hes hx hw h20 hrd
    ·
     have hrd : zj9 ws signsS s j = .tok 1 (s.extract j (zz3 lodB s j)) 0 (zz3 lodB s j) := by rw [hrd0]; unfold zy0; rw [hw]; simp [h20]
     rcases Nat.lt_or_eq_of_le hes with hx | hx
     ·
      exact way_name_mid ws s w wr r K f v j acc hs hlt hal hL he hinv hgap hlet _ rfl hge hes hx hw h20 hrd
     ·
      exact way_name_end ws s w wr r K f v j acc hs hlt hal hL he hinv hgap hlet _ rfl hge hes hx hw h20 hrd
   ·
    have hrd : zj9 ws signsS s j = .tok 2 (s.extract j (zz3 lodB s j)) 0 (zz3 lodB s j) := by rw [hrd0]; unfold zy0; rw [hw]; simp
    rcases Nat.lt_or_eq_of_le hes with hx | hx
    ·
     exact way_word_mid ws s w wr r K f v j acc hs hlt hal hL he hinv hgap hlet _ rfl hge hes hx hw hrd
    ·
     exact way_word_end ws s w wr r K f v j acc hs hlt hal hL he hinv hgap hlet _ rfl hge hes hx hw hrd
 ·
  have hg := hgap; simp only [gapB, Bool.or_eq_true, beq_iff_eq] at hg
  by_cases h32 : ((s[j].toNat : Nat) : Int) = 32
  ·
   exact way_gap1 ws s w wr r K f v j acc hs hlt hal hL he hinv hgap (beq_iff_eq.2 h32)
  ·
   exact way_gap2 ws s w wr r K f v j acc hs hlt hal hL he hinv hgap (beq_eq_false_iff_ne.2 h32) (beq_iff_eq.2 (by omega))
theorem ref_row {w w5 : World} {acc : List Tk} {v : Value} {n : Nat} (h : RInv w acc v w5) (hn : n = acc.length) (v0 v1 : Value) :
  ((w5.setCell ⟨w.heap.size, 0, none⟩ v0).setCell ⟨w.heap.size, 1, none⟩ v1).ownsRow w.heap.size 68 4 v n (zj1 acc) := by
 subst hn
 exact own_base (by omega) (ownsRow_setCell_below (ownsRow_setCell_below h.own (by simp) _) (by simp) _)
theorem refTokens_any (ws : List ByteArray) (s : ByteArray) (w : World) (hs : s.size ≤ 3000) (hL : RefLists ws w) :
  Calls Tryz.prog 45 #[.string s] w (UPost (zkz ws signsS s (zz3 gapB s 0) []) w) := by
 obtain ⟨i0, hi, hz0, hz1, hz2⟩ := info_parts zw5
 obtain ⟨r, hr⟩ : ∃ r, zkz ws signsS s (zz3 gapB s 0) [] = r := ⟨_, rfl⟩
 have HR := qh hr
 rw [hr]
 have HL := qh hL
 clear hr hL
 go_enter Tryz.func45, Tryz.ntmps45
 go_wp2_with fail
 rename_i K hK
 refine wp_loop (WI ws s w r) (mu6 s) ?_ ?_
 ·
  exact zpj 0 [] (.slice none 0 0) (Nat.zero_le _) (Nat.zero_le _) HR.out ⟨World.ownsRow_nil _ _ _ _, Below.refl _ _⟩ (by kernel_rfl)
 ·
  intro a wr hI; obtain ⟨j, acc, v, f, hj, hal, he, hinv, rfl⟩ := hI; have hmu : mu6 s (fr s w.heap.size v (.int .i64 (j : Int)) f) wr = s.size - j := rfl; rw [hmu]
  change Code.wp Tryz.prog zh7 (Q6 ws s w r K (s.size - j)) (fr s w.heap.size v (.int .i64 (j : Int)) f) wr
  by_cases hlt : j < s.size
  ·
   exact round6 ws s w wr r K f v j acc hs hlt hal HL.out he hinv
  ·
   have hps : zz3 gapB s j = j := zw7 gapB s j (by omega); have hq : r = .ok (acc ++ [Tk.mk 6 ⟨#[]⟩ 0 s.size]) := by rw [← he, hps, zgj ws signsS s j acc hlt]
   have HI := qh hinv; obtain ⟨rc0, rc1, rf0, rf1⟩ := hinv.cells; have HLR := qh (hinv.lists HL.out); clear he hinv hps HR; subst hq
   conv => arg 2; whnf
   unfold fr Q6; go_wp2_with fail; refine wp_region_any (by kernel_rfl) ?_; change wpAny _ _ _ _ _ _ _ (World.drew _); have HI0 := qh (HI.out.later (qb.drew))
   obtain ⟨W0, hW0⟩ : ∃ W0, W0 = wr.drew := ⟨_, rfl⟩; rw [← hW0] at HI0 ⊢; have hL0 := HI0.out.lists HL.out; have m0 := hL0.f0; have m1 := hL0.f1; have hlt0 : 0 < W0.heap.size := zyq m0
   have n0 : (W0.alloc (.cells #[.int .i64 6, .string ⟨#[]⟩, .int .i64 0, .int .i64 (s.size : Int)] 68)).cell? ⟨0, 0, none⟩ = some (.int .i64 0) := by rw [World.cell?_alloc_past _ _ _ hlt0]; exact m0
   have n1 : (W0.alloc (.cells #[.int .i64 6, .string ⟨#[]⟩, .int .i64 0, .int .i64 (s.size : Int)] 68)).cell? ⟨0, 1, none⟩ = some (.int .i64 (-1)) := by rw [World.cell?_alloc_past _ _ _ hlt0]; exact m1
   clear hW0 hL0 HI rc0 rc1 rf0 rf1; refine wt 0 v ?_; refine wt 1 (.string s) ?_; refine wt 2 (.int .i64 (s.size : Int)) ?_; refine wt 3 (.agg #[.int .i64 6, .string ⟨#[]⟩, .int .i64 0, .int .i64 (s.size : Int)]) ?_
   refine wpAny_ready (rs := [4, 6]) (by kernel_rfl) (by simp) ?_; refine AllReady.cons rfl (fun K2 hK2 => ?_) (AllReady.cons rfl (fun K2 hK2 => ?_) AllReady.nil)
   ·
    go_simp; refine hK2 _ _ ?_; clear hK2 K2; refine wpAny_ready (rs := [5, 6]) (by kernel_rfl) (by simp) ?_; refine AllReady.cons rfl (fun K2 hK2 => ?_) (AllReady.cons rfl (fun K2 hK2 => ?_) AllReady.nil)
    ·
     refine step_append_lies _ (by rfl) _ _ 61 (by rfl) (w.heap.size + 1) 68 i0 zw1 4 40 Tryz.underlying61 hi hz0 hz1 hz2 rfl (by decide) v acc.length _ (by rfl) (HI0.out.own.alloc (.cells #[.int .i64 6, .string ⟨#[]⟩, .int .i64 0, .int .i64 (s.size : Int)] 68)) ⟨W0.heap.size, 0, none⟩ 1 1 [.int .i64 6, .string ⟨#[]⟩, .int .i64 0, .int .i64 (s.size : Int)] (by rfl) (by rfl) (zd5 _ _ _ _ _) (zm9 _ _ _ _) (by omega) (by unfold maxLen; omega) (by omega) (by have := HI0.out.size; simp; omega) _ rfl ?_
     intro g cap w5 hown' hgrow _ _; refine hK2 _ _ ?_; clear hK2 K2; have hI5 := HI0.out.app (t := (Tk.mk 6 ⟨#[]⟩ 0 s.size)) _ hown' hgrow; have HI5 := qh hI5; have hL5 := hI5.lists HL.out
     obtain ⟨p0, p1, q0, q1⟩ := hI5.cells; have l0 := hL5.f0; have l1 := hL5.f1; clear hown' hgrow hI5 hL5; refine wt 7 (.slice (some ⟨g, 0, none⟩) (acc.length + 1) cap) ?_
     refine wpAny_ready (rs := [6]) (by kernel_rfl) (by simp) ?_; refine AllReady.cons rfl (fun K2 hK2 => ?_) AllReady.nil; go_simp; refine hK2 _ _ ?_; clear hK2 K2; refine wr1 8 fun K2 hK2 => ?_; go_simp
     refine hK2 _ _ ?_; clear hK2 K2; refine wpAny_done (by kernel_rfl) ?_ _; go_simp
     go_wp2
     refine bodyPost_ret (v := .tuple #[.slice (some ⟨g, 0, none⟩) (acc.length + 1) cap, .agg #[.int .i64 0, .int .i64 (-1)]]) (by simp [results, Tryz.results45, go_sem, p0, p1]) rfl ⟨_, rfl, ?_, HI5.out.out _ _⟩
     exact ref_row HI5.out (by simp) _ _
    ·
     go_simp; refine hK2 _ _ ?_; clear hK2 K2; refine wpAny_ready (rs := [5]) (by kernel_rfl) (by simp) ?_; refine AllReady.cons rfl (fun K2 hK2 => ?_) AllReady.nil
     refine step_append_lies _ (by rfl) _ _ 61 (by rfl) (w.heap.size + 1) 68 i0 zw1 4 40 Tryz.underlying61 hi hz0 hz1 hz2 rfl (by decide) v acc.length _ (by rfl) (HI0.out.own.alloc (.cells #[.int .i64 6, .string ⟨#[]⟩, .int .i64 0, .int .i64 (s.size : Int)] 68)) ⟨W0.heap.size, 0, none⟩ 1 1 [.int .i64 6, .string ⟨#[]⟩, .int .i64 0, .int .i64 (s.size : Int)] (by rfl) (by rfl) (zd5 _ _ _ _ _) (zm9 _ _ _ _) (by omega) (by unfold maxLen; omega) (by omega) (by have := HI0.out.size; simp; omega) _ rfl ?_
     intro g cap w5 hown' hgrow _ _; refine hK2 _ _ ?_; clear hK2 K2; have hI5 := HI0.out.app (t := (Tk.mk 6 ⟨#[]⟩ 0 s.size)) _ hown' hgrow; have HI5 := qh hI5; have hL5 := hI5.lists HL.out
     obtain ⟨p0, p1, q0, q1⟩ := hI5.cells; have l0 := hL5.f0; have l1 := hL5.f1; clear hown' hgrow hI5 hL5; refine wt 7 (.slice (some ⟨g, 0, none⟩) (acc.length + 1) cap) ?_; refine wr1 8 fun K2 hK2 => ?_; go_simp
     refine hK2 _ _ ?_; clear hK2 K2; refine wpAny_done (by kernel_rfl) ?_ _; go_simp
     go_wp2
     refine bodyPost_ret (v := .tuple #[.slice (some ⟨g, 0, none⟩) (acc.length + 1) cap, .agg #[.int .i64 0, .int .i64 (-1)]]) (by simp [results, Tryz.results45, go_sem, p0, p1]) rfl ⟨_, rfl, ?_, HI5.out.out _ _⟩
     exact ref_row HI5.out (by simp) _ _
   ·
    go_simp; refine hK2 _ _ ?_; clear hK2 K2; refine wpAny_ready (rs := [4]) (by kernel_rfl) (by simp) ?_; refine AllReady.cons rfl (fun K2 hK2 => ?_) AllReady.nil; go_simp; refine hK2 _ _ ?_; clear hK2 K2
    refine wpAny_ready (rs := [5]) (by kernel_rfl) (by simp) ?_; refine AllReady.cons rfl (fun K2 hK2 => ?_) AllReady.nil
    refine step_append_lies _ (by rfl) _ _ 61 (by rfl) (w.heap.size + 1) 68 i0 zw1 4 40 Tryz.underlying61 hi hz0 hz1 hz2 rfl (by decide) v acc.length _ (by rfl) (HI0.out.own.alloc (.cells #[.int .i64 6, .string ⟨#[]⟩, .int .i64 0, .int .i64 (s.size : Int)] 68)) ⟨W0.heap.size, 0, none⟩ 1 1 [.int .i64 6, .string ⟨#[]⟩, .int .i64 0, .int .i64 (s.size : Int)] (by rfl) (by rfl) (zd5 _ _ _ _ _) (zm9 _ _ _ _) (by omega) (by unfold maxLen; omega) (by omega) (by have := HI0.out.size; simp; omega) _ rfl ?_
    intro g cap w5 hown' hgrow _ _; refine hK2 _ _ ?_; clear hK2 K2; have hI5 := HI0.out.app (t := (Tk.mk 6 ⟨#[]⟩ 0 s.size)) _ hown' hgrow; have HI5 := qh hI5; have hL5 := hI5.lists HL.out
    obtain ⟨p0, p1, q0, q1⟩ := hI5.cells; have l0 := hL5.f0; have l1 := hL5.f1; clear hown' hgrow hI5 hL5; refine wt 7 (.slice (some ⟨g, 0, none⟩) (acc.length + 1) cap) ?_; refine wr1 8 fun K2 hK2 => ?_; go_simp
    refine hK2 _ _ ?_; clear hK2 K2; refine wpAny_done (by kernel_rfl) ?_ _; go_simp
    go_wp2
    refine bodyPost_ret (v := .tuple #[.slice (some ⟨g, 0, none⟩) (acc.length + 1) cap, .agg #[.int .i64 0, .int .i64 (-1)]]) (by simp [results, Tryz.results45, go_sem, p0, p1]) rfl ⟨_, rfl, ?_, HI5.out.out _ _⟩
    exact ref_row HI5.out (by simp) _ _
end Go.Proofs.YtodmgaikhbmlnaaGreatDoor
