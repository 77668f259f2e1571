/-
  Rounds of the reference's Tokens: strings.
-/
import Derived.Test.YtodmgaikhbmlnaaGreatDoorTw35
set_option maxRecDepth 100000
set_option maxHeartbeats 16000000
namespace Go.Proofs.YtodmgaikhbmlnaaGreatDoor
open Go.RowKit
theorem new4_cells (w : World) (a c d : Int) (x : ByteArray) (j : Nat) (u : Value) (h : ([.int .i64 a, .string x, .int .i64 c, .int .i64 d] : List Value)[j]? = some u) :
  (w.alloc (.cells #[.int .i64 a, .string x, .int .i64 c, .int .i64 d] 68)).cell? (Addr.add ⟨w.heap.size, 0, none⟩ j) = some u := by
 match j, h with
 | 0, h => simp at h; subst h; simp [Addr.add]
 | 1, h => simp at h; subst h; simp [Addr.add]
 | 2, h => simp at h; subst h; simp [Addr.add]
 | 3, h => simp at h; subst h; simp [Addr.add]
theorem new4_one (a c d : Int) (x : ByteArray) (u : Value) (h : u ∈ ([.int .i64 a, .string x, .int .i64 c, .int .i64 d] : List Value)) : u.oneCell' = true := by
 simp only [List.mem_cons, List.not_mem_nil, or_false] at h
 rcases h with rfl | rfl | rfl | rfl <;> rfl
theorem ext_list (s : ByteArray) (a b : Nat) : (s.extract a b).data.toList = (s.data.toList.drop a).take (b - a) := Lib.extract_data s a b
theorem cat1 (s : ByteArray) (q : Nat) (said : List UInt8) (h : q < s.size) : ofBytes said ++ s.extract q (q + 1) = ofBytes (said ++ [s[q]]) := by
 apply WideShapes.bytes_inj
 have h1 : (ofBytes said ++ s.extract q (q + 1)).data.toList = said ++ (s.extract q (q + 1)).data.toList := by simp [ofBytes]
 rw [h1, ext_list]
 have h2 : q < s.data.toList.length := by simpa using h
 rw [List.drop_eq_getElem_cons h2, show q + 1 - q = 1 from by omega]
 rfl
theorem cat2 (said : List UInt8) : ofBytes said ++ ⟨#[10]⟩ = ofBytes (said ++ [10]) := by
 apply WideShapes.bytes_inj
 simp [ofBytes]
theorem ofB_size (said : List UInt8) : (ofBytes said).size = said.length := by simp [ofBytes, ByteArray.size]
theorem way_sok (ws : List ByteArray) (s : ByteArray) (w wr : World) (r : TR) (K : Act → World → Prop) (f : Nat → Value) (v : Value) (j : Nat) (acc : List Tk) (hs : s.size ≤ 3000) (hlt : j < s.size) (hal : acc.length ≤ j) (hL : RefLists ws w)
  (he : toksR ws signsS s (pastN gapB s j) acc = r) (hinv : RInv w acc v wr) (hng : gapB (s[j].toNat : Int) = false)
  (hlet : letB (s[j].toNat : Int) = false) (hdig : digB (s[j].toNat : Int) = false) (hquo : (((s[j].toNat : Nat) : Int) == 39) = true) (l : List UInt8) (e : Nat) (hR : strR s (j + 1) [] = .ok l e) (hes : e ≤ s.size) (hje : j < e) (hl : l.length ≤ 500) (hrd : rdTok ws signsS s j = .tok 4 (ofBytes l) 0 e) :
  Code.wp Tryz.prog body6 (Q6 ws s w r K (s.size - j)) (fr s w.heap.size v (.int .i64 (j : Int)) f) wr := by
 have _h1 := hL
 have _h2 := hal
 clear _h1 _h2
 obtain ⟨i0, hi, hz0, hz1, hz2⟩ := info_parts infoRT
 have hps := pastN_stop gapB s j hlt hng
 rw [hps] at he
 have HE := hide he
 have hng2 := hng
 simp only [gapB, Bool.or_eq_false_iff] at hng2
 obtain ⟨g1, g2⟩ := hng2
 have HI := hide hinv
 obtain ⟨rc0, rc1, rf0, rf1⟩ := hinv.cells
 have HLR := hide (hinv.lists hL)
 clear he hinv hng hps hL
 have HST := hide ((toksR_go ws signsS s j acc (4) (0) (ofBytes l) e hlt hrd (by omega)).symm.trans HE.out)
 have HR := hide hR
 have HLET := hide hlet
 have HDIG := hide hdig
 clear hlet hdig HE hrd hR
 conv => arg 2; whnf
 unfold fr Q6
 go_wp2_with fail
 refine (isLetter_any _ _).mono ?_
 rw [HLET.out]
 rintro e1 w1 ⟨rfl, rfl⟩
 go_wp2_with fail
 refine (isDigit_any _ _).mono ?_
 rw [HDIG.out]
 rintro e1 w1 ⟨rfl, rfl⟩
 go_wp2_with fail
 go_loop [5, 12] (fun i v => ∃ (q : Nat) (said : List UInt8), j + 1 ≤ q ∧ q ≤ s.size ∧ said.length ≤ q ∧ i = .int .i64 q ∧ v = .string (ofBytes said) ∧ strR s q said = .ok l e) (fun i _ => s.size - (intOf i).toNat)
 case atStart => exact ⟨j + 1, [], Nat.le_refl _, by omega, by simp, by go_num, rfl, HR.out⟩
 case round =>
  obtain ⟨q, said, hq1, hq2, hq3, rfl, rfl, hqe⟩ := hrel
  by_cases hqs : q < s.size
  ·
   have hbt := bt_eq s q hqs; have b1 := byte_eq s[q] 39; have b2 := byte_eq s[q] 10; have b3 := byte_eq s[q] 92; have ql : ((q : Int) == (s.size : Int)) = false := beq_eq_false_iff_ne.2 (by omega)
   by_cases c1 : s[q] = 39
   ·
    have t1 : (((s[q].toNat : Nat) : Int) == 39) = true := by rw [c1]; rfl
    have t2 : (((s[q].toNat : Nat) : Int) == 10) = false := by rw [c1]; rfl
    rw [strR_quote s q said hqs (by rw [hbt]; exact c1)] at hqe
    have hp1 := (SR.ok.inj hqe).1; have hp2 := (SR.ok.inj hqe).2; subst hp1; subst hp2; clear hqe; have hos := ofB_size said; have hos2 : (ofBytes said).size ≤ 500 := by omega
    clear hos b1 b2 b3 c1 hbt
    go_wp2_with (at_builtin; refine wpList_append_own _ rfl _ _ 61 rfl (w.heap.size + 1) 68 i0 noTok 4 40 Tryz.underlying61 hi hz0 hz1 hz2 rfl (by decide) _ _ _ rfl (HI.out.own.alloc _) ⟨w1.heap.size, 0, none⟩ 1 1 [.int .i64 4, .string (ofBytes said), .int .i64 0, .int .i64 (j : Int)] rfl rfl (new4_cells _ _ _ _ _) (new4_one _ _ _ _) (by unfold maxLen; omega) (by omega) (by have := HI.out.size; simp; omega) ?_; intro v' w5 hown' hgrow _; have HI5 := hide (HI.out.app (t := Tk.mk 4 (ofBytes said) 0 j) _ hown' hgrow); clear hown' hgrow)
    exact ⟨WI_mk (q + 1) (acc ++ [Tk.mk 4 (ofBytes said) 0 j]) v' hes (by simp; omega) HST.out HI5.out (by kernel_rfl), by simp [mu6, intOf]; omega⟩
   ·
    have t1 : (((s[q].toNat : Nat) : Int) == 39) = false := by rw [show (39 : Int) = (((39 : UInt8).toNat : Nat) : Int) from rfl, b1]; simp [c1]
    by_cases c2 : s[q] = 10
    ·
     have t2 : (((s[q].toNat : Nat) : Int) == 10) = true := by rw [c2]; rfl
     rw [strR_lf s q said hqs (by rw [hbt]; exact c2)] at hqe
     cases hqe
    ·
     have t2 : (((s[q].toNat : Nat) : Int) == 10) = false := by rw [show (10 : Int) = (((10 : UInt8).toNat : Nat) : Int) from rfl, b2]; simp [c2]
     by_cases c3 : s[q] = 92
     ·
      have t3 : (((s[q].toNat : Nat) : Int) != 92) = false := by rw [c3]; rfl
      by_cases hq4 : q + 1 < s.size
      ·
       have ql2 : (((q : Int) + 1) == (s.size : Int)) = false := beq_eq_false_iff_ne.2 (by omega); have hbt2 := bt_eq s (q + 1) hq4; have d1 := byte_eq s[q + 1] 110; have d2 := byte_eq s[q + 1] 39
       have d3 := byte_eq s[q + 1] 92
       by_cases k1 : s[q + 1] = 110
       ·
        have u1 : (((s[q + 1].toNat : Nat) : Int) == 110) = true := by rw [k1]; rfl
        rw [strR_esc s q said 10 hqs (by rw [hbt]; exact c3) hq4 (by rw [hbt2, k1]; rfl)] at hqe
        have HQ := hide hqe; have hos := ofB_size said; have hos2 : (ofBytes said).size ≤ 3000 := by omega
        clear hqe hos b1 b2 b3 c1 c2 c3 hbt hbt2 d1 d2 d3 k1; go_wp2_with fail
        go_round
        case rel => exact ⟨q + 2, said ++ [10], by omega, by omega, by simp; omega, by go_num, by rw [cat2], HQ.out⟩
        case measure => simp [intOf]; omega
       ·
        have u1 : (((s[q + 1].toNat : Nat) : Int) == 110) = false := by rw [show (110 : Int) = (((110 : UInt8).toNat : Nat) : Int) from rfl, d1]; simp [k1]
        by_cases k2 : s[q + 1] = 39
        ·
         have u2 : (((s[q + 1].toNat : Nat) : Int) == 39) = true := by rw [k2]; rfl
         rw [strR_esc s q said s[q + 1] hqs (by rw [hbt]; exact c3) hq4 (by rw [hbt2, k2]; rfl)] at hqe
         have HQ := hide hqe; have hos := ofB_size said; have hos2 : (ofBytes said).size ≤ 3000 := by omega
         clear hqe hos b1 b2 b3 c1 c2 c3 hbt hbt2 d1 d2 d3 k1 k2; go_wp2_with fail
         go_round
         case rel => exact ⟨q + 2, said ++ [s[q + 1]], by omega, by omega, by simp; omega, by go_num, by rw [cat1 s (q + 1) said hq4], HQ.out⟩
         case measure => simp [intOf]; omega
        ·
         have u2 : (((s[q + 1].toNat : Nat) : Int) == 39) = false := by rw [show (39 : Int) = (((39 : UInt8).toNat : Nat) : Int) from rfl, d2]; simp [k2]
         by_cases k3 : s[q + 1] = 92
         ·
          have u3 : (((s[q + 1].toNat : Nat) : Int) == 92) = true := by rw [k3]; rfl
          rw [strR_esc s q said s[q + 1] hqs (by rw [hbt]; exact c3) hq4 (by rw [hbt2, k3]; rfl)] at hqe
          have HQ := hide hqe; have hos := ofB_size said; have hos2 : (ofBytes said).size ≤ 3000 := by omega
          clear hqe hos b1 b2 b3 c1 c2 c3 hbt hbt2 d1 d2 d3 k1 k2 k3; go_wp2_with fail
          go_round
          case rel => exact ⟨q + 2, said ++ [s[q + 1]], by omega, by omega, by simp; omega, by go_num, by rw [cat1 s (q + 1) said hq4], HQ.out⟩
          case measure => simp [intOf]; omega
         ·
          have u3 : (((s[q + 1].toNat : Nat) : Int) == 92) = false := by rw [show (92 : Int) = (((92 : UInt8).toNat : Nat) : Int) from rfl, d3]; simp [k3]
          have hno : esc (bt s (q + 1)) = none := by rw [hbt2]; simp [esc, k1, k2, k3]
          rw [strR_noesc s q said hqs (by rw [hbt]; exact c3) (fun _ => hno)] at hqe
          cases hqe
      ·
       have ql2 : (((q : Int) + 1) == (s.size : Int)) = true := beq_iff_eq.2 (by omega); rw [strR_noesc s q said hqs (by rw [hbt]; exact c3) (fun h => absurd h hq4)] at hqe
       cases hqe
     ·
      have t3 : (((s[q].toNat : Nat) : Int) != 92) = true := by rw [bne, show (92 : Int) = (((92 : UInt8).toNat : Nat) : Int) from rfl, b3]; simp [c3]
      rw [strR_plain s q said hqs (by rw [hbt]; exact c1) (by rw [hbt]; exact c2) (by rw [hbt]; exact c3), hbt] at hqe
      have HQ := hide hqe; have hos := ofB_size said; have hos2 : (ofBytes said).size ≤ 3000 := by omega
      clear hqe hos b1 b2 b3 c1 c2 c3 hbt; go_wp2_with fail
      go_round
      case rel => exact ⟨q + 1, said ++ [s[q]], by omega, by omega, by simp; omega, by go_num, by rw [cat1 s q said hqs], HQ.out⟩
      case measure => simp [intOf]; omega
  ·
   have hqq : s.size = q := by omega
   subst hqq; rw [strR_end s s.size said hqs] at hqe; cases hqe
theorem way_slong (ws : List ByteArray) (s : ByteArray) (w wr : World) (r : TR) (K : Act → World → Prop) (f : Nat → Value) (v : Value) (j : Nat) (acc : List Tk) (hs : s.size ≤ 3000) (hlt : j < s.size) (hal : acc.length ≤ j) (hL : RefLists ws w)
  (he : toksR ws signsS s (pastN gapB s j) acc = r) (hinv : RInv w acc v wr) (hng : gapB (s[j].toNat : Int) = false)
  (hlet : letB (s[j].toNat : Int) = false) (hdig : digB (s[j].toNat : Int) = false) (hquo : (((s[j].toNat : Nat) : Int) == 39) = true) (l : List UInt8) (e : Nat) (hR : strR s (j + 1) [] = .ok l e) (hl : 500 < l.length) (hrd : rdTok ws signsS s j = .bad 4 j) :
  Code.wp Tryz.prog body6 (Q6 ws s w r K (s.size - j)) (fr s w.heap.size v (.int .i64 (j : Int)) f) wr := by
 have _h1 := hL
 have _h2 := hal
 clear _h1 _h2
 obtain ⟨i0, hi, hz0, hz1, hz2⟩ := info_parts infoRT
 have hps := pastN_stop gapB s j hlt hng
 rw [hps] at he
 have HE := hide he
 have hng2 := hng
 simp only [gapB, Bool.or_eq_false_iff] at hng2
 obtain ⟨g1, g2⟩ := hng2
 have HI := hide hinv
 obtain ⟨rc0, rc1, rf0, rf1⟩ := hinv.cells
 have HLR := hide (hinv.lists hL)
 clear he hinv hng hps hL
 have hq : r = .bad 4 j := by rw [← HE.out, toksR_bad ws signsS s j acc 4 j hlt hrd]
 subst hq
 have HR := hide hR
 have HLET := hide hlet
 have HDIG := hide hdig
 clear hlet hdig HE hrd hR
 conv => arg 2; whnf
 unfold fr Q6
 go_wp2_with fail
 refine (isLetter_any _ _).mono ?_
 rw [HLET.out]
 rintro e1 w1 ⟨rfl, rfl⟩
 go_wp2_with fail
 refine (isDigit_any _ _).mono ?_
 rw [HDIG.out]
 rintro e1 w1 ⟨rfl, rfl⟩
 go_wp2_with fail
 go_loop [5, 12] (fun i v => ∃ (q : Nat) (said : List UInt8), j + 1 ≤ q ∧ q ≤ s.size ∧ said.length ≤ q ∧ i = .int .i64 q ∧ v = .string (ofBytes said) ∧ strR s q said = .ok l e) (fun i _ => s.size - (intOf i).toNat)
 case atStart => exact ⟨j + 1, [], Nat.le_refl _, by omega, by simp, by go_num, rfl, HR.out⟩
 case round =>
  obtain ⟨q, said, hq1, hq2, hq3, rfl, rfl, hqe⟩ := hrel
  by_cases hqs : q < s.size
  ·
   have hbt := bt_eq s q hqs; have b1 := byte_eq s[q] 39; have b2 := byte_eq s[q] 10; have b3 := byte_eq s[q] 92; have ql : ((q : Int) == (s.size : Int)) = false := beq_eq_false_iff_ne.2 (by omega)
   by_cases c1 : s[q] = 39
   ·
    have t1 : (((s[q].toNat : Nat) : Int) == 39) = true := by rw [c1]; rfl
    have t2 : (((s[q].toNat : Nat) : Int) == 10) = false := by rw [c1]; rfl
    rw [strR_quote s q said hqs (by rw [hbt]; exact c1)] at hqe
    have hp1 := (SR.ok.inj hqe).1; have hp2 := (SR.ok.inj hqe).2; subst hp1; subst hp2; clear hqe; have hos := ofB_size said; have hos2 : 500 < (ofBytes said).size := by omega
    clear hos b1 b2 b3 c1 hbt; go_wp2_with fail; exact bodyPost_ret (v := .tuple #[.slice none 0 0, .agg #[.int .i64 4, .int .i64 (j : Int)]]) (by simp [results, Tryz.results45, go_sem, rc0, rc1]) rfl ⟨rfl, HI.out.out _ _⟩
   ·
    have t1 : (((s[q].toNat : Nat) : Int) == 39) = false := by rw [show (39 : Int) = (((39 : UInt8).toNat : Nat) : Int) from rfl, b1]; simp [c1]
    by_cases c2 : s[q] = 10
    ·
     have t2 : (((s[q].toNat : Nat) : Int) == 10) = true := by rw [c2]; rfl
     rw [strR_lf s q said hqs (by rw [hbt]; exact c2)] at hqe
     cases hqe
    ·
     have t2 : (((s[q].toNat : Nat) : Int) == 10) = false := by rw [show (10 : Int) = (((10 : UInt8).toNat : Nat) : Int) from rfl, b2]; simp [c2]
     by_cases c3 : s[q] = 92
     ·
      have t3 : (((s[q].toNat : Nat) : Int) != 92) = false := by rw [c3]; rfl
      by_cases hq4 : q + 1 < s.size
      ·
       have ql2 : (((q : Int) + 1) == (s.size : Int)) = false := beq_eq_false_iff_ne.2 (by omega); have hbt2 := bt_eq s (q + 1) hq4; have d1 := byte_eq s[q + 1] 110; have d2 := byte_eq s[q + 1] 39
       have d3 := byte_eq s[q + 1] 92
       by_cases k1 : s[q + 1] = 110
       ·
        have u1 : (((s[q + 1].toNat : Nat) : Int) == 110) = true := by rw [k1]; rfl
        rw [strR_esc s q said 10 hqs (by rw [hbt]; exact c3) hq4 (by rw [hbt2, k1]; rfl)] at hqe
        have HQ := hide hqe; have hos := ofB_size said; have hos2 : (ofBytes said).size ≤ 3000 := by omega
        clear hqe hos b1 b2 b3 c1 c2 c3 hbt hbt2 d1 d2 d3 k1; go_wp2_with fail
        go_round
        case rel => exact ⟨q + 2, said ++ [10], by omega, by omega, by simp; omega, by go_num, by rw [cat2], HQ.out⟩
        case measure => simp [intOf]; omega
       ·
        have u1 : (((s[q + 1].toNat : Nat) : Int) == 110) = false := by rw [show (110 : Int) = (((110 : UInt8).toNat : Nat) : Int) from rfl, d1]; simp [k1]
        by_cases k2 : s[q + 1] = 39
        ·
         have u2 : (((s[q + 1].toNat : Nat) : Int) == 39) = true := by rw [k2]; rfl
         rw [strR_esc s q said s[q + 1] hqs (by rw [hbt]; exact c3) hq4 (by rw [hbt2, k2]; rfl)] at hqe
         have HQ := hide hqe; have hos := ofB_size said; have hos2 : (ofBytes said).size ≤ 3000 := by omega
         clear hqe hos b1 b2 b3 c1 c2 c3 hbt hbt2 d1 d2 d3 k1 k2; go_wp2_with fail
         go_round
         case rel => exact ⟨q + 2, said ++ [s[q + 1]], by omega, by omega, by simp; omega, by go_num, by rw [cat1 s (q + 1) said hq4], HQ.out⟩
         case measure => simp [intOf]; omega
        ·
         have u2 : (((s[q + 1].toNat : Nat) : Int) == 39) = false := by rw [show (39 : Int) = (((39 : UInt8).toNat : Nat) : Int) from rfl, d2]; simp [k2]
         by_cases k3 : s[q + 1] = 92
         ·
          have u3 : (((s[q + 1].toNat : Nat) : Int) == 92) = true := by rw [k3]; rfl
          rw [strR_esc s q said s[q + 1] hqs (by rw [hbt]; exact c3) hq4 (by rw [hbt2, k3]; rfl)] at hqe
          have HQ := hide hqe; have hos := ofB_size said; have hos2 : (ofBytes said).size ≤ 3000 := by omega
          clear hqe hos b1 b2 b3 c1 c2 c3 hbt hbt2 d1 d2 d3 k1 k2 k3; go_wp2_with fail
          go_round
          case rel => exact ⟨q + 2, said ++ [s[q + 1]], by omega, by omega, by simp; omega, by go_num, by rw [cat1 s (q + 1) said hq4], HQ.out⟩
          case measure => simp [intOf]; omega
         ·
          have u3 : (((s[q + 1].toNat : Nat) : Int) == 92) = false := by rw [show (92 : Int) = (((92 : UInt8).toNat : Nat) : Int) from rfl, d3]; simp [k3]
          have hno : esc (bt s (q + 1)) = none := by rw [hbt2]; simp [esc, k1, k2, k3]
          rw [strR_noesc s q said hqs (by rw [hbt]; exact c3) (fun _ => hno)] at hqe
          cases hqe
      ·
       have ql2 : (((q : Int) + 1) == (s.size : Int)) = true := beq_iff_eq.2 (by omega); rw [strR_noesc s q said hqs (by rw [hbt]; exact c3) (fun h => absurd h hq4)] at hqe
       cases hqe
     ·
      have t3 : (((s[q].toNat : Nat) : Int) != 92) = true := by rw [bne, show (92 : Int) = (((92 : UInt8).toNat : Nat) : Int) from rfl, b3]; simp [c3]
      rw [strR_plain s q said hqs (by rw [hbt]; exact c1) (by rw [hbt]; exact c2) (by rw [hbt]; exact c3), hbt] at hqe
      have HQ := hide hqe; have hos := ofB_size said; have hos2 : (ofBytes said).size ≤ 3000 := by omega
      clear hqe hos b1 b2 b3 c1 c2 c3 hbt; go_wp2_with fail
      go_round
      case rel => exact ⟨q + 1, said ++ [s[q]], by omega, by omega, by simp; omega, by go_num, by rw [cat1 s q said hqs], HQ.out⟩
      case measure => simp [intOf]; omega
  ·
   have hqq : s.size = q := by omega
   subst hqq; rw [strR_end s s.size said hqs] at hqe; cases hqe
theorem way_sbad (ws : List ByteArray) (s : ByteArray) (w wr : World) (r : TR) (K : Act → World → Prop) (f : Nat → Value) (v : Value) (j : Nat) (acc : List Tk) (hs : s.size ≤ 3000) (hlt : j < s.size) (hal : acc.length ≤ j) (hL : RefLists ws w)
  (he : toksR ws signsS s (pastN gapB s j) acc = r) (hinv : RInv w acc v wr) (hng : gapB (s[j].toNat : Int) = false)
  (hlet : letB (s[j].toNat : Int) = false) (hdig : digB (s[j].toNat : Int) = false) (hquo : (((s[j].toNat : Nat) : Int) == 39) = true) (p : Nat) (hR : strR s (j + 1) [] = .bad p) (hrd : rdTok ws signsS s j = .bad 3 p) :
  Code.wp Tryz.prog body6 (Q6 ws s w r K (s.size - j)) (fr s w.heap.size v (.int .i64 (j : Int)) f) wr := by
 have _h1 := hL
 have _h2 := hal
 clear _h1 _h2
 obtain ⟨i0, hi, hz0, hz1, hz2⟩ := info_parts infoRT
 have hps := pastN_stop gapB s j hlt hng
 rw [hps] at he
 have HE := hide he
 have hng2 := hng
 simp only [gapB, Bool.or_eq_false_iff] at hng2
 obtain ⟨g1, g2⟩ := hng2
 have HI := hide hinv
 obtain ⟨rc0, rc1, rf0, rf1⟩ := hinv.cells
 have HLR := hide (hinv.lists hL)
 clear he hinv hng hps hL
 have hq : r = .bad 3 p := by rw [← HE.out, toksR_bad ws signsS s j acc 3 p hlt hrd]
 subst hq
 have HR := hide hR
 have HLET := hide hlet
 have HDIG := hide hdig
 clear hlet hdig HE hrd hR
 conv => arg 2; whnf
 unfold fr Q6
 go_wp2_with fail
 refine (isLetter_any _ _).mono ?_
 rw [HLET.out]
 rintro e1 w1 ⟨rfl, rfl⟩
 go_wp2_with fail
 refine (isDigit_any _ _).mono ?_
 rw [HDIG.out]
 rintro e1 w1 ⟨rfl, rfl⟩
 go_wp2_with fail
 go_loop [5, 12] (fun i v => ∃ (q : Nat) (said : List UInt8), j + 1 ≤ q ∧ q ≤ s.size ∧ said.length ≤ q ∧ i = .int .i64 q ∧ v = .string (ofBytes said) ∧ strR s q said = .bad p) (fun i _ => s.size - (intOf i).toNat)
 case atStart => exact ⟨j + 1, [], Nat.le_refl _, by omega, by simp, by go_num, rfl, HR.out⟩
 case round =>
  obtain ⟨q, said, hq1, hq2, hq3, rfl, rfl, hqe⟩ := hrel
  by_cases hqs : q < s.size
  ·
   have hbt := bt_eq s q hqs; have b1 := byte_eq s[q] 39; have b2 := byte_eq s[q] 10; have b3 := byte_eq s[q] 92; have ql : ((q : Int) == (s.size : Int)) = false := beq_eq_false_iff_ne.2 (by omega)
   by_cases c1 : s[q] = 39
   ·
    have t1 : (((s[q].toNat : Nat) : Int) == 39) = true := by rw [c1]; rfl
    have t2 : (((s[q].toNat : Nat) : Int) == 10) = false := by rw [c1]; rfl
    rw [strR_quote s q said hqs (by rw [hbt]; exact c1)] at hqe
    cases hqe
   ·
    have t1 : (((s[q].toNat : Nat) : Int) == 39) = false := by rw [show (39 : Int) = (((39 : UInt8).toNat : Nat) : Int) from rfl, b1]; simp [c1]
    by_cases c2 : s[q] = 10
    ·
     have t2 : (((s[q].toNat : Nat) : Int) == 10) = true := by rw [c2]; rfl
     rw [strR_lf s q said hqs (by rw [hbt]; exact c2)] at hqe
     have hpp := SR.bad.inj hqe; subst hpp; clear hqe; clear b1 b2 b3 c1 c2 hbt; go_wp2_with fail
     exact bodyPost_ret (v := .tuple #[.slice none 0 0, .agg #[.int .i64 3, .int .i64 (q : Int)]]) (by simp [results, Tryz.results45, go_sem, rc0, rc1]) rfl ⟨rfl, HI.out.out _ _⟩
    ·
     have t2 : (((s[q].toNat : Nat) : Int) == 10) = false := by rw [show (10 : Int) = (((10 : UInt8).toNat : Nat) : Int) from rfl, b2]; simp [c2]
     by_cases c3 : s[q] = 92
     ·
      have t3 : (((s[q].toNat : Nat) : Int) != 92) = false := by rw [c3]; rfl
      by_cases hq4 : q + 1 < s.size
      ·
       have ql2 : (((q : Int) + 1) == (s.size : Int)) = false := beq_eq_false_iff_ne.2 (by omega); have hbt2 := bt_eq s (q + 1) hq4; have d1 := byte_eq s[q + 1] 110; have d2 := byte_eq s[q + 1] 39
       have d3 := byte_eq s[q + 1] 92
       by_cases k1 : s[q + 1] = 110
       ·
        have u1 : (((s[q + 1].toNat : Nat) : Int) == 110) = true := by rw [k1]; rfl
        rw [strR_esc s q said 10 hqs (by rw [hbt]; exact c3) hq4 (by rw [hbt2, k1]; rfl)] at hqe
        have HQ := hide hqe; have hos := ofB_size said; have hos2 : (ofBytes said).size ≤ 3000 := by omega
        clear hqe hos b1 b2 b3 c1 c2 c3 hbt hbt2 d1 d2 d3 k1; go_wp2_with fail
        go_round
        case rel => exact ⟨q + 2, said ++ [10], by omega, by omega, by simp; omega, by go_num, by rw [cat2], HQ.out⟩
        case measure => simp [intOf]; omega
       ·
        have u1 : (((s[q + 1].toNat : Nat) : Int) == 110) = false := by rw [show (110 : Int) = (((110 : UInt8).toNat : Nat) : Int) from rfl, d1]; simp [k1]
        by_cases k2 : s[q + 1] = 39
        ·
         have u2 : (((s[q + 1].toNat : Nat) : Int) == 39) = true := by rw [k2]; rfl
         rw [strR_esc s q said s[q + 1] hqs (by rw [hbt]; exact c3) hq4 (by rw [hbt2, k2]; rfl)] at hqe
         have HQ := hide hqe; have hos := ofB_size said; have hos2 : (ofBytes said).size ≤ 3000 := by omega
         clear hqe hos b1 b2 b3 c1 c2 c3 hbt hbt2 d1 d2 d3 k1 k2; go_wp2_with fail
         go_round
         case rel => exact ⟨q + 2, said ++ [s[q + 1]], by omega, by omega, by simp; omega, by go_num, by rw [cat1 s (q + 1) said hq4], HQ.out⟩
         case measure => simp [intOf]; omega
        ·
         have u2 : (((s[q + 1].toNat : Nat) : Int) == 39) = false := by rw [show (39 : Int) = (((39 : UInt8).toNat : Nat) : Int) from rfl, d2]; simp [k2]
         by_cases k3 : s[q + 1] = 92
         ·
          have u3 : (((s[q + 1].toNat : Nat) : Int) == 92) = true := by rw [k3]; rfl
          rw [strR_esc s q said s[q + 1] hqs (by rw [hbt]; exact c3) hq4 (by rw [hbt2, k3]; rfl)] at hqe
          have HQ := hide hqe; have hos := ofB_size said; have hos2 : (ofBytes said).size ≤ 3000 := by omega
          clear hqe hos b1 b2 b3 c1 c2 c3 hbt hbt2 d1 d2 d3 k1 k2 k3; go_wp2_with fail
          go_round
          case rel => exact ⟨q + 2, said ++ [s[q + 1]], by omega, by omega, by simp; omega, by go_num, by rw [cat1 s (q + 1) said hq4], HQ.out⟩
          case measure => simp [intOf]; omega
         ·
          have u3 : (((s[q + 1].toNat : Nat) : Int) == 92) = false := by rw [show (92 : Int) = (((92 : UInt8).toNat : Nat) : Int) from rfl, d3]; simp [k3]
          have hno : esc (bt s (q + 1)) = none := by rw [hbt2]; simp [esc, k1, k2, k3]
          rw [strR_noesc s q said hqs (by rw [hbt]; exact c3) (fun _ => hno)] at hqe
          have hpp := SR.bad.inj hqe; subst hpp; clear hqe; clear hno b1 b2 b3 c1 c2 c3 hbt hbt2 d1 d2 d3 k1 k2 k3; go_wp2_with fail
          exact bodyPost_ret (v := .tuple #[.slice none 0 0, .agg #[.int .i64 3, .int .i64 (((q + 1 : Nat) : Int))]]) (by simp [results, Tryz.results45, go_sem, rc0, rc1]) rfl ⟨rfl, HI.out.out _ _⟩
      ·
       have ql2 : (((q : Int) + 1) == (s.size : Int)) = true := beq_iff_eq.2 (by omega); rw [strR_noesc s q said hqs (by rw [hbt]; exact c3) (fun h => absurd h hq4)] at hqe
       have hpp := SR.bad.inj hqe; subst hpp; clear hqe; clear b1 b2 b3 c1 c2 c3 hbt; go_wp2_with fail
       exact bodyPost_ret (v := .tuple #[.slice none 0 0, .agg #[.int .i64 3, .int .i64 (((q + 1 : Nat) : Int))]]) (by simp [results, Tryz.results45, go_sem, rc0, rc1]) rfl ⟨rfl, HI.out.out _ _⟩
     ·
      have t3 : (((s[q].toNat : Nat) : Int) != 92) = true := by rw [bne, show (92 : Int) = (((92 : UInt8).toNat : Nat) : Int) from rfl, b3]; simp [c3]
      rw [strR_plain s q said hqs (by rw [hbt]; exact c1) (by rw [hbt]; exact c2) (by rw [hbt]; exact c3), hbt] at hqe
      have HQ := hide hqe; have hos := ofB_size said; have hos2 : (ofBytes said).size ≤ 3000 := by omega
      clear hqe hos b1 b2 b3 c1 c2 c3 hbt; go_wp2_with fail
      go_round
      case rel => exact ⟨q + 1, said ++ [s[q]], by omega, by omega, by simp; omega, by go_num, by rw [cat1 s q said hqs], HQ.out⟩
      case measure => simp [intOf]; omega
  ·
   have hqq : s.size = q := by omega
   subst hqq; rw [strR_end s s.size said hqs] at hqe; have hpp := SR.bad.inj hqe; subst hpp; clear hqe; go_wp2_with fail
   exact bodyPost_ret (v := .tuple #[.slice none 0 0, .agg #[.int .i64 3, .int .i64 (s.size : Int)]]) (by simp [results, Tryz.results45, go_sem, rc0, rc1]) rfl ⟨rfl, HI.out.out _ _⟩
end Go.Proofs.YtodmgaikhbmlnaaGreatDoor
