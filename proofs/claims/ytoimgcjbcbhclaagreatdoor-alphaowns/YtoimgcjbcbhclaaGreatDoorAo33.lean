/-
  Rounds of the reference's Tokens: numbers.
-/
import Derived.Test.YtoimgcjbcbhclaaGreatDoorAo32
set_option maxRecDepth 100000
set_option maxHeartbeats 16000000
namespace Go.Proofs.YtoimgcjbcbhclaaGreatDoor
open Go.RowKit
section
variable (ws : List ByteArray) (s : ByteArray) (w wr : World) (r : TR) (K : Act → World → Prop) (f : Nat → Value) (v : Value) (j : Nat) (acc : List Tk) (hs : s.size ≤ 3000) (hlt : j < s.size) (hal : acc.length ≤ j) (hL : RefLists ws w) (he : toksR ws signsS s (pastN gapB s j) acc = r) (hinv : RInv w acc v wr) (hng : gapB (s[j].toNat : Int) = false) (hlet : letB (s[j].toNat : Int) = false) (hdig : digB (s[j].toNat : Int) = true) (e : Nat) (hee : pastN digB s j = e) (hge : j < e) (hes : e ≤ s.size)
include ws s w wr r K f v j acc hs hlt hal hL he hinv hng hlet hdig e hee hge hes
theorem way_dlong_mid (hex : e < s.size) (h10 : 10 < e - j) (hrd : rdTok ws signsS s j = .bad 3 j) :
  Code.wp Tryz.prog body6 (Q6 ws s w r K (s.size - j)) (fr s w.heap.size v (.int .i64 (j : Int)) f) wr := by
 exact zdad
theorem way_dlong_end (hex : e = s.size) (h10 : 10 < e - j) (hrd : rdTok ws signsS s j = .bad 3 j) :
  Code.wp Tryz.prog body6 (Q6 ws s w r K (s.size - j)) (fr s w.heap.size v (.int .i64 (j : Int)) f) wr := by
 exact zdab
theorem way_dzero_mid (hex : e < s.size) (h10 : ¬ 10 < e - j) (h1 : 1 < e - j) (h48 : (((s[j].toNat : Nat) : Int) == 48) = true) (hrd : rdTok ws signsS s j = .bad 3 j) :
  Code.wp Tryz.prog body6 (Q6 ws s w r K (s.size - j)) (fr s w.heap.size v (.int .i64 (j : Int)) f) wr := by
 exact zdad
theorem way_dzero_end (hex : e = s.size) (h10 : ¬ 10 < e - j) (h1 : 1 < e - j) (h48 : (((s[j].toNat : Nat) : Int) == 48) = true) (hrd : rdTok ws signsS s j = .bad 3 j) :
  Code.wp Tryz.prog body6 (Q6 ws s w r K (s.size - j)) (fr s w.heap.size v (.int .i64 (j : Int)) f) wr := by
 exact zdab
theorem way_dbig_mid (hex : e < s.size) (n : Int) (hn : numL (s.extract j e).data.toList = n) (h10 : ¬ 10 < e - j) (h1 : 1 < e - j) (h48 : (((s[j].toNat : Nat) : Int) == 48) = false) (hb : 1000000000 < n) (hrd : rdTok ws signsS s j = .bad 2 j) :
  Code.wp Tryz.prog body6 (Q6 ws s w r K (s.size - j)) (fr s w.heap.size v (.int .i64 (j : Int)) f) wr := by
 have _h3 := hge
 have _h4 := hes
 clear _h3 _h4
 have _h1 := hL
 have _h2 := hal
 clear _h1 _h2
 obtain ⟨i0, hi, hz0, hz1, hz2⟩ := info_parts infoRT
 have hps := pastN_stop gapB s j hlt hng
 rw [hps] at he
 have HE := hide he
 have hng2 := hng
 simp only [gapB, Bool.or_eq_false_iff] at hng2
 obtain ⟨g1, g2⟩ := hng2
 have HI := hide hinv
 obtain ⟨rc0, rc1, rf0, rf1⟩ := hinv.cells
 have HLR := hide (hinv.lists hL)
 clear he hinv hng hps hL
 have hq : r = .bad 2 j := by rw [← HE.out, toksR_bad ws signsS s j acc 2 j hlt hrd]
 subst hq
 have HEE := hide hee
 have HLET := hide hlet
 have HDIG := hide hdig
 have HNN := hide hn
 clear hn
 clear hee hlet hdig HE hrd
 conv => arg 2; whnf
 unfold fr Q6
 go_wp2_with fail
 refine (isLetter_any _ _).mono ?_
 rw [HLET.out]
 rintro e1 w1 ⟨rfl, rfl⟩
 go_wp2_with fail
 refine (isDigit_any _ _).mono ?_
 rw [HDIG.out]
 rintro e1 w1 ⟨rfl, rfl⟩
 go_wp2_with fail
 go_loop [5] (fun v => ∃ q : Nat, j ≤ q ∧ q ≤ e ∧ v = .int .i64 q ∧ pastN digB s q = e) (fun v => s.size - (intOf v).toNat)
 case atStart => exact ⟨j, Nat.le_refl _, by omega, rfl, HEE.out⟩
 case round =>
  obtain ⟨q, hq1, hq2, rfl, hqe⟩ := hrel
  by_cases hqs : q < s.size
  ·
   cases hd : digB (s[q].toNat : Int)
   ·
    have hst := pastN_stop digB s q hqs hd; have hqq : e = q := by omega
    subst hqq; have HD1 := hide hd; clear hd hst hqe; go_wp2_with fail; refine (isDigit_any _ _).mono ?_; rw [HD1.out]; rintro e2 w2 ⟨rfl, rfl⟩; exact zcby
   ·
    exact zcaa
  ·
   exfalso; omega
theorem way_dbig_end (hex : e = s.size) (n : Int) (hn : numL (s.extract j e).data.toList = n) (h10 : ¬ 10 < e - j) (h1 : 1 < e - j) (h48 : (((s[j].toNat : Nat) : Int) == 48) = false) (hb : 1000000000 < n) (hrd : rdTok ws signsS s j = .bad 2 j) :
  Code.wp Tryz.prog body6 (Q6 ws s w r K (s.size - j)) (fr s w.heap.size v (.int .i64 (j : Int)) f) wr := by
 have _h3 := hge
 have _h4 := hes
 clear _h3 _h4
 have _h1 := hL
 have _h2 := hal
 clear _h1 _h2
 obtain ⟨i0, hi, hz0, hz1, hz2⟩ := info_parts infoRT
 have hps := pastN_stop gapB s j hlt hng
 rw [hps] at he
 have HE := hide he
 have hng2 := hng
 simp only [gapB, Bool.or_eq_false_iff] at hng2
 obtain ⟨g1, g2⟩ := hng2
 have HI := hide hinv
 obtain ⟨rc0, rc1, rf0, rf1⟩ := hinv.cells
 have HLR := hide (hinv.lists hL)
 clear he hinv hng hps hL
 have hq : r = .bad 2 j := by rw [← HE.out, toksR_bad ws signsS s j acc 2 j hlt hrd]
 subst hq
 have HEE := hide hee
 have HLET := hide hlet
 have HDIG := hide hdig
 have HNN := hide hn
 clear hn
 clear hee hlet hdig HE hrd
 have hex2 : s.size ≤ e := by omega
 clear hex
 conv => arg 2; whnf
 unfold fr Q6
 go_wp2_with fail
 refine (isLetter_any _ _).mono ?_
 rw [HLET.out]
 rintro e1 w1 ⟨rfl, rfl⟩
 go_wp2_with fail
 refine (isDigit_any _ _).mono ?_
 rw [HDIG.out]
 rintro e1 w1 ⟨rfl, rfl⟩
 go_wp2_with fail
 go_loop [5] (fun v => ∃ q : Nat, j ≤ q ∧ q ≤ e ∧ v = .int .i64 q ∧ pastN digB s q = e) (fun v => s.size - (intOf v).toNat)
 case atStart => exact ⟨j, Nat.le_refl _, by omega, rfl, HEE.out⟩
 case round =>
  obtain ⟨q, hq1, hq2, rfl, hqe⟩ := hrel
  by_cases hqs : q < s.size
  ·
   cases hd : digB (s[q].toNat : Int)
   ·
    have hst := pastN_stop digB s q hqs hd; exfalso; omega
   ·
    exact zcaa
  ·
   have hqq : e = q := by have := pastN_end digB s q (by omega); omega
   subst hqq; clear hqe; exact zcby
theorem way_dmany_mid (hex : e < s.size) (n : Int) (hn : numL (s.extract j e).data.toList = n) (h10 : ¬ 10 < e - j) (h1 : 1 < e - j) (h48 : (((s[j].toNat : Nat) : Int) == 48) = false) (hb : ¬ 1000000000 < n) (hrd : rdTok ws signsS s j = .tok 3 ⟨#[]⟩ n e) :
  Code.wp Tryz.prog body6 (Q6 ws s w r K (s.size - j)) (fr s w.heap.size v (.int .i64 (j : Int)) f) wr := by
 exact zdac
theorem way_dmany_end (hex : e = s.size) (n : Int) (hn : numL (s.extract j e).data.toList = n) (h10 : ¬ 10 < e - j) (h1 : 1 < e - j) (h48 : (((s[j].toNat : Nat) : Int) == 48) = false) (hb : ¬ 1000000000 < n) (hrd : rdTok ws signsS s j = .tok 3 ⟨#[]⟩ n e) :
  Code.wp Tryz.prog body6 (Q6 ws s w r K (s.size - j)) (fr s w.heap.size v (.int .i64 (j : Int)) f) wr := by
 exact zdaa
theorem way_done_mid (hex : e < s.size) (n : Int) (hn : numL (s.extract j e).data.toList = n) (h1 : ¬ 1 < e - j) (hb : ¬ 1000000000 < n) (hrd : rdTok ws signsS s j = .tok 3 ⟨#[]⟩ n e) :
  Code.wp Tryz.prog body6 (Q6 ws s w r K (s.size - j)) (fr s w.heap.size v (.int .i64 (j : Int)) f) wr := by
 exact zdac
theorem way_done_end (hex : e = s.size) (n : Int) (hn : numL (s.extract j e).data.toList = n) (h1 : ¬ 1 < e - j) (hb : ¬ 1000000000 < n) (hrd : rdTok ws signsS s j = .tok 3 ⟨#[]⟩ n e) :
  Code.wp Tryz.prog body6 (Q6 ws s w r K (s.size - j)) (fr s w.heap.size v (.int .i64 (j : Int)) f) wr := by
 exact zdaa
end
theorem new4_cells (w : World) (a c d : Int) (x : ByteArray) (j : Nat) (u : Value) (h : ([.int .i64 a, .string x, .int .i64 c, .int .i64 d] : List Value)[j]? = some u) :
  (w.alloc (.cells #[.int .i64 a, .string x, .int .i64 c, .int .i64 d] 167)).cell? (Addr.add ⟨w.heap.size, 0, none⟩ j) = some u := by
 match j, h with
 | 0, h => simp at h; subst h; simp [Addr.add]
 | 1, h => simp at h; subst h; simp [Addr.add]
 | 2, h => simp at h; subst h; simp [Addr.add]
 | 3, h => simp at h; subst h; simp [Addr.add]
theorem new4_one (a c d : Int) (x : ByteArray) (u : Value) (h : u ∈ ([.int .i64 a, .string x, .int .i64 c, .int .i64 d] : List Value)) : u.oneCell' = true := by
 simp only [List.mem_cons, List.not_mem_nil, or_false] at h
 rcases h with rfl | rfl | rfl | rfl <;> rfl
theorem ext_list (s : ByteArray) (a b : Nat) : (s.extract a b).data.toList = (s.data.toList.drop a).take (b - a) := Lib.extract_data s a b
theorem cat1 (s : ByteArray) (q : Nat) (said : List UInt8) (h : q < s.size) : ofBytes said ++ s.extract q (q + 1) = ofBytes (said ++ [s[q]]) := by
 apply WideShapes.bytes_inj
 have h1 : (ofBytes said ++ s.extract q (q + 1)).data.toList = said ++ (s.extract q (q + 1)).data.toList := by simp [ofBytes]
 rw [h1, ext_list]
 have h2 : q < s.data.toList.length := by simpa using h
 rw [List.drop_eq_getElem_cons h2, show q + 1 - q = 1 from by omega]
 rfl
theorem cat2 (said : List UInt8) : ofBytes said ++ ⟨#[10]⟩ = ofBytes (said ++ [10]) := by
 apply WideShapes.bytes_inj
 simp [ofBytes]
theorem ofB_size (said : List UInt8) : (ofBytes said).size = said.length := by simp [ofBytes, ByteArray.size]
section
variable (ws : List ByteArray) (s : ByteArray) (w wr : World) (r : TR) (K : Act → World → Prop) (f : Nat → Value) (v : Value) (j : Nat) (acc : List Tk) (hs : s.size ≤ 3000) (hlt : j < s.size) (hal : acc.length ≤ j) (hL : RefLists ws w) (he : toksR ws signsS s (pastN gapB s j) acc = r) (hinv : RInv w acc v wr) (hng : gapB (s[j].toNat : Int) = false) (hlet : letB (s[j].toNat : Int) = false) (hdig : digB (s[j].toNat : Int) = false) (hquo : (((s[j].toNat : Nat) : Int) == 39) = true)
include ws s w wr r K f v j acc hs hlt hal hL he hinv hng hlet hdig hquo
theorem way_sok (l : List UInt8) (e : Nat) (hR : strR s (j + 1) [] = .ok l e) (hes : e ≤ s.size) (hje : j < e) (hl : l.length ≤ 500) (hrd : rdTok ws signsS s j = .tok 4 (ofBytes l) 0 e) :
  Code.wp Tryz.prog body6 (Q6 ws s w r K (s.size - j)) (fr s w.heap.size v (.int .i64 (j : Int)) f) wr := by
 have _h1 := hL
 have _h2 := hal
 clear _h1 _h2
 obtain ⟨i0, hi, hz0, hz1, hz2⟩ := info_parts infoRT
 have hps := pastN_stop gapB s j hlt hng
 rw [hps] at he
 have HE := hide he
 have hng2 := hng
 simp only [gapB, Bool.or_eq_false_iff] at hng2
 obtain ⟨g1, g2⟩ := hng2
 have HI := hide hinv
 obtain ⟨rc0, rc1, rf0, rf1⟩ := hinv.cells
 have HLR := hide (hinv.lists hL)
 clear he hinv hng hps hL
 have HST := hide ((toksR_go ws signsS s j acc (4) (0) (ofBytes l) e hlt hrd (by omega)).symm.trans HE.out)
 have HR := hide hR
 have HLET := hide hlet
 have HDIG := hide hdig
 clear hlet hdig HE hrd hR
 conv => arg 2; whnf
 unfold fr Q6
 go_wp2_with fail
 refine (isLetter_any _ _).mono ?_
 rw [HLET.out]
 rintro e1 w1 ⟨rfl, rfl⟩
 go_wp2_with fail
 refine (isDigit_any _ _).mono ?_
 rw [HDIG.out]
 rintro e1 w1 ⟨rfl, rfl⟩
 go_wp2_with fail
 go_loop [5, 12] (fun i v => ∃ (q : Nat) (said : List UInt8), j + 1 ≤ q ∧ q ≤ s.size ∧ said.length ≤ q ∧ i = .int .i64 q ∧ v = .string (ofBytes said) ∧ strR s q said = .ok l e) (fun i _ => s.size - (intOf i).toNat)
 case atStart => exact ⟨j + 1, [], Nat.le_refl _, by omega, by simp, by go_num, rfl, HR.out⟩
 case round =>
  obtain ⟨q, said, hq1, hq2, hq3, rfl, rfl, hqe⟩ := hrel
  by_cases hqs : q < s.size
  ·
   have hbt := bt_eq s q hqs; have b1 := byte_eq s[q] 39; have b2 := byte_eq s[q] 10; have b3 := byte_eq s[q] 92; have ql : ((q : Int) == (s.size : Int)) = false := beq_eq_false_iff_ne.2 (by omega)
   by_cases c1 : s[q] = 39
   ·
    have t1 : (((s[q].toNat : Nat) : Int) == 39) = true := by rw [c1]; rfl
    have t2 : (((s[q].toNat : Nat) : Int) == 10) = false := by rw [c1]; rfl
    rw [strR_quote s q said hqs (by rw [hbt]; exact c1)] at hqe
    have hp1 := (SR.ok.inj hqe).1; have hp2 := (SR.ok.inj hqe).2; subst hp1; subst hp2; clear hqe; have hos := ofB_size said; have hos2 : (ofBytes said).size ≤ 500 := by omega
    clear hos b1 b2 b3 c1 hbt
    go_wp2_with (at_builtin; refine wpList_append_own _ rfl _ _ 161 rfl (w.heap.size + 1) 167 i0 noTok 4 40 Tryz.underlying161 hi hz0 hz1 hz2 rfl (by decide) _ _ _ rfl (HI.out.own.alloc _) ⟨w1.heap.size, 0, none⟩ 1 1 [.int .i64 4, .string (ofBytes said), .int .i64 0, .int .i64 (j : Int)] rfl rfl (new4_cells _ _ _ _ _) (new4_one _ _ _ _) (by unfold maxLen; omega) (by omega) (by have := HI.out.size; simp; omega) ?_; intro v' w5 hown' hgrow _; have HI5 := hide (HI.out.app (t := Tk.mk 4 (ofBytes said) 0 j) _ hown' hgrow); clear hown' hgrow)
    exact ⟨WI_mk (q + 1) (acc ++ [Tk.mk 4 (ofBytes said) 0 j]) v' hes (by simp; omega) HST.out HI5.out (by kernel_rfl), by simp [mu6, intOf]; omega⟩
   ·
    exact zbah
  ·
   have hqq : s.size = q := by omega
   subst hqq; rw [strR_end s s.size said hqs] at hqe; cases hqe
theorem way_slong (l : List UInt8) (e : Nat) (hR : strR s (j + 1) [] = .ok l e) (hl : 500 < l.length) (hrd : rdTok ws signsS s j = .bad 4 j) :
  Code.wp Tryz.prog body6 (Q6 ws s w r K (s.size - j)) (fr s w.heap.size v (.int .i64 (j : Int)) f) wr := by
 have _h1 := hL
 have _h2 := hal
 clear _h1 _h2
 obtain ⟨i0, hi, hz0, hz1, hz2⟩ := info_parts infoRT
 have hps := pastN_stop gapB s j hlt hng
 rw [hps] at he
 have HE := hide he
 have hng2 := hng
 simp only [gapB, Bool.or_eq_false_iff] at hng2
 obtain ⟨g1, g2⟩ := hng2
 have HI := hide hinv
 obtain ⟨rc0, rc1, rf0, rf1⟩ := hinv.cells
 have HLR := hide (hinv.lists hL)
 clear he hinv hng hps hL
 have hq : r = .bad 4 j := by rw [← HE.out, toksR_bad ws signsS s j acc 4 j hlt hrd]
 subst hq
 have HR := hide hR
 have HLET := hide hlet
 have HDIG := hide hdig
 clear hlet hdig HE hrd hR
 conv => arg 2; whnf
 unfold fr Q6
 go_wp2_with fail
 refine (isLetter_any _ _).mono ?_
 rw [HLET.out]
 rintro e1 w1 ⟨rfl, rfl⟩
 go_wp2_with fail
 refine (isDigit_any _ _).mono ?_
 rw [HDIG.out]
 rintro e1 w1 ⟨rfl, rfl⟩
 go_wp2_with fail
 go_loop [5, 12] (fun i v => ∃ (q : Nat) (said : List UInt8), j + 1 ≤ q ∧ q ≤ s.size ∧ said.length ≤ q ∧ i = .int .i64 q ∧ v = .string (ofBytes said) ∧ strR s q said = .ok l e) (fun i _ => s.size - (intOf i).toNat)
 case atStart => exact ⟨j + 1, [], Nat.le_refl _, by omega, by simp, by go_num, rfl, HR.out⟩
 case round =>
  obtain ⟨q, said, hq1, hq2, hq3, rfl, rfl, hqe⟩ := hrel
  by_cases hqs : q < s.size
  ·
   have hbt := bt_eq s q hqs; have b1 := byte_eq s[q] 39; have b2 := byte_eq s[q] 10; have b3 := byte_eq s[q] 92; have ql : ((q : Int) == (s.size : Int)) = false := beq_eq_false_iff_ne.2 (by omega)
   by_cases c1 : s[q] = 39
   ·
    have t1 : (((s[q].toNat : Nat) : Int) == 39) = true := by rw [c1]; rfl
    have t2 : (((s[q].toNat : Nat) : Int) == 10) = false := by rw [c1]; rfl
    rw [strR_quote s q said hqs (by rw [hbt]; exact c1)] at hqe
    have hp1 := (SR.ok.inj hqe).1; have hp2 := (SR.ok.inj hqe).2; subst hp1; subst hp2; clear hqe; have hos := ofB_size said; have hos2 : 500 < (ofBytes said).size := by omega
    clear hos b1 b2 b3 c1 hbt; go_wp2_with fail
    exact bodyPost_ret (v := .tuple #[.slice none 0 0, .agg #[.int .i64 4, .int .i64 (j : Int)]]) (by simp [results, Tryz.results109, go_sem, rc0, rc1]) rfl ⟨rfl, HI.out.out _ _⟩
   ·
    exact zbah
  ·
   have hqq : s.size = q := by omega
   subst hqq; rw [strR_end s s.size said hqs] at hqe; cases hqe
theorem way_sbad (p : Nat) (hR : strR s (j + 1) [] = .bad p) (hrd : rdTok ws signsS s j = .bad 3 p) :
  Code.wp Tryz.prog body6 (Q6 ws s w r K (s.size - j)) (fr s w.heap.size v (.int .i64 (j : Int)) f) wr := by
 have _h1 := hL
 have _h2 := hal
 clear _h1 _h2
 obtain ⟨i0, hi, hz0, hz1, hz2⟩ := info_parts infoRT
 have hps := pastN_stop gapB s j hlt hng
 rw [hps] at he
 have HE := hide he
 have hng2 := hng
 simp only [gapB, Bool.or_eq_false_iff] at hng2
 obtain ⟨g1, g2⟩ := hng2
 have HI := hide hinv
 obtain ⟨rc0, rc1, rf0, rf1⟩ := hinv.cells
 have HLR := hide (hinv.lists hL)
 clear he hinv hng hps hL
 have hq : r = .bad 3 p := by rw [← HE.out, toksR_bad ws signsS s j acc 3 p hlt hrd]
 subst hq
 have HR := hide hR
 have HLET := hide hlet
 have HDIG := hide hdig
 clear hlet hdig HE hrd hR
 conv => arg 2; whnf
 unfold fr Q6
 go_wp2_with fail
 refine (isLetter_any _ _).mono ?_
 rw [HLET.out]
 rintro e1 w1 ⟨rfl, rfl⟩
 go_wp2_with fail
 refine (isDigit_any _ _).mono ?_
 rw [HDIG.out]
 rintro e1 w1 ⟨rfl, rfl⟩
 go_wp2_with fail
 go_loop [5, 12] (fun i v => ∃ (q : Nat) (said : List UInt8), j + 1 ≤ q ∧ q ≤ s.size ∧ said.length ≤ q ∧ i = .int .i64 q ∧ v = .string (ofBytes said) ∧ strR s q said = .bad p) (fun i _ => s.size - (intOf i).toNat)
 case atStart => exact ⟨j + 1, [], Nat.le_refl _, by omega, by simp, by go_num, rfl, HR.out⟩
 case round =>
  obtain ⟨q, said, hq1, hq2, hq3, rfl, rfl, hqe⟩ := hrel
  by_cases hqs : q < s.size
  ·
   have hbt := bt_eq s q hqs; have b1 := byte_eq s[q] 39; have b2 := byte_eq s[q] 10; have b3 := byte_eq s[q] 92; have ql : ((q : Int) == (s.size : Int)) = false := beq_eq_false_iff_ne.2 (by omega)
   by_cases c1 : s[q] = 39
   ·
    have t1 : (((s[q].toNat : Nat) : Int) == 39) = true := by rw [c1]; rfl
    have t2 : (((s[q].toNat : Nat) : Int) == 10) = false := by rw [c1]; rfl
    rw [strR_quote s q said hqs (by rw [hbt]; exact c1)] at hqe
    cases hqe
   ·
    have t1 : (((s[q].toNat : Nat) : Int) == 39) = false := by rw [show (39 : Int) = (((39 : UInt8).toNat : Nat) : Int) from rfl, b1]; simp [c1]
    by_cases c2 : s[q] = 10
    ·
     have t2 : (((s[q].toNat : Nat) : Int) == 10) = true := by rw [c2]; rfl
     rw [strR_lf s q said hqs (by rw [hbt]; exact c2)] at hqe
     have hpp := SR.bad.inj hqe; subst hpp; clear hqe; clear b1 b2 b3 c1 c2 hbt; go_wp2_with fail
     exact bodyPost_ret (v := .tuple #[.slice none 0 0, .agg #[.int .i64 3, .int .i64 (q : Int)]]) (by simp [results, Tryz.results109, go_sem, rc0, rc1]) rfl ⟨rfl, HI.out.out _ _⟩
    ·
     have t2 : (((s[q].toNat : Nat) : Int) == 10) = false := by rw [show (10 : Int) = (((10 : UInt8).toNat : Nat) : Int) from rfl, b2]; simp [c2]
     by_cases c3 : s[q] = 92
     ·
      have t3 : (((s[q].toNat : Nat) : Int) != 92) = false := by rw [c3]; rfl
      by_cases hq4 : q + 1 < s.size
      ·
       have ql2 : (((q : Int) + 1) == (s.size : Int)) = false := beq_eq_false_iff_ne.2 (by omega); have hbt2 := bt_eq s (q + 1) hq4; have d1 := byte_eq s[q + 1] 110; have d2 := byte_eq s[q + 1] 39
       have d3 := byte_eq s[q + 1] 92
       by_cases k1 : s[q + 1] = 110
       ·
        exact zcaq
       ·
        have u1 : (((s[q + 1].toNat : Nat) : Int) == 110) = false := by rw [show (110 : Int) = (((110 : UInt8).toNat : Nat) : Int) from rfl, d1]; simp [k1]
        by_cases k2 : s[q + 1] = 39
        ·
         have u2 : (((s[q + 1].toNat : Nat) : Int) == 39) = true := by rw [k2]; rfl
         rw [strR_esc s q said s[q + 1] hqs (by rw [hbt]; exact c3) hq4 (by rw [hbt2, k2]; rfl)] at hqe
         have HQ := hide hqe; have hos := ofB_size said; have hos2 : (ofBytes said).size ≤ 3000 := by omega
         clear hqe hos b1 b2 b3 c1 c2 c3 hbt hbt2 d1 d2 d3 k1 k2; exact zbbk
        ·
         have u2 : (((s[q + 1].toNat : Nat) : Int) == 39) = false := by rw [show (39 : Int) = (((39 : UInt8).toNat : Nat) : Int) from rfl, d2]; simp [k2]
         by_cases k3 : s[q + 1] = 92
         ·
          have u3 : (((s[q + 1].toNat : Nat) : Int) == 92) = true := by rw [k3]; rfl
          rw [strR_esc s q said s[q + 1] hqs (by rw [hbt]; exact c3) hq4 (by rw [hbt2, k3]; rfl)] at hqe
          have HQ := hide hqe; have hos := ofB_size said; have hos2 : (ofBytes said).size ≤ 3000 := by omega
          clear hqe hos b1 b2 b3 c1 c2 c3 hbt hbt2 d1 d2 d3 k1 k2 k3; exact zbbk
         ·
          have u3 : (((s[q + 1].toNat : Nat) : Int) == 92) = false := by rw [show (92 : Int) = (((92 : UInt8).toNat : Nat) : Int) from rfl, d3]; simp [k3]
          have hno : esc (bt s (q + 1)) = none := by rw [hbt2]; simp [esc, k1, k2, k3]
          rw [strR_noesc s q said hqs (by rw [hbt]; exact c3) (fun _ => hno)] at hqe
          have hpp := SR.bad.inj hqe; subst hpp; clear hqe; clear hno b1 b2 b3 c1 c2 c3 hbt hbt2 d1 d2 d3 k1 k2 k3; exact zbek
      ·
       have ql2 : (((q : Int) + 1) == (s.size : Int)) = true := beq_iff_eq.2 (by omega); rw [strR_noesc s q said hqs (by rw [hbt]; exact c3) (fun h => absurd h hq4)] at hqe
       have hpp := SR.bad.inj hqe; subst hpp; clear hqe; clear b1 b2 b3 c1 c2 c3 hbt; exact zbek
     ·
      exact zcam
  ·
   have hqq : s.size = q := by omega
   subst hqq; rw [strR_end s s.size said hqs] at hqe; have hpp := SR.bad.inj hqe; subst hpp; clear hqe; go_wp2_with fail
   exact bodyPost_ret (v := .tuple #[.slice none 0 0, .agg #[.int .i64 3, .int .i64 (s.size : Int)]]) (by simp [results, Tryz.results109, go_sem, rc0, rc1]) rfl ⟨rfl, HI.out.out _ _⟩
end
theorem notEmpty (s : ByteArray) (h1 : 1 ≤ s.size) : s.toList.isEmpty = false := by
 rw [ByteArray.toList_eq]
 cases hd : s.data.toList with
 | nil =>
  have h2 : s.data.toList.length = 0 := by rw [hd]; rfl
  have h3 : s.size = s.data.toList.length := by simp
  omega
 | cons a l => rfl
theorem signs_cells (w : World) (k : Nat) (hk : k < 19) : (w.alloc (.cells #[.string ⟨#[61, 61, 61]⟩, .string ⟨#[38, 38]⟩, .string ⟨#[124, 124]⟩, .string ⟨#[40]⟩, .string ⟨#[41]⟩, .string ⟨#[123]⟩, .string ⟨#[125]⟩, .string ⟨#[91]⟩, .string ⟨#[93]⟩, .string ⟨#[59]⟩, .string ⟨#[58]⟩, .string ⟨#[44]⟩, .string ⟨#[46]⟩, .string ⟨#[61]⟩, .string ⟨#[43]⟩, .string ⟨#[45]⟩, .string ⟨#[42]⟩, .string ⟨#[60]⟩, .string ⟨#[33]⟩] 9)).cell? ⟨w.heap.size, k, none⟩ = some (.string (signsS.getD k ByteArray.empty)) := by
 have h1 : (w.alloc (.cells #[.string ⟨#[61, 61, 61]⟩, .string ⟨#[38, 38]⟩, .string ⟨#[124, 124]⟩, .string ⟨#[40]⟩, .string ⟨#[41]⟩, .string ⟨#[123]⟩, .string ⟨#[125]⟩, .string ⟨#[91]⟩, .string ⟨#[93]⟩, .string ⟨#[59]⟩, .string ⟨#[58]⟩, .string ⟨#[44]⟩, .string ⟨#[46]⟩, .string ⟨#[61]⟩, .string ⟨#[43]⟩, .string ⟨#[45]⟩, .string ⟨#[42]⟩, .string ⟨#[60]⟩, .string ⟨#[33]⟩] 9)).heap[w.heap.size]? = some (.cells #[.string ⟨#[61, 61, 61]⟩, .string ⟨#[38, 38]⟩, .string ⟨#[124, 124]⟩, .string ⟨#[40]⟩, .string ⟨#[41]⟩, .string ⟨#[123]⟩, .string ⟨#[125]⟩, .string ⟨#[91]⟩, .string ⟨#[93]⟩, .string ⟨#[59]⟩, .string ⟨#[58]⟩, .string ⟨#[44]⟩, .string ⟨#[46]⟩, .string ⟨#[61]⟩, .string ⟨#[43]⟩, .string ⟨#[45]⟩, .string ⟨#[42]⟩, .string ⟨#[60]⟩, .string ⟨#[33]⟩] 9) := heap_alloc_new w _
 simp only [World.cell?, h1]
 have h2 : ∀ k : Fin 19, (#[.string ⟨#[61, 61, 61]⟩, .string ⟨#[38, 38]⟩, .string ⟨#[124, 124]⟩, .string ⟨#[40]⟩, .string ⟨#[41]⟩, .string ⟨#[123]⟩, .string ⟨#[125]⟩, .string ⟨#[91]⟩, .string ⟨#[93]⟩, .string ⟨#[59]⟩, .string ⟨#[58]⟩, .string ⟨#[44]⟩, .string ⟨#[46]⟩, .string ⟨#[61]⟩, .string ⟨#[43]⟩, .string ⟨#[45]⟩, .string ⟨#[42]⟩, .string ⟨#[60]⟩, .string ⟨#[33]⟩] : Array Value)[k.val]? = some (.string (signsS.getD k.val ByteArray.empty)) := by
  intro k
  match k with
  | ⟨0, _⟩ => rfl
  | ⟨1, _⟩ => rfl
  | ⟨2, _⟩ => rfl
  | ⟨3, _⟩ => rfl
  | ⟨4, _⟩ => rfl
  | ⟨5, _⟩ => rfl
  | ⟨6, _⟩ => rfl
  | ⟨7, _⟩ => rfl
  | ⟨8, _⟩ => rfl
  | ⟨9, _⟩ => rfl
  | ⟨10, _⟩ => rfl
  | ⟨11, _⟩ => rfl
  | ⟨12, _⟩ => rfl
  | ⟨13, _⟩ => rfl
  | ⟨14, _⟩ => rfl
  | ⟨15, _⟩ => rfl
  | ⟨16, _⟩ => rfl
  | ⟨17, _⟩ => rfl
  | ⟨18, _⟩ => rfl
  | ⟨n + 19, h⟩ => exact absurd h (by omega)
 exact h2 ⟨k, hk⟩
theorem signs_sz : ∀ i, i < 19 → (signsS.getD i ByteArray.empty).size ≤ 3 := by decide +kernel
section
variable (ws : List ByteArray) (s : ByteArray) (w wr : World) (r : TR) (K : Act → World → Prop) (f : Nat → Value) (v : Value) (j : Nat) (acc : List Tk) (hs : s.size ≤ 3000) (hlt : j < s.size) (hal : acc.length ≤ j) (hL : RefLists ws w) (he : toksR ws signsS s (pastN gapB s j) acc = r) (hinv : RInv w acc v wr) (hng : gapB (s[j].toNat : Int) = false) (hlet : letB (s[j].toNat : Int) = false) (hdig : digB (s[j].toNat : Int) = false) (hquo : (((s[j].toNat : Nat) : Int) == 39) = false)
include ws s w wr r K f v j acc hs hlt hal hL he hinv hng hlet hdig hquo
theorem way_znone (hno : ∀ k, k < 19 → pfxB (s.extract j s.size) (signsS.getD k ByteArray.empty) = false) (hrd : rdTok ws signsS s j = .bad 3 j) :
  Code.wp Tryz.prog body6 (Q6 ws s w r K (s.size - j)) (fr s w.heap.size v (.int .i64 (j : Int)) f) wr := by
 have _h1 := hL
 have _h2 := hal
 clear _h1 _h2
 obtain ⟨i0, hi, hz0, hz1, hz2⟩ := info_parts infoRT
 have hps := pastN_stop gapB s j hlt hng
 rw [hps] at he
 have HE := hide he
 have hng2 := hng
 simp only [gapB, Bool.or_eq_false_iff] at hng2
 obtain ⟨g1, g2⟩ := hng2
 have HI := hide hinv
 obtain ⟨rc0, rc1, rf0, rf1⟩ := hinv.cells
 have HLR := hide (hinv.lists hL)
 clear he hinv hng hps hL
 have hq : r = .bad 3 j := by rw [← HE.out, toksR_bad ws signsS s j acc 3 j hlt hrd]
 subst hq
 have HNO := hide hno
 have HLET := hide hlet
 have HDIG := hide hdig
 clear hlet hdig HE hrd hno
 conv => arg 2; whnf
 unfold fr Q6
 go_wp2_with fail
 refine (isLetter_any _ _).mono ?_
 rw [HLET.out]
 rintro e1 w1 ⟨rfl, rfl⟩
 go_wp2_with fail
 refine (isDigit_any _ _).mono ?_
 rw [HDIG.out]
 rintro e1 w1 ⟨rfl, rfl⟩
 go_wp2_with fail
 have HCE := hide (signs_cells w1)
 have HI1 := hide (HI.out.later ((Below.refl _ _).alloc (Nat.le_refl _) (.cells #[.string ⟨#[61, 61, 61]⟩, .string ⟨#[38, 38]⟩, .string ⟨#[124, 124]⟩, .string ⟨#[40]⟩, .string ⟨#[41]⟩, .string ⟨#[123]⟩, .string ⟨#[125]⟩, .string ⟨#[91]⟩, .string ⟨#[93]⟩, .string ⟨#[59]⟩, .string ⟨#[58]⟩, .string ⟨#[44]⟩, .string ⟨#[46]⟩, .string ⟨#[61]⟩, .string ⟨#[43]⟩, .string ⟨#[45]⟩, .string ⟨#[42]⟩, .string ⟨#[60]⟩, .string ⟨#[33]⟩] 9)))
 obtain ⟨N, hN⟩ : ∃ N, N = w1.heap.size := ⟨_, rfl⟩
 obtain ⟨W1, hW1⟩ : ∃ W1, W1 = w1.alloc (.cells #[.string ⟨#[61, 61, 61]⟩, .string ⟨#[38, 38]⟩, .string ⟨#[124, 124]⟩, .string ⟨#[40]⟩, .string ⟨#[41]⟩, .string ⟨#[123]⟩, .string ⟨#[125]⟩, .string ⟨#[91]⟩, .string ⟨#[93]⟩, .string ⟨#[59]⟩, .string ⟨#[58]⟩, .string ⟨#[44]⟩, .string ⟨#[46]⟩, .string ⟨#[61]⟩, .string ⟨#[43]⟩, .string ⟨#[45]⟩, .string ⟨#[42]⟩, .string ⟨#[60]⟩, .string ⟨#[33]⟩] 9) := ⟨_, rfl⟩
 rw [← hW1, ← hN]
 rw [← hW1, ← hN] at HCE
 rw [← hW1] at HI1
 clear hW1 hN rc0 rc1 rf0 rf1 HLR
 obtain ⟨rc0, rc1, rf0, rf1⟩ := HI1.out.cells
 go_loop [13, 15, 207] (fun a _ b => ∃ q : Nat, q ≤ 19 ∧ b = .int .i64 q ∧ a = .string ⟨#[]⟩) (fun _ _ b => 19 - (intOf b).toNat)
 case atStart => exact ⟨0, Nat.zero_le _, rfl, rfl⟩
 case round =>
  obtain ⟨q, hq, rfl, rfl⟩ := hrel
  by_cases hq19 : q < 19
  ·
   have hck := unhide HCE q hq19; have hgz := signs_sz q hq19; have hpf := unhide HNO q hq19; obtain ⟨g, hg⟩ : ∃ g, g = signsS.getD q ByteArray.empty := ⟨_, rfl⟩; rw [← hg] at hck hgz hpf; have HPF := hide hpf
   clear hpf hg; go_wp2_with fail; refine (hasPrefix_any _ _ _ (by unfold maxLen; simp; omega) (by unfold maxLen; omega)).mono ?_
   rw [HPF.out]; rintro e4 w4 ⟨rfl, rfl⟩; go_wp2_with fail
   go_round
   case rel => exact ⟨q + 1, by omega, by go_num, rfl⟩
   case measure => simp [intOf]; omega
  ·
   go_wp2_with fail; exact bodyPost_ret (v := .tuple #[.slice none 0 0, .agg #[.int .i64 3, .int .i64 (j : Int)]]) (by simp [results, Tryz.results109, go_sem, rc0, rc1]) rfl ⟨rfl, HI1.out.out _ _⟩
theorem way_zsome (m : Nat) (hm : m < 19) (g : ByteArray) (hgm : signsS.getD m ByteArray.empty = g) (hg1 : 1 ≤ g.size) (hg3 : g.size ≤ 3) (hno : ∀ k, k < m → pfxB (s.extract j s.size) (signsS.getD k ByteArray.empty) = false) (hyes : pfxB (s.extract j s.size) g = true) (e : Nat) (heg : j + g.size = e) (hes : e ≤ s.size) (hrd : rdTok ws signsS s j = .tok 5 g 0 e) :
  Code.wp Tryz.prog body6 (Q6 ws s w r K (s.size - j)) (fr s w.heap.size v (.int .i64 (j : Int)) f) wr := by
 have _h1 := hL
 have _h2 := hal
 clear _h1 _h2
 obtain ⟨i0, hi, hz0, hz1, hz2⟩ := info_parts infoRT
 have hps := pastN_stop gapB s j hlt hng
 rw [hps] at he
 have HE := hide he
 have hng2 := hng
 simp only [gapB, Bool.or_eq_false_iff] at hng2
 obtain ⟨g1, g2⟩ := hng2
 have HI := hide hinv
 obtain ⟨rc0, rc1, rf0, rf1⟩ := hinv.cells
 have HLR := hide (hinv.lists hL)
 clear he hinv hng hps hL
 have HST := hide ((toksR_go ws signsS s j acc (5) (0) (g) e hlt hrd (by omega)).symm.trans HE.out)
 have HYES := hide hyes
 have HGM := hide hgm
 have hemp := notEmpty g hg1
 clear hyes hgm
 have HNO := hide hno
 have HLET := hide hlet
 have HDIG := hide hdig
 clear hlet hdig HE hrd hno
 conv => arg 2; whnf
 unfold fr Q6
 go_wp2_with fail
 refine (isLetter_any _ _).mono ?_
 rw [HLET.out]
 rintro e1 w1 ⟨rfl, rfl⟩
 go_wp2_with fail
 refine (isDigit_any _ _).mono ?_
 rw [HDIG.out]
 rintro e1 w1 ⟨rfl, rfl⟩
 go_wp2_with fail
 have HCE := hide (signs_cells w1)
 have HI1 := hide (HI.out.later ((Below.refl _ _).alloc (Nat.le_refl _) (.cells #[.string ⟨#[61, 61, 61]⟩, .string ⟨#[38, 38]⟩, .string ⟨#[124, 124]⟩, .string ⟨#[40]⟩, .string ⟨#[41]⟩, .string ⟨#[123]⟩, .string ⟨#[125]⟩, .string ⟨#[91]⟩, .string ⟨#[93]⟩, .string ⟨#[59]⟩, .string ⟨#[58]⟩, .string ⟨#[44]⟩, .string ⟨#[46]⟩, .string ⟨#[61]⟩, .string ⟨#[43]⟩, .string ⟨#[45]⟩, .string ⟨#[42]⟩, .string ⟨#[60]⟩, .string ⟨#[33]⟩] 9)))
 obtain ⟨N, hN⟩ : ∃ N, N = w1.heap.size := ⟨_, rfl⟩
 obtain ⟨W1, hW1⟩ : ∃ W1, W1 = w1.alloc (.cells #[.string ⟨#[61, 61, 61]⟩, .string ⟨#[38, 38]⟩, .string ⟨#[124, 124]⟩, .string ⟨#[40]⟩, .string ⟨#[41]⟩, .string ⟨#[123]⟩, .string ⟨#[125]⟩, .string ⟨#[91]⟩, .string ⟨#[93]⟩, .string ⟨#[59]⟩, .string ⟨#[58]⟩, .string ⟨#[44]⟩, .string ⟨#[46]⟩, .string ⟨#[61]⟩, .string ⟨#[43]⟩, .string ⟨#[45]⟩, .string ⟨#[42]⟩, .string ⟨#[60]⟩, .string ⟨#[33]⟩] 9) := ⟨_, rfl⟩
 rw [← hW1, ← hN]
 rw [← hW1, ← hN] at HCE
 rw [← hW1] at HI1
 clear hW1 hN rc0 rc1 rf0 rf1 HLR
 obtain ⟨rc0, rc1, rf0, rf1⟩ := HI1.out.cells
 go_loop [13, 15, 207] (fun a _ b => ∃ q : Nat, q ≤ 19 ∧ b = .int .i64 q ∧ ((q ≤ m ∧ a = .string ⟨#[]⟩) ∨ (m < q ∧ a = .string g))) (fun _ _ b => 19 - (intOf b).toNat)
 case atStart => exact ⟨0, Nat.zero_le _, rfl, Or.inl ⟨Nat.zero_le _, rfl⟩⟩
 case round =>
  obtain ⟨q, hq, rfl, hrest⟩ := hrel
  by_cases hq19 : q < 19
  ·
   have hck := unhide HCE q hq19; have hgz := signs_sz q hq19
   rcases hrest with ⟨hqm, rfl⟩ | ⟨hqm, rfl⟩
   ·
    by_cases hqq : q = m
    ·
     subst hqq; rw [HGM.out] at hck hgz; have HPF := hide HYES.out; go_wp2_with fail; refine (hasPrefix_any _ _ _ (by unfold maxLen; simp; omega) (by unfold maxLen; omega)).mono ?_
     rw [HPF.out]; rintro e4 w4 ⟨rfl, rfl⟩; exact zbfo
    ·
     have hpf := unhide HNO q (by omega); obtain ⟨g', hg⟩ : ∃ g', g' = signsS.getD q ByteArray.empty := ⟨_, rfl⟩; rw [← hg] at hck hgz hpf; have HPF := hide hpf; clear hpf hg; go_wp2_with fail
     refine (hasPrefix_any _ _ _ (by unfold maxLen; simp; omega) (by unfold maxLen; omega)).mono ?_
     rw [HPF.out]; rintro e4 w4 ⟨rfl, rfl⟩; go_wp2_with fail
     go_round
     case rel => exact ⟨q + 1, by omega, by go_num, Or.inl ⟨by omega, rfl⟩⟩
     case measure => simp [intOf]; omega
   ·
    obtain ⟨g', hg⟩ : ∃ g', g' = signsS.getD q ByteArray.empty := ⟨_, rfl⟩; rw [← hg] at hck hgz; clear hg; exact zbfo
  ·
   rcases hrest with ⟨hqm, rfl⟩ | ⟨hqm, rfl⟩
   ·
    exfalso; omega
   ·
    go_wp2_with (at_builtin; refine wpList_append_own _ rfl _ _ 161 rfl (w.heap.size + 1) 167 i0 noTok 4 40 Tryz.underlying161 hi hz0 hz1 hz2 rfl (by decide) _ _ _ rfl (HI1.out.own.alloc _) ⟨W1.heap.size, 0, none⟩ 1 1 [.int .i64 5, .string g, .int .i64 0, .int .i64 (j : Int)] rfl rfl (new4_cells _ _ _ _ _) (new4_one _ _ _ _) (by unfold maxLen; omega) (by omega) (by have := HI1.out.size; simp; omega) ?_; intro v' w5 hown' hgrow _; have HI5 := hide (HI1.out.app (t := Tk.mk 5 g 0 j) _ hown' hgrow); clear hown' hgrow)
    exact ⟨WI_mk (j + g.size) (acc ++ [Tk.mk 5 g 0 j]) v' (by omega) (by simp; omega) (by have h := unhide HST; rw [← heg] at h; exact h) HI5.out (by kernel_rfl), by simp [mu6, intOf]; omega⟩
end
end Go.Proofs.YtoimgcjbcbhclaaGreatDoor
