/-
  A program's text is read as that program, or is too great; and how much a program is at most.
-/
import Derived.Test.YtodmgaikhbmlnaaGreatDoorTk38
import Derived.Test.YtodmgaikhbmlnaaGreatDoorTk37
import Derived.Test.YtodmgaikhbmlnaaGreatDoorTk39
import Derived.Test.YtodmgaikhbmlnaaGreatDoorTk33
import Derived.Test.YtodmgaikhbmlnaaGreatDoorTk0
import Derived.LaidEql
import Derived.Stop.Asserts
import Derived.RowKitTokens
import Derived.WalkKit
set_option maxRecDepth 100000
set_option maxHeartbeats 16000000
namespace Go.Proofs.YtodmgaikhbmlnaaGreatDoor
open Go.RowKit

theorem nmW_size {x : ByteArray} (h : NmW x) : x.size ≤ 500 := by
  have h1 := h.small
  have h2 : x.data.toList.length = x.size := rfl
  omega
theorem costs_le : ∀ {ts : List Tr}, (∀ u ∈ ts, u.cost ≤ 1600 * u.count) → Tr.costs ts ≤ 1600 * Tr.counts ts
  | [], _ => by rw [costs_nil]; exact Nat.zero_le _
  | t :: ts, h => by
    have h1 := h t (by simp)
    have h2 := costs_le (ts := ts) fun u hu => h u (by simp [hu])
    have e : Tr.counts (t :: ts) = t.count + Tr.counts ts := by rw [Tr.counts]
    rw [costs_cons, e]
    omega
theorem cost_of {kd : Int} {tx : ByteArray} {n : Int} {ks : List Tr} (h0 : tx.size ≤ 500) (h : ∀ u ∈ ks, u.cost ≤ 1600 * u.count) : (Tr.mk kd tx n ks).cost ≤ 1600 * (Tr.mk kd tx n ks).count := by
  have h1 := costs_le h
  rw [cost_mk, count_mk]
  omega
theorem noT_size : noText.size ≤ 500 := by decide
theorem strict_size {tx : ByteArray} (h : tx = noText ∨ tx = tStrict) : tx.size ≤ 500 := by rcases h with rfl | rfl <;> decide
theorem cost_le {c : Nat} {t : Tr} (h : Shp NmW c t) : t.lt → t.cost ≤ 1600 * t.count := by
  induction h with
  | name h => exact fun _ => cost_of (nmW_size h) (by simp)
  | str s => exact fun hl => cost_of (by rw [lt_mk] at hl; exact hl.1.1 rfl) (by simp)
  | num | lit | empty => exact fun _ => cost_of noT_size (by simp)
  | par h => exact fun _ => cost_of (nmW_size h) (by simp)
  | memb h _ ih | prop h _ ih | cat h _ ih => exact fun hl => cost_of (nmW_size h) fun u hu => by obtain rfl := List.mem_singleton.1 hu; exact ih (lt_kids hl _ hu)
  | one _ _ ih | fin _ ih | expr _ ih => exact fun hl => cost_of noT_size fun u hu => by obtain rfl := List.mem_singleton.1 hu; exact ih (lt_kids hl _ hu)
  | call _ _ _ ih ihs =>
    exact fun hl => cost_of noT_size fun u hu => by
      rcases List.mem_cons.1 hu with rfl | h
      · exact ih (lt_kids hl _ hu)
      · exact ihs u h (lt_kids hl _ hu)
  | two _ _ _ iha ihb | asg _ _ _ iha ihb | sif _ _ iha ihb | loop _ _ _ iha ihb =>
    exact fun hl => cost_of noT_size fun u hu => by
      rcases List.mem_cons.1 hu with rfl | h
      · exact iha (lt_kids hl _ hu)
      · obtain rfl := List.mem_singleton.1 h; exact ihb (lt_kids hl _ hu)
  | lam h _ _ iha ihb =>
    exact fun hl => cost_of (by rcases h with rfl | h; exact noT_size; exact nmW_size h) fun u hu => by
      rcases List.mem_cons.1 hu with rfl | h
      · exact iha (lt_kids hl _ hu)
      · obtain rfl := List.mem_singleton.1 h; exact ihb (lt_kids hl _ hu)
  | func h _ _ iha ihb =>
    exact fun hl => cost_of (nmW_size h) fun u hu => by
      rcases List.mem_cons.1 hu with rfl | h
      · exact iha (lt_kids hl _ hu)
      · obtain rfl := List.mem_singleton.1 h; exact ihb (lt_kids hl _ hu)
  | sife _ _ _ iha ihb ihc =>
    exact fun hl => cost_of noT_size fun u hu => by
      rcases List.mem_cons.1 hu with rfl | h
      · exact iha (lt_kids hl _ hu)
      · rcases List.mem_cons.1 h with rfl | h
        · exact ihb (lt_kids hl _ hu)
        · obtain rfl := List.mem_singleton.1 h; exact ihc (lt_kids hl _ hu)
  | obj _ _ ihs | pars _ _ ihs => exact fun hl => cost_of noT_size fun u hu => ihs u hu (lt_kids hl _ hu)
  | blk _ ihs => exact fun hl => cost_of noT_size fun u hu => ihs u hu (lt_kids hl _ hu)
  | body h _ ihs | prog h _ ihs => exact fun hl => cost_of (strict_size h) fun u hu => ihs u hu (lt_kids hl _ hu)
  | decl _ h _ _ _ ihs => exact fun hl => cost_of (nmW_size h) fun u hu => ihs u hu (lt_kids hl _ hu)
  | give _ _ _ _ ihs => exact fun hl => cost_of noT_size fun u hu => ihs u hu (lt_kids hl _ hu)
  | sblk _ ih => exact ih
  | atm _ _ _ _ ih ihc ihf =>
    exact fun hl => cost_of noT_size fun u hu => by
      have hu2 := hu
      simp only [List.mem_cons, List.mem_append] at hu2
      rcases hu2 with rfl | h | h
      · exact ih (lt_kids hl _ hu)
      · exact ihc u h (lt_kids hl _ hu)
      · exact ihf u h (lt_kids hl _ hu)

/-- The text that is written of a program. -/
def textB (t : Tr) : ByteArray := mkB (textW (wf 3000) t).1
theorem back_parse {s : ByteArray} {t : Tr} (h : parseS wordsS signsS s = .ok t) :
    parseS wordsS signsS (textB t) = .ok t ∨ parseS wordsS signsS (textB t) = .bare ∨ ∃ p, parseS wordsS signsS (textB t) = .at 4 p := by
  obtain ⟨hsh, hl, hnd, hcd⟩ := parse_all h
  have hc := (parseS_kd h).2
  obtain ⟨l, h1, h2⟩ := text_toks (k := 3000) t hsh (by omega) hl
  have h3 := back_toks (p := (textW (wf 3000) t).1.length) h1 hsh hnd hcd KK
  unfold parseS
  by_cases hz : 3000 < (textB t).size
  · exact Or.inr (Or.inl (if_pos hz))
  · rw [if_neg hz]
    have h4 : toksR wordsS signsS (textB t) (pastN gapB (textB t) 0) [] = .ok (l ++ [⟨6, ⟨#[]⟩, 0, (textW (wf 3000) t).1.length⟩]) := h2
    rw [h4]
    simp only
    rcases h3 with h5 | ⟨p, h5⟩ | h5
    · rw [h5]; simp only; rw [if_neg (by omega)]; exact Or.inl rfl
    · rw [h5]; exact Or.inr (Or.inr ⟨p, rfl⟩)
    · rw [h5]; exact Or.inr (Or.inl rfl)
theorem textB_of {s : ByteArray} {t : Tr} (h : parseS wordsS signsS s = .ok t) (p : Nat) (w : World) (hN : NB w.heap.size w t p) (ht : Tabs w) (htb : TabW w) :
    Calls Tryz.prog 16 #[nPtr p] w fun e w' => e = .returned (.string (textB t)) ∧ Below w.heap.size w w' := by
  obtain ⟨hsh, hl, _, _⟩ := parse_all h
  have hc := (parseS_kd h).2
  have hct := cost_le hsh hl
  exact text_all 3000 (by omega) t hsh hl (by omega) (by omega) p w hN ht htb

/-- What the law asks besides: the fact 'treed'. -/
def Treed (w : World) : Prop := ∀ W, Below w.heap.size w W → Calls Tryz.prog 25 #[] W fun e W' => e = .returned (.bool true) ∧ Below W.heap.size W W'

theorem Treed.later {w w' : World} (h : Treed w) (hb : Below w.heap.size w w') : Treed w' := fun W hW => h W (hb.trans (hW.mono hb.size))

theorem joins_long (a b : ByteArray) (w : World) (hz : (2500 : Int) < wrap64 ((a.size : Int) + (b.size : Int))) : Calls Tryz.prog 6 #[.string a, .string b] w fun e w' => e = .returned (.bool true) ∧ Below w.heap.size w w' := by
  go_enter Tryz.func6, Tryz.ntmps6
  go_wp2_with fail
  go_ret
  exact ⟨rfl, Below.refl _ _⟩

/-- Where one of the two is no program. -/
theorem joins_none (a b : ByteArray) (w : World) (k1 k2 : Bool) (hk : k1 = false ∨ k2 = false) (hz : ¬ (2500 : Int) < wrap64 ((a.size : Int) + (b.size : Int)))
    (ha : Calls Tryz.prog 24 #[.string a] w fun e w' => ∃ v1, e = .returned (.tuple #[v1, .bool k1]) ∧ Below w.heap.size w w')
    (hb : ∀ W, Below w.heap.size w W → Calls Tryz.prog 24 #[.string b] W fun e w' => ∃ v2, e = .returned (.tuple #[v2, .bool k2]) ∧ Below W.heap.size W w') (hT : Treed w) :
    Calls Tryz.prog 6 #[.string a, .string b] w fun e w' => e = .returned (.bool true) ∧ Below w.heap.size w w' := by
  have HA := hide ha
  have HB := hide hb
  have HT := hide hT
  clear ha hb hT
  go_enter Tryz.func6, Tryz.ntmps6
  go_wp2_with fail
  refine Calls.mono HA.out ?_
  rintro e w1 ⟨v1, rfl, hb1⟩
  have HB1 := hide hb1
  clear hb1 HA
  have HC2 : Hid _ := (unhide HB) w1 (unhide HB1)
  clear HB
  go_wp2_with fail
  refine Calls.mono HC2.out ?_
  rintro e w2 ⟨v2, rfl, hb2⟩
  have HB2 := hide ((unhide HB1).trans (hb2.mono (unhide HB1).size))
  clear hb2 HC2 HB1
  have HC3 : Hid _ := (unhide HT) w2 (unhide HB2)
  go_wp2_with fail
  refine Calls.mono HC3.out ?_
  rintro e w3 ⟨rfl, hb3⟩
  have HB3 := hide ((unhide HB2).trans (hb3.mono (unhide HB2).size))
  clear hb3 HC3 HB2
  have HC4 : Hid _ := (unhide HT) w3 (unhide HB3)
  have hk2 : (!k1 || !k2) = true := by rcases hk with rfl | rfl <;> simp
  have fin : ∀ (e : Ending) (w4 : World), (e = .returned (.bool true) ∧ Below w3.heap.size w3 w4) → e = .returned (.bool true) ∧ Below w.heap.size w w4 := fun e w4 h => ⟨h.1, (unhide HB3).trans (h.2.mono (unhide HB3).size)⟩
  have FIN := hide fin
  clear fin
  cases k1 with
  | false =>
    go_wp2_with fail
    refine Calls.mono HC4.out ?_
    rintro e w4 ⟨rfl, hb4⟩
    have HB4 := hide ((unhide FIN) _ _ ⟨rfl, hb4⟩).2
    clear hb4 HC4
    go_wp2_with fail
    go_ret
    exact ⟨rfl, unhide HB4⟩
  | true =>
    cases k2 with
    | true => cases hk2
    | false =>
      go_wp2_with fail
      refine Calls.mono HC4.out ?_
      rintro e w4 ⟨rfl, hb4⟩
      have HB4 := hide ((unhide FIN) _ _ ⟨rfl, hb4⟩).2
      clear hb4 HC4
      go_wp2_with fail
      go_ret
      exact ⟨rfl, unhide HB4⟩

theorem cat_jn (a b : ByteArray) : a ++ ⟨#[10]⟩ ++ b = jn a b := by
  apply ByteArray.ext
  simp [jn]

/-- Where both are, and together they are too many. -/
theorem joins_many (a b : ByteArray) (w : World) (hsz : a.size + b.size ≤ 2500)
    (ha : Calls Tryz.prog 24 #[.string a] w fun e w' => ∃ p, e = .returned (.tuple #[nPtr p, .bool true]) ∧ Below w.heap.size w w')
    (hb : ∀ W, Below w.heap.size w W → Calls Tryz.prog 24 #[.string b] W fun e w' => ∃ q, e = .returned (.tuple #[nPtr q, .bool true]) ∧ Below W.heap.size W w')
    (hp : ∀ W, Below w.heap.size w W → Calls Tryz.prog 13 #[.string (jn a b)] W fun e w' => e = .returned (.tuple #[.pointer none, .iface 23 (.int .i64 4)]) ∧ Below W.heap.size W w')
    (ht : ∀ W, Below w.heap.size w W → Calls Tryz.prog 26 #[.iface 23 (.int .i64 4)] W fun e w' => e = .returned (.int .i64 4) ∧ Below W.heap.size W w') (hT : Treed w) :
    Calls Tryz.prog 6 #[.string a, .string b] w fun e w' => e = .returned (.bool true) ∧ Below w.heap.size w w' := by
  have hs1 : ¬ 9223372036854775807 < a.size + 1 := by omega
  have hs2 : ¬ 9223372036854775807 < a.size + 1 + b.size := by omega
  have hz : ¬ (2500 : Int) < (a.size : Int) + (b.size : Int) := by omega
  have HA := hide ha
  have HB := hide hb
  have HT := hide hT
  have HP := hide hp
  have HTL := hide ht
  clear ha hb hT hp ht
  go_enter Tryz.func6, Tryz.ntmps6
  go_wp2_with fail
  refine Calls.mono HA.out ?_
  rintro e w1 ⟨p, rfl, hb1⟩
  have HB1 := hide hb1
  clear hb1 HA
  have HC2 : Hid _ := (unhide HB) w1 (unhide HB1)
  clear HB
  go_wp2_with fail
  refine Calls.mono HC2.out ?_
  rintro e w2 ⟨q, rfl, hb2⟩
  have HB2 := hide ((unhide HB1).trans (hb2.mono (unhide HB1).size))
  clear hb2 HC2 HB1
  have HC3 : Hid _ := (unhide HT) w2 (unhide HB2)
  go_wp2_with fail
  refine Calls.mono HC3.out ?_
  rintro e w3 ⟨rfl, hb3⟩
  have HB3 := hide ((unhide HB2).trans (hb3.mono (unhide HB2).size))
  clear hb3 HC3 HB2
  have HC4 : Hid _ := (unhide HP) w3 (unhide HB3)
  go_wp2_with fail
  rw [cat_jn]
  refine Calls.mono HC4.out ?_
  rintro e w4 ⟨rfl, hb4⟩
  have HB4 := hide ((unhide HB3).trans (hb4.mono (unhide HB3).size))
  clear hb4 HC4 HB3
  have HC5 : Hid _ := (unhide HTL) w4 (unhide HB4)
  go_wp2_with fail
  refine Calls.mono HC5.out ?_
  rintro e w5 ⟨rfl, hb5⟩
  have HB5 := hide ((unhide HB4).trans (hb5.mono (unhide HB4).size))
  clear hb5 HC5 HB4
  go_wp2_with fail
  go_ret
  exact ⟨rfl, unhide HB5⟩

abbrev sA1 : ByteArray := ⟨#[97, 32, 61, 32, 49, 59]⟩
abbrev tA : ByteArray := ⟨#[97]⟩
def lA1 : List Tk := [⟨1, tA, 0, 0⟩, ⟨5, tEq, 0, 2⟩, ⟨3, noText, 1, 4⟩, ⟨5, tSemi, 0, 5⟩, ⟨6, noText, 0, 6⟩]
def trA1 : Tr := .mk 1 noText 0 [.mk 15 noText 0 [.mk 24 noText 0 [.mk 23 tA 0 [], .mk 17 noText 1 []]]]

theorem toks_a1 : toksR wordsS signsS sA1 (pastN gapB sA1 0) [] = .ok lA1 := by
  have e0 : pastN gapB sA1 0 = 0 := by decide +kernel
  rw [e0, toksR_go wordsS signsS sA1 0 [] 1 0 tA 1 (by decide) (by kernel_rfl) (by decide)]
  have e1 : pastN gapB sA1 1 = 2 := by decide +kernel
  rw [e1, toksR_go wordsS signsS sA1 2 _ 5 0 tEq 3 (by decide) (by kernel_rfl) (by decide)]
  have e2 : pastN gapB sA1 3 = 4 := by decide +kernel
  rw [e2, toksR_go wordsS signsS sA1 4 _ 3 1 noText 5 (by decide) (by kernel_rfl) (by decide)]
  have e3 : pastN gapB sA1 5 = 5 := by decide +kernel
  rw [e3, toksR_go wordsS signsS sA1 5 _ 5 0 tSemi 6 (by decide) (by kernel_rfl) (by decide)]
  have e4 : pastN gapB sA1 6 = 6 := by decide +kernel
  rw [e4, toksR_end wordsS signsS sA1 6 _ (by decide)]
  rfl
theorem parse_a1 : parseS wordsS signsS sA1 = .ok trA1 := by
  have h1 : progP lA1 (fns lA1 KK) = .ok trA1 4 := by kernel_rfl
  have h2 : trA1.count = 5 := by decide +kernel
  unfold parseS
  rw [if_neg (by decide), toks_a1]
  simp only
  rw [h1]
  simp only
  rw [h2, if_neg (by decide)]

theorem itoa1 : itoaB 1 = ⟨#[49]⟩ := by unfold itoaB; rw [show Lib.itoa 1 = [49] by decide +kernel]
theorem itoa_one (W : World) : Calls Tryz.prog 59 #[.int .i64 1] W fun e w' => e = .returned (.string (itoaB 1)) ∧ Below W.heap.size W w' := by
  have h := Tryz.strconv_Itoa_small 1 (by decide) W
  refine Calls.mono h ?_
  rintro e w' ⟨rfl, rfl⟩
  exact ⟨rfl, Below.refl _ _⟩

def fA1 (j : Nat) : WS := if j = 0 then ([], noText) else endS (putsS [tSemi] (putsS [itoaB 1] (putsS [tEq] (putsS [tA] ([], noText)))))
theorem fA1_one : (fA1 1).1 = [97, 32, 61, 32, 49, 59, 10] := by
  unfold fA1
  rw [itoa1]
  decide +kernel

theorem step_a1 (B b m : Nat) : SC B b m (.mk 15 noText 0 [.mk 24 noText 0 [.mk 23 tA 0 [], .mk 17 noText 1 []]]) (fA1 0) (putsS [tSemi] (putsS [itoaB 1] (putsS [tEq] (putsS [tA] ([], noText))))) := by
  refine st_expr _ _ _ _ _ (expr_plain _ _ _ _ _ _ (by decide +kernel) ?_ ?_ ?_)
  · simp [okT, okTs, needK]
  · refine value_assign _ _ _ _ _ _ _ (putsS [tA] ([], noText)) _ (by decide) (value_name _ _ _ _ _ (by decide) (by decide +kernel)) (value_num _ _ _ _ _ (by decide) (fun W _ => itoa_one W) ?_) (by decide +kernel)
    rw [itoa1]
    decide +kernel
  · rw [itoa1]
    decide +kernel

theorem treed_any (w : World) (hL : Lists wordsS signsS w) (hgs : ∀ g ∈ signsS, 1 ≤ g.size) (hT : Tabs w) (hTb : TabW w) : Calls Tryz.prog 25 #[] w fun e w' => e = .returned (.bool true) ∧ Below w.heap.size w w' := by
  have hr := read_any22 wordsS signsS sA1 w hL hgs hT
  rw [parse_a1] at hr
  have HR := hide hr
  have HT := hide hT
  have HTB := hide hTb
  clear hr hT hL hgs hTb
  go_enter Tryz.func25, Tryz.ntmps25
  go_wp2_with fail
  refine Calls.mono HR.out ?_
  rintro e w1 ⟨p, rfl, hn, hb⟩
  have hN : NB w1.heap.size w1 trA1 p := NAt.mono (fun b _ hl => hl) _ _ hn
  obtain ⟨t, fr, hg⟩ := ((unhide HT).later hb).signs
  obtain ⟨t5, fr5, hg5⟩ := ((unhide HT).later hb).heads
  have HB := hide hb
  have HC := hide (text_any noText 0 _ fA1 w1.heap.size p w1 rfl hN (by decide) (by decide) t fr hg t5 fr5 hg5 ((unhide HTB).later hb) rfl (fun b m j hj => by
    have hj0 : j = 0 := by simpa using hj
    subst hj0
    exact ⟨_, step_a1 _ b m, by rw [itoa1]; decide +kernel, rfl⟩) (by show (fA1 1).1.length ≤ _; rw [fA1_one]; decide) (by show (fA1 1).1 ≠ _; rw [fA1_one]; decide))
  have hpl : p < w1.heap.size := hN.lt
  obtain ⟨g, c, q, r3, hgB, r0, hq⟩ := hN.kid 0 (by decide)
  obtain ⟨d0, _, _⟩ := hq.cells
  have e0 : w1.cell? ⟨q, 0, none⟩ = some (.int .i64 15) := d0
  have e3 : w1.cell? ⟨p, 3, none⟩ = some (.slice (some ⟨g, 0, none⟩) 1 c) := r3
  have hql : q < w1.heap.size := hq.lt
  clear hb hn hN hg hg5 HR r3 d0 hq
  go_wp2_with fail
  refine Calls.mono HC.out ?_
  rintro e w2 ⟨rfl, hb2⟩
  have HB2 := hide ((unhide HB).trans (hb2.mono (unhide HB).size))
  have hf : (⟨(fA1 1).1.toArray⟩ : ByteArray) = ⟨#[97, 32, 61, 32, 49, 59, 10]⟩ := by rw [fA1_one]
  have hf2 : (⟨(fA1 [Tr.mk 15 noText 0 [.mk 24 noText 0 [.mk 23 tA 0 [], .mk 17 noText 1 []]]].length).1.toArray⟩ : ByteArray) = ⟨#[97, 32, 61, 32, 49, 59, 10]⟩ := hf
  rw [hf2]
  clear hb2 hf hf2 HC
  go_wp2_with fail
  go_ret
  exact ⟨rfl, unhide HB2⟩

theorem treed_all (w : World) (hL : Lists wordsS signsS w) (hgs : ∀ g ∈ signsS, 1 ≤ g.size) (hT : Tabs w) (hTb : TabW w) : Treed w := fun W hW => treed_any W (hL.later hW) hgs (hT.later hW) (hTb.later hW)
end Go.Proofs.YtodmgaikhbmlnaaGreatDoor
namespace Go.Proofs.YtodmgaikhbmlnaaGreatDoor
open Go.RowKit Go.Extern.Stop Go.Stop Go.Extern

theorem R9.valueOf77 (t : Addr) (w : World) : (ReflectliteValue.unpack (.iface 92 (.pointer (some t)))).run Tryz.prog w
    = .ok (.agg #[.pointer (some ⟨13, 92, none⟩), .pointer (some ⟨w.heap.size, 0, none⟩), .int .u64 150]) (w.alloc (.cells #[.pointer (some t)] 92)) := by kernel_rfl
theorem R9.valueOf23 (n : Int) (w : World) : (ReflectliteValue.unpack (.iface 23 (.int .i64 n))).run Tryz.prog w
    = .ok (.agg #[.pointer (some ⟨13, 23, none⟩), .pointer (some ⟨w.heap.size, 0, none⟩), .int .u64 130]) (w.alloc (.cells #[.int .i64 n] 23)) := by kernel_rfl
theorem R9.type77 (a : Addr) (w : World) : (ReflectliteValue.methodAny (ReflectliteValue.valueError "reflectlite.Value.Type" 0) (fun t _ _ _ => ReflectliteType.toType t) #[.agg #[.pointer (some ⟨13, 92, none⟩), .pointer (some a), .int .u64 150]]).run Tryz.prog w
    = .ok (.iface 187 (.agg #[.pointer (some ⟨13, 92, none⟩)])) w := by kernel_rfl
theorem R9.kind77 (w : World) : ((ReflectliteType.abiMethod fun t => (fun a : Nat => Value.int IntKind.u8 (a : Int)) <$> Rtype.kind t) #[.pointer (some ⟨13, 92, none⟩)]).run Tryz.prog w = .ok (.int .u8 22) w := by kernel_rfl
theorem R9.kind23 (w : World) : ((ReflectliteType.abiMethod fun t => (fun a : Nat => Value.int IntKind.u8 (a : Int)) <$> Rtype.kind t) #[.pointer (some ⟨13, 23, none⟩)]).run Tryz.prog w = .ok (.int .u8 2) w := by kernel_rfl
/-- The two matches on a list of arguments that is written out. -/
theorem at_one (v : Value) (f : Value → Sem Value) (g : Array Value → Sem Value) : @ReflectliteValue.method.match_2 (fun _ => Sem Value) #[v] f g = f v := rfl
theorem at_two (v x : Value) (f : Value → Value → Sem Value) (g : Array Value → Sem Value) : @ReflectliteValue.set.match_3 (fun _ => Sem Value) #[v, x] f g = f v x := rfl
theorem R9.parts77 (a : Addr) (w : World) : (ReflectliteValue.parts (.agg #[.pointer (some ⟨13, 92, none⟩), .pointer (some a), .int .u64 150])).run Tryz.prog w = .ok (some (92, a, 150)) w := by kernel_rfl
theorem R9.isNil77 (a p : Addr) (W : World) (ha : W.cell? a = some (.pointer (some p))) :
    (ReflectliteValue.method (ReflectliteValue.valueError "reflectlite.Value.IsNil" 0) ReflectliteValue.isNil #[.agg #[.pointer (some ⟨13, 92, none⟩), .pointer (some a), .int .u64 150]]).run Tryz.prog W = .ok (.bool false) W := by
  delta ReflectliteValue.method
  rw [at_one]
  simp only [Sem.run_bind, R9.parts77, Result.andThen]
  simp [ReflectliteValue.isNil, loadVar, isAgg, underlying, Tryz.underlying92, ha, Result.andThen]
theorem R9.elem77 (w : World) : (ReflectliteType.method ReflectliteType.elem #[.agg #[.pointer (some ⟨13, 92, none⟩)]]).run Tryz.prog w = .ok (.iface 187 (.agg #[.pointer (some ⟨13, 23, none⟩)])) w := by kernel_rfl
theorem R9.implements23 (w : World) : (ReflectliteType.relation "Implements" ReflectliteType.implements_ #[.agg #[.pointer (some ⟨13, 23, none⟩)], .iface 187 (.agg #[.pointer (some ⟨13, 29, none⟩)])]).run Tryz.prog w = .ok (.bool true) w := by kernel_rfl
theorem R9.typeOf23 (v : Value) (w : World) : (ReflectliteType.typeOf #[.iface 23 v]).run Tryz.prog w = .ok (.iface 187 (.agg #[.pointer (some ⟨13, 23, none⟩)])) w := by kernel_rfl
theorem R9.typeOf58 (v : Value) (w : World) : (ReflectliteType.typeOf #[.iface 129 v]).run Tryz.prog w = .ok (.iface 187 (.agg #[.pointer (some ⟨13, 129, none⟩)])) w := by kernel_rfl
theorem R9.assignable23 (w : World) : (ReflectliteType.relation "AssignableTo" ReflectliteType.assignableTo #[.agg #[.pointer (some ⟨13, 23, none⟩)], .iface 187 (.agg #[.pointer (some ⟨13, 23, none⟩)])]).run Tryz.prog w = .ok (.bool true) w := by kernel_rfl
theorem R9.assignable58 (w : World) : (ReflectliteType.relation "AssignableTo" ReflectliteType.assignableTo #[.agg #[.pointer (some ⟨13, 129, none⟩)], .iface 187 (.agg #[.pointer (some ⟨13, 23, none⟩)])]).run Tryz.prog w = .ok (.bool false) w := by kernel_rfl
theorem R9.elemOf77 (w : World) : (Rtype.elem? 92).run Tryz.prog w = .ok (some 23) w := by kernel_rfl
theorem R9.mk23 (p : Addr) (w : World) : (ReflectliteValue.mk 23 p ReflectliteValue.flagAddr).run Tryz.prog w = .ok (.agg #[.pointer (some ⟨13, 23, none⟩), .pointer (some p), .int .u64 386]) w := by kernel_rfl
theorem R9.elemV77 (a p : Addr) (W : World) (ha : W.cell? a = some (.pointer (some p))) :
    (ReflectliteValue.method (ReflectliteValue.valueError "reflectlite.Value.Elem" 0) ReflectliteValue.elem #[.agg #[.pointer (some ⟨13, 92, none⟩), .pointer (some a), .int .u64 150]]).run Tryz.prog W
      = .ok (.agg #[.pointer (some ⟨13, 23, none⟩), .pointer (some p), .int .u64 386]) W := by
  delta ReflectliteValue.method
  rw [at_one]
  simp only [Sem.run_bind, R9.parts77, Result.andThen]
  simp [ReflectliteValue.elem, loadVar, isAgg, underlying, Tryz.underlying92, ha, Result.andThen, R9.elemOf77, R9.mk23]
theorem R9.parts23a (a : Addr) (w : World) : (ReflectliteValue.parts (.agg #[.pointer (some ⟨13, 23, none⟩), .pointer (some a), .int .u64 386])).run Tryz.prog w = .ok (some (23, a, 386)) w := by kernel_rfl
theorem R9.parts23 (a : Addr) (w : World) : (ReflectliteValue.parts (.agg #[.pointer (some ⟨13, 23, none⟩), .pointer (some a), .int .u64 130])).run Tryz.prog w = .ok (some (23, a, 130)) w := by kernel_rfl
theorem R9.direct23 (w : World) : (Rtype.directlyAssignable 23 23).run Tryz.prog w = .ok true w := by kernel_rfl
theorem R9.set23 (ta b : Addr) (n : Int) (old : Value) (W : World) (hb : W.cell? b = some (.int .i64 n)) (ht : W.cell? ta = some old) (hf : W.frozen? ta = false) :
    (ReflectliteValue.set #[.agg #[.pointer (some ⟨13, 23, none⟩), .pointer (some ta), .int .u64 386], .agg #[.pointer (some ⟨13, 23, none⟩), .pointer (some b), .int .u64 130]]).run Tryz.prog W
      = .ok (.tuple #[]) (W.setCell ta (.int .i64 n)) := by
  delta ReflectliteValue.set
  rw [at_two]
  simp only [Sem.run_bind, R9.parts23a, R9.parts23, Result.andThen]
  simp [ReflectliteValue.flagAddr, loadVar, isAgg, underlying, Tryz.underlying23, hb, Result.andThen, R9.direct23, storeVar, Value.cells, storeCells, Addr.add]
  rw [run_store Tryz.prog W ta _ _ (by rfl)]
  simp [ht, hf]
theorem R9.mKind (h : Value) (w : World) : (Go.method 395 187 (.agg #[h]) "Kind").run Tryz.prog w = .ok (295, h) w := by kernel_rfl
theorem R9.mElem (h : Value) (w : World) : (Go.method 395 187 (.agg #[h]) "Elem").run Tryz.prog w = .ok (308, .agg #[h]) w := by kernel_rfl
theorem R9.mImpl (h : Value) (w : World) : (Go.method 395 187 (.agg #[h]) "Implements").run Tryz.prog w = .ok (309, .agg #[h]) w := by kernel_rfl
theorem R9.mAssign (h : Value) (w : World) : (Go.method 395 187 (.agg #[h]) "AssignableTo").run Tryz.prog w = .ok (306, .agg #[h]) w := by kernel_rfl
theorem R9.mUnwrap (a : Addr) (w : World) : (Go.method 395 129 (.pointer (some a)) "Unwrap").run Tryz.prog w = .ok (301, .pointer (some a)) w := by kernel_rfl


end Go.Proofs.YtodmgaikhbmlnaaGreatDoor
namespace Go.Proofs.YtodmgaikhbmlnaaGreatDoor
open Go.RowKit Go.Extern.Stop Go.Stop Go.Extern

theorem as_end {w : World} {T : Nat} {n : Int} {v0 : Value} (o1 o2 : Obj) (hT : w.cell? ⟨T, 0, none⟩ = some v0) (hTl : T < w.heap.size) :
    (((w.setCell ⟨T, 0, none⟩ (.int .i64 n)).alloc o1).alloc o2).cell? ⟨T, 0, none⟩ = some (.int .i64 n) ∧ Below T w (((w.setCell ⟨T, 0, none⟩ (.int .i64 n)).alloc o1).alloc o2) := by
  have b0 : Below T w (w.setCell ⟨T, 0, none⟩ (.int .i64 n)) := (Below.refl _ _).setCell (p := ⟨T, 0, none⟩) (Nat.le_refl _) _
  have hz := b0.size
  have h0 : (w.setCell ⟨T, 0, none⟩ (.int .i64 n)).cell? ⟨T, 0, none⟩ = some (.int .i64 n) := World.cell?_setCell_same _ _ _ hT
  have h1 : ((w.setCell ⟨T, 0, none⟩ (.int .i64 n)).alloc o1).cell? ⟨T, 0, none⟩ = some (.int .i64 n) := by rw [World.cell?_alloc_past _ _ _ (by omega)]; exact h0
  have hz1 : ((w.setCell ⟨T, 0, none⟩ (.int .i64 n)).alloc o1).heap.size = (w.setCell ⟨T, 0, none⟩ (.int .i64 n)).heap.size + 1 := World.size_alloc _ _
  refine ⟨by rw [World.cell?_alloc_past _ _ _ (by omega)]; exact h1, (b0.alloc (by omega) _).alloc (by omega) _⟩

set_option maxRecDepth 100000 in
set_option maxHeartbeats 1000000 in
theorem as_hit (n : Int) (T a : Nat) (w : World) (hT : w.cell? ⟨T, 0, none⟩ = some (.int .i64 0)) (hF : w.frozen? ⟨T, 0, none⟩ = false) (ha : w.cell? ⟨a, 0, none⟩ = some (.pointer (some ⟨T, 0, none⟩))) (hTl : T < w.heap.size) (hal : a < w.heap.size) :
    Calls Tryz.prog 133 #[.iface 23 (.int .i64 n), .iface 92 (.pointer (some ⟨T, 0, none⟩)), .agg #[.pointer (some ⟨13, 92, none⟩), .pointer (some ⟨a, 0, none⟩), .int .u64 150], .iface 187 (.agg #[.pointer (some ⟨13, 23, none⟩)])] w fun e w' =>
      e = .returned (.bool true) ∧ w'.cell? ⟨T, 0, none⟩ = some (.int .i64 n) ∧ Below T w w' := by
  have h62 := @run_callFunc_extern Tryz.prog 186 _ ReflectliteType.typeOf Tryz.func186 (by kernel_rfl) (by kernel_rfl) (by kernel_rfl) (by kernel_rfl)
  have h105 := @run_callFunc_extern Tryz.prog 306 _ (ReflectliteType.relation "AssignableTo" ReflectliteType.assignableTo) Tryz.func306 (by kernel_rfl) (by kernel_rfl) (by kernel_rfl) (by kernel_rfl)
  have h63 := @run_callFunc_extern Tryz.prog 187 _ (ReflectliteValue.method (ReflectliteValue.valueError "reflectlite.Value.Elem" 0) ReflectliteValue.elem) Tryz.func187 (by kernel_rfl) (by kernel_rfl) (by kernel_rfl) (by kernel_rfl)
  have h64 := @run_callFunc_extern Tryz.prog 188 _ ReflectliteValue.set Tryz.func188 (by kernel_rfl) (by kernel_rfl) (by kernel_rfl) (by kernel_rfl)
  have h55 := @run_callFunc_extern Tryz.prog 130 _ (fun args => ReflectliteValue.unpack (args.getD 0 (.tuple #[]))) Tryz.func130 (by kernel_rfl) (by kernel_rfl) (by kernel_rfl) (by kernel_rfl)
  have tO := R9.typeOf23
  have mA := R9.mAssign
  have a23 := R9.assignable23
  have v23 := R9.valueOf23
  have el := R9.elemV77 ⟨a, 0, none⟩ ⟨T, 0, none⟩ (w.alloc (.cells #[.pointer (some ⟨13, 92, none⟩), .pointer (some ⟨a, 0, none⟩), .int .u64 150] 146)) (by rw [World.cell?_alloc_past _ _ _ hal]; exact ha)
  have st := R9.set23 ⟨T, 0, none⟩ ⟨w.heap.size + 1, 0, none⟩ n (.int .i64 0) ((w.alloc (.cells #[.pointer (some ⟨13, 92, none⟩), .pointer (some ⟨a, 0, none⟩), .int .u64 150] 146)).alloc (.cells #[.int .i64 n] 23))
    (by rw [World.cell?_alloc_at _ _ _ _ (by simp)]; rfl) (by rw [World.cell?_alloc_past _ _ _ (by simp; omega), World.cell?_alloc_past _ _ _ hTl]; exact hT) (by rw [World.frozen?_alloc_old _ _ _ (by simp; omega), World.frozen?_alloc_old _ _ _ (by simp; omega)]; exact hF)
  go_enter Tryz.func133, Tryz.ntmps133
  go_wp2
  refine wp_loop_rounds 1 ?_
  rw [rounds_succ]
  go_wp2
  go_ret
  exact ⟨rfl, as_end _ _ hT hTl⟩
set_option maxRecDepth 100000 in
set_option maxHeartbeats 1000000 in
theorem as_at (n : Int) (b T a : Nat) (w : World) (hT : w.cell? ⟨T, 0, none⟩ = some (.int .i64 0)) (hF : w.frozen? ⟨T, 0, none⟩ = false) (ha : w.cell? ⟨a, 0, none⟩ = some (.pointer (some ⟨T, 0, none⟩))) (hTl : T < w.heap.size) (hal : a < w.heap.size) (hb : w.cell? ⟨b, 0, none⟩ = some (.int .i64 n)) (hbl : b < w.heap.size) :
    Calls Tryz.prog 133 #[.iface 129 (.pointer (some ⟨b, 0, none⟩)), .iface 92 (.pointer (some ⟨T, 0, none⟩)), .agg #[.pointer (some ⟨13, 92, none⟩), .pointer (some ⟨a, 0, none⟩), .int .u64 150], .iface 187 (.agg #[.pointer (some ⟨13, 23, none⟩)])] w fun e w' =>
      e = .returned (.bool true) ∧ w'.cell? ⟨T, 0, none⟩ = some (.int .i64 n) ∧ Below T w w' := by
  have h62 := @run_callFunc_extern Tryz.prog 186 _ ReflectliteType.typeOf Tryz.func186 (by kernel_rfl) (by kernel_rfl) (by kernel_rfl) (by kernel_rfl)
  have h105 := @run_callFunc_extern Tryz.prog 306 _ (ReflectliteType.relation "AssignableTo" ReflectliteType.assignableTo) Tryz.func306 (by kernel_rfl) (by kernel_rfl) (by kernel_rfl) (by kernel_rfl)
  have h63 := @run_callFunc_extern Tryz.prog 187 _ (ReflectliteValue.method (ReflectliteValue.valueError "reflectlite.Value.Elem" 0) ReflectliteValue.elem) Tryz.func187 (by kernel_rfl) (by kernel_rfl) (by kernel_rfl) (by kernel_rfl)
  have h64 := @run_callFunc_extern Tryz.prog 188 _ ReflectliteValue.set Tryz.func188 (by kernel_rfl) (by kernel_rfl) (by kernel_rfl) (by kernel_rfl)
  have h55 := @run_callFunc_extern Tryz.prog 130 _ (fun args => ReflectliteValue.unpack (args.getD 0 (.tuple #[]))) Tryz.func130 (by kernel_rfl) (by kernel_rfl) (by kernel_rfl) (by kernel_rfl)
  have tO := R9.typeOf23
  have tO58 := R9.typeOf58
  have a58 := R9.assignable58
  have mU := R9.mUnwrap
  have n110 : ∀ (v : Value) (xT : TypeId) (w : World), (Instr.typeAssert (.iface 129 v) xT 192 true).run Tryz.prog w = .ok (.tuple #[.nilIface, .bool false]) w := fun v xT w => run_typeAssert_lacksB Tryz.underlying192 (by kernel_rfl) (by kernel_rfl) v xT w
  have y61 : ∀ (v : Value) (xT : TypeId) (w : World), (Instr.typeAssert (.iface 129 v) xT 135 true).run Tryz.prog w = .ok (.tuple #[.iface 129 v, .bool true]) w := fun v xT w => run_typeAssert_hasB Tryz.underlying135 (by kernel_rfl) v xT w
  have hb1 : (w.alloc (.cells #[.pointer (some ⟨13, 92, none⟩), .pointer (some ⟨a, 0, none⟩), .int .u64 150] 146)).cell? ⟨b, 0, none⟩ = some (.int .i64 n) := by rw [World.cell?_alloc_past _ _ _ hbl]; exact hb
  have mA := R9.mAssign
  have a23 := R9.assignable23
  have v23 := R9.valueOf23
  have el := R9.elemV77 ⟨a, 0, none⟩ ⟨T, 0, none⟩ (w.alloc (.cells #[.pointer (some ⟨13, 92, none⟩), .pointer (some ⟨a, 0, none⟩), .int .u64 150] 146)) (by rw [World.cell?_alloc_past _ _ _ hal]; exact ha)
  have st := R9.set23 ⟨T, 0, none⟩ ⟨w.heap.size + 1, 0, none⟩ n (.int .i64 0) ((w.alloc (.cells #[.pointer (some ⟨13, 92, none⟩), .pointer (some ⟨a, 0, none⟩), .int .u64 150] 146)).alloc (.cells #[.int .i64 n] 23))
    (by rw [World.cell?_alloc_at _ _ _ _ (by simp)]; rfl) (by rw [World.cell?_alloc_past _ _ _ (by simp; omega), World.cell?_alloc_past _ _ _ hTl]; exact hT) (by rw [World.frozen?_alloc_old _ _ _ (by simp; omega), World.frozen?_alloc_old _ _ _ (by simp; omega)]; exact hF)
  go_enter Tryz.func133, Tryz.ntmps133
  go_wp2
  refine wp_loop_rounds 2 ?_
  rw [rounds_succ]
  go_wp2
  rw [rounds_succ]
  go_wp2
  go_ret
  exact ⟨rfl, as_end _ _ hT hTl⟩

set_option maxRecDepth 100000 in
set_option maxHeartbeats 1000000 in
theorem As_hit (n : Int) (T : Nat) (w : World) (hT : w.cell? ⟨T, 0, none⟩ = some (.int .i64 0)) (hF : w.frozen? ⟨T, 0, none⟩ = false) (hTl : T < w.heap.size) (hg : w.cell? ⟨1, 0, none⟩ = some (.iface 187 (.agg #[.pointer (some ⟨13, 29, none⟩)]))) :
    Calls Tryz.prog 61 #[.iface 23 (.int .i64 n), .iface 92 (.pointer (some ⟨T, 0, none⟩))] w fun e w' => e = .returned (.bool true) ∧ w'.cell? ⟨T, 0, none⟩ = some (.int .i64 n) ∧ Below T w w' := by
  have h55 := @run_callFunc_extern Tryz.prog 130 _ (fun args => ReflectliteValue.unpack (args.getD 0 (.tuple #[]))) Tryz.func130 (by kernel_rfl) (by kernel_rfl) (by kernel_rfl) (by kernel_rfl)
  have h56 := @run_callFunc_extern Tryz.prog 131 _ (ReflectliteValue.methodAny (ReflectliteValue.valueError "reflectlite.Value.Type" 0) (fun t _ _ _ => ReflectliteType.toType t)) Tryz.func131 (by kernel_rfl) (by kernel_rfl) (by kernel_rfl) (by kernel_rfl)
  have h57 := @run_callFunc_extern Tryz.prog 132 _ (ReflectliteValue.method (ReflectliteValue.valueError "reflectlite.Value.IsNil" 0) ReflectliteValue.isNil) Tryz.func132 (by kernel_rfl) (by kernel_rfl) (by kernel_rfl) (by kernel_rfl)
  have h91 := @run_callFunc_extern Tryz.prog 295 _ (ReflectliteType.abiMethod fun t => do pure (.int .u8 (← Rtype.kind t))) Tryz.func295 (by kernel_rfl) (by kernel_rfl) (by kernel_rfl) (by kernel_rfl)
  have h107 := @run_callFunc_extern Tryz.prog 308 _ (ReflectliteType.method ReflectliteType.elem) Tryz.func308 (by kernel_rfl) (by kernel_rfl) (by kernel_rfl) (by kernel_rfl)
  have h108 := @run_callFunc_extern Tryz.prog 309 _ (ReflectliteType.relation "Implements" ReflectliteType.implements_) Tryz.func309 (by kernel_rfl) (by kernel_rfl) (by kernel_rfl) (by kernel_rfl)
  have v77 := R9.valueOf77
  have t77 := R9.type77
  have mK := R9.mKind
  have mE := R9.mElem
  have mI := R9.mImpl
  have k77 := R9.kind77
  have k23 := R9.kind23
  have e77 := R9.elem77
  have i23 := R9.implements23
  have hgl : 1 < w.heap.size := by
    rcases Nat.lt_or_ge 1 w.heap.size with h | h
    · exact h
    · simp [World.cell?, Array.getElem?_eq_none h] at hg
  obtain ⟨W1, hW1⟩ : ∃ W1, W1 = (w.alloc (.cells #[.pointer (some ⟨T, 0, none⟩)] 92)).alloc (.cells #[.pointer (some ⟨13, 92, none⟩), .pointer (some ⟨w.heap.size, 0, none⟩), .int .u64 150] 146) := ⟨_, rfl⟩
  have hg2 : ((w.alloc (.cells #[.pointer (some ⟨T, 0, none⟩)] 92)).alloc (.cells #[.pointer (some ⟨13, 92, none⟩), .pointer (some ⟨w.heap.size, 0, none⟩), .int .u64 150] 146)).cell? ⟨1, 0, none⟩ = some (.iface 187 (.agg #[.pointer (some ⟨13, 29, none⟩)])) := by
    rw [World.cell?_alloc_past _ _ _ (by simp; omega), World.cell?_alloc_past _ _ _ hgl]; exact hg
  have ha : W1.cell? ⟨w.heap.size, 0, none⟩ = some (.pointer (some ⟨T, 0, none⟩)) := by
    rw [hW1, World.cell?_alloc_past _ _ _ (by simp), World.cell?_alloc_at _ _ _ _ rfl]; rfl
  have hT1 : W1.cell? ⟨T, 0, none⟩ = some (.int .i64 0) := by rw [hW1, World.cell?_alloc_past _ _ _ (by simp; omega), World.cell?_alloc_past _ _ _ hTl]; exact hT
  have hF1 : W1.frozen? ⟨T, 0, none⟩ = false := by rw [hW1, World.frozen?_alloc_old _ _ _ (by simp; omega), World.frozen?_alloc_old _ _ _ (by simp; omega)]; exact hF
  have hz1 : W1.heap.size = w.heap.size + 2 := by rw [hW1]; simp
  have hB1 : Below T w W1 := by rw [hW1]; exact ((Below.refl _ _).alloc (Nat.le_of_lt hTl) _).alloc (by simp; omega) _
  have n8 := R9.isNil77 ⟨w.heap.size, 0, none⟩ ⟨T, 0, none⟩ W1 ha
  rw [hW1] at n8
  have HC : Hid _ := as_hit n T w.heap.size W1 hT1 hF1 ha (by omega) (by omega)
  have HB1 := hide hB1
  rw [hW1] at HC HB1
  clear hB1 hz1 hF1 hT1 ha hW1 W1
  go_enter Tryz.func61, Tryz.ntmps61
  go_wp2_with fail
  refine Calls.mono HC.out ?_
  rintro e w2 ⟨rfl, hc2, hb2⟩
  have HC2 := hide hc2
  have HB2 := hide hb2
  clear hc2 hb2
  go_wp2_with fail
  go_ret
  exact ⟨rfl, unhide HC2, (unhide HB1).trans (unhide HB2)⟩

set_option maxRecDepth 100000 in
set_option maxHeartbeats 1000000 in
theorem As_at (n : Int) (b T : Nat) (w : World) (hT : w.cell? ⟨T, 0, none⟩ = some (.int .i64 0)) (hF : w.frozen? ⟨T, 0, none⟩ = false) (hTl : T < w.heap.size) (hg : w.cell? ⟨1, 0, none⟩ = some (.iface 187 (.agg #[.pointer (some ⟨13, 29, none⟩)]))) (hb : w.cell? ⟨b, 0, none⟩ = some (.int .i64 n)) (hbl : b < w.heap.size) :
    Calls Tryz.prog 61 #[.iface 129 (.pointer (some ⟨b, 0, none⟩)), .iface 92 (.pointer (some ⟨T, 0, none⟩))] w fun e w' => e = .returned (.bool true) ∧ w'.cell? ⟨T, 0, none⟩ = some (.int .i64 n) ∧ Below T w w' := by
  have h55 := @run_callFunc_extern Tryz.prog 130 _ (fun args => ReflectliteValue.unpack (args.getD 0 (.tuple #[]))) Tryz.func130 (by kernel_rfl) (by kernel_rfl) (by kernel_rfl) (by kernel_rfl)
  have h56 := @run_callFunc_extern Tryz.prog 131 _ (ReflectliteValue.methodAny (ReflectliteValue.valueError "reflectlite.Value.Type" 0) (fun t _ _ _ => ReflectliteType.toType t)) Tryz.func131 (by kernel_rfl) (by kernel_rfl) (by kernel_rfl) (by kernel_rfl)
  have h57 := @run_callFunc_extern Tryz.prog 132 _ (ReflectliteValue.method (ReflectliteValue.valueError "reflectlite.Value.IsNil" 0) ReflectliteValue.isNil) Tryz.func132 (by kernel_rfl) (by kernel_rfl) (by kernel_rfl) (by kernel_rfl)
  have h91 := @run_callFunc_extern Tryz.prog 295 _ (ReflectliteType.abiMethod fun t => do pure (.int .u8 (← Rtype.kind t))) Tryz.func295 (by kernel_rfl) (by kernel_rfl) (by kernel_rfl) (by kernel_rfl)
  have h107 := @run_callFunc_extern Tryz.prog 308 _ (ReflectliteType.method ReflectliteType.elem) Tryz.func308 (by kernel_rfl) (by kernel_rfl) (by kernel_rfl) (by kernel_rfl)
  have h108 := @run_callFunc_extern Tryz.prog 309 _ (ReflectliteType.relation "Implements" ReflectliteType.implements_) Tryz.func309 (by kernel_rfl) (by kernel_rfl) (by kernel_rfl) (by kernel_rfl)
  have v77 := R9.valueOf77
  have t77 := R9.type77
  have mK := R9.mKind
  have mE := R9.mElem
  have mI := R9.mImpl
  have k77 := R9.kind77
  have k23 := R9.kind23
  have e77 := R9.elem77
  have i23 := R9.implements23
  have hgl : 1 < w.heap.size := by
    rcases Nat.lt_or_ge 1 w.heap.size with h | h
    · exact h
    · simp [World.cell?, Array.getElem?_eq_none h] at hg
  obtain ⟨W1, hW1⟩ : ∃ W1, W1 = (w.alloc (.cells #[.pointer (some ⟨T, 0, none⟩)] 92)).alloc (.cells #[.pointer (some ⟨13, 92, none⟩), .pointer (some ⟨w.heap.size, 0, none⟩), .int .u64 150] 146) := ⟨_, rfl⟩
  have hg2 : ((w.alloc (.cells #[.pointer (some ⟨T, 0, none⟩)] 92)).alloc (.cells #[.pointer (some ⟨13, 92, none⟩), .pointer (some ⟨w.heap.size, 0, none⟩), .int .u64 150] 146)).cell? ⟨1, 0, none⟩ = some (.iface 187 (.agg #[.pointer (some ⟨13, 29, none⟩)])) := by
    rw [World.cell?_alloc_past _ _ _ (by simp; omega), World.cell?_alloc_past _ _ _ hgl]; exact hg
  have ha : W1.cell? ⟨w.heap.size, 0, none⟩ = some (.pointer (some ⟨T, 0, none⟩)) := by
    rw [hW1, World.cell?_alloc_past _ _ _ (by simp), World.cell?_alloc_at _ _ _ _ rfl]; rfl
  have hT1 : W1.cell? ⟨T, 0, none⟩ = some (.int .i64 0) := by rw [hW1, World.cell?_alloc_past _ _ _ (by simp; omega), World.cell?_alloc_past _ _ _ hTl]; exact hT
  have hF1 : W1.frozen? ⟨T, 0, none⟩ = false := by rw [hW1, World.frozen?_alloc_old _ _ _ (by simp; omega), World.frozen?_alloc_old _ _ _ (by simp; omega)]; exact hF
  have hz1 : W1.heap.size = w.heap.size + 2 := by rw [hW1]; simp
  have hB1 : Below T w W1 := by rw [hW1]; exact ((Below.refl _ _).alloc (Nat.le_of_lt hTl) _).alloc (by simp; omega) _
  have n8 := R9.isNil77 ⟨w.heap.size, 0, none⟩ ⟨T, 0, none⟩ W1 ha
  rw [hW1] at n8
  have hbb : W1.cell? ⟨b, 0, none⟩ = some (.int .i64 n) := by rw [hW1, World.cell?_alloc_past _ _ _ (by simp; omega), World.cell?_alloc_past _ _ _ hbl]; exact hb
  have HC : Hid _ := as_at n b T w.heap.size W1 hT1 hF1 ha (by omega) (by omega) hbb (by omega)
  have HB1 := hide hB1
  rw [hW1] at HC HB1
  clear hB1 hz1 hF1 hT1 ha hW1 W1 hbb
  go_enter Tryz.func61, Tryz.ntmps61
  go_wp2_with fail
  refine Calls.mono HC.out ?_
  rintro e w2 ⟨rfl, hc2, hb2⟩
  have HC2 := hide hc2
  have HB2 := hide hb2
  clear hc2 hb2
  go_wp2_with fail
  go_ret
  exact ⟨rfl, unhide HC2, (unhide HB1).trans (unhide HB2)⟩

end Go.Proofs.YtodmgaikhbmlnaaGreatDoor
