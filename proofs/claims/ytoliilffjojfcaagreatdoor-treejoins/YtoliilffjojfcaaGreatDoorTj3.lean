/-
  Joined out of Rd9, Rd10, Rd11, Rd12.
-/
import Derived.Test.YtoliilffjojfcaaGreatDoorTj2
/-
  Rd9: Lists of parts, with commas between.
-/
namespace Go.Proofs.YtoliilffjojfcaaGreatDoor
open Go.RowKit

/-- What a test does, at every token. -/
def Asks (c : Ctx) (f : Nat) (b : Nat → Bool) : Prop :=
  ∀ w d i, Rdr c w i d → Calls Tryz.prog f #[rPtr c] w fun e w' => e = .returned (.bool (b i)) ∧ Below w.heap.size w w'

/-- The parts of a list: nil where there is none, and few. -/
def LV (B : Nat) (w : World) (ts : List Tr) (v : Value) : Prop := KV B w ts v ∧ (ts = [] → v = .slice none 0 0) ∧ ts.length ≤ 3001

set_option maxRecDepth 100000 in
set_option maxHeartbeats 2000000 in
theorem list_any {c : Ctx} (fb fp : Nat) (begins : Nat → Bool) (sp : Nat → Nat → PR Tr) (opn shut : ByteArray) (hb : Asks c fb begins) (hp : Does c fp NV sp)
    (enb : ∀ args W, (callFunc fb args).run Tryz.prog W = .ok (.enter fb args) W) (enp : ∀ args W, (callFunc fp args).run Tryz.prog W = .ok (.enter fp args) W)
    (hno : opn ≠ noText) (hns : shut ≠ noText) (hgo : ∀ d i t j, i < c.l.length → sp d i = .ok t j → i < j)
    (k : Nat) (w : World) (d i : Nat) (r : PR (List Tr)) (hs : listP c.l opn shut begins (sp d) k i = r) (ho : r ≠ .out) (h : Rdr c w i d) :
    Calls Tryz.prog 182 #[rPtr c, .string opn, .string shut, boundV c.R fb, boundV c.R fp] w (PPost c w d (LV w.heap.size) r) := by
  have HR0 := hide h
  have HL := hide h.base.len
  have HLO := hide h.base.size
  obtain ⟨i0, hi0, hz0, hz1, hz2⟩ := info_parts info22
  have HA0 := hide (Ap.refl c.R w.heap.size w)
  have HLT := hide h.rlt
  have HB := hide hb
  have HP := hide hp
  have HNO := hide hno
  have HNS := hide hns
  have HGO := hide hgo
  unfold listP at hs
  have HS := hide hs
  have HO := hide ho
  clear h hs ho hb hp hno hns hgo
  unfold boundV
  go_enter Tryz.func182, Tryz.ntmps182
  cases hr : mustP c.l opn i with
  | out =>
    rw [hr] at HS
    simp only [bind_out] at HS
    exact absurd (unhide HS).symm (unhide HO)
  | bad er p =>
    have HC := hide (must_any c opn w i d (unhide HR0) (unhide HNO))
    rw [hr] at HC HS
    simp only [bind_bad] at HS
    clear hr
    go_wp2_with fail
    refine Calls.mono HC.out ?_
    intro e w' hp
    obtain ⟨rfl, ha⟩ := hp
    exact ⟨rfl, ppBad (unhide HS).symm ((unhide HA0).next ha)⟩
  | ok x1 j1 =>
    have HC := hide (must_any c opn w i d (unhide HR0) (unhide HNO))
    rw [hr] at HC HS
    simp only [bind_ok] at HS
    clear hr
    go_wp2_with fail
    refine Calls.mono HC.out ?_
    intro e w1 hp
    obtain ⟨⟨v1, rfl, rfl⟩, hrd, ha⟩ := hp
    have HA1 := hide ((unhide HA0).next ha)
    have HR1 := hide hrd
    clear hrd ha HC HA0 HR0
    by_cases hx : fx c.l j1 = shut
    · have HC := hide (take_yes c shut w1 j1 d (unhide HR1) hx (unhide HNS))
      rw [if_pos hx] at HS
      clear hx
      go_wp2_with fail
      refine Calls.mono HC.out ?_
      rintro e w2 ⟨rfl, hr2, ha2⟩
      have HA2 := hide ((unhide HA1).next ha2)
      have HR2 := hide hr2
      clear hr2 ha2
      go_wp2_with fail
      go_ret
      exact ppOk (unhide HS).symm ⟨KV.nil _ _, fun _ => rfl, by simp⟩ (unhide HR2) (unhide HA2)
    · have HC := hide (take_not c shut w1 j1 d (unhide HR1) hx)
      rw [if_neg hx] at HS
      clear hx
      go_wp2_with fail
      refine Calls.mono HC.out ?_
      rintro e w2 ⟨rfl, hb2⟩
      have HA2 := hide ((unhide HA1).next (Ap.of hb2))
      have HR2 := hide ((unhide HR1).later hb2)
      clear hb2 HC HA1 HR1
      go_wp2_with fail
      go_loopw [11] (fun v wr => ∃ k acc j, listLoop c.l shut begins (sp d) k acc j = r ∧ Rdr c wr j d ∧ Ap c.R w.heap.size w wr ∧ KV w.heap.size wr acc v ∧ acc.length ≤ j) (fun _ wr => c.l.length - nxt c wr)
      case atStart => exact ⟨k, [], j1, unhide HS, unhide HR2, unhide HA2, KV.nil _ _, Nat.zero_le _⟩
      case round =>
        obtain ⟨k, acc, j, hq, hrd, hap, hkv, hle⟩ := hrel
        clear HS HR2 HA2
        cases k with
        | zero => exact absurd hq.symm (unhide HO)
        | succ k =>
          have hL := unhide HL
          have hjl := hrd.lt
          have HR2 := hide hrd
          have HRM := hide hrd
          have HA2 := hide hap
          have HK2 := hide hkv
          have HLE := hide hle
          unfold listLoop at hq
          have HQ := hide hq
          clear hq hrd hap hle
          obtain ⟨va, vc, rfl⟩ := hkv.shape
          clear hkv
          by_cases h8 : acc.length = 8
          · cases hbg : begins j with
            | true =>
              rw [if_pos ⟨h8, hbg⟩] at HQ
              have HC : Hid _ := unhide HB wr d j (unhide HR2)
              rw [hbg] at HC
              clear hbg
              have h8i : ((acc.length : Int) == 8) = true := beq_iff_eq.2 (by omega)
              have H8 := hide h8
              clear h8
              go_wp2_with fail
              refine Calls.mono HC.out ?_
              rintro e w3 ⟨rfl, hb3⟩
              have HA3 := hide ((unhide HA2).next (Ap.of hb3))
              have HC := hide (fault_any c 4 w3 j d ((unhide HR2).later hb3))
              clear hb3
              go_wp2_with fail
              refine Calls.mono HC.out ?_
              rintro e w4 ⟨rfl, hb4⟩
              exact ⟨rfl, ppBad (unhide HQ).symm ((unhide HA3).next (Ap.of hb4))⟩
            | false =>
              rw [if_neg (by rw [hbg]; rintro ⟨_, hh⟩; cases hh)] at HQ
              have HC : Hid _ := unhide HB wr d j (unhide HR2)
              rw [hbg] at HC
              clear hbg
              have h8i : ((acc.length : Int) == 8) = true := beq_iff_eq.2 (by omega)
              have H8 := hide h8
              clear h8
              go_wp2_with fail
              refine Calls.mono HC.out ?_
              rintro e w3 ⟨rfl, hb3⟩
              have HA3 := hide ((unhide HA2).next (Ap.of hb3))
              have HR3 := hide ((unhide HR2).later hb3)
              have HK3 := hide (KV.later (unhide HK2) (Ap.of hb3) (unhide HLT))
              clear hb3 HC HA2 HR2 HK2 h8i
              have HQ2 : Hid ((sp d j).bind (fun t i1 => if fx c.l i1 = shut then PR.ok (acc ++ [t]) (i1 + 1) else (mustP c.l tComma i1).bind fun _ i2 => listLoop c.l shut begins (sp d) k (acc ++ [t]) i2) = r) := unhide HQ
              clear HQ
              cases hr : sp d j with
              | out =>
                rw [hr] at HQ2
                simp only [bind_out] at HQ2
                exact absurd (unhide HQ2).symm (unhide HO)
              | bad er p =>
                have HC : Hid _ := unhide HP w3 d j _ rfl (by rw [hr]; nofun) (unhide HR3)
                rw [hr] at HC HQ2
                simp only [bind_bad] at HQ2
                clear hr
                go_wp2_with fail
                refine Calls.mono HC.out ?_
                intro e w' hp
                obtain ⟨rfl, ha⟩ := hp
                exact ⟨rfl, ppBad (unhide HQ2).symm ((unhide HA3).next ha)⟩
              | ok t j2 =>
                have HC : Hid _ := unhide HP w3 d j _ rfl (by rw [hr]; nofun) (unhide HR3)
                have hgt : j < j2 := unhide HGO d j t j2 hjl hr
                rw [hr] at HC HQ2
                simp only [bind_ok] at HQ2
                clear hr
                go_wp2_with fail
                refine Calls.mono HC.out ?_
                intro e w4 hp
                obtain ⟨⟨v4, rfl, p4, rfl, hn4⟩, hrd, ha⟩ := hp
                have HA4 := hide ((unhide HA3).next ha)
                have HR4 := hide hrd
                have HN4 := hide (apart_own (unhide HK3) (unhide HA3).size hn4)
                have HK4 := hide (KV.later (unhide HK3) ha (unhide HLT))
                have hlt2 := hrd.lt
                clear hrd ha hn4 HC
                obtain ⟨ps, hown, hk4⟩ := unhide HK4
                have hlen := NAts.length _ _ hk4
                have hOB := own_lt hown
                rw [hlen] at hown
                have HOWN := hide hown
                have HLEN := hide hlen
                have HKK := hide hk4
                have hsz := (unhide HA4).size
                have hle := unhide HLE
                have HOB := hide hOB
                clear hown hk4 HK4 hOB hlen
                go_wp2_with (at_builtin; refine wpList_append_lies _ rfl _ _ 36 rfl w.heap.size 22 i0 (.pointer none) 1 8 Tryz.underlying36 hi0 hz0 hz1 hz2 rfl (by decide) _ _ _ rfl ((unhide HOWN).alloc _) ⟨w4.heap.size, 0, none⟩ 1 1 [nPtr p4] rfl rfl (one_cells w4 p4 _ rfl) (one_one p4) (by decide) (by unfold maxLen; omega) (by omega) (by simp; omega) (w4.heap.size + 1) (by simp) ?_)
                intro g cap w5 hown' hgrow hg _
                have HK5 : Hid (KV w.heap.size w5 (acc ++ [t]) (.slice (some ⟨g, 0, none⟩) (acc.length + 1) cap)) := kv_push (unhide HKK) (NAts.cons (unhide HN4) NAts.nil) (by rw [List.map_append]; exact hown') (by simp [unhide HLEN]) hgrow hg
                have HA5 := hide (((unhide HA4).alloc hsz (.cells #[nPtr p4] 22)).grown hgrow (by simp; omega) (fun k hk => (unhide HOB k hk).2))
                have HR5 := hide ((unhide HR4).ap (((Below.refl w.heap.size w4).alloc hsz (.cells #[nPtr p4] 22)).grown hgrow (by simp; omega) (fun k hk => (unhide HOB k hk).2)) (unhide HLO))
                clear hown' hgrow hg HKK HOWN
                by_cases hx : fx c.l j2 = shut
                · have HC := hide (take_yes c shut w5 j2 d (unhide HR5) hx (unhide HNS))
                  rw [if_pos hx] at HQ2
                  clear hx
                  go_wp2_with fail
                  refine Calls.mono HC.out ?_
                  rintro e w6 ⟨rfl, hr6, ha6⟩
                  have HA6 := hide ((unhide HA5).next ha6)
                  have HR6 := hide hr6
                  have HK6 := hide (KV.later (unhide HK5) ha6 (unhide HLT))
                  clear hr6 ha6
                  go_wp2_with fail
                  go_ret
                  exact ppOk (unhide HQ2).symm ⟨unhide HK6, fun hh => absurd hh (by simp), by simp; omega⟩ (unhide HR6) (unhide HA6)
                · have HC := hide (take_not c shut w5 j2 d (unhide HR5) hx)
                  rw [if_neg hx] at HQ2
                  clear hx
                  go_wp2_with fail
                  refine Calls.mono HC.out ?_
                  rintro e w6 ⟨rfl, hb6⟩
                  have HA6 := hide ((unhide HA5).next (Ap.of hb6))
                  have HR6 := hide ((unhide HR5).later hb6)
                  have HK6 := hide (KV.later (unhide HK5) (Ap.of hb6) (unhide HLT))
                  clear hb6 HC
                  cases hr : mustP c.l tComma j2 with
                  | out =>
                    rw [hr] at HQ2
                    simp only [bind_out] at HQ2
                    exact absurd (unhide HQ2).symm (unhide HO)
                  | bad er p =>
                    have HC := hide (must_any c tComma w6 j2 d (unhide HR6) (by decide))
                    rw [hr] at HC HQ2
                    simp only [bind_bad] at HQ2
                    clear hr
                    go_wp2_with fail
                    refine Calls.mono HC.out ?_
                    intro e w' hp
                    obtain ⟨rfl, ha⟩ := hp
                    exact ⟨rfl, ppBad (unhide HQ2).symm ((unhide HA6).next ha)⟩
                  | ok x7 j7 =>
                    have HC := hide (must_any c tComma w6 j2 d (unhide HR6) (by decide))
                    have h7 : j2 < j7 := by
                      unfold mustP at hr
                      split at hr
                      · cases hr; omega
                      · cases hr
                    rw [hr] at HC HQ2
                    simp only [bind_ok] at HQ2
                    clear hr
                    go_wp2_with fail
                    refine Calls.mono HC.out ?_
                    intro e w7 hp
                    obtain ⟨⟨v7, rfl, rfl⟩, hrd, ha⟩ := hp
                    have HA7 := hide ((unhide HA6).next ha)
                    have HR7 := hide hrd
                    have HK7 := hide (KV.later (unhide HK6) ha (unhide HLT))
                    have hlt7 := hrd.lt
                    clear hrd ha HC
                    go_wp2_with fail
                    go_roundw
                    case rel => exact ⟨k, acc ++ [t], j7, unhide HQ2, unhide HR7, unhide HA7, unhide HK7, by simp; omega⟩
                    case measure => rw [nxt_eq (unhide HR7), nxt_eq (unhide HRM)]; omega
          · rw [if_neg (fun hh => h8 hh.1)] at HQ
            have h8i : ((acc.length : Int) == 8) = false := beq_eq_false_iff_ne.2 (by omega)
            clear h8
            have HQ2 : Hid ((sp d j).bind (fun t i1 => if fx c.l i1 = shut then PR.ok (acc ++ [t]) (i1 + 1) else (mustP c.l tComma i1).bind fun _ i2 => listLoop c.l shut begins (sp d) k (acc ++ [t]) i2) = r) := unhide HQ
            clear HQ
            cases hr : sp d j with
            | out =>
              rw [hr] at HQ2
              simp only [bind_out] at HQ2
              exact absurd (unhide HQ2).symm (unhide HO)
            | bad er p =>
              have HC : Hid _ := unhide HP wr d j _ rfl (by rw [hr]; nofun) (unhide HR2)
              rw [hr] at HC HQ2
              simp only [bind_bad] at HQ2
              clear hr
              go_wp2_with fail
              refine Calls.mono HC.out ?_
              intro e w' hp
              obtain ⟨rfl, ha⟩ := hp
              exact ⟨rfl, ppBad (unhide HQ2).symm ((unhide HA2).next ha)⟩
            | ok t j2 =>
              have HC : Hid _ := unhide HP wr d j _ rfl (by rw [hr]; nofun) (unhide HR2)
              have hgt : j < j2 := unhide HGO d j t j2 hjl hr
              rw [hr] at HC HQ2
              simp only [bind_ok] at HQ2
              clear hr
              go_wp2_with fail
              refine Calls.mono HC.out ?_
              intro e w4 hp
              obtain ⟨⟨v4, rfl, p4, rfl, hn4⟩, hrd, ha⟩ := hp
              have HA4 := hide ((unhide HA2).next ha)
              have HR4 := hide hrd
              have HN4 := hide (apart_own (unhide HK2) (unhide HA2).size hn4)
              have HK4 := hide (KV.later (unhide HK2) ha (unhide HLT))
              have hlt2 := hrd.lt
              clear hrd ha hn4 HC
              obtain ⟨ps, hown, hk4⟩ := unhide HK4
              have hlen := NAts.length _ _ hk4
              have hOB := own_lt hown
              rw [hlen] at hown
              have HOWN := hide hown
              have HLEN := hide hlen
              have HKK := hide hk4
              have hsz := (unhide HA4).size
              have hle := unhide HLE
              have HOB := hide hOB
              clear hown hk4 HK4 hOB hlen
              go_wp2_with (at_builtin; refine wpList_append_lies _ rfl _ _ 36 rfl w.heap.size 22 i0 (.pointer none) 1 8 Tryz.underlying36 hi0 hz0 hz1 hz2 rfl (by decide) _ _ _ rfl ((unhide HOWN).alloc _) ⟨w4.heap.size, 0, none⟩ 1 1 [nPtr p4] rfl rfl (one_cells w4 p4 _ rfl) (one_one p4) (by decide) (by unfold maxLen; omega) (by omega) (by simp; omega) (w4.heap.size + 1) (by simp) ?_)
              intro g cap w5 hown' hgrow hg _
              have HK5 : Hid (KV w.heap.size w5 (acc ++ [t]) (.slice (some ⟨g, 0, none⟩) (acc.length + 1) cap)) := kv_push (unhide HKK) (NAts.cons (unhide HN4) NAts.nil) (by rw [List.map_append]; exact hown') (by simp [unhide HLEN]) hgrow hg
              have HA5 := hide (((unhide HA4).alloc hsz (.cells #[nPtr p4] 22)).grown hgrow (by simp; omega) (fun k hk => (unhide HOB k hk).2))
              have HR5 := hide ((unhide HR4).ap (((Below.refl w.heap.size w4).alloc hsz (.cells #[nPtr p4] 22)).grown hgrow (by simp; omega) (fun k hk => (unhide HOB k hk).2)) (unhide HLO))
              clear hown' hgrow hg HKK HOWN
              by_cases hx : fx c.l j2 = shut
              · have HC := hide (take_yes c shut w5 j2 d (unhide HR5) hx (unhide HNS))
                rw [if_pos hx] at HQ2
                clear hx
                go_wp2_with fail
                refine Calls.mono HC.out ?_
                rintro e w6 ⟨rfl, hr6, ha6⟩
                have HA6 := hide ((unhide HA5).next ha6)
                have HR6 := hide hr6
                have HK6 := hide (KV.later (unhide HK5) ha6 (unhide HLT))
                clear hr6 ha6
                go_wp2_with fail
                go_ret
                exact ppOk (unhide HQ2).symm ⟨unhide HK6, fun hh => absurd hh (by simp), by simp; omega⟩ (unhide HR6) (unhide HA6)
              · have HC := hide (take_not c shut w5 j2 d (unhide HR5) hx)
                rw [if_neg hx] at HQ2
                clear hx
                go_wp2_with fail
                refine Calls.mono HC.out ?_
                rintro e w6 ⟨rfl, hb6⟩
                have HA6 := hide ((unhide HA5).next (Ap.of hb6))
                have HR6 := hide ((unhide HR5).later hb6)
                have HK6 := hide (KV.later (unhide HK5) (Ap.of hb6) (unhide HLT))
                clear hb6 HC
                cases hr : mustP c.l tComma j2 with
                | out =>
                  rw [hr] at HQ2
                  simp only [bind_out] at HQ2
                  exact absurd (unhide HQ2).symm (unhide HO)
                | bad er p =>
                  have HC := hide (must_any c tComma w6 j2 d (unhide HR6) (by decide))
                  rw [hr] at HC HQ2
                  simp only [bind_bad] at HQ2
                  clear hr
                  go_wp2_with fail
                  refine Calls.mono HC.out ?_
                  intro e w' hp
                  obtain ⟨rfl, ha⟩ := hp
                  exact ⟨rfl, ppBad (unhide HQ2).symm ((unhide HA6).next ha)⟩
                | ok x7 j7 =>
                  have HC := hide (must_any c tComma w6 j2 d (unhide HR6) (by decide))
                  have h7 : j2 < j7 := by
                    unfold mustP at hr
                    split at hr
                    · cases hr; omega
                    · cases hr
                  rw [hr] at HC HQ2
                  simp only [bind_ok] at HQ2
                  clear hr
                  go_wp2_with fail
                  refine Calls.mono HC.out ?_
                  intro e w7 hp
                  obtain ⟨⟨v7, rfl, rfl⟩, hrd, ha⟩ := hp
                  have HA7 := hide ((unhide HA6).next ha)
                  have HR7 := hide hrd
                  have HK7 := hide (KV.later (unhide HK6) ha (unhide HLT))
                  have hlt7 := hrd.lt
                  clear hrd ha HC
                  go_wp2_with fail
                  go_roundw
                  case rel => exact ⟨k, acc ++ [t], j7, unhide HQ2, unhide HR7, unhide HA7, unhide HK7, by simp; omega⟩
                  case measure => rw [nxt_eq (unhide HR7), nxt_eq (unhide HRM)]; omega
end Go.Proofs.YtoliilffjojfcaaGreatDoor

/-
  Rd10: Arguments, parameters, properties, objects, functions, what stands behind a head.
-/
namespace Go.Proofs.YtoliilffjojfcaaGreatDoor
open Go.RowKit

/-- A statement that is a value has one. -/
def FOk (F : Fns) : Prop := ∀ d i t j, F.st d i = .ok t j → t.kd = 15 → ∃ v r, t.kids = v :: r

theorem deepP_ok {l : List Tk} {f : Nat → Nat → PR Tr} {d i j : Nat} {t : Tr} (h : deepP l f d i = .ok t j) : f (d + 1) i = .ok t j := by
  unfold deepP at h
  split at h
  · cases h
  · exact h
theorem blockLoop_all {l : List Tk} {F : Fns} (hF : FOk F) {d : Nat} : ∀ n acc i ts j, (∀ t ∈ acc, t.kd = 15 → ∃ v r, t.kids = v :: r) → blockLoop l F d n acc i = .ok ts j → ∀ t ∈ ts, t.kd = 15 → ∃ v r, t.kids = v :: r := by
  intro n
  induction n with
  | zero => intro acc i ts j _ h; cases h
  | succ n ih =>
    intro acc i ts j hacc h
    unfold blockLoop at h
    split at h
    · cases h; exact hacc
    · cases hr : deepP l F.st d i with
      | out => rw [hr] at h; cases h
      | bad er p => rw [hr] at h; cases h
      | ok t j1 =>
        rw [hr, bind_ok] at h
        refine ih _ _ _ _ (fun u hu => ?_) h
        rcases List.mem_append.1 hu with hu | hu
        · exact hacc u hu
        · rw [List.mem_singleton] at hu
          subst hu
          exact hF _ _ _ _ (deepP_ok hr)
theorem blockP_exprOk {l : List Tk} {F : Fns} (hF : FOk F) {d i j : Nat} {t : Tr} (h : blockP l F d i = .ok t j) : ExprOk t := by
  unfold blockP at h
  cases hm : mustP l tLBrace i with
  | out => rw [hm] at h; cases h
  | bad er p => rw [hm] at h; cases h
  | ok x j1 =>
    rw [hm, bind_ok] at h
    cases hb : blockLoop l F d F.fuel [] j1 with
    | out => rw [hb] at h; cases h
    | bad er p => rw [hb] at h; cases h
    | ok ts j2 =>
      rw [hb, bind_ok] at h
      cases h
      intro k1 r hk h15
      have hk' : ts = k1 :: r := hk
      exact blockLoop_all hF _ _ _ _ _ (fun _ hu => absurd hu (by simp)) hb k1 (by rw [hk']; simp) h15

theorem en183 : ∀ args W, (callFunc 183 args).run Tryz.prog W = .ok (.enter 183 args) W := fun _ _ => by kernel_rfl
theorem en218 : ∀ args W, (callFunc 218 args).run Tryz.prog W = .ok (.enter 218 args) W := fun _ _ => by kernel_rfl
theorem en184 : ∀ args W, (callFunc 184 args).run Tryz.prog W = .ok (.enter 184 args) W := fun _ _ => by kernel_rfl
theorem asksName (c : Ctx) : Asks c 183 (isName c.l) := fun w d i h => atName_any c w i d h

set_option maxRecDepth 100000 in
set_option maxHeartbeats 1000000 in
theorem arg_any {c : Ctx} {F : Fns} (hF : FC c F) : Does c 240 NV (argP c.l F) := by
  have hmf := mf_bound c.R 179
  intro w d i r hs ho h
  have HR0 := hide h
  have HA0 := hide (Ap.refl c.R w.heap.size w)
  have HLT := hide h.rlt
  unfold argP at hs
  have HS := hide hs
  have HO := hide ho
  clear h hs ho
  go_enter Tryz.func240, Tryz.ntmps240
  cases hr : deepP c.l F.vl d i with
  | out =>
    rw [hr] at HS
    exact absurd (unhide HS).symm (unhide HO)
  | bad er p =>
    have HC := hide (deepV hF w d i (unhide HR0) (by rw [hr]; nofun))
    rw [hr] at HC HS
    clear hr
    go_wp2_with fail
    refine Calls.mono HC.out ?_
    intro e w' hp
    obtain ⟨rfl, ha⟩ := hp
    exact ⟨rfl, ppBad (unhide HS).symm ((unhide HA0).next ha)⟩
  | ok x1 j1 =>
    have HC := hide (deepV hF w d i (unhide HR0) (by rw [hr]; nofun))
    rw [hr] at HC HS
    clear hr
    go_wp2_with fail
    refine Calls.mono HC.out ?_
    intro e w1 hp
    obtain ⟨⟨v1, rfl, p1, rfl, hn1⟩, hrd, ha⟩ := hp
    clear HC
    have HA1 := hide ((unhide HA0).next ha)
    have HR1 := hide hrd
    have HN1 := hide (nat_mono hn1 (unhide HA0).size)
    clear hn1
    clear hrd ha HA0 HR0
    go_wp2_with fail
    go_ret
    exact ppOk (unhide HS).symm ⟨p1, rfl, unhide HN1⟩ (unhide HR1) (unhide HA1)

set_option maxRecDepth 100000 in
set_option maxHeartbeats 1000000 in
theorem param_any {c : Ctx} : Does c 218 NV (fun _ => paramP c.l) := by
  intro w d i r hs ho h
  have HR0 := hide h
  have HA0 := hide (Ap.refl c.R w.heap.size w)
  have HLT := hide h.rlt
  dsimp only at hs
  unfold paramP at hs
  have HS := hide hs
  have HO := hide ho
  clear h hs ho
  go_enter Tryz.func218, Tryz.ntmps218
  cases hr : nameP c.l i with
  | out =>
    rw [hr] at HS
    simp only [bind_out] at HS
    exact absurd (unhide HS).symm (unhide HO)
  | bad er p =>
    have HC := hide (name_any c w i d (unhide HR0))
    rw [hr] at HC HS
    simp only [bind_bad] at HS
    clear hr
    go_wp2_with fail
    refine Calls.mono HC.out ?_
    intro e w' hp
    obtain ⟨rfl, ha⟩ := hp
    exact ⟨rfl, ppBad (unhide HS).symm ((unhide HA0).next ha)⟩
  | ok x1 j1 =>
    have HC := hide (name_any c w i d (unhide HR0))
    rw [hr] at HC HS
    simp only [bind_ok] at HS
    clear hr
    go_wp2_with fail
    refine Calls.mono HC.out ?_
    intro e w1 hp
    obtain ⟨⟨v1, rfl, rfl⟩, hrd, ha⟩ := hp
    clear HC
    have HA1 := hide ((unhide HA0).next ha)
    have HR1 := hide hrd
    clear hrd ha HA0 HR0
    have HC := hide (node_any 23 x1 (.slice none 0 0) w1 ⟨_, _, _, rfl⟩)
    go_wp2_with fail
    refine Calls.mono HC.out ?_
    rintro e wn ⟨rfl, rfl⟩
    clear HC
    go_wp2_with fail
    go_ret
    obtain ⟨m1, m2, m3⟩ := made0 (unhide HR1) (unhide HA1) (KV.nil _ _) 23 x1 _ rfl
    exact ppOk (unhide HS).symm m1.nv m2 m3

set_option maxRecDepth 100000 in
set_option maxHeartbeats 1000000 in
theorem prop_any {c : Ctx} {F : Fns} (hF : FC c F) : Does c 184 NV (propP c.l F) := by
  have hmf := mf_bound c.R 179
  intro w d i r hs ho h
  have HR0 := hide h
  have HA0 := hide (Ap.refl c.R w.heap.size w)
  have HLT := hide h.rlt
  unfold propP at hs
  have HS := hide hs
  have HO := hide ho
  clear h hs ho
  go_enter Tryz.func184, Tryz.ntmps184
  cases hr : nameP c.l i with
  | out =>
    rw [hr] at HS
    simp only [bind_out] at HS
    exact absurd (unhide HS).symm (unhide HO)
  | bad er p =>
    have HC := hide (name_any c w i d (unhide HR0))
    rw [hr] at HC HS
    simp only [bind_bad] at HS
    clear hr
    go_wp2_with fail
    refine Calls.mono HC.out ?_
    intro e w' hp
    obtain ⟨rfl, ha⟩ := hp
    exact ⟨rfl, ppBad (unhide HS).symm ((unhide HA0).next ha)⟩
  | ok x1 j1 =>
    have HC := hide (name_any c w i d (unhide HR0))
    rw [hr] at HC HS
    simp only [bind_ok] at HS
    clear hr
    go_wp2_with fail
    refine Calls.mono HC.out ?_
    intro e w1 hp
    obtain ⟨⟨v1, rfl, rfl⟩, hrd, ha⟩ := hp
    clear HC
    have HA1 := hide ((unhide HA0).next ha)
    have HR1 := hide hrd
    clear hrd ha HA0 HR0
    cases hr : mustP c.l tColon j1 with
    | out =>
      rw [hr] at HS
      simp only [bind_out] at HS
      exact absurd (unhide HS).symm (unhide HO)
    | bad er p =>
      have HC := hide (must_any c tColon w1 j1 d (unhide HR1) (by decide))
      rw [hr] at HC HS
      simp only [bind_bad] at HS
      clear hr
      go_wp2_with fail
      refine Calls.mono HC.out ?_
      intro e w' hp
      obtain ⟨rfl, ha⟩ := hp
      exact ⟨rfl, ppBad (unhide HS).symm ((unhide HA1).next ha)⟩
    | ok x2 j2 =>
      have HC := hide (must_any c tColon w1 j1 d (unhide HR1) (by decide))
      rw [hr] at HC HS
      simp only [bind_ok] at HS
      clear hr
      go_wp2_with fail
      refine Calls.mono HC.out ?_
      intro e w2 hp
      obtain ⟨⟨v2, rfl, rfl⟩, hrd, ha⟩ := hp
      clear HC
      have HA2 := hide ((unhide HA1).next ha)
      have HR2 := hide hrd
      clear hrd ha HA1 HR1
      cases hr : deepP c.l F.vl d j2 with
      | out =>
        rw [hr] at HS
        simp only [bind_out] at HS
        exact absurd (unhide HS).symm (unhide HO)
      | bad er p =>
        have HC := hide (deepV hF w2 d j2 (unhide HR2) (by rw [hr]; nofun))
        rw [hr] at HC HS
        simp only [bind_bad] at HS
        clear hr
        go_wp2_with fail
        refine Calls.mono HC.out ?_
        intro e w' hp
        obtain ⟨rfl, ha⟩ := hp
        exact ⟨rfl, ppBad (unhide HS).symm ((unhide HA2).next ha)⟩
      | ok x3 j3 =>
        have HC := hide (deepV hF w2 d j2 (unhide HR2) (by rw [hr]; nofun))
        rw [hr] at HC HS
        simp only [bind_ok] at HS
        clear hr
        go_wp2_with fail
        refine Calls.mono HC.out ?_
        intro e w3 hp
        obtain ⟨⟨v3, rfl, p3, rfl, hn3⟩, hrd, ha⟩ := hp
        clear HC
        have HA3 := hide ((unhide HA2).next ha)
        have HR3 := hide hrd
        have HN3 := hide (nat_mono hn3 (unhide HA2).size)
        clear hn3
        clear hrd ha HA2 HR2
        have HC := hide (node_any 39 x1 (.slice (some ⟨w3.heap.size, 0, none⟩) 1 1) (w3.alloc (.cells #[nPtr p3] 22)) ⟨_, _, _, rfl⟩)
        go_wp2_with fail
        refine Calls.mono HC.out ?_
        rintro e wn ⟨rfl, rfl⟩
        clear HC
        go_wp2_with fail
        go_ret
        obtain ⟨m1, m2, m3⟩ := made (unhide HR3) (unhide HA3) (NAts.cons (unhide HN3) NAts.nil) (by simp [maxLen]) #[nPtr p3] rfl 1 rfl 39 x1 (w3.heap.size + 1) rfl
        exact ppOk (unhide HS).symm m1.nv m2 m3

theorem paramP_go {c : Ctx} (hE : Ends c.l) (d i : Nat) (t : Tr) (j : Nat) (hi : i < c.l.length) (h : (fun (_ : Nat) => paramP c.l) d i = .ok t j) : i < j := ((paramP_nx (q := True) hE hi).2 t j h).1
theorem propP_go {c : Ctx} {F : Fns} {k : Nat} (hN : FNx c.l k F) (hE : Ends c.l) (d i : Nat) (t : Tr) (j : Nat) (hi : i < c.l.length) (h : propP c.l F d i = .ok t j) : i < j := ((propP_nx (q := False) hE hN hi (fun h => h.elim)).2 t j h).1
theorem argP_go {c : Ctx} {F : Fns} {k : Nat} (hN : FNx c.l k F) (d i : Nat) (t : Tr) (j : Nat) (hi : i < c.l.length) (h : argP c.l F d i = .ok t j) : i < j := ((argP_nx (q := False) hN hi (fun h => h.elim)).2 t j h).1

set_option maxRecDepth 100000 in
set_option maxHeartbeats 1000000 in
theorem params_any {c : Ctx} {F : Fns} : Does c 181 NV (fun _ => paramsP c.l F) := by
  have hmf := mf_bound c.R 183
  have hmf2 := mf_bound c.R 218
  intro w d i r hs ho h
  have HE := hide h.base.ends
  have HR0 := hide h
  have HA0 := hide (Ap.refl c.R w.heap.size w)
  have HLT := hide h.rlt
  dsimp only at hs
  unfold paramsP at hs
  have HS := hide hs
  have HO := hide ho
  clear h hs ho
  go_enter Tryz.func181, Tryz.ntmps181
  cases hr : listP c.l tOpen tShut (isName c.l) (paramP c.l) F.fuel i with
  | out =>
    rw [hr] at HS
    simp only [bind_out] at HS
    exact absurd (unhide HS).symm (unhide HO)
  | bad er p =>
    have HC := hide (list_any 183 218 (isName c.l) (fun _ => paramP c.l) tOpen tShut (asksName c) param_any en183 en218 (by decide) (by decide) (paramP_go (unhide HE)) F.fuel w d i _ rfl (by rw [hr]; nofun) (unhide HR0))
    rw [hr] at HC HS
    simp only [bind_bad] at HS
    clear hr
    go_wp2_with fail
    refine Calls.mono HC.out ?_
    intro e w' hp
    obtain ⟨rfl, ha⟩ := hp
    exact ⟨rfl, ppBad (unhide HS).symm ((unhide HA0).next ha)⟩
  | ok x1 j1 =>
    have HC := hide (list_any 183 218 (isName c.l) (fun _ => paramP c.l) tOpen tShut (asksName c) param_any en183 en218 (by decide) (by decide) (paramP_go (unhide HE)) F.fuel w d i _ rfl (by rw [hr]; nofun) (unhide HR0))
    rw [hr] at HC HS
    simp only [bind_ok] at HS
    clear hr
    go_wp2_with fail
    refine Calls.mono HC.out ?_
    intro e w1 hp
    obtain ⟨⟨v1, rfl, hn1⟩, hrd, ha⟩ := hp
    clear HC
    have HA1 := hide ((unhide HA0).next ha)
    have HR1 := hide hrd
    have HN1 := hide (KV.mono hn1.1 (unhide HA0).size)
    clear hn1
    clear hrd ha HA0 HR0
    obtain ⟨va, vc, rfl⟩ := (unhide HN1).shape
    have HC := hide (node_any 40 noText (.slice va x1.length vc) w1 ⟨_, _, _, rfl⟩)
    go_wp2_with fail
    refine Calls.mono HC.out ?_
    rintro e wn ⟨rfl, rfl⟩
    clear HC
    go_wp2_with fail
    go_ret
    obtain ⟨m1, m2, m3⟩ := made0 (unhide HR1) (unhide HA1) (unhide HN1) 40 noText _ rfl
    exact ppOk (unhide HS).symm m1.nv m2 m3

set_option maxRecDepth 100000 in
set_option maxHeartbeats 1000000 in
theorem object_any {c : Ctx} {F : Fns} (hF : FC c F) (hN : ∃ k, FNx c.l k F) : Does c 136 NV (objectP c.l F) := by
  have hmf := mf_bound c.R 183
  have hmf2 := mf_bound c.R 184
  obtain ⟨k, hN⟩ := hN
  intro w d i r hs ho h
  have HE := hide h.base.ends
  have HNX := hide hN
  clear hN
  have HR0 := hide h
  have HA0 := hide (Ap.refl c.R w.heap.size w)
  have HLT := hide h.rlt
  unfold objectP at hs
  have HS := hide hs
  have HO := hide ho
  clear h hs ho
  go_enter Tryz.func136, Tryz.ntmps136
  cases hr : listP c.l tLBrace tRBrace (isName c.l) (propP c.l F d) F.fuel i with
  | out =>
    rw [hr] at HS
    simp only [bind_out] at HS
    exact absurd (unhide HS).symm (unhide HO)
  | bad er p =>
    have HC := hide (list_any 183 184 (isName c.l) (propP c.l F) tLBrace tRBrace (asksName c) (prop_any hF) en183 en184 (by decide) (by decide) (propP_go (unhide HNX) (unhide HE)) F.fuel w d i _ rfl (by rw [hr]; nofun) (unhide HR0))
    rw [hr] at HC HS
    simp only [bind_bad] at HS
    clear hr
    go_wp2_with fail
    refine Calls.mono HC.out ?_
    intro e w' hp
    obtain ⟨rfl, ha⟩ := hp
    exact ⟨rfl, ppBad (unhide HS).symm ((unhide HA0).next ha)⟩
  | ok x1 j1 =>
    have HC := hide (list_any 183 184 (isName c.l) (propP c.l F) tLBrace tRBrace (asksName c) (prop_any hF) en183 en184 (by decide) (by decide) (propP_go (unhide HNX) (unhide HE)) F.fuel w d i _ rfl (by rw [hr]; nofun) (unhide HR0))
    rw [hr] at HC HS
    simp only [bind_ok] at HS
    clear hr
    go_wp2_with fail
    refine Calls.mono HC.out ?_
    intro e w1 hp
    obtain ⟨⟨v1, rfl, hn1⟩, hrd, ha⟩ := hp
    clear HC
    have HA1 := hide ((unhide HA0).next ha)
    have HR1 := hide hrd
    have HN1 := hide (KV.mono hn1.1 (unhide HA0).size)
    clear hn1
    clear hrd ha HA0 HR0
    obtain ⟨va, vc, rfl⟩ := (unhide HN1).shape
    have HC := hide (node_any 38 noText (.slice va x1.length vc) w1 ⟨_, _, _, rfl⟩)
    go_wp2_with fail
    refine Calls.mono HC.out ?_
    rintro e wn ⟨rfl, rfl⟩
    clear HC
    go_wp2_with fail
    go_ret
    obtain ⟨m1, m2, m3⟩ := made0 (unhide HR1) (unhide HA1) (unhide HN1) 38 noText _ rfl
    exact ppOk (unhide HS).symm m1.nv m2 m3

set_option maxRecDepth 100000 in
set_option maxHeartbeats 1000000 in
theorem empty_any {c : Ctx} : Does c 130 NV (fun _ i => (mustP c.l tSemi i).bind fun _ i1 => .ok (.mk 16 noText 0 []) i1) := by
  intro w d i r hs ho h
  have HR0 := hide h
  have HA0 := hide (Ap.refl c.R w.heap.size w)
  have HLT := hide h.rlt
  dsimp only at hs
  have HS := hide hs
  have HO := hide ho
  clear h hs ho
  go_enter Tryz.func130, Tryz.ntmps130
  cases hr : mustP c.l tSemi i with
  | out =>
    rw [hr] at HS
    simp only [bind_out] at HS
    exact absurd (unhide HS).symm (unhide HO)
  | bad er p =>
    have HC := hide (must_any c tSemi w i d (unhide HR0) (by decide))
    rw [hr] at HC HS
    simp only [bind_bad] at HS
    clear hr
    go_wp2_with fail
    refine Calls.mono HC.out ?_
    intro e w' hp
    obtain ⟨rfl, ha⟩ := hp
    exact ⟨rfl, ppBad (unhide HS).symm ((unhide HA0).next ha)⟩
  | ok x1 j1 =>
    have HC := hide (must_any c tSemi w i d (unhide HR0) (by decide))
    rw [hr] at HC HS
    simp only [bind_ok] at HS
    clear hr
    go_wp2_with fail
    refine Calls.mono HC.out ?_
    intro e w1 hp
    obtain ⟨⟨v1, rfl, rfl⟩, hrd, ha⟩ := hp
    clear HC
    have HA1 := hide ((unhide HA0).next ha)
    have HR1 := hide hrd
    clear hrd ha HA0 HR0
    have HC := hide (node_any 16 noText (.slice none 0 0) w1 ⟨_, _, _, rfl⟩)
    go_wp2_with fail
    refine Calls.mono HC.out ?_
    rintro e wn ⟨rfl, rfl⟩
    clear HC
    go_wp2_with fail
    go_ret
    obtain ⟨m1, m2, m3⟩ := made0 (unhide HR1) (unhide HA1) (KV.nil _ _) 16 noText _ rfl
    exact ppOk (unhide HS).symm m1.nv m2 m3

end Go.Proofs.YtoliilffjojfcaaGreatDoor

/-
  Rd11: Functions, with a name and without; what stands behind a head.
-/
namespace Go.Proofs.YtoliilffjojfcaaGreatDoor
open Go.RowKit

theorem params_at {c : Ctx} {F : Fns} (w : World) (d i : Nat) (ho : paramsP c.l F i ≠ .out) (h : Rdr c w i d) : Calls Tryz.prog 181 #[rPtr c] w (PPost c w d (NV w.heap.size) (paramsP c.l F i)) :=
  params_any (F := F) w d i _ rfl ho h

set_option maxRecDepth 100000 in
set_option maxHeartbeats 1000000 in
theorem func_any {c : Ctx} {F : Fns} (hF : FC c F) (hN : ∃ k, FNx c.l k F) (hK : FOk F) : Does c 128 NV (funcP c.l F) := by
  intro w d i r hs ho h
  have HR0 := hide h
  have HA0 := hide (Ap.refl c.R w.heap.size w)
  have HLT := hide h.rlt
  unfold funcP funcTail at hs
  have HS := hide hs
  have HO := hide ho
  clear h hs ho
  go_enter Tryz.func128, Tryz.ntmps128
  cases hr : mustP c.l tFunction i with
  | out =>
    rw [hr] at HS
    simp only [bind_out] at HS
    exact absurd (unhide HS).symm (unhide HO)
  | bad er p =>
    have HC := hide (must_any c tFunction w i d (unhide HR0) (by decide))
    rw [hr] at HC HS
    simp only [bind_bad] at HS
    clear hr
    go_wp2_with fail
    refine Calls.mono HC.out ?_
    intro e w' hp
    obtain ⟨rfl, ha⟩ := hp
    exact ⟨rfl, ppBad (unhide HS).symm ((unhide HA0).next ha)⟩
  | ok x1 j1 =>
    have HC := hide (must_any c tFunction w i d (unhide HR0) (by decide))
    rw [hr] at HC HS
    simp only [bind_ok] at HS
    clear hr
    go_wp2_with fail
    refine Calls.mono HC.out ?_
    intro e w1 hp
    obtain ⟨⟨v1, rfl, rfl⟩, hrd, ha⟩ := hp
    clear HC
    have HA1 := hide ((unhide HA0).next ha)
    have HR1 := hide hrd
    clear hrd ha HA0 HR0
    cases hr : nameP c.l j1 with
    | out =>
      rw [hr] at HS
      simp only [bind_out] at HS
      exact absurd (unhide HS).symm (unhide HO)
    | bad er p =>
      have HC := hide (name_any c w1 j1 d (unhide HR1))
      rw [hr] at HC HS
      simp only [bind_bad] at HS
      clear hr
      go_wp2_with fail
      refine Calls.mono HC.out ?_
      intro e w' hp
      obtain ⟨rfl, ha⟩ := hp
      exact ⟨rfl, ppBad (unhide HS).symm ((unhide HA1).next ha)⟩
    | ok x2 j2 =>
      have HC := hide (name_any c w1 j1 d (unhide HR1))
      rw [hr] at HC HS
      simp only [bind_ok] at HS
      clear hr
      go_wp2_with fail
      refine Calls.mono HC.out ?_
      intro e w2 hp
      obtain ⟨⟨v2, rfl, rfl⟩, hrd, ha⟩ := hp
      clear HC
      have HA2 := hide ((unhide HA1).next ha)
      have HR2 := hide hrd
      clear hrd ha HA1 HR1
      cases hr : paramsP c.l F j2 with
      | out =>
        rw [hr] at HS
        simp only [bind_out] at HS
        exact absurd (unhide HS).symm (unhide HO)
      | bad er p =>
        have HC := hide (params_at (F := F) w2 d j2 (by rw [hr]; nofun) (unhide HR2))
        rw [hr] at HC HS
        simp only [bind_bad] at HS
        clear hr
        go_wp2_with fail
        refine Calls.mono HC.out ?_
        intro e w' hp
        obtain ⟨rfl, ha⟩ := hp
        exact ⟨rfl, ppBad (unhide HS).symm ((unhide HA2).next ha)⟩
      | ok x3 j3 =>
        have HC := hide (params_at (F := F) w2 d j2 (by rw [hr]; nofun) (unhide HR2))
        rw [hr] at HC HS
        simp only [bind_ok] at HS
        clear hr
        go_wp2_with fail
        refine Calls.mono HC.out ?_
        intro e w3 hp
        obtain ⟨⟨v3, rfl, p3, rfl, hn3⟩, hrd, ha⟩ := hp
        clear HC
        have HA3 := hide ((unhide HA2).next ha)
        have HR3 := hide hrd
        have HN3 := hide (nat_mono hn3 (unhide HA2).size)
        clear hn3
        clear hrd ha HA2 HR2
        have HNP := hide (NAt.mono (J := fun b => w.heap.size ≤ b ∧ b < w3.heap.size) (fun b hb hl => ⟨hb, hl⟩) _ _ (unhide HN3))
        cases hr : blockP c.l F d j3 with
        | out =>
          rw [hr] at HS
          simp only [bind_out] at HS
          exact absurd (unhide HS).symm (unhide HO)
        | bad er p =>
          have HC := hide (block_any hF hN w3 d j3 _ rfl (by rw [hr]; nofun) (unhide HR3))
          rw [hr] at HC HS
          simp only [bind_bad] at HS
          clear hr
          go_wp2_with fail
          refine Calls.mono HC.out ?_
          intro e w' hp
          obtain ⟨rfl, ha⟩ := hp
          exact ⟨rfl, ppBad (unhide HS).symm ((unhide HA3).next ha)⟩
        | ok tb jb =>
          have HX := hide (blockP_exprOk hK hr)
          have HC := hide (block_any hF hN w3 d j3 _ rfl (by rw [hr]; nofun) (unhide HR3))
          rw [hr] at HC HS
          simp only [bind_ok] at HS
          clear hr
          go_wp2_with fail
          refine Calls.mono HC.out ?_
          intro e wb hp
          obtain ⟨⟨vb, rfl, hn⟩, hrd, ha⟩ := hp
          clear HC
          have HAb := hide ((unhide HA3).next ha)
          have HRb := hide hrd
          have HLb := hide (unhide HLT)
          replace HNP := hide (NAt.later (fun b hb _ => ha.block b hb.2 (by have h1 := unhide HLT; have h2 := hb.1; omega)) _ _ (unhide HNP))
          have HC := hide (code_any w3.heap.size tb vb wb hn (unhide HX))
          clear hn hrd ha
          go_wp2_with fail
          refine Calls.mono HC.out ?_
          rintro e wc ⟨rfl, hev, hbw⟩
          clear HC
          have HAc := hide ((unhide HAb).trans ((Ap.of hbw).mono (unhide HA3).size))
          have HRc := hide ((unhide HRb).ap hbw (unhide HR3).base.size)
          replace HNP := hide (NAt.mono (J := From w.heap.size) (fun b hb _ => hb.1) _ _ (NAt.later (fun b hb _ => hbw.block b hb.2) _ _ (unhide HNP)))
          obtain ⟨pb, rfl, hnb⟩ := hev.nv
          have HNB := hide (nat_mono hnb (unhide HA3).size)
          clear hev hbw hnb
          have HC := hide (node_any 5 x2 (.slice (some ⟨wc.heap.size, 0, none⟩) 2 2) (wc.alloc (.cells #[nPtr p3, nPtr pb] 22)) ⟨_, _, _, rfl⟩)
          go_wp2_with fail
          refine Calls.mono HC.out ?_
          rintro e wn ⟨rfl, rfl⟩
          clear HC
          go_wp2_with fail
          go_ret
          obtain ⟨m1, m2, m3⟩ := made (unhide HRc) (unhide HAc) (NAts.cons (unhide HNP) (NAts.cons (unhide HNB) NAts.nil)) (by simp [maxLen]) #[nPtr p3, nPtr pb] rfl 2 rfl 5 x2 (wc.heap.size + 1) rfl
          exact ppOk (unhide HS).symm m1.nv m2 m3

set_option maxRecDepth 100000 in
set_option maxHeartbeats 1000000 in
theorem lambda_any {c : Ctx} {F : Fns} (hF : FC c F) (hN : ∃ k, FNx c.l k F) (hK : FOk F) : Does c 137 NV (lambdaP c.l F) := by
  intro w d i r hs ho h
  have HR0 := hide h
  have HA0 := hide (Ap.refl c.R w.heap.size w)
  have HLT := hide h.rlt
  unfold lambdaP funcTail at hs
  have HS := hide hs
  have HO := hide ho
  clear h hs ho
  go_enter Tryz.func137, Tryz.ntmps137
  cases hr : mustP c.l tFunction i with
  | out =>
    rw [hr] at HS
    simp only [bind_out] at HS
    exact absurd (unhide HS).symm (unhide HO)
  | bad er p =>
    have HC := hide (must_any c tFunction w i d (unhide HR0) (by decide))
    rw [hr] at HC HS
    simp only [bind_bad] at HS
    clear hr
    go_wp2_with fail
    refine Calls.mono HC.out ?_
    intro e w' hp
    obtain ⟨rfl, ha⟩ := hp
    exact ⟨rfl, ppBad (unhide HS).symm ((unhide HA0).next ha)⟩
  | ok x1 j1 =>
    have HC := hide (must_any c tFunction w i d (unhide HR0) (by decide))
    rw [hr] at HC HS
    simp only [bind_ok] at HS
    clear hr
    go_wp2_with fail
    refine Calls.mono HC.out ?_
    intro e w1 hp
    obtain ⟨⟨v1, rfl, rfl⟩, hrd, ha⟩ := hp
    clear HC
    have HA1 := hide ((unhide HA0).next ha)
    have HR1 := hide hrd
    clear hrd ha HA0 HR0
    have HC := hide (atName_any c w1 j1 d (unhide HR1))
    cases hb : isName c.l j1 with
    | true =>
      rw [hb] at HC HS
      rw [if_pos rfl] at HS
      clear hb
      go_wp2_with fail
      refine Calls.mono HC.out ?_
      rintro e wq ⟨rfl, hbq⟩
      clear HC
      have HAq := hide ((unhide HA1).next (Ap.of hbq))
      have HRq := hide ((unhide HR1).later hbq)
      clear hbq HA1 HR1
      cases hr : nameP c.l j1 with
      | out =>
        rw [hr] at HS
        simp only [bind_out] at HS
        exact absurd (unhide HS).symm (unhide HO)
      | bad er p =>
        have HC := hide (name_any c wq j1 d (unhide HRq))
        rw [hr] at HC HS
        simp only [bind_bad] at HS
        clear hr
        go_wp2_with fail
        refine Calls.mono HC.out ?_
        intro e w' hp
        obtain ⟨rfl, ha⟩ := hp
        exact ⟨rfl, ppBad (unhide HS).symm ((unhide HAq).next ha)⟩
      | ok x2 j2 =>
        have HC := hide (name_any c wq j1 d (unhide HRq))
        rw [hr] at HC HS
        simp only [bind_ok] at HS
        clear hr
        go_wp2_with fail
        refine Calls.mono HC.out ?_
        intro e w2 hp
        obtain ⟨⟨v2, rfl, rfl⟩, hrd, ha⟩ := hp
        clear HC
        have HA2 := hide ((unhide HAq).next ha)
        have HR2 := hide hrd
        clear hrd ha HAq HRq
        cases hr : paramsP c.l F j2 with
        | out =>
          rw [hr] at HS
          simp only [bind_out] at HS
          exact absurd (unhide HS).symm (unhide HO)
        | bad er p =>
          have HC := hide (params_at (F := F) w2 d j2 (by rw [hr]; nofun) (unhide HR2))
          rw [hr] at HC HS
          simp only [bind_bad] at HS
          clear hr
          go_wp2_with fail
          refine Calls.mono HC.out ?_
          intro e w' hp
          obtain ⟨rfl, ha⟩ := hp
          exact ⟨rfl, ppBad (unhide HS).symm ((unhide HA2).next ha)⟩
        | ok x3 j3 =>
          have HC := hide (params_at (F := F) w2 d j2 (by rw [hr]; nofun) (unhide HR2))
          rw [hr] at HC HS
          simp only [bind_ok] at HS
          clear hr
          go_wp2_with fail
          refine Calls.mono HC.out ?_
          intro e w3 hp
          obtain ⟨⟨v3, rfl, p3, rfl, hn3⟩, hrd, ha⟩ := hp
          clear HC
          have HA3 := hide ((unhide HA2).next ha)
          have HR3 := hide hrd
          have HN3 := hide (nat_mono hn3 (unhide HA2).size)
          clear hn3
          clear hrd ha HA2 HR2
          have HNP := hide (NAt.mono (J := fun b => w.heap.size ≤ b ∧ b < w3.heap.size) (fun b hb hl => ⟨hb, hl⟩) _ _ (unhide HN3))
          cases hr : blockP c.l F d j3 with
          | out =>
            rw [hr] at HS
            simp only [bind_out] at HS
            exact absurd (unhide HS).symm (unhide HO)
          | bad er p =>
            have HC := hide (block_any hF hN w3 d j3 _ rfl (by rw [hr]; nofun) (unhide HR3))
            rw [hr] at HC HS
            simp only [bind_bad] at HS
            clear hr
            go_wp2_with fail
            refine Calls.mono HC.out ?_
            intro e w' hp
            obtain ⟨rfl, ha⟩ := hp
            exact ⟨rfl, ppBad (unhide HS).symm ((unhide HA3).next ha)⟩
          | ok tb jb =>
            have HX := hide (blockP_exprOk hK hr)
            have HC := hide (block_any hF hN w3 d j3 _ rfl (by rw [hr]; nofun) (unhide HR3))
            rw [hr] at HC HS
            simp only [bind_ok] at HS
            clear hr
            go_wp2_with fail
            refine Calls.mono HC.out ?_
            intro e wb hp
            obtain ⟨⟨vb, rfl, hn⟩, hrd, ha⟩ := hp
            clear HC
            have HAb := hide ((unhide HA3).next ha)
            have HRb := hide hrd
            have HLb := hide (unhide HLT)
            replace HNP := hide (NAt.later (fun b hb _ => ha.block b hb.2 (by have h1 := unhide HLT; have h2 := hb.1; omega)) _ _ (unhide HNP))
            have HC := hide (code_any w3.heap.size tb vb wb hn (unhide HX))
            clear hn hrd ha
            go_wp2_with fail
            refine Calls.mono HC.out ?_
            rintro e wc ⟨rfl, hev, hbw⟩
            clear HC
            have HAc := hide ((unhide HAb).trans ((Ap.of hbw).mono (unhide HA3).size))
            have HRc := hide ((unhide HRb).ap hbw (unhide HR3).base.size)
            replace HNP := hide (NAt.mono (J := From w.heap.size) (fun b hb _ => hb.1) _ _ (NAt.later (fun b hb _ => hbw.block b hb.2) _ _ (unhide HNP)))
            obtain ⟨pb, rfl, hnb⟩ := hev.nv
            have HNB := hide (nat_mono hnb (unhide HA3).size)
            clear hev hbw hnb
            have HC := hide (node_any 37 x2 (.slice (some ⟨wc.heap.size, 0, none⟩) 2 2) (wc.alloc (.cells #[nPtr p3, nPtr pb] 22)) ⟨_, _, _, rfl⟩)
            go_wp2_with fail
            refine Calls.mono HC.out ?_
            rintro e wn ⟨rfl, rfl⟩
            clear HC
            go_wp2_with fail
            go_ret
            obtain ⟨m1, m2, m3⟩ := made (unhide HRc) (unhide HAc) (NAts.cons (unhide HNP) (NAts.cons (unhide HNB) NAts.nil)) (by simp [maxLen]) #[nPtr p3, nPtr pb] rfl 2 rfl 37 x2 (wc.heap.size + 1) rfl
            exact ppOk (unhide HS).symm m1.nv m2 m3
    | false =>
      rw [hb] at HC HS
      rw [if_neg (by decide)] at HS
      clear hb
      go_wp2_with fail
      refine Calls.mono HC.out ?_
      rintro e wq ⟨rfl, hbq⟩
      clear HC
      have HAq := hide ((unhide HA1).next (Ap.of hbq))
      have HRq := hide ((unhide HR1).later hbq)
      clear hbq HA1 HR1
      cases hr : paramsP c.l F j1 with
      | out =>
        rw [hr] at HS
        simp only [bind_out] at HS
        exact absurd (unhide HS).symm (unhide HO)
      | bad er p =>
        have HC := hide (params_at (F := F) wq d j1 (by rw [hr]; nofun) (unhide HRq))
        rw [hr] at HC HS
        simp only [bind_bad] at HS
        clear hr
        go_wp2_with fail
        refine Calls.mono HC.out ?_
        intro e w' hp
        obtain ⟨rfl, ha⟩ := hp
        exact ⟨rfl, ppBad (unhide HS).symm ((unhide HAq).next ha)⟩
      | ok x2 j2 =>
        have HC := hide (params_at (F := F) wq d j1 (by rw [hr]; nofun) (unhide HRq))
        rw [hr] at HC HS
        simp only [bind_ok] at HS
        clear hr
        go_wp2_with fail
        refine Calls.mono HC.out ?_
        intro e w2 hp
        obtain ⟨⟨v2, rfl, p2, rfl, hn2⟩, hrd, ha⟩ := hp
        clear HC
        have HA2 := hide ((unhide HAq).next ha)
        have HR2 := hide hrd
        have HN2 := hide (nat_mono hn2 (unhide HAq).size)
        clear hn2
        clear hrd ha HAq HRq
        have HNP := hide (NAt.mono (J := fun b => w.heap.size ≤ b ∧ b < w2.heap.size) (fun b hb hl => ⟨hb, hl⟩) _ _ (unhide HN2))
        cases hr : blockP c.l F d j2 with
        | out =>
          rw [hr] at HS
          simp only [bind_out] at HS
          exact absurd (unhide HS).symm (unhide HO)
        | bad er p =>
          have HC := hide (block_any hF hN w2 d j2 _ rfl (by rw [hr]; nofun) (unhide HR2))
          rw [hr] at HC HS
          simp only [bind_bad] at HS
          clear hr
          go_wp2_with fail
          refine Calls.mono HC.out ?_
          intro e w' hp
          obtain ⟨rfl, ha⟩ := hp
          exact ⟨rfl, ppBad (unhide HS).symm ((unhide HA2).next ha)⟩
        | ok tb jb =>
          have HX := hide (blockP_exprOk hK hr)
          have HC := hide (block_any hF hN w2 d j2 _ rfl (by rw [hr]; nofun) (unhide HR2))
          rw [hr] at HC HS
          simp only [bind_ok] at HS
          clear hr
          go_wp2_with fail
          refine Calls.mono HC.out ?_
          intro e wb hp
          obtain ⟨⟨vb, rfl, hn⟩, hrd, ha⟩ := hp
          clear HC
          have HAb := hide ((unhide HA2).next ha)
          have HRb := hide hrd
          have HLb := hide (unhide HLT)
          replace HNP := hide (NAt.later (fun b hb _ => ha.block b hb.2 (by have h1 := unhide HLT; have h2 := hb.1; omega)) _ _ (unhide HNP))
          have HC := hide (code_any w2.heap.size tb vb wb hn (unhide HX))
          clear hn hrd ha
          go_wp2_with fail
          refine Calls.mono HC.out ?_
          rintro e wc ⟨rfl, hev, hbw⟩
          clear HC
          have HAc := hide ((unhide HAb).trans ((Ap.of hbw).mono (unhide HA2).size))
          have HRc := hide ((unhide HRb).ap hbw (unhide HR2).base.size)
          replace HNP := hide (NAt.mono (J := From w.heap.size) (fun b hb _ => hb.1) _ _ (NAt.later (fun b hb _ => hbw.block b hb.2) _ _ (unhide HNP)))
          obtain ⟨pb, rfl, hnb⟩ := hev.nv
          have HNB := hide (nat_mono hnb (unhide HA2).size)
          clear hev hbw hnb
          have HC := hide (node_any 37 noText (.slice (some ⟨wc.heap.size, 0, none⟩) 2 2) (wc.alloc (.cells #[nPtr p2, nPtr pb] 22)) ⟨_, _, _, rfl⟩)
          go_wp2_with fail
          refine Calls.mono HC.out ?_
          rintro e wn ⟨rfl, rfl⟩
          clear HC
          go_wp2_with fail
          go_ret
          obtain ⟨m1, m2, m3⟩ := made (unhide HRc) (unhide HAc) (NAts.cons (unhide HNP) (NAts.cons (unhide HNB) NAts.nil)) (by simp [maxLen]) #[nPtr p2, nPtr pb] rfl 2 rfl 37 noText (wc.heap.size + 1) rfl
          exact ppOk (unhide HS).symm m1.nv m2 m3

end Go.Proofs.YtoliilffjojfcaaGreatDoor

/-
  Rd12: Statements, and values alone: which part reads them.
-/
namespace Go.Proofs.YtoliilffjojfcaaGreatDoor
open Go.RowKit

set_option maxRecDepth 100000 in
set_option maxHeartbeats 1000000 in
theorem st_some {c : Ctx} (f : Nat) (hen : ∀ args W, (callFunc f args).run Tryz.prog W = .ok (.enter f args) W) (w : World) (d i : Nat) (r : PR Tr) (ho : r ≠ .out) (q : Nat) (hq : look2 stKeys (fx c.l i) = some q) (hf : stFn q = f) (hp : ∀ W, Rdr c W i d → Calls Tryz.prog f #[rPtr c] W (PPost c W d (NV W.heap.size) r)) (h : Rdr c w i d) :
    Calls Tryz.prog 140 #[rPtr c] w (PPost c w d (NV w.heap.size) r) := by
  have HL : Hid (∀ W : World, Rdr c W i d → (Instr.lookup 152 (.map (some c.mT)) (.string (fx c.l i)) true).run Tryz.prog W = .ok (.tuple #[.func (.func f) #[.pointer (some ⟨c.R, 0, none⟩)] #[], .bool true]) W) := fun W hW => by
    have := look_stms c (fx c.l i) W hW.base.stms
    rw [hq] at this
    simp only [stVO, hf] at this
    exact this
  have HR0 := hide h
  have HA0 := hide (Ap.refl c.R w.heap.size w)
  have HP := hide hp
  have HLT := hide h.rlt
  have HO := hide ho
  clear h ho hq hf hp
  go_enter Tryz.func140, Tryz.ntmps140
  go_wp2_with fail
  refine wp_region_held (S := fun W => Rdr c W i d) (by kernel_rfl) ?_
  change wpAnyH _ _ _ _ _ _ _ _ (World.drew _)
  refine wpAnyH_take (i := 0) (v := rPtr c) rfl (by kernel_rfl) (by kernel_rfl) (by kernel_rfl) (fun _ _ _ h => h) (Or.inl ⟨by kernel_rfl, fun W _ => by go_simp⟩) (unhide HR0).drew ?_
  refine wpAnyH_take (i := 1) (v := rPtr c) rfl (by kernel_rfl) (by kernel_rfl) (by kernel_rfl) (fun _ _ _ h => h) (Or.inl ⟨by kernel_rfl, fun W _ => by go_simp⟩) (unhide HR0).drew ?_
  refine wpAnyH_take (i := 2) (v := .pointer (some ⟨c.R, 4, none⟩)) rfl (by kernel_rfl) (by kernel_rfl) (by kernel_rfl) (fun _ _ _ h => h) (Or.inl ⟨by kernel_rfl, fun W _ => by go_simp⟩) (unhide HR0).drew ?_
  refine wpAnyH_take (i := 3) (v := .map (some c.mT)) rfl (by kernel_rfl) (by kernel_rfl) (by kernel_rfl) (fun _ _ _ h => h) (Or.inl ⟨by kernel_rfl, fun W hW => by have hh := Rdr.c4 hW; go_simp⟩) (unhide HR0).drew ?_
  refine wpAnyH_take (i := 4) (v := rPtr c) rfl (by kernel_rfl) (by kernel_rfl) (by kernel_rfl) (fun _ _ _ h => h) (Or.inl ⟨by kernel_rfl, fun W _ => by go_simp⟩) (unhide HR0).drew ?_
  refine wpAnyH_ready (rs := [5]) (by kernel_rfl) (by simp) (AllReadyH.cons rfl (fun K hK => ?_) AllReadyH.nil)
  go_simp
  refine Calls.mono (fixed_any c _ i d (unhide HR0).drew) ?_
  rintro e wq ⟨rfl, hbq⟩
  have HRq := hide ((unhide HR0).drew.later hbq)
  have HAq := hide ((unhide HA0).next (Ap.of ((Below.refl _ _).drew.trans hbq)))
  clear hbq
  refine hK.out _ _ (unhide HRq) (fun _ => ?_)
  clear hK K
  refine wpAnyH_take (i := 6) (v := .tuple #[.func (.func f) #[.pointer (some ⟨c.R, 0, none⟩)] #[], .bool true]) rfl (by kernel_rfl) (by kernel_rfl) (by kernel_rfl) (fun _ _ _ h => h) (Or.inl ⟨by kernel_rfl, fun W hW => by have hh := (unhide HL) W hW; go_simp⟩) (unhide HRq) ?_
  refine wpAnyH_take (i := 7) (v := .tuple #[.func (.func f) #[.pointer (some ⟨c.R, 0, none⟩)] #[], .bool true]) rfl (by kernel_rfl) (by kernel_rfl) (by kernel_rfl) (fun _ _ _ h => h) (Or.inl ⟨by kernel_rfl, fun W _ => by go_simp⟩) (unhide HRq) ?_
  refine wpAnyH_take (i := 8) (v := .func (.func f) #[.pointer (some ⟨c.R, 0, none⟩)] #[]) rfl (by kernel_rfl) (by kernel_rfl) (by kernel_rfl) (fun _ _ _ h => h) (Or.inl ⟨by kernel_rfl, fun W _ => by go_simp⟩) (unhide HRq) ?_
  refine wpAnyH_take (i := 9) (v := .bool true) rfl (by kernel_rfl) (by kernel_rfl) (by kernel_rfl) (fun _ _ _ h => h) (Or.inl ⟨by kernel_rfl, fun W _ => by go_simp⟩) (unhide HRq) ?_
  refine wpAnyH_take (i := 10) (v := .func (.func f) #[.pointer (some ⟨c.R, 0, none⟩)] #[]) rfl (by kernel_rfl) (by kernel_rfl) (by kernel_rfl) (fun _ _ _ h => h) (Or.inl ⟨by kernel_rfl, fun W _ => by go_simp⟩) (unhide HRq) ?_
  refine wpAnyH_take (i := 11) (v := .bool true) rfl (by kernel_rfl) (by kernel_rfl) (by kernel_rfl) (fun _ _ _ h => h) (Or.inl ⟨by kernel_rfl, fun W _ => by go_simp⟩) (unhide HRq) ?_
  refine wpAnyH_done (by kernel_rfl) ?_ _
  go_simp
  have HC : Hid _ := unhide HP wq (unhide HRq)
  go_wp2_with fail
  refine Calls.mono HC.out ?_
  intro e w2 hp
  cases r with
  | out => exact absurd rfl (unhide HO)
  | bad er p =>
    obtain ⟨rfl, ha⟩ := hp
    exact ⟨rfl, ppBad rfl ((unhide HAq).next ha)⟩
  | ok x j =>
    obtain ⟨⟨v, rfl, hv⟩, hrd, ha⟩ := hp
    have HV := hide (NV.mono hv (unhide HAq).size)
    have HR2 := hide hrd
    have HA2 := hide ((unhide HAq).next ha)
    clear hv hrd ha
    go_wp2_with fail
    go_ret
    exact ppOk rfl (unhide HV) (unhide HR2) (unhide HA2)

set_option maxRecDepth 100000 in
set_option maxHeartbeats 1000000 in
theorem st_none {c : Ctx} {F : Fns} (hF : FC c F) (w : World) (d i : Nat) (r : PR Tr) (hs : exprP c.l F d i = r) (ho : r ≠ .out) (hq : look2 stKeys (fx c.l i) = none) (h : Rdr c w i d) : Calls Tryz.prog 140 #[rPtr c] w (PPost c w d (NV w.heap.size) r) := by
  have hmf := mf_bound c.R 179
  have HL : Hid (∀ W : World, Rdr c W i d → (Instr.lookup 152 (.map (some c.mT)) (.string (fx c.l i)) true).run Tryz.prog W = .ok (.tuple #[.nilFunc, .bool false]) W) := fun W hW => by
    have := look_stms c (fx c.l i) W hW.base.stms
    rw [hq] at this
    exact this
  clear hq
  have HR0 := hide h
  have HA0 := hide (Ap.refl c.R w.heap.size w)
  have HLT := hide h.rlt
  unfold exprP at hs
  have HS := hide hs
  have HO := hide ho
  clear h hs ho
  go_enter Tryz.func140, Tryz.ntmps140
  go_wp2_with fail
  refine wp_region_held (S := fun W => Rdr c W i d) (by kernel_rfl) ?_
  change wpAnyH _ _ _ _ _ _ _ _ (World.drew _)
  refine wpAnyH_take (i := 0) (v := rPtr c) rfl (by kernel_rfl) (by kernel_rfl) (by kernel_rfl) (fun _ _ _ h => h) (Or.inl ⟨by kernel_rfl, fun W _ => by go_simp⟩) (unhide HR0).drew ?_
  refine wpAnyH_take (i := 1) (v := rPtr c) rfl (by kernel_rfl) (by kernel_rfl) (by kernel_rfl) (fun _ _ _ h => h) (Or.inl ⟨by kernel_rfl, fun W _ => by go_simp⟩) (unhide HR0).drew ?_
  refine wpAnyH_take (i := 2) (v := .pointer (some ⟨c.R, 4, none⟩)) rfl (by kernel_rfl) (by kernel_rfl) (by kernel_rfl) (fun _ _ _ h => h) (Or.inl ⟨by kernel_rfl, fun W _ => by go_simp⟩) (unhide HR0).drew ?_
  refine wpAnyH_take (i := 3) (v := .map (some c.mT)) rfl (by kernel_rfl) (by kernel_rfl) (by kernel_rfl) (fun _ _ _ h => h) (Or.inl ⟨by kernel_rfl, fun W hW => by have hh := Rdr.c4 hW; go_simp⟩) (unhide HR0).drew ?_
  refine wpAnyH_take (i := 4) (v := rPtr c) rfl (by kernel_rfl) (by kernel_rfl) (by kernel_rfl) (fun _ _ _ h => h) (Or.inl ⟨by kernel_rfl, fun W _ => by go_simp⟩) (unhide HR0).drew ?_
  refine wpAnyH_ready (rs := [5]) (by kernel_rfl) (by simp) (AllReadyH.cons rfl (fun K hK => ?_) AllReadyH.nil)
  go_simp
  refine Calls.mono (fixed_any c _ i d (unhide HR0).drew) ?_
  rintro e wq ⟨rfl, hbq⟩
  have HRq := hide ((unhide HR0).drew.later hbq)
  have HAq := hide ((unhide HA0).next (Ap.of ((Below.refl _ _).drew.trans hbq)))
  clear hbq
  refine hK.out _ _ (unhide HRq) (fun _ => ?_)
  clear hK K
  refine wpAnyH_take (i := 6) (v := .tuple #[.nilFunc, .bool false]) rfl (by kernel_rfl) (by kernel_rfl) (by kernel_rfl) (fun _ _ _ h => h) (Or.inl ⟨by kernel_rfl, fun W hW => by have hh := (unhide HL) W hW; go_simp⟩) (unhide HRq) ?_
  refine wpAnyH_take (i := 7) (v := .tuple #[.nilFunc, .bool false]) rfl (by kernel_rfl) (by kernel_rfl) (by kernel_rfl) (fun _ _ _ h => h) (Or.inl ⟨by kernel_rfl, fun W _ => by go_simp⟩) (unhide HRq) ?_
  refine wpAnyH_take (i := 8) (v := .nilFunc) rfl (by kernel_rfl) (by kernel_rfl) (by kernel_rfl) (fun _ _ _ h => h) (Or.inl ⟨by kernel_rfl, fun W _ => by go_simp⟩) (unhide HRq) ?_
  refine wpAnyH_take (i := 9) (v := .bool false) rfl (by kernel_rfl) (by kernel_rfl) (by kernel_rfl) (fun _ _ _ h => h) (Or.inl ⟨by kernel_rfl, fun W _ => by go_simp⟩) (unhide HRq) ?_
  refine wpAnyH_take (i := 10) (v := .nilFunc) rfl (by kernel_rfl) (by kernel_rfl) (by kernel_rfl) (fun _ _ _ h => h) (Or.inl ⟨by kernel_rfl, fun W _ => by go_simp⟩) (unhide HRq) ?_
  refine wpAnyH_take (i := 11) (v := .bool false) rfl (by kernel_rfl) (by kernel_rfl) (by kernel_rfl) (fun _ _ _ h => h) (Or.inl ⟨by kernel_rfl, fun W _ => by go_simp⟩) (unhide HRq) ?_
  refine wpAnyH_done (by kernel_rfl) ?_ _
  go_simp
  cases hr : deepP c.l F.vl d i with
  | out =>
    rw [hr] at HS
    simp only [bind_out] at HS
    exact absurd (unhide HS).symm (unhide HO)
  | bad er p =>
    have HC := hide (deepV hF wq d i (unhide HRq) (by rw [hr]; nofun))
    rw [hr] at HC HS
    simp only [bind_bad] at HS
    clear hr
    go_wp2_with fail
    refine Calls.mono HC.out ?_
    intro e w' hp
    obtain ⟨rfl, ha⟩ := hp
    exact ⟨rfl, ppBad (unhide HS).symm ((unhide HAq).next ha)⟩
  | ok x1 j1 =>
    have HC := hide (deepV hF wq d i (unhide HRq) (by rw [hr]; nofun))
    rw [hr] at HC HS
    simp only [bind_ok] at HS
    clear hr
    go_wp2_with fail
    refine Calls.mono HC.out ?_
    intro e w1 hp
    obtain ⟨⟨v1, rfl, p1, rfl, hn1⟩, hrd, ha⟩ := hp
    clear HC
    have HA1 := hide ((unhide HAq).next ha)
    have HR1 := hide hrd
    have HN1 := hide (nat_mono hn1 (unhide HAq).size)
    clear hn1
    clear hrd ha HAq HRq
    cases hr : mustP c.l tSemi j1 with
    | out =>
      rw [hr] at HS
      simp only [bind_out] at HS
      exact absurd (unhide HS).symm (unhide HO)
    | bad er p =>
      have HC := hide (must_any c tSemi w1 j1 d (unhide HR1) (by decide))
      rw [hr] at HC HS
      simp only [bind_bad] at HS
      clear hr
      go_wp2_with fail
      refine Calls.mono HC.out ?_
      intro e w' hp
      obtain ⟨rfl, ha⟩ := hp
      exact ⟨rfl, ppBad (unhide HS).symm ((unhide HA1).next ha)⟩
    | ok x2 j2 =>
      have HC := hide (must_any c tSemi w1 j1 d (unhide HR1) (by decide))
      rw [hr] at HC HS
      simp only [bind_ok] at HS
      clear hr
      go_wp2_with fail
      refine Calls.mono HC.out ?_
      intro e w2 hp
      obtain ⟨⟨v2, rfl, rfl⟩, hrd, ha⟩ := hp
      clear HC
      have HA2 := hide ((unhide HA1).next ha)
      have HR2 := hide hrd
      replace HN1 := hide (nat_later (unhide HN1) ha (unhide HLT))
      clear hrd ha HA1 HR1
      have HC := hide (node_any 15 noText (.slice (some ⟨w2.heap.size, 0, none⟩) 1 1) (w2.alloc (.cells #[nPtr p1] 22)) ⟨_, _, _, rfl⟩)
      go_wp2_with fail
      refine Calls.mono HC.out ?_
      rintro e wn ⟨rfl, rfl⟩
      clear HC
      go_wp2_with fail
      go_ret
      obtain ⟨m1, m2, m3⟩ := made (unhide HR2) (unhide HA2) (NAts.cons (unhide HN1) NAts.nil) (by simp [maxLen]) #[nPtr p1] rfl 1 rfl 15 noText (w2.heap.size + 1) rfl
      exact ppOk (unhide HS).symm m1.nv m2 m3

end Go.Proofs.YtoliilffjojfcaaGreatDoor
