/-
  Rows of parts that grow; blocks; lists.
-/
import Derived.Test.YtodmgaikhbmlnaaGreatDoorTk6
import Derived.Deep.AppendLies
set_option maxRecDepth 100000
set_option maxHeartbeats 16000000
namespace Go.Proofs.YtodmgaikhbmlnaaGreatDoor
open Go.RowKit

theorem info22 : (Tryz.prog.info? 22).map (fun i => (i.zero, i.size, i.bytes)) = some (some (.pointer none), 1, 8) := by kernel_rfl

theorem KV.shape {B : Nat} {w : World} {ts : List Tr} {v : Value} (h : KV B w ts v) : ∃ a cap, v = .slice a ts.length cap := by
  obtain ⟨ps, hr, hk⟩ := h
  rw [← NAts.length _ _ hk]
  exact row_shut hr
theorem KV.own {B : Nat} {w : World} {ts : List Tr} {v : Value} (h : KV B w ts v) (g : Nat) (hg : v.ownBlock = some g) : g < w.heap.size ∧ B ≤ g := by
  obtain ⟨ps, hr, _⟩ := h
  exact own_lt hr g hg
theorem KV.mono {B B' : Nat} {w : World} {ts : List Tr} {v : Value} (h : KV B w ts v) (hB : B' ≤ B) : KV B' w ts v := by
  obtain ⟨ps, hr, hk⟩ := h
  refine ⟨ps, ⟨hr.1, ?_⟩, NAts.mono (fun b h _ => ⟨by omega, h.2⟩) _ _ hk⟩
  rcases hr.2 with hn | ⟨g, cap, cur, hv, hb, rest⟩
  · exact Or.inl hn
  · exact Or.inr ⟨g, cap, cur, hv, by omega, rest⟩

/-- One part more. -/
theorem kv_push {B : Nat} {w1 w3 : World} {ts us : List Tr} {v : Value} {ps qs : List Nat} {g cap n : Nat} {o : Obj} (hk : NAts (fun b => B ≤ b ∧ v.ownBlock ≠ some b) w1 ts ps)
    (ht : NAts (fun b => B ≤ b ∧ v.ownBlock ≠ some b) w1 us qs) (hown : w3.ownsRow B 22 1 (.slice (some ⟨g, 0, none⟩) n cap) n ((ps ++ qs).map nPtr)) (hn : n = (ps ++ qs).length) (hgr : (w1.alloc o).grownBy w3 v.ownBlock)
    (hg : v.ownBlock = some g ∨ g = w1.heap.size + 1) : KV B w3 (ts ++ us) (.slice (some ⟨g, 0, none⟩) n cap) := by
  subst hn
  refine ⟨ps ++ qs, hown, ?_⟩
  have hs : Stay (fun b => B ≤ b ∧ b ≠ g ∧ v.ownBlock ≠ some b) w1 w3 := by
    intro b hb hl
    have h1 : Below w1.heap.size w1 (w1.alloc o) := (Below.refl _ _).alloc (Nat.le_refl _) _
    rw [← h1.block b hl]
    exact hgr.block b (by simp; omega) (fun e => hb.2.2 e.symm)
  have h0 := NAts.mono (J := fun b => B ≤ b ∧ b ≠ g ∧ v.ownBlock ≠ some b) (fun b hb hl => ⟨hb.1, fun e => by (rcases hg with hg | hg); (exact hb.2 (by rw [hg, e])); omega, hb.2⟩) _ _ (NAts.append ht _ _ hk)
  exact NAts.mono (fun b hb _ => ⟨hb.1, fun e => by simp only [Value.ownBlock, Option.some.injEq] at e; exact hb.2.1 e.symm⟩) _ _ (NAts.later hs _ _ h0)

def nxt (c : Ctx) (w : World) : Nat := match w.cell? ⟨c.R, 1, none⟩ with | some (.int _ v) => v.toNat | _ => 0
theorem nxt_eq {c : Ctx} {w : World} {i d : Nat} (h : Rdr c w i d) : nxt c w = i := by unfold nxt; rw [h.c1]; rfl

theorem one_cells (w : World) (p H : Nat) (h : w.heap.size = H) : ∀ j u, [nPtr p][j]? = some u → (w.alloc (.cells #[nPtr p] 22)).cell? ((⟨H, 0, none⟩ : Addr).add j) = some u := by
  intro j u hj
  match j, hj with
  | 0, hj =>
    simp only [List.getElem?_cons_zero, Option.some.injEq] at hj
    subst hj; subst h
    rw [show (⟨w.heap.size, 0, none⟩ : Addr).add 0 = ⟨w.heap.size, 0, none⟩ from rfl, cell_of (heap_new _ _)]
    rfl
  | j + 1, hj => simp at hj
theorem one_one (p : Nat) : ∀ u ∈ [nPtr p], u.oneCell' = true := by
  intro u hu
  simp only [List.mem_singleton] at hu
  subst hu; rfl

theorem apart_own {B : Nat} {w w1 : World} {ts : List Tr} {v : Value} {t : Tr} {p : Nat} (hk : KV B w ts v) (hB : B ≤ w.heap.size) (hn : NAt (From w.heap.size) w1 t p) : NAt (fun b => B ≤ b ∧ v.ownBlock ≠ some b) w1 t p :=
  NAt.mono (fun b hb _ => ⟨Nat.le_trans hB hb, fun e => by have := (hk.own b e).1; have : w.heap.size ≤ b := hb; omega⟩) _ _ hn

theorem block_any {c : Ctx} {F : Fns} (hF : FC c F) (hN : ∃ k, FNx c.l k F) : Does c 159 EV (blockP c.l F) := by
  have hmf := mf_bound c.R 170
  intro w d i r hs ho h
  have HR0 := hide h
  have HE := hide h.base.ends
  have HL := hide h.base.len
  have HLO := hide h.base.size
  obtain ⟨i0, hi0, hz0, hz1, hz2⟩ := info_parts info22
  have HA0 := hide (Ap.refl c.R w.heap.size w)
  have HLT := hide h.rlt
  have HFC := hide hF
  have HNX := hide hN
  unfold blockP at hs
  have HS := hide hs
  have HO := hide ho
  clear h hs ho hF hN
  go_enter Tryz.func159, Tryz.ntmps159
  cases hr : mustP c.l tLBrace i with
  | out =>
    rw [hr] at HS
    simp only [bind_out] at HS
    exact absurd (unhide HS).symm (unhide HO)
  | bad er p =>
    have HC := hide (must_any c tLBrace w i d (unhide HR0) (by decide))
    rw [hr] at HC HS
    simp only [bind_bad] at HS
    clear hr
    go_wp2_with fail
    refine Calls.mono HC.out ?_
    intro e w' hp
    obtain ⟨rfl, ha⟩ := hp
    exact ⟨rfl, ppBad (unhide HS).symm ((unhide HA0).next ha)⟩
  | ok x1 j1 =>
    have HC := hide (must_any c tLBrace w i d (unhide HR0) (by decide))
    rw [hr] at HC HS
    simp only [bind_ok] at HS
    clear hr
    go_wp2_with fail
    refine Calls.mono HC.out ?_
    intro e w1 hp
    obtain ⟨⟨v1, rfl, rfl⟩, hrd, ha⟩ := hp
    have HA1 := hide ((unhide HA0).next ha)
    have HR1 := hide hrd
    clear hrd ha HC HA0 HR0
    go_wp2_with fail
    go_loopw [3] (fun v wr => ∃ k acc j, (blockLoop c.l F d k acc j).bind (fun ts i2 => PR.ok (.mk 6 noText 0 ts) i2) = r ∧ Rdr c wr j d ∧ Ap c.R w.heap.size w wr ∧ KV w.heap.size wr acc v ∧ acc.length ≤ j) (fun _ wr => c.l.length - nxt c wr)
    case atStart => exact ⟨F.fuel, [], j1, unhide HS, unhide HR1, unhide HA1, KV.nil _ _, Nat.zero_le _⟩
    case round =>
      obtain ⟨k, acc, j, hq, hrd, hap, hkv, hle⟩ := hrel
      cases k with
      | zero => exact absurd hq.symm (unhide HO)
      | succ k =>
        have hL := unhide HL
        have hjl := hrd.lt
        have HR2 := hide hrd
        have HRM := hide hrd
        have HA2 := hide hap
        have HK2 := hide hkv
        have HLE := hide hle
        by_cases hx : fx c.l j = tRBrace
        · have HQ : Hid (PR.ok (.mk 6 noText 0 acc) (j + 1) = r) := by
            unfold blockLoop at hq
            rw [if_pos hx, bind_ok] at hq
            exact hq
          have HC := hide (take_yes c tRBrace wr j d hrd hx (by decide))
          obtain ⟨va, vc, rfl⟩ := hkv.shape
          clear hq hrd hap hkv hle hx
          go_wp2_with fail
          refine Calls.mono HC.out ?_
          rintro e w3 ⟨rfl, hr3, ha3⟩
          have HA3 := hide ((unhide HA2).next ha3)
          have HR3 := hide hr3
          have HK3 := hide (KV.later (unhide HK2) ha3 (unhide HLT))
          clear hr3 ha3 HC HA2 HR2 HK2
          have HC := hide (node_any 6 noText (.slice va acc.length vc) w3 ⟨_, _, _, rfl⟩)
          go_wp2_with fail
          refine Calls.mono HC.out ?_
          rintro e wn ⟨rfl, rfl⟩
          clear HC
          go_wp2_with fail
          go_ret
          obtain ⟨m1, m2, m3⟩ := made0 (unhide HR3) (unhide HA3) (unhide HK3) 6 noText _ rfl
          exact ppOk (unhide HQ).symm m1 m2 m3
        · have HQ : Hid ((deepP c.l F.st d j).bind (fun t i1 => (blockLoop c.l F d k (acc ++ [t]) i1).bind fun ts i2 => PR.ok (.mk 6 noText 0 ts) i2) = r) := by
            unfold blockLoop at hq
            rw [if_neg hx] at hq
            rw [← hq]
            cases deepP c.l F.st d j <;> rfl
          have HC := hide (take_not c tRBrace wr j d hrd hx)
          clear hq hrd hap hkv hle hx
          cases hr : deepP c.l F.st d j with
          | out =>
            rw [hr] at HQ
            simp only [bind_out] at HQ
            exact absurd (unhide HQ).symm (unhide HO)
          | bad er p =>
            have HRR := hide hr
            rw [hr] at HQ
            simp only [bind_bad] at HQ
            clear hr
            go_wp2_with fail
            refine Calls.mono HC.out ?_
            rintro e w3 ⟨rfl, hb3⟩
            have HA3 := hide ((unhide HA2).next (Ap.of hb3))
            have HR3 := hide ((unhide HR2).later hb3)
            clear hb3 HC HA2 HR2
            have HC := hide (deepS (unhide HFC) w3 d j (unhide HR3) (by rw [unhide HRR]; nofun))
            rw [unhide HRR] at HC
            go_wp2_with fail
            refine Calls.mono HC.out ?_
            intro e w' hp
            obtain ⟨rfl, ha⟩ := hp
            exact ⟨rfl, ppBad (unhide HQ).symm ((unhide HA3).next ha)⟩
          | ok t j2 =>
            have HRR := hide hr
            rw [hr] at HQ
            simp only [bind_ok] at HQ
            clear hr
            go_wp2_with fail
            refine Calls.mono HC.out ?_
            rintro e w3 ⟨rfl, hb3⟩
            have HA3 := hide ((unhide HA2).next (Ap.of hb3))
            have HR3 := hide ((unhide HR2).later hb3)
            have HK3 := hide (KV.later (unhide HK2) (Ap.of hb3) (unhide HLT))
            clear hb3 HC HA2 HR2 HK2
            have HC := hide (deepS (unhide HFC) w3 d j (unhide HR3) (by rw [unhide HRR]; nofun))
            rw [unhide HRR] at HC
            go_wp2_with fail
            refine Calls.mono HC.out ?_
            intro e w4 hp
            obtain ⟨⟨v4, rfl, p4, rfl, hn4⟩, hrd, ha⟩ := hp
            have HA4 := hide ((unhide HA3).next ha)
            have HR4 := hide hrd
            have HN4 := hide (apart_own (unhide HK3) (unhide HA3).size hn4)
            have HK4 := hide (KV.later (unhide HK3) ha (unhide HLT))
            have hlt2 := hrd.lt
            have hgt : j < j2 := by
              obtain ⟨kk, hkk⟩ := unhide HNX
              exact ((deepP_nx (l := c.l) (d := d) (hkk.st (d + 1) j hjl)).2 t j2 (unhide HRR)).1
            clear hrd ha hn4 HC HA3 HR3 HK3
            obtain ⟨ps, hown, hk4⟩ := unhide HK4
            have hlen := NAts.length _ _ hk4
            have hOB := own_lt hown
            rw [hlen] at hown
            have HOWN := hide hown
            have HLEN := hide hlen
            have HKK := hide hk4
            have hsz := (unhide HA4).size
            have hle := unhide HLE
            have HOB := hide hOB
            clear hown hk4 HK4 hOB hlen
            go_wp2_with (at_builtin; refine wpList_append_lies _ rfl _ _ 36 rfl w.heap.size 22 i0 (.pointer none) 1 8 Tryz.underlying36 hi0 hz0 hz1 hz2 rfl (by decide) _ _ _ rfl ((unhide HOWN).alloc _) ⟨w4.heap.size, 0, none⟩ 1 1 [nPtr p4] rfl rfl (one_cells w4 p4 _ rfl) (one_one p4) (by decide) (by unfold maxLen; omega) (by omega) (by simp; omega) (w4.heap.size + 1) (by simp) ?_)
            intro g cap w5 hown' hgrow hg _
            have HK5 : Hid (KV w.heap.size w5 (acc ++ [t]) (.slice (some ⟨g, 0, none⟩) (acc.length + 1) cap)) := kv_push (unhide HKK) (NAts.cons (unhide HN4) NAts.nil) (by rw [List.map_append]; exact hown') (by simp [unhide HLEN]) hgrow hg
            have HA5 := hide (((unhide HA4).alloc hsz (.cells #[nPtr p4] 22)).grown hgrow (by simp; omega) (fun k hk => (unhide HOB k hk).2))
            have HR5 := hide ((unhide HR4).ap (((Below.refl w.heap.size w4).alloc hsz (.cells #[nPtr p4] 22)).grown hgrow (by simp; omega) (fun k hk => (unhide HOB k hk).2)) (unhide HLO))
            clear hown' hgrow hg HKK HOWN
            go_wp2_with fail
            go_roundw
            case rel => exact ⟨k, acc ++ [t], j2, unhide HQ, unhide HR5, unhide HA5, unhide HK5, by simp; omega⟩
            case measure => rw [nxt_eq (unhide HR5), nxt_eq (unhide HRM)]; omega

/-- What a test does, at every token. -/
def Asks (c : Ctx) (f : Nat) (b : Nat → Bool) : Prop :=
  ∀ w d i, Rdr c w i d → Calls Tryz.prog f #[rPtr c] w fun e w' => e = .returned (.bool (b i)) ∧ Below w.heap.size w w'

/-- The parts of a list: nil where there is none, and few. -/
def LV (B : Nat) (w : World) (ts : List Tr) (v : Value) : Prop := KV B w ts v ∧ (ts = [] → v = .slice none 0 0) ∧ ts.length ≤ 3001

theorem list_any {c : Ctx} (fb fp : Nat) (begins : Nat → Bool) (sp : Nat → Nat → PR Tr) (opn shut : ByteArray) (hb : Asks c fb begins) (hp : Does c fp NV sp)
    (enb : ∀ args W, (callFunc fb args).run Tryz.prog W = .ok (.enter fb args) W) (enp : ∀ args W, (callFunc fp args).run Tryz.prog W = .ok (.enter fp args) W)
    (hno : opn ≠ noText) (hns : shut ≠ noText) (hgo : ∀ d i t j, i < c.l.length → sp d i = .ok t j → i < j)
    (k : Nat) (w : World) (d i : Nat) (r : PR (List Tr)) (hs : listP c.l opn shut begins (sp d) k i = r) (ho : r ≠ .out) (h : Rdr c w i d) :
    Calls Tryz.prog 225 #[rPtr c, .string opn, .string shut, boundV c.R fb, boundV c.R fp] w (PPost c w d (LV w.heap.size) r) := by
  have HR0 := hide h
  have HL := hide h.base.len
  have HLO := hide h.base.size
  obtain ⟨i0, hi0, hz0, hz1, hz2⟩ := info_parts info22
  have HA0 := hide (Ap.refl c.R w.heap.size w)
  have HLT := hide h.rlt
  have HB := hide hb
  have HP := hide hp
  have HNO := hide hno
  have HNS := hide hns
  have HGO := hide hgo
  unfold listP at hs
  have HS := hide hs
  have HO := hide ho
  clear h hs ho hb hp hno hns hgo
  unfold boundV
  go_enter Tryz.func225, Tryz.ntmps225
  cases hr : mustP c.l opn i with
  | out =>
    rw [hr] at HS
    simp only [bind_out] at HS
    exact absurd (unhide HS).symm (unhide HO)
  | bad er p =>
    have HC := hide (must_any c opn w i d (unhide HR0) (unhide HNO))
    rw [hr] at HC HS
    simp only [bind_bad] at HS
    clear hr
    go_wp2_with fail
    refine Calls.mono HC.out ?_
    intro e w' hp
    obtain ⟨rfl, ha⟩ := hp
    exact ⟨rfl, ppBad (unhide HS).symm ((unhide HA0).next ha)⟩
  | ok x1 j1 =>
    have HC := hide (must_any c opn w i d (unhide HR0) (unhide HNO))
    rw [hr] at HC HS
    simp only [bind_ok] at HS
    clear hr
    go_wp2_with fail
    refine Calls.mono HC.out ?_
    intro e w1 hp
    obtain ⟨⟨v1, rfl, rfl⟩, hrd, ha⟩ := hp
    have HA1 := hide ((unhide HA0).next ha)
    have HR1 := hide hrd
    clear hrd ha HC HA0 HR0
    by_cases hx : fx c.l j1 = shut
    · have HC := hide (take_yes c shut w1 j1 d (unhide HR1) hx (unhide HNS))
      rw [if_pos hx] at HS
      clear hx
      go_wp2_with fail
      refine Calls.mono HC.out ?_
      rintro e w2 ⟨rfl, hr2, ha2⟩
      have HA2 := hide ((unhide HA1).next ha2)
      have HR2 := hide hr2
      clear hr2 ha2
      go_wp2_with fail
      go_ret
      exact ppOk (unhide HS).symm ⟨KV.nil _ _, fun _ => rfl, by simp⟩ (unhide HR2) (unhide HA2)
    · have HC := hide (take_not c shut w1 j1 d (unhide HR1) hx)
      rw [if_neg hx] at HS
      clear hx
      go_wp2_with fail
      refine Calls.mono HC.out ?_
      rintro e w2 ⟨rfl, hb2⟩
      have HA2 := hide ((unhide HA1).next (Ap.of hb2))
      have HR2 := hide ((unhide HR1).later hb2)
      clear hb2 HC HA1 HR1
      go_wp2_with fail
      go_loopw [11] (fun v wr => ∃ k acc j, listLoop c.l shut begins (sp d) k acc j = r ∧ Rdr c wr j d ∧ Ap c.R w.heap.size w wr ∧ KV w.heap.size wr acc v ∧ acc.length ≤ j) (fun _ wr => c.l.length - nxt c wr)
      case atStart => exact ⟨k, [], j1, unhide HS, unhide HR2, unhide HA2, KV.nil _ _, Nat.zero_le _⟩
      case round =>
        obtain ⟨k, acc, j, hq, hrd, hap, hkv, hle⟩ := hrel
        clear HS HR2 HA2
        cases k with
        | zero => exact absurd hq.symm (unhide HO)
        | succ k =>
          have hL := unhide HL
          have hjl := hrd.lt
          have HR2 := hide hrd
          have HRM := hide hrd
          have HA2 := hide hap
          have HK2 := hide hkv
          have HLE := hide hle
          unfold listLoop at hq
          have HQ := hide hq
          clear hq hrd hap hle
          obtain ⟨va, vc, rfl⟩ := hkv.shape
          clear hkv
          by_cases h8 : acc.length = 8
          · cases hbg : begins j with
            | true =>
              rw [if_pos ⟨h8, hbg⟩] at HQ
              have HC : Hid _ := unhide HB wr d j (unhide HR2)
              rw [hbg] at HC
              clear hbg
              have h8i : ((acc.length : Int) == 8) = true := beq_iff_eq.2 (by omega)
              have H8 := hide h8
              clear h8
              go_wp2_with fail
              refine Calls.mono HC.out ?_
              rintro e w3 ⟨rfl, hb3⟩
              have HA3 := hide ((unhide HA2).next (Ap.of hb3))
              have HC := hide (fault_any c 4 w3 j d ((unhide HR2).later hb3))
              clear hb3
              go_wp2_with fail
              refine Calls.mono HC.out ?_
              rintro e w4 ⟨rfl, hb4⟩
              exact ⟨rfl, ppBad (unhide HQ).symm ((unhide HA3).next (Ap.of hb4))⟩
            | false =>
              rw [if_neg (by rw [hbg]; rintro ⟨_, hh⟩; cases hh)] at HQ
              have HC : Hid _ := unhide HB wr d j (unhide HR2)
              rw [hbg] at HC
              clear hbg
              have h8i : ((acc.length : Int) == 8) = true := beq_iff_eq.2 (by omega)
              have H8 := hide h8
              clear h8
              go_wp2_with fail
              refine Calls.mono HC.out ?_
              rintro e w3 ⟨rfl, hb3⟩
              have HA3 := hide ((unhide HA2).next (Ap.of hb3))
              have HR3 := hide ((unhide HR2).later hb3)
              have HK3 := hide (KV.later (unhide HK2) (Ap.of hb3) (unhide HLT))
              clear hb3 HC HA2 HR2 HK2 h8i
              have HQ2 : Hid ((sp d j).bind (fun t i1 => if fx c.l i1 = shut then PR.ok (acc ++ [t]) (i1 + 1) else (mustP c.l tComma i1).bind fun _ i2 => listLoop c.l shut begins (sp d) k (acc ++ [t]) i2) = r) := unhide HQ
              clear HQ
              cases hr : sp d j with
              | out =>
                rw [hr] at HQ2
                simp only [bind_out] at HQ2
                exact absurd (unhide HQ2).symm (unhide HO)
              | bad er p =>
                have HC : Hid _ := unhide HP w3 d j _ rfl (by rw [hr]; nofun) (unhide HR3)
                rw [hr] at HC HQ2
                simp only [bind_bad] at HQ2
                clear hr
                go_wp2_with fail
                refine Calls.mono HC.out ?_
                intro e w' hp
                obtain ⟨rfl, ha⟩ := hp
                exact ⟨rfl, ppBad (unhide HQ2).symm ((unhide HA3).next ha)⟩
              | ok t j2 =>
                have HC : Hid _ := unhide HP w3 d j _ rfl (by rw [hr]; nofun) (unhide HR3)
                have hgt : j < j2 := unhide HGO d j t j2 hjl hr
                rw [hr] at HC HQ2
                simp only [bind_ok] at HQ2
                clear hr
                go_wp2_with fail
                refine Calls.mono HC.out ?_
                intro e w4 hp
                obtain ⟨⟨v4, rfl, p4, rfl, hn4⟩, hrd, ha⟩ := hp
                have HA4 := hide ((unhide HA3).next ha)
                have HR4 := hide hrd
                have HN4 := hide (apart_own (unhide HK3) (unhide HA3).size hn4)
                have HK4 := hide (KV.later (unhide HK3) ha (unhide HLT))
                have hlt2 := hrd.lt
                clear hrd ha hn4 HC
                obtain ⟨ps, hown, hk4⟩ := unhide HK4
                have hlen := NAts.length _ _ hk4
                have hOB := own_lt hown
                rw [hlen] at hown
                have HOWN := hide hown
                have HLEN := hide hlen
                have HKK := hide hk4
                have hsz := (unhide HA4).size
                have hle := unhide HLE
                have HOB := hide hOB
                clear hown hk4 HK4 hOB hlen
                go_wp2_with (at_builtin; refine wpList_append_lies _ rfl _ _ 36 rfl w.heap.size 22 i0 (.pointer none) 1 8 Tryz.underlying36 hi0 hz0 hz1 hz2 rfl (by decide) _ _ _ rfl ((unhide HOWN).alloc _) ⟨w4.heap.size, 0, none⟩ 1 1 [nPtr p4] rfl rfl (one_cells w4 p4 _ rfl) (one_one p4) (by decide) (by unfold maxLen; omega) (by omega) (by simp; omega) (w4.heap.size + 1) (by simp) ?_)
                intro g cap w5 hown' hgrow hg _
                have HK5 : Hid (KV w.heap.size w5 (acc ++ [t]) (.slice (some ⟨g, 0, none⟩) (acc.length + 1) cap)) := kv_push (unhide HKK) (NAts.cons (unhide HN4) NAts.nil) (by rw [List.map_append]; exact hown') (by simp [unhide HLEN]) hgrow hg
                have HA5 := hide (((unhide HA4).alloc hsz (.cells #[nPtr p4] 22)).grown hgrow (by simp; omega) (fun k hk => (unhide HOB k hk).2))
                have HR5 := hide ((unhide HR4).ap (((Below.refl w.heap.size w4).alloc hsz (.cells #[nPtr p4] 22)).grown hgrow (by simp; omega) (fun k hk => (unhide HOB k hk).2)) (unhide HLO))
                clear hown' hgrow hg HKK HOWN
                by_cases hx : fx c.l j2 = shut
                · have HC := hide (take_yes c shut w5 j2 d (unhide HR5) hx (unhide HNS))
                  rw [if_pos hx] at HQ2
                  clear hx
                  go_wp2_with fail
                  refine Calls.mono HC.out ?_
                  rintro e w6 ⟨rfl, hr6, ha6⟩
                  have HA6 := hide ((unhide HA5).next ha6)
                  have HR6 := hide hr6
                  have HK6 := hide (KV.later (unhide HK5) ha6 (unhide HLT))
                  clear hr6 ha6
                  go_wp2_with fail
                  go_ret
                  exact ppOk (unhide HQ2).symm ⟨unhide HK6, fun hh => absurd hh (by simp), by simp; omega⟩ (unhide HR6) (unhide HA6)
                · have HC := hide (take_not c shut w5 j2 d (unhide HR5) hx)
                  rw [if_neg hx] at HQ2
                  clear hx
                  go_wp2_with fail
                  refine Calls.mono HC.out ?_
                  rintro e w6 ⟨rfl, hb6⟩
                  have HA6 := hide ((unhide HA5).next (Ap.of hb6))
                  have HR6 := hide ((unhide HR5).later hb6)
                  have HK6 := hide (KV.later (unhide HK5) (Ap.of hb6) (unhide HLT))
                  clear hb6 HC
                  cases hr : mustP c.l tComma j2 with
                  | out =>
                    rw [hr] at HQ2
                    simp only [bind_out] at HQ2
                    exact absurd (unhide HQ2).symm (unhide HO)
                  | bad er p =>
                    have HC := hide (must_any c tComma w6 j2 d (unhide HR6) (by decide))
                    rw [hr] at HC HQ2
                    simp only [bind_bad] at HQ2
                    clear hr
                    go_wp2_with fail
                    refine Calls.mono HC.out ?_
                    intro e w' hp
                    obtain ⟨rfl, ha⟩ := hp
                    exact ⟨rfl, ppBad (unhide HQ2).symm ((unhide HA6).next ha)⟩
                  | ok x7 j7 =>
                    have HC := hide (must_any c tComma w6 j2 d (unhide HR6) (by decide))
                    have h7 : j2 < j7 := by
                      unfold mustP at hr
                      split at hr
                      · cases hr; omega
                      · cases hr
                    rw [hr] at HC HQ2
                    simp only [bind_ok] at HQ2
                    clear hr
                    go_wp2_with fail
                    refine Calls.mono HC.out ?_
                    intro e w7 hp
                    obtain ⟨⟨v7, rfl, rfl⟩, hrd, ha⟩ := hp
                    have HA7 := hide ((unhide HA6).next ha)
                    have HR7 := hide hrd
                    have HK7 := hide (KV.later (unhide HK6) ha (unhide HLT))
                    have hlt7 := hrd.lt
                    clear hrd ha HC
                    go_wp2_with fail
                    go_roundw
                    case rel => exact ⟨k, acc ++ [t], j7, unhide HQ2, unhide HR7, unhide HA7, unhide HK7, by simp; omega⟩
                    case measure => rw [nxt_eq (unhide HR7), nxt_eq (unhide HRM)]; omega
          · rw [if_neg (fun hh => h8 hh.1)] at HQ
            have h8i : ((acc.length : Int) == 8) = false := beq_eq_false_iff_ne.2 (by omega)
            clear h8
            have HQ2 : Hid ((sp d j).bind (fun t i1 => if fx c.l i1 = shut then PR.ok (acc ++ [t]) (i1 + 1) else (mustP c.l tComma i1).bind fun _ i2 => listLoop c.l shut begins (sp d) k (acc ++ [t]) i2) = r) := unhide HQ
            clear HQ
            cases hr : sp d j with
            | out =>
              rw [hr] at HQ2
              simp only [bind_out] at HQ2
              exact absurd (unhide HQ2).symm (unhide HO)
            | bad er p =>
              have HC : Hid _ := unhide HP wr d j _ rfl (by rw [hr]; nofun) (unhide HR2)
              rw [hr] at HC HQ2
              simp only [bind_bad] at HQ2
              clear hr
              go_wp2_with fail
              refine Calls.mono HC.out ?_
              intro e w' hp
              obtain ⟨rfl, ha⟩ := hp
              exact ⟨rfl, ppBad (unhide HQ2).symm ((unhide HA2).next ha)⟩
            | ok t j2 =>
              have HC : Hid _ := unhide HP wr d j _ rfl (by rw [hr]; nofun) (unhide HR2)
              have hgt : j < j2 := unhide HGO d j t j2 hjl hr
              rw [hr] at HC HQ2
              simp only [bind_ok] at HQ2
              clear hr
              go_wp2_with fail
              refine Calls.mono HC.out ?_
              intro e w4 hp
              obtain ⟨⟨v4, rfl, p4, rfl, hn4⟩, hrd, ha⟩ := hp
              have HA4 := hide ((unhide HA2).next ha)
              have HR4 := hide hrd
              have HN4 := hide (apart_own (unhide HK2) (unhide HA2).size hn4)
              have HK4 := hide (KV.later (unhide HK2) ha (unhide HLT))
              have hlt2 := hrd.lt
              clear hrd ha hn4 HC
              obtain ⟨ps, hown, hk4⟩ := unhide HK4
              have hlen := NAts.length _ _ hk4
              have hOB := own_lt hown
              rw [hlen] at hown
              have HOWN := hide hown
              have HLEN := hide hlen
              have HKK := hide hk4
              have hsz := (unhide HA4).size
              have hle := unhide HLE
              have HOB := hide hOB
              clear hown hk4 HK4 hOB hlen
              go_wp2_with (at_builtin; refine wpList_append_lies _ rfl _ _ 36 rfl w.heap.size 22 i0 (.pointer none) 1 8 Tryz.underlying36 hi0 hz0 hz1 hz2 rfl (by decide) _ _ _ rfl ((unhide HOWN).alloc _) ⟨w4.heap.size, 0, none⟩ 1 1 [nPtr p4] rfl rfl (one_cells w4 p4 _ rfl) (one_one p4) (by decide) (by unfold maxLen; omega) (by omega) (by simp; omega) (w4.heap.size + 1) (by simp) ?_)
              intro g cap w5 hown' hgrow hg _
              have HK5 : Hid (KV w.heap.size w5 (acc ++ [t]) (.slice (some ⟨g, 0, none⟩) (acc.length + 1) cap)) := kv_push (unhide HKK) (NAts.cons (unhide HN4) NAts.nil) (by rw [List.map_append]; exact hown') (by simp [unhide HLEN]) hgrow hg
              have HA5 := hide (((unhide HA4).alloc hsz (.cells #[nPtr p4] 22)).grown hgrow (by simp; omega) (fun k hk => (unhide HOB k hk).2))
              have HR5 := hide ((unhide HR4).ap (((Below.refl w.heap.size w4).alloc hsz (.cells #[nPtr p4] 22)).grown hgrow (by simp; omega) (fun k hk => (unhide HOB k hk).2)) (unhide HLO))
              clear hown' hgrow hg HKK HOWN
              by_cases hx : fx c.l j2 = shut
              · have HC := hide (take_yes c shut w5 j2 d (unhide HR5) hx (unhide HNS))
                rw [if_pos hx] at HQ2
                clear hx
                go_wp2_with fail
                refine Calls.mono HC.out ?_
                rintro e w6 ⟨rfl, hr6, ha6⟩
                have HA6 := hide ((unhide HA5).next ha6)
                have HR6 := hide hr6
                have HK6 := hide (KV.later (unhide HK5) ha6 (unhide HLT))
                clear hr6 ha6
                go_wp2_with fail
                go_ret
                exact ppOk (unhide HQ2).symm ⟨unhide HK6, fun hh => absurd hh (by simp), by simp; omega⟩ (unhide HR6) (unhide HA6)
              · have HC := hide (take_not c shut w5 j2 d (unhide HR5) hx)
                rw [if_neg hx] at HQ2
                clear hx
                go_wp2_with fail
                refine Calls.mono HC.out ?_
                rintro e w6 ⟨rfl, hb6⟩
                have HA6 := hide ((unhide HA5).next (Ap.of hb6))
                have HR6 := hide ((unhide HR5).later hb6)
                have HK6 := hide (KV.later (unhide HK5) (Ap.of hb6) (unhide HLT))
                clear hb6 HC
                cases hr : mustP c.l tComma j2 with
                | out =>
                  rw [hr] at HQ2
                  simp only [bind_out] at HQ2
                  exact absurd (unhide HQ2).symm (unhide HO)
                | bad er p =>
                  have HC := hide (must_any c tComma w6 j2 d (unhide HR6) (by decide))
                  rw [hr] at HC HQ2
                  simp only [bind_bad] at HQ2
                  clear hr
                  go_wp2_with fail
                  refine Calls.mono HC.out ?_
                  intro e w' hp
                  obtain ⟨rfl, ha⟩ := hp
                  exact ⟨rfl, ppBad (unhide HQ2).symm ((unhide HA6).next ha)⟩
                | ok x7 j7 =>
                  have HC := hide (must_any c tComma w6 j2 d (unhide HR6) (by decide))
                  have h7 : j2 < j7 := by
                    unfold mustP at hr
                    split at hr
                    · cases hr; omega
                    · cases hr
                  rw [hr] at HC HQ2
                  simp only [bind_ok] at HQ2
                  clear hr
                  go_wp2_with fail
                  refine Calls.mono HC.out ?_
                  intro e w7 hp
                  obtain ⟨⟨v7, rfl, rfl⟩, hrd, ha⟩ := hp
                  have HA7 := hide ((unhide HA6).next ha)
                  have HR7 := hide hrd
                  have HK7 := hide (KV.later (unhide HK6) ha (unhide HLT))
                  have hlt7 := hrd.lt
                  clear hrd ha HC
                  go_wp2_with fail
                  go_roundw
                  case rel => exact ⟨k, acc ++ [t], j7, unhide HQ2, unhide HR7, unhide HA7, unhide HK7, by simp; omega⟩
                  case measure => rw [nxt_eq (unhide HR7), nxt_eq (unhide HRM)]; omega
end Go.Proofs.YtodmgaikhbmlnaaGreatDoor
