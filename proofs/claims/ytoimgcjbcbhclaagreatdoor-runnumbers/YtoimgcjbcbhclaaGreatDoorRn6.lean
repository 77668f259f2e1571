/-
  Lists of parts, with commas between.
-/
import Derived.Test.YtoimgcjbcbhclaaGreatDoorRn0
import Derived.Test.YtoimgcjbcbhclaaGreatDoorRn5
import Derived.MapKept
import Derived.Deep.MidRow
import Derived.Laws.AppendOwnNone
set_option maxRecDepth 100000
set_option maxHeartbeats 16000000
namespace Go.Proofs.YtoimgcjbcbhclaaGreatDoor
open Go.RowKit
def Asks (c : Ctx) (f : Nat) (b : Nat → Bool) : Prop :=
 ∀ w d i, Rdr c w i d → Calls Tryz.prog f #[rPtr c] w fun e w' => e = .returned (.bool (b i)) ∧ Below w.heap.size w w'
def LV (B : Nat) (w : World) (ts : List Tr) (v : Value) : Prop := KV B w ts v ∧ (ts = [] → v = .slice none 0 0) ∧ ts.length ≤ 3001
theorem zgv {c : Ctx} (fb fp : Nat) (begins : Nat → Bool) (sp : Nat → Nat → PR Tr) (opn shut : ByteArray) (hb : Asks c fb begins) (hp : Does c fp NV sp)
  (enb : ∀ args W, (callFunc fb args).run Tryz.prog W = .ok (.enter fb args) W) (enp : ∀ args W, (callFunc fp args).run Tryz.prog W = .ok (.enter fp args) W)
  (hno : opn ≠ zzx) (hns : shut ≠ zzx) (hgo : ∀ d i t j, i < c.l.length → sp d i = .ok t j → i < j)
  (k : Nat) (w : World) (d i : Nat) (r : PR (List Tr)) (hs : zg9 c.l opn shut begins (sp d) k i = r) (ho : r ≠ .out) (h : Rdr c w i d) :
  Calls Tryz.prog 246 #[rPtr c, .string opn, .string shut, zdy c.R fb, zdy c.R fp] w (zk3 c w d (LV w.heap.size) r) := by
 have HR0 := qh h
 have HL := qh h.base.len
 have HLO := qh h.base.size
 obtain ⟨i0, hi0, hz0, hz1, hz2⟩ := info_parts zk0
 have HA0 := qh (Ap.refl c.R w.heap.size w)
 have HLT := qh h.rlt
 have HB := qh hb
 have HP := qh hp
 have HNO := qh hno
 have HNS := qh hns
 have HGO := qh hgo
 unfold zg9 at hs
 have HS := qh hs
 have HO := qh ho
 clear h hs ho hb hp hno hns hgo
 unfold zdy
 go_enter Tryz.func246, Tryz.ntmps246
 cases hr : zz0 c.l opn i with
 | out =>
  rw [hr] at HS; simp only [zqj] at HS; exact absurd HS.out.symm HO.out
 | bad er p =>
  have HC := qh (zz7 c opn w i d HR0.out HNO.out); rw [hr] at HC HS; simp only [zz6] at HS; clear hr; go_wp2_with fail; refine cm HC.out ?_; intro e w' hp; obtain ⟨rfl, ha⟩ := hp
  exact ⟨rfl, zq7 HS.out.symm (HA0.out.next ha)⟩
 | ok x1 j1 =>
  have HC := qh (zz7 c opn w i d HR0.out HNO.out); rw [hr] at HC HS; simp only [zzv] at HS; clear hr; go_wp2_with fail; refine cm HC.out ?_; intro e w1 hp; obtain ⟨⟨v1, rfl, rfl⟩, hrd, ha⟩ := hp
  have HA1 := qh (HA0.out.next ha); have HR1 := qh hrd; clear hrd ha HC HA0 HR0
  by_cases hx : fx c.l j1 = shut
  ·
   have HC := qh (zkv c shut w1 j1 d HR1.out hx HNS.out); rw [if_pos hx] at HS; clear hx; go_wp2_with fail; refine cm HC.out ?_; rintro e w2 ⟨rfl, hr2, ha2⟩; have HA2 := qh (HA1.out.next ha2); have HR2 := qh hr2
   clear hr2 ha2; go_wp2_with fail; go_ret; exact ppOk HS.out.symm ⟨KV.nil _ _, fun _ => rfl, by simp⟩ HR2.out HA2.out
  ·
   have HC := qh (zwj c shut w1 j1 d HR1.out hx); rw [if_neg hx] at HS; clear hx; go_wp2_with fail; refine cm HC.out ?_; rintro e w2 ⟨rfl, hb2⟩; have HA2 := qh (HA1.out.next (Ap.of hb2))
   have HR2 := qh (HR1.out.later hb2); clear hb2 HC HA1 HR1; go_wp2_with fail
   go_loopw [11] (fun v wr => ∃ k acc j, zvz c.l shut begins (sp d) k acc j = r ∧ Rdr c wr j d ∧ Ap c.R w.heap.size w wr ∧ KV w.heap.size wr acc v ∧ acc.length ≤ j) (fun _ wr => c.l.length - nxt c wr)
   case atStart => exact ⟨k, [], j1, HS.out, HR2.out, HA2.out, KV.nil _ _, Nat.zero_le _⟩
   case round =>
    obtain ⟨k, acc, j, hq, hrd, hap, hkv, hle⟩ := hrel; clear HS HR2 HA2
    cases k with
    | zero => exact absurd hq.symm HO.out
    | succ k =>
     have hL := zzq HL; have hjl := hrd.lt; have HR2 := qh hrd; have HRM := qh hrd; have HA2 := qh hap; have HK2 := qh hkv; have HLE := qh hle; unfold zvz at hq; have HQ := qh hq; clear hq hrd hap hle
     obtain ⟨va, vc, rfl⟩ := hkv.shape; clear hkv
     by_cases h8 : acc.length = 8
     ·
      cases hbg : begins j with
      | true =>
       rw [if_pos ⟨h8, hbg⟩] at HQ; have HC : Hid _ := zzq HB wr d j HR2.out; rw [hbg] at HC; clear hbg; have h8i : ((acc.length : Int) == 8) = true := beq_iff_eq.2 (by omega); have H8 := qh h8; clear h8
       go_wp2_with fail; refine cm HC.out ?_; rintro e w3 ⟨rfl, hb3⟩; have HA3 := qh (HA2.out.next (Ap.of hb3)); have HC := qh (zby c 4 w3 j d (HR2.out.later hb3)); clear hb3; go_wp2_with fail
       refine cm HC.out ?_; rintro e w4 ⟨rfl, hb4⟩; exact ⟨rfl, zq7 HQ.out.symm (HA3.out.next (Ap.of hb4))⟩
      | false =>
       rw [if_neg (by rw [hbg]; rintro ⟨_, hh⟩; cases hh)] at HQ
       have HC : Hid _ := zzq HB wr d j HR2.out; rw [hbg] at HC; clear hbg; have h8i : ((acc.length : Int) == 8) = true := beq_iff_eq.2 (by omega); have H8 := qh h8; clear h8; go_wp2_with fail; refine cm HC.out ?_
       rintro e w3 ⟨rfl, hb3⟩; have HA3 := qh (HA2.out.next (Ap.of hb3)); have HR3 := qh (HR2.out.later hb3); have HK3 := qh (KV.later HK2.out (Ap.of hb3) HLT.out); clear hb3 HC HA2 HR2 HK2 h8i
       have HQ2 : Hid ((sp d j).bind (fun t i1 => if fx c.l i1 = shut then PR.ok (acc ++ [t]) (i1 + 1) else (zz0 c.l zh5 i1).bind fun _ i2 => zvz c.l shut begins (sp d) k (acc ++ [t]) i2) = r) := zzq HQ
       clear HQ
       cases hr : sp d j with
       | out =>
        rw [hr] at HQ2; simp only [zqj] at HQ2; exact absurd HQ2.out.symm HO.out
       | bad er p =>
        have HC : Hid _ := zzq HP w3 d j _ rfl (by rw [hr]; nofun) HR3.out
        rw [hr] at HC HQ2; simp only [zz6] at HQ2; clear hr; go_wp2_with fail; refine cm HC.out ?_; intro e w' hp; obtain ⟨rfl, ha⟩ := hp; exact ⟨rfl, zq7 HQ2.out.symm (HA3.out.next ha)⟩
       | ok t j2 =>
        have HC : Hid _ := zzq HP w3 d j _ rfl (by rw [hr]; nofun) HR3.out
        have hgt : j < j2 := zzq HGO d j t j2 hjl hr; rw [hr] at HC HQ2; simp only [zzv] at HQ2; clear hr; go_wp2_with fail; refine cm HC.out ?_; intro e w4 hp; obtain ⟨⟨v4, rfl, p4, rfl, hn4⟩, hrd, ha⟩ := hp
        have HA4 := qh (HA3.out.next ha); have HR4 := qh hrd; have HN4 := qh (zhv HK3.out HA3.out.size ha HLT.out hn4); have HK4 := qh (KV.later HK3.out ha HLT.out); have hlt2 := hrd.lt; clear hrd ha hn4 HC
        obtain ⟨ps, hown, hk4, hkt⟩ := zzq HN4; have hlen := NAts.length _ _ hk4; have hOB := zx6 hown; rw [hlen] at hown; have HOWN := qh hown; have HLEN := qh hlen; have HKK := qh hkt
        have hsz := HA4.out.size; have hle := zzq HLE; have HOB := qh hOB; clear hown hk4 hkt HK4 HN4 hOB hlen
        go_wp2_with (at_builtin; refine wpList_append_lies _ rfl _ _ 46 rfl w.heap.size 22 i0 (.pointer none) 1 8 Tryz.underlying46 hi0 hz0 hz1 hz2 rfl (by decide) _ _ _ rfl (HOWN.out.alloc _) ⟨w4.heap.size, 0, none⟩ 1 1 [nPtr p4] rfl rfl (zq1 w4 p4 _ rfl) (zxv p4) (by decide) (by unfold maxLen; omega) (by omega) (by simp; omega) (w4.heap.size + 1) (by simp) ?_)
        intro g cap w5 hown' hgrow hg _
        have HK5 : Hid (KV w.heap.size w5 (acc ++ [t]) (.slice (some ⟨g, 0, none⟩) (acc.length + 1) cap)) := zfx HKK.out (by rw [List.map_append]; exact hown') (by simp [HLEN.out]) hgrow hg
        have HA5 := qh ((HA4.out.alloc hsz (.cells #[nPtr p4] 22)).grown hgrow (by simp; omega) (fun k hk => (zzq HOB k hk).2))
        have HR5 := qh (HR4.out.ap (((Below.refl w.heap.size w4).alloc hsz (.cells #[nPtr p4] 22)).grown hgrow (by simp; omega) (fun k hk => (zzq HOB k hk).2)) HLO.out)
        clear hown' hgrow hg HKK HOWN
        by_cases hx : fx c.l j2 = shut
        ·
         have HC := qh (zkv c shut w5 j2 d HR5.out hx HNS.out); rw [if_pos hx] at HQ2; clear hx; go_wp2_with fail; refine cm HC.out ?_; rintro e w6 ⟨rfl, hr6, ha6⟩; have HA6 := qh (HA5.out.next ha6)
         have HR6 := qh hr6; have HK6 := qh (KV.later HK5.out ha6 HLT.out); clear hr6 ha6; go_wp2_with fail; go_ret; exact ppOk HQ2.out.symm ⟨HK6.out, fun hh => absurd hh (by simp), by simp; omega⟩ HR6.out HA6.out
        ·
         have HC := qh (zwj c shut w5 j2 d HR5.out hx); rw [if_neg hx] at HQ2; clear hx; go_wp2_with fail; refine cm HC.out ?_; rintro e w6 ⟨rfl, hb6⟩; have HA6 := qh (HA5.out.next (Ap.of hb6))
         have HR6 := qh (HR5.out.later hb6); have HK6 := qh (KV.later HK5.out (Ap.of hb6) HLT.out); clear hb6 HC
         cases hr : zz0 c.l zh5 j2 with
         | out =>
          rw [hr] at HQ2; simp only [zqj] at HQ2; exact absurd HQ2.out.symm HO.out
         | bad er p =>
          have HC := qh (zz7 c zh5 w6 j2 d HR6.out (by decide)); rw [hr] at HC HQ2; simp only [zz6] at HQ2; clear hr; go_wp2_with fail; refine cm HC.out ?_; intro e w' hp; obtain ⟨rfl, ha⟩ := hp
          exact ⟨rfl, zq7 HQ2.out.symm (HA6.out.next ha)⟩
         | ok x7 j7 =>
          have HC := qh (zz7 c zh5 w6 j2 d HR6.out (by decide)); have h7 : j2 < j7 := by
           unfold zz0 at hr
           split at hr
           ·
            cases hr; omega
           ·
            cases hr
          rw [hr] at HC HQ2; simp only [zzv] at HQ2; clear hr; go_wp2_with fail; refine cm HC.out ?_; intro e w7 hp; obtain ⟨⟨v7, rfl, rfl⟩, hrd, ha⟩ := hp; have HA7 := qh (HA6.out.next ha); have HR7 := qh hrd
          have HK7 := qh (KV.later HK6.out ha HLT.out); have hlt7 := hrd.lt; clear hrd ha HC; go_wp2_with fail
          go_roundw
          case rel => exact ⟨k, acc ++ [t], j7, HQ2.out, HR7.out, HA7.out, HK7.out, by simp; omega⟩
          case measure => rw [zyq HR7.out, zyq HRM.out]; omega
     ·
      rw [if_neg (fun hh => h8 hh.1)] at HQ; have h8i : ((acc.length : Int) == 8) = false := beq_eq_false_iff_ne.2 (by omega); clear h8
      have HQ2 : Hid ((sp d j).bind (fun t i1 => if fx c.l i1 = shut then PR.ok (acc ++ [t]) (i1 + 1) else (zz0 c.l zh5 i1).bind fun _ i2 => zvz c.l shut begins (sp d) k (acc ++ [t]) i2) = r) := zzq HQ
      clear HQ
      cases hr : sp d j with
      | out =>
       rw [hr] at HQ2; simp only [zqj] at HQ2; exact absurd HQ2.out.symm HO.out
      | bad er p =>
       have HC : Hid _ := zzq HP wr d j _ rfl (by rw [hr]; nofun) HR2.out
       rw [hr] at HC HQ2; simp only [zz6] at HQ2; clear hr; go_wp2_with fail; refine cm HC.out ?_; intro e w' hp; obtain ⟨rfl, ha⟩ := hp; exact ⟨rfl, zq7 HQ2.out.symm (HA2.out.next ha)⟩
      | ok t j2 =>
       have HC : Hid _ := zzq HP wr d j _ rfl (by rw [hr]; nofun) HR2.out
       have hgt : j < j2 := zzq HGO d j t j2 hjl hr; rw [hr] at HC HQ2; simp only [zzv] at HQ2; clear hr; go_wp2_with fail; refine cm HC.out ?_; intro e w4 hp; obtain ⟨⟨v4, rfl, p4, rfl, hn4⟩, hrd, ha⟩ := hp
       have HA4 := qh (HA2.out.next ha); have HR4 := qh hrd; have HN4 := qh (zhv HK2.out HA2.out.size ha HLT.out hn4); have HK4 := qh (KV.later HK2.out ha HLT.out); have hlt2 := hrd.lt; clear hrd ha hn4 HC
       obtain ⟨ps, hown, hk4, hkt⟩ := zzq HN4; have hlen := NAts.length _ _ hk4; have hOB := zx6 hown; rw [hlen] at hown; have HOWN := qh hown; have HLEN := qh hlen; have HKK := qh hkt; have hsz := HA4.out.size
       have hle := zzq HLE; have HOB := qh hOB; clear hown hk4 hkt HK4 HN4 hOB hlen
       go_wp2_with (at_builtin; refine wpList_append_lies _ rfl _ _ 46 rfl w.heap.size 22 i0 (.pointer none) 1 8 Tryz.underlying46 hi0 hz0 hz1 hz2 rfl (by decide) _ _ _ rfl (HOWN.out.alloc _) ⟨w4.heap.size, 0, none⟩ 1 1 [nPtr p4] rfl rfl (zq1 w4 p4 _ rfl) (zxv p4) (by decide) (by unfold maxLen; omega) (by omega) (by simp; omega) (w4.heap.size + 1) (by simp) ?_)
       intro g cap w5 hown' hgrow hg _
       have HK5 : Hid (KV w.heap.size w5 (acc ++ [t]) (.slice (some ⟨g, 0, none⟩) (acc.length + 1) cap)) := zfx HKK.out (by rw [List.map_append]; exact hown') (by simp [HLEN.out]) hgrow hg
       have HA5 := qh ((HA4.out.alloc hsz (.cells #[nPtr p4] 22)).grown hgrow (by simp; omega) (fun k hk => (zzq HOB k hk).2))
       have HR5 := qh (HR4.out.ap (((Below.refl w.heap.size w4).alloc hsz (.cells #[nPtr p4] 22)).grown hgrow (by simp; omega) (fun k hk => (zzq HOB k hk).2)) HLO.out)
       clear hown' hgrow hg HKK HOWN
       by_cases hx : fx c.l j2 = shut
       ·
        have HC := qh (zkv c shut w5 j2 d HR5.out hx HNS.out); rw [if_pos hx] at HQ2; clear hx; go_wp2_with fail; refine cm HC.out ?_; rintro e w6 ⟨rfl, hr6, ha6⟩; have HA6 := qh (HA5.out.next ha6)
        have HR6 := qh hr6; have HK6 := qh (KV.later HK5.out ha6 HLT.out); clear hr6 ha6; go_wp2_with fail; go_ret; exact ppOk HQ2.out.symm ⟨HK6.out, fun hh => absurd hh (by simp), by simp; omega⟩ HR6.out HA6.out
       ·
        have HC := qh (zwj c shut w5 j2 d HR5.out hx); rw [if_neg hx] at HQ2; clear hx; go_wp2_with fail; refine cm HC.out ?_; rintro e w6 ⟨rfl, hb6⟩; have HA6 := qh (HA5.out.next (Ap.of hb6))
        have HR6 := qh (HR5.out.later hb6); have HK6 := qh (KV.later HK5.out (Ap.of hb6) HLT.out); clear hb6 HC
        cases hr : zz0 c.l zh5 j2 with
        | out =>
         rw [hr] at HQ2; simp only [zqj] at HQ2; exact absurd HQ2.out.symm HO.out
        | bad er p =>
         have HC := qh (zz7 c zh5 w6 j2 d HR6.out (by decide)); rw [hr] at HC HQ2; simp only [zz6] at HQ2; clear hr; go_wp2_with fail; refine cm HC.out ?_; intro e w' hp; obtain ⟨rfl, ha⟩ := hp
         exact ⟨rfl, zq7 HQ2.out.symm (HA6.out.next ha)⟩
        | ok x7 j7 =>
         have HC := qh (zz7 c zh5 w6 j2 d HR6.out (by decide)); have h7 : j2 < j7 := by
          unfold zz0 at hr
          split at hr
          ·
           cases hr; omega
          ·
           cases hr
         rw [hr] at HC HQ2; simp only [zzv] at HQ2; clear hr; go_wp2_with fail; refine cm HC.out ?_; intro e w7 hp; obtain ⟨⟨v7, rfl, rfl⟩, hrd, ha⟩ := hp; have HA7 := qh (HA6.out.next ha); have HR7 := qh hrd
         have HK7 := qh (KV.later HK6.out ha HLT.out); have hlt7 := hrd.lt; clear hrd ha HC; go_wp2_with fail
         go_roundw
         case rel => exact ⟨k, acc ++ [t], j7, HQ2.out, HR7.out, HA7.out, HK7.out, by simp; omega⟩
         case measure => rw [zyq HR7.out, zyq HRM.out]; omega
def FOk (F : Fns) : Prop := ∀ d i t j, F.st d i = .ok t j → t.kd = 15 → ∃ v r, t.kids = v :: r
theorem deepP_ok {l : List Tk} {f : Nat → Nat → PR Tr} {d i j : Nat} {t : Tr} (h : zq2 l f d i = .ok t j) : f (d + 1) i = .ok t j := by
 unfold zq2 at h
 split at h
 ·
  cases h
 ·
  exact h
theorem blockLoop_all {l : List Tk} {F : Fns} (hF : FOk F) {d : Nat} : ∀ n acc i ts j, (∀ t ∈ acc, t.kd = 15 → ∃ v r, t.kids = v :: r) → zx7 l F d n acc i = .ok ts j → ∀ t ∈ ts, t.kd = 15 → ∃ v r, t.kids = v :: r := by
 intro n
 induction n with
 | zero => intro acc i ts j _ h; cases h
 | succ n ih =>
  intro acc i ts j hacc h; unfold zx7 at h
  split at h
  ·
   cases h; exact hacc
  ·
   cases hr : zq2 l F.st d i with
   | out => rw [hr] at h; cases h
   | bad er p => rw [hr] at h; cases h
   | ok t j1 =>
    rw [hr, zzv] at h; refine ih _ _ _ _ (fun u hu => ?_) h
    rcases List.mem_append.1 hu with hu | hu
    ·
     exact hacc u hu
    ·
     rw [List.mem_singleton] at hu; subst hu; exact hF _ _ _ _ (deepP_ok hr)
theorem zfv {l : List Tk} {F : Fns} (hF : FOk F) {d i j : Nat} {t : Tr} (h : zq0 l F d i = .ok t j) : ExprOk t := by
 unfold zq0 at h
 cases hm : zz0 l zz4 i with
 | out => rw [hm] at h; cases h
 | bad er p => rw [hm] at h; cases h
 | ok x j1 =>
  rw [hm, zzv] at h
  cases hb : zx7 l F d F.fuel [] j1 with
  | out => rw [hb] at h; cases h
  | bad er p => rw [hb] at h; cases h
  | ok ts j2 =>
   rw [hb, zzv] at h; cases h; intro k1 r hk h15; have hk' : ts = k1 :: r := hk; exact blockLoop_all hF _ _ _ _ _ (fun _ hu => absurd hu (by simp)) hb k1 (by rw [hk']; simp) h15
theorem en183 : ∀ args W, (callFunc 247 args).run Tryz.prog W = .ok (.enter 247 args) W := fun _ _ => by kernel_rfl
theorem en218 : ∀ args W, (callFunc 282 args).run Tryz.prog W = .ok (.enter 282 args) W := fun _ _ => by kernel_rfl
theorem en184 : ∀ args W, (callFunc 248 args).run Tryz.prog W = .ok (.enter 248 args) W := fun _ _ => by kernel_rfl
theorem zn7 (c : Ctx) : Asks c 247 (zw6 c.l) := fun w d i h => znq c w i d h
theorem arg_any {c : Ctx} {F : Fns} (hF : FC c F) : Does c 313 NV (argP c.l F) := by
 have hmf := zk2 c.R 243
 intro w d i r hs ho h
 have HR0 := qh h
 have HA0 := qh (Ap.refl c.R w.heap.size w)
 have HLT := qh h.rlt
 unfold argP at hs
 have HS := qh hs
 have HO := qh ho
 clear h hs ho
 go_enter Tryz.func313, Tryz.ntmps313
 cases hr : zq2 c.l F.vl d i with
 | out =>
  rw [hr] at HS; exact absurd HS.out.symm HO.out
 | bad er p =>
  have HC := qh (zdv hF w d i HR0.out (by rw [hr]; nofun))
  rw [hr] at HC HS; clear hr; go_wp2_with fail; refine cm HC.out ?_; intro e w' hp; obtain ⟨rfl, ha⟩ := hp; exact ⟨rfl, zq7 HS.out.symm (HA0.out.next ha)⟩
 | ok x1 j1 =>
  have HC := qh (zdv hF w d i HR0.out (by rw [hr]; nofun))
  rw [hr] at HC HS; clear hr; go_wp2_with fail; refine cm HC.out ?_; intro e w1 hp; obtain ⟨⟨v1, rfl, p1, rfl, hn1⟩, hrd, ha⟩ := hp; clear HC; have HA1 := qh (HA0.out.next ha); have HR1 := qh hrd
  have HN1 := qh (zww hn1 HA0.out.size); clear hn1; clear hrd ha HA0 HR0; go_wp2_with fail; go_ret; exact ppOk HS.out.symm ⟨p1, rfl, HN1.out⟩ HR1.out HA1.out
theorem param_any {c : Ctx} : Does c 282 NV (fun _ => zh7 c.l) := by
 intro w d i r hs ho h
 have HR0 := qh h
 have HA0 := qh (Ap.refl c.R w.heap.size w)
 have HLT := qh h.rlt
 dsimp only at hs
 unfold zh7 at hs
 have HS := qh hs
 have HO := qh ho
 clear h hs ho
 go_enter Tryz.func282, Tryz.ntmps282
 cases hr : zjq c.l i with
 | out =>
  rw [hr] at HS; simp only [zqj] at HS; exact absurd HS.out.symm HO.out
 | bad er p =>
  have HC := qh (zk1 c w i d HR0.out); rw [hr] at HC HS; simp only [zz6] at HS; clear hr; go_wp2_with fail; refine cm HC.out ?_; intro e w' hp; obtain ⟨rfl, ha⟩ := hp
  exact ⟨rfl, zq7 HS.out.symm (HA0.out.next ha)⟩
 | ok x1 j1 =>
  have HC := qh (zk1 c w i d HR0.out); rw [hr] at HC HS; simp only [zzv] at HS; clear hr; go_wp2_with fail; refine cm HC.out ?_; intro e w1 hp; obtain ⟨⟨v1, rfl, rfl⟩, hrd, ha⟩ := hp; clear HC
  have HA1 := qh (HA0.out.next ha); have HR1 := qh hrd; clear hrd ha HA0 HR0; have HC := qh (zqk 23 x1 (.slice none 0 0) w1 ⟨_, _, _, rfl⟩); go_wp2_with fail; refine cm HC.out ?_; rintro e wn ⟨rfl, rfl⟩
  clear HC; go_wp2_with fail; go_ret; obtain ⟨m1, m2, m3⟩ := made0 HR1.out HA1.out (KV.nil _ _) 23 x1 _ rfl; exact ppOk HS.out.symm m1.nv m2 m3
theorem prop_any {c : Ctx} {F : Fns} (hF : FC c F) : Does c 248 NV (zd8 c.l F) := by
 have hmf := zk2 c.R 243
 intro w d i r hs ho h
 have HR0 := qh h
 have HA0 := qh (Ap.refl c.R w.heap.size w)
 have HLT := qh h.rlt
 unfold zd8 at hs
 have HS := qh hs
 have HO := qh ho
 clear h hs ho
 go_enter Tryz.func248, Tryz.ntmps248
 cases hr : zjq c.l i with
 | out =>
  rw [hr] at HS; simp only [zqj] at HS; exact absurd HS.out.symm HO.out
 | bad er p =>
  have HC := qh (zk1 c w i d HR0.out); rw [hr] at HC HS; simp only [zz6] at HS; clear hr; go_wp2_with fail; refine cm HC.out ?_; intro e w' hp; obtain ⟨rfl, ha⟩ := hp
  exact ⟨rfl, zq7 HS.out.symm (HA0.out.next ha)⟩
 | ok x1 j1 =>
  have HC := qh (zk1 c w i d HR0.out); rw [hr] at HC HS; simp only [zzv] at HS; clear hr; go_wp2_with fail; refine cm HC.out ?_; intro e w1 hp; obtain ⟨⟨v1, rfl, rfl⟩, hrd, ha⟩ := hp; clear HC
  have HA1 := qh (HA0.out.next ha); have HR1 := qh hrd; clear hrd ha HA0 HR0
  cases hr : zz0 c.l tColon j1 with
  | out =>
   rw [hr] at HS; simp only [zqj] at HS; exact absurd HS.out.symm HO.out
  | bad er p =>
   have HC := qh (zz7 c tColon w1 j1 d HR1.out (by decide)); rw [hr] at HC HS; simp only [zz6] at HS; clear hr; go_wp2_with fail; refine cm HC.out ?_; intro e w' hp; obtain ⟨rfl, ha⟩ := hp
   exact ⟨rfl, zq7 HS.out.symm (HA1.out.next ha)⟩
  | ok x2 j2 =>
   have HC := qh (zz7 c tColon w1 j1 d HR1.out (by decide)); rw [hr] at HC HS; simp only [zzv] at HS; clear hr; go_wp2_with fail; refine cm HC.out ?_; intro e w2 hp; obtain ⟨⟨v2, rfl, rfl⟩, hrd, ha⟩ := hp
   clear HC; have HA2 := qh (HA1.out.next ha); have HR2 := qh hrd; clear hrd ha HA1 HR1
   cases hr : zq2 c.l F.vl d j2 with
   | out =>
    rw [hr] at HS; simp only [zqj] at HS; exact absurd HS.out.symm HO.out
   | bad er p =>
    have HC := qh (zdv hF w2 d j2 HR2.out (by rw [hr]; nofun))
    rw [hr] at HC HS; simp only [zz6] at HS; clear hr; go_wp2_with fail; refine cm HC.out ?_; intro e w' hp; obtain ⟨rfl, ha⟩ := hp; exact ⟨rfl, zq7 HS.out.symm (HA2.out.next ha)⟩
   | ok x3 j3 =>
    have HC := qh (zdv hF w2 d j2 HR2.out (by rw [hr]; nofun))
    rw [hr] at HC HS; simp only [zzv] at HS; clear hr; go_wp2_with fail; refine cm HC.out ?_; intro e w3 hp; obtain ⟨⟨v3, rfl, p3, rfl, hn3⟩, hrd, ha⟩ := hp; clear HC; have HA3 := qh (HA2.out.next ha)
    have HR3 := qh hrd; have HN3 := qh (zww hn3 HA2.out.size); clear hn3; clear hrd ha HA2 HR2
    have HC := qh (zqk 39 x1 (.slice (some ⟨w3.heap.size, 0, none⟩) 1 1) (w3.alloc (.cells #[nPtr p3] 22)) ⟨_, _, _, rfl⟩); go_wp2_with fail; refine cm HC.out ?_; rintro e wn ⟨rfl, rfl⟩; clear HC; go_wp2_with fail
    go_ret; obtain ⟨m1, m2, m3⟩ := made HR3.out HA3.out (NAts.cons HN3.out NAts.nil) (by simp [maxLen]) #[nPtr p3] rfl 1 rfl 39 x1 (w3.heap.size + 1) rfl; exact ppOk HS.out.symm m1.nv m2 m3
theorem paramP_go {c : Ctx} (hE : Ends c.l) (d i : Nat) (t : Tr) (j : Nat) (hi : i < c.l.length) (h : (fun (_ : Nat) => zh7 c.l) d i = .ok t j) : i < j := ((paramP_nx (q := True) hE hi).2 t j h).1
theorem propP_go {c : Ctx} {F : Fns} {k : Nat} (hN : FNx c.l k F) (hE : Ends c.l) (d i : Nat) (t : Tr) (j : Nat) (hi : i < c.l.length) (h : zd8 c.l F d i = .ok t j) : i < j := ((propP_nx (q := False) hE hN hi (fun h => h.elim)).2 t j h).1
theorem argP_go {c : Ctx} {F : Fns} {k : Nat} (hN : FNx c.l k F) (d i : Nat) (t : Tr) (j : Nat) (hi : i < c.l.length) (h : argP c.l F d i = .ok t j) : i < j := ((argP_nx (q := False) hN hi (fun h => h.elim)).2 t j h).1
theorem params_any {c : Ctx} {F : Fns} : Does c 245 NV (fun _ => zyw c.l F) := by
 have hmf := zk2 c.R 247
 have hmf2 := zk2 c.R 282
 intro w d i r hs ho h
 have HE := qh h.base.ends
 have HR0 := qh h
 have HA0 := qh (Ap.refl c.R w.heap.size w)
 have HLT := qh h.rlt
 dsimp only at hs
 unfold zyw at hs
 have HS := qh hs
 have HO := qh ho
 clear h hs ho
 go_enter Tryz.func245, Tryz.ntmps245
 cases hr : zg9 c.l zxk zjy (zw6 c.l) (zh7 c.l) F.fuel i with
 | out =>
  rw [hr] at HS; simp only [zqj] at HS; exact absurd HS.out.symm HO.out
 | bad er p =>
  have HC := qh (zgv 247 282 (zw6 c.l) (fun _ => zh7 c.l) zxk zjy (zn7 c) param_any en183 en218 (by decide) (by decide) (paramP_go HE.out) F.fuel w d i _ rfl (by rw [hr]; nofun) HR0.out)
  rw [hr] at HC HS; simp only [zz6] at HS; clear hr; go_wp2_with fail; refine cm HC.out ?_; intro e w' hp; obtain ⟨rfl, ha⟩ := hp; exact ⟨rfl, zq7 HS.out.symm (HA0.out.next ha)⟩
 | ok x1 j1 =>
  have HC := qh (zgv 247 282 (zw6 c.l) (fun _ => zh7 c.l) zxk zjy (zn7 c) param_any en183 en218 (by decide) (by decide) (paramP_go HE.out) F.fuel w d i _ rfl (by rw [hr]; nofun) HR0.out)
  rw [hr] at HC HS; simp only [zzv] at HS; clear hr; go_wp2_with fail; refine cm HC.out ?_; intro e w1 hp; obtain ⟨⟨v1, rfl, hn1⟩, hrd, ha⟩ := hp; clear HC; have HA1 := qh (HA0.out.next ha); have HR1 := qh hrd
  have HN1 := qh (KV.mono hn1.1 HA0.out.size); clear hn1; clear hrd ha HA0 HR0; obtain ⟨va, vc, rfl⟩ := HN1.out.shape; have HC := qh (zqk 40 zzx (.slice va x1.length vc) w1 ⟨_, _, _, rfl⟩); go_wp2_with fail
  refine cm HC.out ?_; rintro e wn ⟨rfl, rfl⟩; clear HC; go_wp2_with fail; go_ret; obtain ⟨m1, m2, m3⟩ := made0 HR1.out HA1.out HN1.out 40 zzx _ rfl; exact ppOk HS.out.symm m1.nv m2 m3
theorem object_any {c : Ctx} {F : Fns} (hF : FC c F) (hN : ∃ k, FNx c.l k F) : Does c 172 NV (zd9 c.l F) := by
 have hmf := zk2 c.R 247
 have hmf2 := zk2 c.R 248
 obtain ⟨k, hN⟩ := hN
 intro w d i r hs ho h
 have HE := qh h.base.ends
 have HNX := qh hN
 clear hN
 have HR0 := qh h
 have HA0 := qh (Ap.refl c.R w.heap.size w)
 have HLT := qh h.rlt
 unfold zd9 at hs
 have HS := qh hs
 have HO := qh ho
 clear h hs ho
 go_enter Tryz.func172, Tryz.ntmps172
 cases hr : zg9 c.l zz4 zvq (zw6 c.l) (zd8 c.l F d) F.fuel i with
 | out =>
  rw [hr] at HS; simp only [zqj] at HS; exact absurd HS.out.symm HO.out
 | bad er p =>
  have HC := qh (zgv 247 248 (zw6 c.l) (zd8 c.l F) zz4 zvq (zn7 c) (prop_any hF) en183 en184 (by decide) (by decide) (propP_go HNX.out HE.out) F.fuel w d i _ rfl (by rw [hr]; nofun) HR0.out)
  rw [hr] at HC HS; simp only [zz6] at HS; clear hr; go_wp2_with fail; refine cm HC.out ?_; intro e w' hp; obtain ⟨rfl, ha⟩ := hp; exact ⟨rfl, zq7 HS.out.symm (HA0.out.next ha)⟩
 | ok x1 j1 =>
  have HC := qh (zgv 247 248 (zw6 c.l) (zd8 c.l F) zz4 zvq (zn7 c) (prop_any hF) en183 en184 (by decide) (by decide) (propP_go HNX.out HE.out) F.fuel w d i _ rfl (by rw [hr]; nofun) HR0.out)
  rw [hr] at HC HS; simp only [zzv] at HS; clear hr; go_wp2_with fail; refine cm HC.out ?_; intro e w1 hp; obtain ⟨⟨v1, rfl, hn1⟩, hrd, ha⟩ := hp; clear HC; have HA1 := qh (HA0.out.next ha); have HR1 := qh hrd
  have HN1 := qh (KV.mono hn1.1 HA0.out.size); clear hn1; clear hrd ha HA0 HR0; obtain ⟨va, vc, rfl⟩ := HN1.out.shape; have HC := qh (zqk 38 zzx (.slice va x1.length vc) w1 ⟨_, _, _, rfl⟩); go_wp2_with fail
  refine cm HC.out ?_; rintro e wn ⟨rfl, rfl⟩; clear HC; go_wp2_with fail; go_ret; obtain ⟨m1, m2, m3⟩ := made0 HR1.out HA1.out HN1.out 38 zzx _ rfl; exact ppOk HS.out.symm m1.nv m2 m3
theorem empty_any {c : Ctx} : Does c 166 NV (fun _ i => (zz0 c.l zz9 i).bind fun _ i1 => .ok (.mk 16 zzx 0 []) i1) := by
 intro w d i r hs ho h
 have HR0 := qh h
 have HA0 := qh (Ap.refl c.R w.heap.size w)
 have HLT := qh h.rlt
 dsimp only at hs
 have HS := qh hs
 have HO := qh ho
 clear h hs ho
 go_enter Tryz.func166, Tryz.ntmps166
 cases hr : zz0 c.l zz9 i with
 | out =>
  rw [hr] at HS; simp only [zqj] at HS; exact absurd HS.out.symm HO.out
 | bad er p =>
  have HC := qh (zz7 c zz9 w i d HR0.out (by decide)); rw [hr] at HC HS; simp only [zz6] at HS; clear hr; go_wp2_with fail; refine cm HC.out ?_; intro e w' hp; obtain ⟨rfl, ha⟩ := hp
  exact ⟨rfl, zq7 HS.out.symm (HA0.out.next ha)⟩
 | ok x1 j1 =>
  have HC := qh (zz7 c zz9 w i d HR0.out (by decide)); rw [hr] at HC HS; simp only [zzv] at HS; clear hr; go_wp2_with fail; refine cm HC.out ?_; intro e w1 hp; obtain ⟨⟨v1, rfl, rfl⟩, hrd, ha⟩ := hp; clear HC
  have HA1 := qh (HA0.out.next ha); have HR1 := qh hrd; clear hrd ha HA0 HR0; have HC := qh (zqk 16 zzx (.slice none 0 0) w1 ⟨_, _, _, rfl⟩); go_wp2_with fail; refine cm HC.out ?_; rintro e wn ⟨rfl, rfl⟩
  clear HC; go_wp2_with fail; go_ret; obtain ⟨m1, m2, m3⟩ := made0 HR1.out HA1.out (KV.nil _ _) 16 zzx _ rfl; exact ppOk HS.out.symm m1.nv m2 m3
theorem mapOf_snoc (l : List (ByteArray × Value)) (k : ByteArray) (v : Value) : (zx5 l).push { key := .string k, val := v, born := l.length } = zx5 (l ++ [(k, v)]) := by
 unfold zx5
 rw [List.zipIdx_append, List.map_append]
 simp [mkE, List.zipIdx]
def zjx (W : World) (m : Nat) (o : Obj) : World := { W with heap := W.heap.setIfInBounds m o }
theorem zbx (W : World) (m : Nat) (o : Obj) : (zjx W m o).heap.size = W.heap.size := by simp [zjx]
theorem zf6 {W : World} {m : Nat} {o : Obj} (h : m < W.heap.size) : (zjx W m o).heap[m]? = some o := by simp [zjx, h]
theorem zj8 {W : World} {m k : Nat} {o : Obj} (h : k ≠ m) : (zjx W m o).heap[k]? = W.heap[k]? := by simp [zjx, Ne.symm h]
theorem zf5 {B : Nat} {w W : World} {m : Nat} {o : Obj} (h : Below B w W) (hm : B ≤ m) : Below B w (zjx W m o) :=
 ⟨h.os, h.tape, h.output, by rw [zbx]; exact h.size, fun k hk => by rw [zj8 (by omega)]; exact h.block k hk⟩
theorem zgq (T E : TypeId) (m : Nat) (l : List (ByteArray × Value)) (s : ByteArray) (v : Value) (W : World) (hT : Tryz.prog.underlying T = some (.map 9 E)) (hm : W.heap[m]? = some (.map (zx5 l) l.length)) (hn : l.find? (fun e => decide (s = e.1)) = none) :
  (Instr.mapUpdate T (.map (some m)) (.string s) v).run Tryz.prog W = .ok () (zjx W m (.map (zx5 (l ++ [(s, v)])) (l.length + 1))) := by
 obtain ⟨o, h1, h2⟩ := zmx s l 0 0
 have h9 := Tryz.underlying9
 have ho : o = none := by
  rw [hn] at h2
  cases o with
  | none => rfl
  | some y => simp at h2
 subst ho
 have h3 : (Instr.findKey 9 (.string s) (zx5 l).toList).run Tryz.prog W = .ok none W := by
  unfold Instr.findKey; rw [Sem.run_bind, run_underlying h9 W]; simp only [Result.andThen_ok, zx5]; rw [h1]; rfl
 have hck : ∀ b, (Instr.checkKey b 10000 9 (.string s)).run Tryz.prog W = .ok () W := by
  intro b; rw [Instr.checkKey, Sem.run_bind, run_underlying h9 W]; rfl
 have hg : (getObj m).run Tryz.prog W = .ok (.map (zx5 l) l.length) W := by simp [getObj, Sem.run, hm]
 unfold Instr.mapUpdate
 rw [Sem.run_bind, run_underlying hT W]
 simp only [Result.andThen_ok, Sem.run_bind, hg, hck, h3]
 rw [mapOf_snoc]
 simp [setObj, Sem.run, hm, zjx]
theorem mkMap (T : TypeId) (W : World) : (Instr.makeMap T none).run Tryz.prog W = .ok (.map (some W.heap.size)) (W.alloc (.map #[] 0)) := rfl
def sgCells : Array Value := (sgs.flatMap fun e => [.string e.tx, .int .i64 e.kd, .int .i64 e.parts, .int .i64 e.str]).toArray
theorem sgSize : sgCells.size = 56 := by decide +kernel
theorem sgIdx (k : Nat) (hk : k < 14) (W : World) : (Instr.index 190 (.agg sgCells) (.int .i64 (k : Int))).run Tryz.prog W = .ok (sgV (sgs.getD k ⟨zzx, 0, 0, 0⟩)) W := by
 have h : k = 0 ∨ k = 1 ∨ k = 2 ∨ k = 3 ∨ k = 4 ∨ k = 5 ∨ k = 6 ∨ k = 7 ∨ k = 8 ∨ k = 9 ∨ k = 10 ∨ k = 11 ∨ k = 12 ∨ k = 13 := by omega
 rcases h with rfl | rfl | rfl | rfl | rfl | rfl | rfl | rfl | rfl | rfl | rfl | rfl | rfl | rfl <;> (show _ = _; kernel_rfl)
def sgL (j : Nat) : List (ByteArray × Value) := (sgs.take j).map fun e => (e.tx, sgV e)
theorem sgL_len {j : Nat} (hj : j ≤ 14) : (sgL j).length = j := by
 unfold sgL
 rw [List.length_map, List.length_take]
 have : sgs.length = 14 := rfl
 omega
theorem sgL_next {j : Nat} (hj : j < 14) : sgL (j + 1) = sgL j ++ [((sgs.getD j ⟨zzx, 0, 0, 0⟩).tx, sgV (sgs.getD j ⟨zzx, 0, 0, 0⟩))] := by
 have h : j = 0 ∨ j = 1 ∨ j = 2 ∨ j = 3 ∨ j = 4 ∨ j = 5 ∨ j = 6 ∨ j = 7 ∨ j = 8 ∨ j = 9 ∨ j = 10 ∨ j = 11 ∨ j = 12 ∨ j = 13 := by omega
 rcases h with rfl | rfl | rfl | rfl | rfl | rfl | rfl | rfl | rfl | rfl | rfl | rfl | rfl | rfl <;> rfl
theorem sgL_new {j : Nat} (hj : j < 14) : (sgL j).find? (fun e => decide ((sgs.getD j ⟨zzx, 0, 0, 0⟩).tx = e.1)) = none := by
 have key : ∀ j, j < 14 → ((sgs.take j).map (·.tx)).find? (fun e => decide ((sgs.getD j ⟨zzx, 0, 0, 0⟩).tx = e)) = none := by decide +kernel
 have := key j hj
 unfold sgL
 rw [List.find?_map] at this ⊢
 simpa [Function.comp_def] using this
theorem signsByText_any (w : World) (t : TypeId) (fr : Nat × Nat) (hg : w.heap[2]? = some (.cells sgCells t fr)) :
  Calls Tryz.prog 162 #[] w fun e w' => e = .returned (.map (some w.heap.size)) ∧ w'.heap[w.heap.size]? = some (.map sgMap 14) ∧ Below w.heap.size w w' := by
 have HG : Hid ((w.alloc (.map #[] 0)).heap[2]? = some (.cells sgCells t fr)) := (Below.heap_alloc w _ 2 (zzz hg)).trans hg
 obtain ⟨cs, hcs⟩ : ∃ cs, cs = sgCells := ⟨_, rfl⟩
 have hix : ∀ k : Nat, k < 14 → ∀ W, (Instr.index 190 (.agg cs) (.int .i64 (k : Int))).run Tryz.prog W = .ok (sgV (sgs.getD k ⟨zzx, 0, 0, 0⟩)) W := by rw [hcs]; exact sgIdx
 have hsz : cs.size = 56 := by rw [hcs]; exact sgSize
 rw [← hcs] at HG
 have HIX := qh hix
 have Hsz := qh hsz
 have hmk := mkMap 199
 clear hg hix hcs hsz
 go_enter Tryz.func162, Tryz.ntmps162
 go_wp2_with (refine wpList_load_row rfl 190 _ rfl 2 rfl t cs fr _ HG.out Tryz.underlying190 rfl (by rw [Hsz.out]; kernel_rfl) ?_)
 go_loopw [6] (fun i wr => ∃ j : Nat, j ≤ 14 ∧ i = .int .i64 j ∧ wr.heap[w.heap.size]? = some (.map (zx5 (sgL j)) j) ∧ Below w.heap.size w wr) (fun i _ => 14 - (intOf i).toNat)
 case atStart => exact ⟨0, Nat.zero_le _, rfl, zqx _ _, qb.alloc qv _⟩
 case round =>
  obtain ⟨j, hj, rfl, hm, hb⟩ := hrel; have HM := qh hm; have HB := qh hb; clear hm hb
  by_cases hlt : j < 14
  ·
   have hck := zzq HIX j hlt; obtain ⟨x, hx⟩ : ∃ x, x = sgs.getD j ⟨zzx, 0, 0, 0⟩ := ⟨_, rfl⟩
   have hm2 : (wr.alloc (.cells #[.string x.tx, .int .i64 x.kd, .int .i64 x.parts, .int .i64 x.str] 189)).heap[w.heap.size]? = some (.map (zx5 (sgL j)) (sgL j).length) := by
    rw [sgL_len (by omega)]; exact (Below.heap_alloc _ _ _ (zzz HM.out)).trans HM.out
   have hup := zgq 199 189 w.heap.size (sgL j) x.tx (sgV x) _ Tryz.underlying199 hm2 (by rw [hx]; exact sgL_new hlt)
   rw [← hx] at hck; have HX := qh hx; have HM2 := qh hm2; simp only [sgV] at hck hup; clear hx hm2; go_wp2_with fail
   go_roundw
   case rel =>
    refine ⟨j + 1, by omega, by go_num, ?_, zf5 (HB.out.alloc HB.out.size _) qv⟩; rw [zf6 (by simp; have := HB.out.size; omega), sgL_next hlt, ← HX.out, sgL_len (by omega)]
    rfl
   case measure => simp [intOf]; omega
  ·
   have hj14 : j = 14 := by omega
   subst hj14; go_wp2_with fail; go_ret; exact ⟨rfl, HM.out, HB.out⟩
end Go.Proofs.YtoimgcjbcbhclaaGreatDoor
