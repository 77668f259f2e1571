/-
  Rows of parts that grow; blocks; lists.
-/
import Derived.Test.YtodmgaikhbmlnaaGreatDoorHn0
import Derived.Test.YtodmgaikhbmlnaaGreatDoorHn3
import Derived.Deep.AppendLies
import Derived.MapKept
import Derived.Deep.MidRow
import Derived.Laws.AppendOwnNone
set_option maxRecDepth 100000
set_option maxHeartbeats 16000000
namespace Go.Proofs.YtodmgaikhbmlnaaGreatDoor
open Go.RowKit
theorem zkw : (Tryz.prog.info? 22).map (fun i => (i.zero, i.size, i.bytes)) = some (some (.pointer none), 1, 8) := by kernel_rfl
theorem KV.shape {B : Nat} {w : World} {ts : List Tr} {v : Value} (h : KV B w ts v) : ∃ a cap, v = .slice a ts.length cap := by
 obtain ⟨ps, hr, hk⟩ := h
 rw [← NAts.length _ _ hk]
 exact zj2 hr
theorem KV.own {B : Nat} {w : World} {ts : List Tr} {v : Value} (h : KV B w ts v) (g : Nat) (hg : v.ownBlock = some g) : g < w.heap.size ∧ B ≤ g := by
 obtain ⟨ps, hr, _⟩ := h
 exact zxj hr g hg
theorem KV.mono {B B' : Nat} {w : World} {ts : List Tr} {v : Value} (h : KV B w ts v) (hB : B' ≤ B) : KV B' w ts v := by
 obtain ⟨ps, hr, hk⟩ := h
 refine ⟨ps, ⟨hr.1, ?_⟩, NAts.mono (fun b h _ => ⟨by omega, h.2⟩) _ _ hk⟩
 rcases hr.2 with hn | ⟨g, cap, cur, hv, hb, rest⟩
 ·
  exact Or.inl hn
 ·
  exact Or.inr ⟨g, cap, cur, hv, by omega, rest⟩
theorem zg2 {B : Nat} {w1 w3 : World} {ts us : List Tr} {v : Value} {ps qs : List Nat} {g cap n : Nat} {o : Obj} (hk : NAts (fun b => B ≤ b ∧ v.ownBlock ≠ some b) w1 ts ps)
  (ht : NAts (fun b => B ≤ b ∧ v.ownBlock ≠ some b) w1 us qs) (hown : w3.ownsRow B 22 1 (.slice (some ⟨g, 0, none⟩) n cap) n ((ps ++ qs).map nPtr)) (hn : n = (ps ++ qs).length) (hgr : (w1.alloc o).grownBy w3 v.ownBlock)
  (hg : v.ownBlock = some g ∨ g = w1.heap.size + 1) : KV B w3 (ts ++ us) (.slice (some ⟨g, 0, none⟩) n cap) := by
 subst hn
 refine ⟨ps ++ qs, hown, ?_⟩
 have hs : Stay (fun b => B ≤ b ∧ b ≠ g ∧ v.ownBlock ≠ some b) w1 w3 := by
  intro b hb hl; have h1 : Below w1.heap.size w1 (w1.alloc o) := qb.alloc qv _; rw [← h1.block b hl]; exact hgr.block b (by simp; omega) (fun e => hb.2.2 e.symm)
 have h0 := NAts.mono (J := fun b => B ≤ b ∧ b ≠ g ∧ v.ownBlock ≠ some b) (fun b hb hl => ⟨hb.1, fun e => by (rcases hg with hg | hg); (exact hb.2 (by rw [hg, e])); omega, hb.2⟩) _ _ (NAts.append ht _ _ hk)
 exact NAts.mono (fun b hb _ => ⟨hb.1, fun e => by simp only [Value.ownBlock, Option.some.injEq] at e; exact hb.2.1 e.symm⟩) _ _ (NAts.later hs _ _ h0)
def nxt (c : Ctx) (w : World) : Nat := match w.cell? ⟨c.R, 1, none⟩ with | some (.int _ v) => v.toNat | _ => 0
theorem zyk {c : Ctx} {w : World} {i d : Nat} (h : Rdr c w i d) : nxt c w = i := by unfold nxt; rw [h.c1]; rfl
theorem zq3 (w : World) (p H : Nat) (h : w.heap.size = H) : ∀ j u, [nPtr p][j]? = some u → (w.alloc (.cells #[nPtr p] 22)).cell? ((⟨H, 0, none⟩ : Addr).add j) = some u := by
 intro j u hj
 match j, hj with
 | 0, hj =>
  simp only [List.getElem?_cons_zero, Option.some.injEq] at hj; subst hj; subst h; rw [show (⟨w.heap.size, 0, none⟩ : Addr).add 0 = ⟨w.heap.size, 0, none⟩ from rfl, zqj (zqx _ _)]; rfl
 | j + 1, hj => simp at hj
theorem zxy (p : Nat) : ∀ u ∈ [nPtr p], u.oneCell' = true := by
 intro u hu
 simp only [List.mem_singleton] at hu
 subst hu; rfl
theorem zb7 {B : Nat} {w w1 : World} {ts : List Tr} {v : Value} {t : Tr} {p : Nat} (hk : KV B w ts v) (hB : B ≤ w.heap.size) (hn : NAt (From w.heap.size) w1 t p) : NAt (fun b => B ≤ b ∧ v.ownBlock ≠ some b) w1 t p :=
 NAt.mono (fun b hb _ => ⟨Nat.le_trans hB hb, fun e => by have := (hk.own b e).1; have : w.heap.size ≤ b := hb; omega⟩) _ _ hn
theorem zxk {c : Ctx} {F : Fns} (hF : FC c F) (hN : ∃ k, FNx c.l k F) : Does c 159 EV (zq2 c.l F) := by
 have hmf := zk5 c.R 170
 intro w d i r hs ho h
 have HR0 := qh h
 have HE := qh h.base.ends
 have HL := qh h.base.len
 have HLO := qh h.base.size
 obtain ⟨i0, hi0, hz0, hz1, hz2⟩ := info_parts zkw
 have HA0 := qh (Ap.refl c.R w.heap.size w)
 have HLT := qh h.rlt
 have HFC := qh hF
 have HNX := qh hN
 unfold zq2 at hs
 have HS := qh hs
 have HO := qh ho
 clear h hs ho hF hN
 go_enter Tryz.func159, Tryz.ntmps159
 cases hr : zz0 c.l zz4 i with
 | out =>
  rw [hr] at HS; simp only [zqv] at HS; exact absurd HS.out.symm HO.out
 | bad er p =>
  have HC := qh (zz8 c zz4 w i d HR0.out (by decide)); rw [hr] at HC HS; simp only [zz6] at HS; clear hr; go_wp2_with fail; refine cm HC.out ?_; intro e w' hp; obtain ⟨rfl, ha⟩ := hp
  exact ⟨rfl, zq9 HS.out.symm (HA0.out.next ha)⟩
 | ok x1 j1 =>
  have HC := qh (zz8 c zz4 w i d HR0.out (by decide)); rw [hr] at HC HS; simp only [zzv] at HS; clear hr; go_wp2_with fail; refine cm HC.out ?_; intro e w1 hp; obtain ⟨⟨v1, rfl, rfl⟩, hrd, ha⟩ := hp
  have HA1 := qh (HA0.out.next ha); have HR1 := qh hrd; clear hrd ha HC HA0 HR0; go_wp2_with fail
  go_loopw [3] (fun v wr => ∃ k acc j, (zx7 c.l F d k acc j).bind (fun ts i2 => PR.ok (.mk 6 zzx 0 ts) i2) = r ∧ Rdr c wr j d ∧ Ap c.R w.heap.size w wr ∧ KV w.heap.size wr acc v ∧ acc.length ≤ j) (fun _ wr => c.l.length - nxt c wr)
  case atStart => exact ⟨F.fuel, [], j1, HS.out, HR1.out, HA1.out, KV.nil _ _, Nat.zero_le _⟩
  case round =>
   obtain ⟨k, acc, j, hq, hrd, hap, hkv, hle⟩ := hrel
   cases k with
   | zero => exact absurd hq.symm HO.out
   | succ k =>
    have hL := zzz HL; have hjl := hrd.lt; have HR2 := qh hrd; have HRM := qh hrd; have HA2 := qh hap; have HK2 := qh hkv; have HLE := qh hle
    by_cases hx : fx c.l j = zvv
    ·
     have HQ : Hid (PR.ok (.mk 6 zzx 0 acc) (j + 1) = r) := by
      unfold zx7 at hq; rw [if_pos hx, zzv] at hq; exact hq
     have HC := qh (zk0 c zvv wr j d hrd hx (by decide)); obtain ⟨va, vc, rfl⟩ := hkv.shape; clear hq hrd hap hkv hle hx; go_wp2_with fail; refine cm HC.out ?_; rintro e w3 ⟨rfl, hr3, ha3⟩
     have HA3 := qh (HA2.out.next ha3); have HR3 := qh hr3; have HK3 := qh (KV.later HK2.out ha3 HLT.out); clear hr3 ha3 HC HA2 HR2 HK2; have HC := qh (zqw 6 zzx (.slice va acc.length vc) w3 ⟨_, _, _, rfl⟩)
     go_wp2_with fail; refine cm HC.out ?_; rintro e wn ⟨rfl, rfl⟩; clear HC; go_wp2_with fail; go_ret; obtain ⟨m1, m2, m3⟩ := made0 HR3.out HA3.out HK3.out 6 zzx _ rfl; exact ppOk HQ.out.symm m1 m2 m3
    ·
     have HQ : Hid ((zq4 c.l F.st d j).bind (fun t i1 => (zx7 c.l F d k (acc ++ [t]) i1).bind fun ts i2 => PR.ok (.mk 6 zzx 0 ts) i2) = r) := by
      unfold zx7 at hq; rw [if_neg hx] at hq; rw [← hq]
      cases zq4 c.l F.st d j <;> rfl
     have HC := qh (zw0 c zvv wr j d hrd hx); clear hq hrd hap hkv hle hx
     cases hr : zq4 c.l F.st d j with
     | out =>
      rw [hr] at HQ; simp only [zqv] at HQ; exact absurd HQ.out.symm HO.out
     | bad er p =>
      have HRR := qh hr; rw [hr] at HQ; simp only [zz6] at HQ; clear hr; go_wp2_with fail; refine cm HC.out ?_; rintro e w3 ⟨rfl, hb3⟩; have HA3 := qh (HA2.out.next (Ap.of hb3))
      have HR3 := qh (HR2.out.later hb3); clear hb3 HC HA2 HR2; have HC := qh (deepS HFC.out w3 d j HR3.out (by rw [HRR.out]; nofun))
      rw [HRR.out] at HC; go_wp2_with fail; refine cm HC.out ?_; intro e w' hp; obtain ⟨rfl, ha⟩ := hp; exact ⟨rfl, zq9 HQ.out.symm (HA3.out.next ha)⟩
     | ok t j2 =>
      have HRR := qh hr; rw [hr] at HQ; simp only [zzv] at HQ; clear hr; go_wp2_with fail; refine cm HC.out ?_; rintro e w3 ⟨rfl, hb3⟩; have HA3 := qh (HA2.out.next (Ap.of hb3))
      have HR3 := qh (HR2.out.later hb3); have HK3 := qh (KV.later HK2.out (Ap.of hb3) HLT.out); clear hb3 HC HA2 HR2 HK2; have HC := qh (deepS HFC.out w3 d j HR3.out (by rw [HRR.out]; nofun))
      rw [HRR.out] at HC; go_wp2_with fail; refine cm HC.out ?_; intro e w4 hp; obtain ⟨⟨v4, rfl, p4, rfl, hn4⟩, hrd, ha⟩ := hp; have HA4 := qh (HA3.out.next ha); have HR4 := qh hrd
      have HN4 := qh (zb7 HK3.out HA3.out.size hn4); have HK4 := qh (KV.later HK3.out ha HLT.out); have hlt2 := hrd.lt; have hgt : j < j2 := by
       obtain ⟨kk, hkk⟩ := zzz HNX; exact ((zk1 (l := c.l) (d := d) (hkk.st (d + 1) j hjl)).2 t j2 HRR.out).1
      clear hrd ha hn4 HC HA3 HR3 HK3; obtain ⟨ps, hown, hk4⟩ := zzz HK4; have hlen := NAts.length _ _ hk4; have hOB := zxj hown; rw [hlen] at hown; have HOWN := qh hown; have HLEN := qh hlen
      have HKK := qh hk4; have hsz := HA4.out.size; have hle := zzz HLE; have HOB := qh hOB; clear hown hk4 HK4 hOB hlen
      go_wp2_with (at_builtin; refine wpList_append_lies _ rfl _ _ 36 rfl w.heap.size 22 i0 (.pointer none) 1 8 Tryz.underlying36 hi0 hz0 hz1 hz2 rfl (by decide) _ _ _ rfl (HOWN.out.alloc _) ⟨w4.heap.size, 0, none⟩ 1 1 [nPtr p4] rfl rfl (zq3 w4 p4 _ rfl) (zxy p4) (by decide) (by unfold maxLen; omega) (by omega) (by simp; omega) (w4.heap.size + 1) (by simp) ?_)
      intro g cap w5 hown' hgrow hg _
      have HK5 : Hid (KV w.heap.size w5 (acc ++ [t]) (.slice (some ⟨g, 0, none⟩) (acc.length + 1) cap)) := zg2 HKK.out (NAts.cons HN4.out NAts.nil) (by rw [List.map_append]; exact hown') (by simp [HLEN.out]) hgrow hg
      have HA5 := qh ((HA4.out.alloc hsz (.cells #[nPtr p4] 22)).grown hgrow (by simp; omega) (fun k hk => (zzz HOB k hk).2))
      have HR5 := qh (HR4.out.ap (((Below.refl w.heap.size w4).alloc hsz (.cells #[nPtr p4] 22)).grown hgrow (by simp; omega) (fun k hk => (zzz HOB k hk).2)) HLO.out)
      clear hown' hgrow hg HKK HOWN; go_wp2_with fail
      go_roundw
      case rel => exact ⟨k, acc ++ [t], j2, HQ.out, HR5.out, HA5.out, HK5.out, by simp; omega⟩
      case measure => rw [zyk HR5.out, zyk HRM.out]; omega
def Asks (c : Ctx) (f : Nat) (b : Nat → Bool) : Prop :=
 ∀ w d i, Rdr c w i d → Calls Tryz.prog f #[rPtr c] w fun e w' => e = .returned (.bool (b i)) ∧ Below w.heap.size w w'
def LV (B : Nat) (w : World) (ts : List Tr) (v : Value) : Prop := KV B w ts v ∧ (ts = [] → v = .slice none 0 0) ∧ ts.length ≤ 3001
theorem zg9 {c : Ctx} (fb fp : Nat) (begins : Nat → Bool) (sp : Nat → Nat → PR Tr) (opn shut : ByteArray) (hb : Asks c fb begins) (hp : Does c fp NV sp)
  (enb : ∀ args W, (callFunc fb args).run Tryz.prog W = .ok (.enter fb args) W) (enp : ∀ args W, (callFunc fp args).run Tryz.prog W = .ok (.enter fp args) W)
  (hno : opn ≠ zzx) (hns : shut ≠ zzx) (hgo : ∀ d i t j, i < c.l.length → sp d i = .ok t j → i < j)
  (k : Nat) (w : World) (d i : Nat) (r : PR (List Tr)) (hs : znz c.l opn shut begins (sp d) k i = r) (ho : r ≠ .out) (h : Rdr c w i d) :
  Calls Tryz.prog 225 #[rPtr c, .string opn, .string shut, zd8 c.R fb, zd8 c.R fp] w (zk6 c w d (LV w.heap.size) r) := by
 have HR0 := qh h
 have HL := qh h.base.len
 have HLO := qh h.base.size
 obtain ⟨i0, hi0, hz0, hz1, hz2⟩ := info_parts zkw
 have HA0 := qh (Ap.refl c.R w.heap.size w)
 have HLT := qh h.rlt
 have HB := qh hb
 have HP := qh hp
 have HNO := qh hno
 have HNS := qh hns
 have HGO := qh hgo
 unfold znz at hs
 have HS := qh hs
 have HO := qh ho
 clear h hs ho hb hp hno hns hgo
 unfold zd8
 go_enter Tryz.func225, Tryz.ntmps225
 cases hr : zz0 c.l opn i with
 | out =>
  rw [hr] at HS; simp only [zqv] at HS; exact absurd HS.out.symm HO.out
 | bad er p =>
  have HC := qh (zz8 c opn w i d HR0.out HNO.out); rw [hr] at HC HS; simp only [zz6] at HS; clear hr; go_wp2_with fail; refine cm HC.out ?_; intro e w' hp; obtain ⟨rfl, ha⟩ := hp
  exact ⟨rfl, zq9 HS.out.symm (HA0.out.next ha)⟩
 | ok x1 j1 =>
  have HC := qh (zz8 c opn w i d HR0.out HNO.out); rw [hr] at HC HS; simp only [zzv] at HS; clear hr; go_wp2_with fail; refine cm HC.out ?_; intro e w1 hp; obtain ⟨⟨v1, rfl, rfl⟩, hrd, ha⟩ := hp
  have HA1 := qh (HA0.out.next ha); have HR1 := qh hrd; clear hrd ha HC HA0 HR0
  by_cases hx : fx c.l j1 = shut
  ·
   have HC := qh (zk0 c shut w1 j1 d HR1.out hx HNS.out); rw [if_pos hx] at HS; clear hx; go_wp2_with fail; refine cm HC.out ?_; rintro e w2 ⟨rfl, hr2, ha2⟩; have HA2 := qh (HA1.out.next ha2); have HR2 := qh hr2
   clear hr2 ha2; go_wp2_with fail; go_ret; exact ppOk HS.out.symm ⟨KV.nil _ _, fun _ => rfl, by simp⟩ HR2.out HA2.out
  ·
   have HC := qh (zw0 c shut w1 j1 d HR1.out hx); rw [if_neg hx] at HS; clear hx; go_wp2_with fail; refine cm HC.out ?_; rintro e w2 ⟨rfl, hb2⟩; have HA2 := qh (HA1.out.next (Ap.of hb2))
   have HR2 := qh (HR1.out.later hb2); clear hb2 HC HA1 HR1; go_wp2_with fail
   go_loopw [11] (fun v wr => ∃ k acc j, zvk c.l shut begins (sp d) k acc j = r ∧ Rdr c wr j d ∧ Ap c.R w.heap.size w wr ∧ KV w.heap.size wr acc v ∧ acc.length ≤ j) (fun _ wr => c.l.length - nxt c wr)
   case atStart => exact ⟨k, [], j1, HS.out, HR2.out, HA2.out, KV.nil _ _, Nat.zero_le _⟩
   case round =>
    obtain ⟨k, acc, j, hq, hrd, hap, hkv, hle⟩ := hrel; clear HS HR2 HA2
    cases k with
    | zero => exact absurd hq.symm HO.out
    | succ k =>
     have hL := zzz HL; have hjl := hrd.lt; have HR2 := qh hrd; have HRM := qh hrd; have HA2 := qh hap; have HK2 := qh hkv; have HLE := qh hle; unfold zvk at hq; have HQ := qh hq; clear hq hrd hap hle
     obtain ⟨va, vc, rfl⟩ := hkv.shape; clear hkv
     by_cases h8 : acc.length = 8
     ·
      cases hbg : begins j with
      | true =>
       rw [if_pos ⟨h8, hbg⟩] at HQ; have HC : Hid _ := zzz HB wr d j HR2.out; rw [hbg] at HC; clear hbg; have h8i : ((acc.length : Int) == 8) = true := beq_iff_eq.2 (by omega); have H8 := qh h8; clear h8
       go_wp2_with fail; refine cm HC.out ?_; rintro e w3 ⟨rfl, hb3⟩; have HA3 := qh (HA2.out.next (Ap.of hb3)); have HC := qh (zb3 c 4 w3 j d (HR2.out.later hb3)); clear hb3; go_wp2_with fail
       refine cm HC.out ?_; rintro e w4 ⟨rfl, hb4⟩; exact ⟨rfl, zq9 HQ.out.symm (HA3.out.next (Ap.of hb4))⟩
      | false =>
       rw [if_neg (by rw [hbg]; rintro ⟨_, hh⟩; cases hh)] at HQ
       have HC : Hid _ := zzz HB wr d j HR2.out; rw [hbg] at HC; clear hbg; have h8i : ((acc.length : Int) == 8) = true := beq_iff_eq.2 (by omega); have H8 := qh h8; clear h8; go_wp2_with fail; refine cm HC.out ?_
       rintro e w3 ⟨rfl, hb3⟩; have HA3 := qh (HA2.out.next (Ap.of hb3)); have HR3 := qh (HR2.out.later hb3); have HK3 := qh (KV.later HK2.out (Ap.of hb3) HLT.out); clear hb3 HC HA2 HR2 HK2 h8i
       have HQ2 : Hid ((sp d j).bind (fun t i1 => if fx c.l i1 = shut then PR.ok (acc ++ [t]) (i1 + 1) else (zz0 c.l zh8 i1).bind fun _ i2 => zvk c.l shut begins (sp d) k (acc ++ [t]) i2) = r) := zzz HQ
       clear HQ
       cases hr : sp d j with
       | out =>
        rw [hr] at HQ2; simp only [zqv] at HQ2; exact absurd HQ2.out.symm HO.out
       | bad er p =>
        have HC : Hid _ := zzz HP w3 d j _ rfl (by rw [hr]; nofun) HR3.out
        rw [hr] at HC HQ2; simp only [zz6] at HQ2; clear hr; go_wp2_with fail; refine cm HC.out ?_; intro e w' hp; obtain ⟨rfl, ha⟩ := hp; exact ⟨rfl, zq9 HQ2.out.symm (HA3.out.next ha)⟩
       | ok t j2 =>
        have HC : Hid _ := zzz HP w3 d j _ rfl (by rw [hr]; nofun) HR3.out
        have hgt : j < j2 := zzz HGO d j t j2 hjl hr; rw [hr] at HC HQ2; simp only [zzv] at HQ2; clear hr; go_wp2_with fail; refine cm HC.out ?_; intro e w4 hp; obtain ⟨⟨v4, rfl, p4, rfl, hn4⟩, hrd, ha⟩ := hp
        have HA4 := qh (HA3.out.next ha); have HR4 := qh hrd; have HN4 := qh (zb7 HK3.out HA3.out.size hn4); have HK4 := qh (KV.later HK3.out ha HLT.out); have hlt2 := hrd.lt; clear hrd ha hn4 HC
        obtain ⟨ps, hown, hk4⟩ := zzz HK4; have hlen := NAts.length _ _ hk4; have hOB := zxj hown; rw [hlen] at hown; have HOWN := qh hown; have HLEN := qh hlen; have HKK := qh hk4; have hsz := HA4.out.size
        have hle := zzz HLE; have HOB := qh hOB; clear hown hk4 HK4 hOB hlen
        go_wp2_with (at_builtin; refine wpList_append_lies _ rfl _ _ 36 rfl w.heap.size 22 i0 (.pointer none) 1 8 Tryz.underlying36 hi0 hz0 hz1 hz2 rfl (by decide) _ _ _ rfl (HOWN.out.alloc _) ⟨w4.heap.size, 0, none⟩ 1 1 [nPtr p4] rfl rfl (zq3 w4 p4 _ rfl) (zxy p4) (by decide) (by unfold maxLen; omega) (by omega) (by simp; omega) (w4.heap.size + 1) (by simp) ?_)
        intro g cap w5 hown' hgrow hg _
        have HK5 : Hid (KV w.heap.size w5 (acc ++ [t]) (.slice (some ⟨g, 0, none⟩) (acc.length + 1) cap)) := zg2 HKK.out (NAts.cons HN4.out NAts.nil) (by rw [List.map_append]; exact hown') (by simp [HLEN.out]) hgrow hg
        have HA5 := qh ((HA4.out.alloc hsz (.cells #[nPtr p4] 22)).grown hgrow (by simp; omega) (fun k hk => (zzz HOB k hk).2))
        have HR5 := qh (HR4.out.ap (((Below.refl w.heap.size w4).alloc hsz (.cells #[nPtr p4] 22)).grown hgrow (by simp; omega) (fun k hk => (zzz HOB k hk).2)) HLO.out)
        clear hown' hgrow hg HKK HOWN
        by_cases hx : fx c.l j2 = shut
        ·
         have HC := qh (zk0 c shut w5 j2 d HR5.out hx HNS.out); rw [if_pos hx] at HQ2; clear hx; go_wp2_with fail; refine cm HC.out ?_; rintro e w6 ⟨rfl, hr6, ha6⟩; have HA6 := qh (HA5.out.next ha6)
         have HR6 := qh hr6; have HK6 := qh (KV.later HK5.out ha6 HLT.out); clear hr6 ha6; go_wp2_with fail; go_ret; exact ppOk HQ2.out.symm ⟨HK6.out, fun hh => absurd hh (by simp), by simp; omega⟩ HR6.out HA6.out
        ·
         have HC := qh (zw0 c shut w5 j2 d HR5.out hx); rw [if_neg hx] at HQ2; clear hx; go_wp2_with fail; refine cm HC.out ?_; rintro e w6 ⟨rfl, hb6⟩; have HA6 := qh (HA5.out.next (Ap.of hb6))
         have HR6 := qh (HR5.out.later hb6); have HK6 := qh (KV.later HK5.out (Ap.of hb6) HLT.out); clear hb6 HC
         cases hr : zz0 c.l zh8 j2 with
         | out =>
          rw [hr] at HQ2; simp only [zqv] at HQ2; exact absurd HQ2.out.symm HO.out
         | bad er p =>
          have HC := qh (zz8 c zh8 w6 j2 d HR6.out (by decide)); rw [hr] at HC HQ2; simp only [zz6] at HQ2; clear hr; go_wp2_with fail; refine cm HC.out ?_; intro e w' hp; obtain ⟨rfl, ha⟩ := hp
          exact ⟨rfl, zq9 HQ2.out.symm (HA6.out.next ha)⟩
         | ok x7 j7 =>
          have HC := qh (zz8 c zh8 w6 j2 d HR6.out (by decide)); have h7 : j2 < j7 := by
           unfold zz0 at hr
           split at hr
           ·
            cases hr; omega
           ·
            cases hr
          rw [hr] at HC HQ2; simp only [zzv] at HQ2; clear hr; go_wp2_with fail; refine cm HC.out ?_; intro e w7 hp; obtain ⟨⟨v7, rfl, rfl⟩, hrd, ha⟩ := hp; have HA7 := qh (HA6.out.next ha); have HR7 := qh hrd
          have HK7 := qh (KV.later HK6.out ha HLT.out); have hlt7 := hrd.lt; clear hrd ha HC; go_wp2_with fail
          go_roundw
          case rel => exact ⟨k, acc ++ [t], j7, HQ2.out, HR7.out, HA7.out, HK7.out, by simp; omega⟩
          case measure => rw [zyk HR7.out, zyk HRM.out]; omega
     ·
      rw [if_neg (fun hh => h8 hh.1)] at HQ; have h8i : ((acc.length : Int) == 8) = false := beq_eq_false_iff_ne.2 (by omega); clear h8
      have HQ2 : Hid ((sp d j).bind (fun t i1 => if fx c.l i1 = shut then PR.ok (acc ++ [t]) (i1 + 1) else (zz0 c.l zh8 i1).bind fun _ i2 => zvk c.l shut begins (sp d) k (acc ++ [t]) i2) = r) := zzz HQ
      clear HQ
      cases hr : sp d j with
      | out =>
       rw [hr] at HQ2; simp only [zqv] at HQ2; exact absurd HQ2.out.symm HO.out
      | bad er p =>
       have HC : Hid _ := zzz HP wr d j _ rfl (by rw [hr]; nofun) HR2.out
       rw [hr] at HC HQ2; simp only [zz6] at HQ2; clear hr; go_wp2_with fail; refine cm HC.out ?_; intro e w' hp; obtain ⟨rfl, ha⟩ := hp; exact ⟨rfl, zq9 HQ2.out.symm (HA2.out.next ha)⟩
      | ok t j2 =>
       have HC : Hid _ := zzz HP wr d j _ rfl (by rw [hr]; nofun) HR2.out
       have hgt : j < j2 := zzz HGO d j t j2 hjl hr; rw [hr] at HC HQ2; simp only [zzv] at HQ2; clear hr; go_wp2_with fail; refine cm HC.out ?_; intro e w4 hp; obtain ⟨⟨v4, rfl, p4, rfl, hn4⟩, hrd, ha⟩ := hp
       have HA4 := qh (HA2.out.next ha); have HR4 := qh hrd; have HN4 := qh (zb7 HK2.out HA2.out.size hn4); have HK4 := qh (KV.later HK2.out ha HLT.out); have hlt2 := hrd.lt; clear hrd ha hn4 HC
       obtain ⟨ps, hown, hk4⟩ := zzz HK4; have hlen := NAts.length _ _ hk4; have hOB := zxj hown; rw [hlen] at hown; have HOWN := qh hown; have HLEN := qh hlen; have HKK := qh hk4; have hsz := HA4.out.size
       have hle := zzz HLE; have HOB := qh hOB; clear hown hk4 HK4 hOB hlen
       go_wp2_with (at_builtin; refine wpList_append_lies _ rfl _ _ 36 rfl w.heap.size 22 i0 (.pointer none) 1 8 Tryz.underlying36 hi0 hz0 hz1 hz2 rfl (by decide) _ _ _ rfl (HOWN.out.alloc _) ⟨w4.heap.size, 0, none⟩ 1 1 [nPtr p4] rfl rfl (zq3 w4 p4 _ rfl) (zxy p4) (by decide) (by unfold maxLen; omega) (by omega) (by simp; omega) (w4.heap.size + 1) (by simp) ?_)
       intro g cap w5 hown' hgrow hg _
       have HK5 : Hid (KV w.heap.size w5 (acc ++ [t]) (.slice (some ⟨g, 0, none⟩) (acc.length + 1) cap)) := zg2 HKK.out (NAts.cons HN4.out NAts.nil) (by rw [List.map_append]; exact hown') (by simp [HLEN.out]) hgrow hg
       have HA5 := qh ((HA4.out.alloc hsz (.cells #[nPtr p4] 22)).grown hgrow (by simp; omega) (fun k hk => (zzz HOB k hk).2))
       have HR5 := qh (HR4.out.ap (((Below.refl w.heap.size w4).alloc hsz (.cells #[nPtr p4] 22)).grown hgrow (by simp; omega) (fun k hk => (zzz HOB k hk).2)) HLO.out)
       clear hown' hgrow hg HKK HOWN
       by_cases hx : fx c.l j2 = shut
       ·
        have HC := qh (zk0 c shut w5 j2 d HR5.out hx HNS.out); rw [if_pos hx] at HQ2; clear hx; go_wp2_with fail; refine cm HC.out ?_; rintro e w6 ⟨rfl, hr6, ha6⟩; have HA6 := qh (HA5.out.next ha6)
        have HR6 := qh hr6; have HK6 := qh (KV.later HK5.out ha6 HLT.out); clear hr6 ha6; go_wp2_with fail; go_ret; exact ppOk HQ2.out.symm ⟨HK6.out, fun hh => absurd hh (by simp), by simp; omega⟩ HR6.out HA6.out
       ·
        have HC := qh (zw0 c shut w5 j2 d HR5.out hx); rw [if_neg hx] at HQ2; clear hx; go_wp2_with fail; refine cm HC.out ?_; rintro e w6 ⟨rfl, hb6⟩; have HA6 := qh (HA5.out.next (Ap.of hb6))
        have HR6 := qh (HR5.out.later hb6); have HK6 := qh (KV.later HK5.out (Ap.of hb6) HLT.out); clear hb6 HC
        cases hr : zz0 c.l zh8 j2 with
        | out =>
         rw [hr] at HQ2; simp only [zqv] at HQ2; exact absurd HQ2.out.symm HO.out
        | bad er p =>
         have HC := qh (zz8 c zh8 w6 j2 d HR6.out (by decide)); rw [hr] at HC HQ2; simp only [zz6] at HQ2; clear hr; go_wp2_with fail; refine cm HC.out ?_; intro e w' hp; obtain ⟨rfl, ha⟩ := hp
         exact ⟨rfl, zq9 HQ2.out.symm (HA6.out.next ha)⟩
        | ok x7 j7 =>
         have HC := qh (zz8 c zh8 w6 j2 d HR6.out (by decide)); have h7 : j2 < j7 := by
          unfold zz0 at hr
          split at hr
          ·
           cases hr; omega
          ·
           cases hr
         rw [hr] at HC HQ2; simp only [zzv] at HQ2; clear hr; go_wp2_with fail; refine cm HC.out ?_; intro e w7 hp; obtain ⟨⟨v7, rfl, rfl⟩, hrd, ha⟩ := hp; have HA7 := qh (HA6.out.next ha); have HR7 := qh hrd
         have HK7 := qh (KV.later HK6.out ha HLT.out); have hlt7 := hrd.lt; clear hrd ha HC; go_wp2_with fail
         go_roundw
         case rel => exact ⟨k, acc ++ [t], j7, HQ2.out, HR7.out, HA7.out, HK7.out, by simp; omega⟩
         case measure => rw [zyk HR7.out, zyk HRM.out]; omega
def FOk (F : Fns) : Prop := ∀ d i t j, F.st d i = .ok t j → t.kd = 15 → ∃ v r, t.kids = v :: r
theorem deepP_ok {l : List Tk} {f : Nat → Nat → PR Tr} {d i j : Nat} {t : Tr} (h : zq4 l f d i = .ok t j) : f (d + 1) i = .ok t j := by
 unfold zq4 at h
 split at h
 ·
  cases h
 ·
  exact h
theorem blockLoop_all {l : List Tk} {F : Fns} (hF : FOk F) {d : Nat} : ∀ n acc i ts j, (∀ t ∈ acc, t.kd = 15 → ∃ v r, t.kids = v :: r) → zx7 l F d n acc i = .ok ts j → ∀ t ∈ ts, t.kd = 15 → ∃ v r, t.kids = v :: r := by
 intro n
 induction n with
 | zero => intro acc i ts j _ h; cases h
 | succ n ih =>
  intro acc i ts j hacc h; unfold zx7 at h
  split at h
  ·
   cases h; exact hacc
  ·
   cases hr : zq4 l F.st d i with
   | out => rw [hr] at h; cases h
   | bad er p => rw [hr] at h; cases h
   | ok t j1 =>
    rw [hr, zzv] at h; refine ih _ _ _ _ (fun u hu => ?_) h
    rcases List.mem_append.1 hu with hu | hu
    ·
     exact hacc u hu
    ·
     rw [List.mem_singleton] at hu; subst hu; exact hF _ _ _ _ (deepP_ok hr)
theorem zf7 {l : List Tk} {F : Fns} (hF : FOk F) {d i j : Nat} {t : Tr} (h : zq2 l F d i = .ok t j) : ExprOk t := by
 unfold zq2 at h
 cases hm : zz0 l zz4 i with
 | out => rw [hm] at h; cases h
 | bad er p => rw [hm] at h; cases h
 | ok x j1 =>
  rw [hm, zzv] at h
  cases hb : zx7 l F d F.fuel [] j1 with
  | out => rw [hb] at h; cases h
  | bad er p => rw [hb] at h; cases h
  | ok ts j2 =>
   rw [hb, zzv] at h; cases h; intro k1 r hk h15; have hk' : ts = k1 :: r := hk; exact blockLoop_all hF _ _ _ _ _ (fun _ hu => absurd hu (by simp)) hb k1 (by rw [hk']; simp) h15
theorem en183 : ∀ args W, (callFunc 226 args).run Tryz.prog W = .ok (.enter 226 args) W := fun _ _ => by kernel_rfl
theorem en218 : ∀ args W, (callFunc 262 args).run Tryz.prog W = .ok (.enter 262 args) W := fun _ _ => by kernel_rfl
theorem en184 : ∀ args W, (callFunc 227 args).run Tryz.prog W = .ok (.enter 227 args) W := fun _ _ => by kernel_rfl
theorem qzx (c : Ctx) : Asks c 226 (zw8 c.l) := fun w d i h => zpx c w i d h
theorem arg_any {c : Ctx} {F : Fns} (hF : FC c F) : Does c 280 NV (argP c.l F) := by
 have hmf := zk5 c.R 222
 intro w d i r hs ho h
 have HR0 := qh h
 have HA0 := qh (Ap.refl c.R w.heap.size w)
 have HLT := qh h.rlt
 unfold argP at hs
 have HS := qh hs
 have HO := qh ho
 clear h hs ho
 go_enter Tryz.func280, Tryz.ntmps280
 cases hr : zq4 c.l F.vl d i with
 | out =>
  rw [hr] at HS; exact absurd HS.out.symm HO.out
 | bad er p =>
  have HC := qh (zd7 hF w d i HR0.out (by rw [hr]; nofun))
  rw [hr] at HC HS; clear hr; go_wp2_with fail; refine cm HC.out ?_; intro e w' hp; obtain ⟨rfl, ha⟩ := hp; exact ⟨rfl, zq9 HS.out.symm (HA0.out.next ha)⟩
 | ok x1 j1 =>
  have HC := qh (zd7 hF w d i HR0.out (by rw [hr]; nofun))
  rw [hr] at HC HS; clear hr; go_wp2_with fail; refine cm HC.out ?_; intro e w1 hp; obtain ⟨⟨v1, rfl, p1, rfl, hn1⟩, hrd, ha⟩ := hp; clear HC; have HA1 := qh (HA0.out.next ha); have HR1 := qh hrd
  have HN1 := qh (zkv hn1 HA0.out.size); clear hn1; clear hrd ha HA0 HR0; go_wp2_with fail; go_ret; exact ppOk HS.out.symm ⟨p1, rfl, HN1.out⟩ HR1.out HA1.out
theorem param_any {c : Ctx} : Does c 262 NV (fun _ => zbz c.l) := by
 intro w d i r hs ho h
 have HR0 := qh h
 have HA0 := qh (Ap.refl c.R w.heap.size w)
 have HLT := qh h.rlt
 dsimp only at hs
 unfold zbz at hs
 have HS := qh hs
 have HO := qh ho
 clear h hs ho
 go_enter Tryz.func262, Tryz.ntmps262
 cases hr : zjq c.l i with
 | out =>
  rw [hr] at HS; simp only [zqv] at HS; exact absurd HS.out.symm HO.out
 | bad er p =>
  have HC := qh (zk4 c w i d HR0.out); rw [hr] at HC HS; simp only [zz6] at HS; clear hr; go_wp2_with fail; refine cm HC.out ?_; intro e w' hp; obtain ⟨rfl, ha⟩ := hp
  exact ⟨rfl, zq9 HS.out.symm (HA0.out.next ha)⟩
 | ok x1 j1 =>
  have HC := qh (zk4 c w i d HR0.out); rw [hr] at HC HS; simp only [zzv] at HS; clear hr; go_wp2_with fail; refine cm HC.out ?_; intro e w1 hp; obtain ⟨⟨v1, rfl, rfl⟩, hrd, ha⟩ := hp; clear HC
  have HA1 := qh (HA0.out.next ha); have HR1 := qh hrd; clear hrd ha HA0 HR0; have HC := qh (zqw 23 x1 (.slice none 0 0) w1 ⟨_, _, _, rfl⟩); go_wp2_with fail; refine cm HC.out ?_; rintro e wn ⟨rfl, rfl⟩
  clear HC; go_wp2_with fail; go_ret; obtain ⟨m1, m2, m3⟩ := made0 HR1.out HA1.out (KV.nil _ _) 23 x1 _ rfl; exact ppOk HS.out.symm m1.nv m2 m3
theorem prop_any {c : Ctx} {F : Fns} (hF : FC c F) : Does c 227 NV (zf2 c.l F) := by
 have hmf := zk5 c.R 222
 intro w d i r hs ho h
 have HR0 := qh h
 have HA0 := qh (Ap.refl c.R w.heap.size w)
 have HLT := qh h.rlt
 unfold zf2 at hs
 have HS := qh hs
 have HO := qh ho
 clear h hs ho
 go_enter Tryz.func227, Tryz.ntmps227
 cases hr : zjq c.l i with
 | out =>
  rw [hr] at HS; simp only [zqv] at HS; exact absurd HS.out.symm HO.out
 | bad er p =>
  have HC := qh (zk4 c w i d HR0.out); rw [hr] at HC HS; simp only [zz6] at HS; clear hr; go_wp2_with fail; refine cm HC.out ?_; intro e w' hp; obtain ⟨rfl, ha⟩ := hp
  exact ⟨rfl, zq9 HS.out.symm (HA0.out.next ha)⟩
 | ok x1 j1 =>
  have HC := qh (zk4 c w i d HR0.out); rw [hr] at HC HS; simp only [zzv] at HS; clear hr; go_wp2_with fail; refine cm HC.out ?_; intro e w1 hp; obtain ⟨⟨v1, rfl, rfl⟩, hrd, ha⟩ := hp; clear HC
  have HA1 := qh (HA0.out.next ha); have HR1 := qh hrd; clear hrd ha HA0 HR0
  cases hr : zz0 c.l tColon j1 with
  | out =>
   rw [hr] at HS; simp only [zqv] at HS; exact absurd HS.out.symm HO.out
  | bad er p =>
   have HC := qh (zz8 c tColon w1 j1 d HR1.out (by decide)); rw [hr] at HC HS; simp only [zz6] at HS; clear hr; go_wp2_with fail; refine cm HC.out ?_; intro e w' hp; obtain ⟨rfl, ha⟩ := hp
   exact ⟨rfl, zq9 HS.out.symm (HA1.out.next ha)⟩
  | ok x2 j2 =>
   have HC := qh (zz8 c tColon w1 j1 d HR1.out (by decide)); rw [hr] at HC HS; simp only [zzv] at HS; clear hr; go_wp2_with fail; refine cm HC.out ?_; intro e w2 hp; obtain ⟨⟨v2, rfl, rfl⟩, hrd, ha⟩ := hp
   clear HC; have HA2 := qh (HA1.out.next ha); have HR2 := qh hrd; clear hrd ha HA1 HR1
   cases hr : zq4 c.l F.vl d j2 with
   | out =>
    rw [hr] at HS; simp only [zqv] at HS; exact absurd HS.out.symm HO.out
   | bad er p =>
    have HC := qh (zd7 hF w2 d j2 HR2.out (by rw [hr]; nofun))
    rw [hr] at HC HS; simp only [zz6] at HS; clear hr; go_wp2_with fail; refine cm HC.out ?_; intro e w' hp; obtain ⟨rfl, ha⟩ := hp; exact ⟨rfl, zq9 HS.out.symm (HA2.out.next ha)⟩
   | ok x3 j3 =>
    have HC := qh (zd7 hF w2 d j2 HR2.out (by rw [hr]; nofun))
    rw [hr] at HC HS; simp only [zzv] at HS; clear hr; go_wp2_with fail; refine cm HC.out ?_; intro e w3 hp; obtain ⟨⟨v3, rfl, p3, rfl, hn3⟩, hrd, ha⟩ := hp; clear HC; have HA3 := qh (HA2.out.next ha)
    have HR3 := qh hrd; have HN3 := qh (zkv hn3 HA2.out.size); clear hn3; clear hrd ha HA2 HR2
    have HC := qh (zqw 39 x1 (.slice (some ⟨w3.heap.size, 0, none⟩) 1 1) (w3.alloc (.cells #[nPtr p3] 22)) ⟨_, _, _, rfl⟩); go_wp2_with fail; refine cm HC.out ?_; rintro e wn ⟨rfl, rfl⟩; clear HC; go_wp2_with fail
    go_ret; obtain ⟨m1, m2, m3⟩ := made HR3.out HA3.out (NAts.cons HN3.out NAts.nil) (by simp [maxLen]) #[nPtr p3] rfl 1 rfl 39 x1 (w3.heap.size + 1) rfl; exact ppOk HS.out.symm m1.nv m2 m3
theorem paramP_go {c : Ctx} (hE : Ends c.l) (d i : Nat) (t : Tr) (j : Nat) (hi : i < c.l.length) (h : (fun (_ : Nat) => zbz c.l) d i = .ok t j) : i < j := ((paramP_nx (q := True) hE hi).2 t j h).1
theorem propP_go {c : Ctx} {F : Fns} {k : Nat} (hN : FNx c.l k F) (hE : Ends c.l) (d i : Nat) (t : Tr) (j : Nat) (hi : i < c.l.length) (h : zf2 c.l F d i = .ok t j) : i < j := ((propP_nx (q := False) hE hN hi (fun h => h.elim)).2 t j h).1
theorem argP_go {c : Ctx} {F : Fns} {k : Nat} (hN : FNx c.l k F) (d i : Nat) (t : Tr) (j : Nat) (hi : i < c.l.length) (h : argP c.l F d i = .ok t j) : i < j := ((argP_nx (q := False) hN hi (fun h => h.elim)).2 t j h).1
theorem params_any {c : Ctx} {F : Fns} : Does c 224 NV (fun _ => zy1 c.l F) := by
 have hmf := zk5 c.R 226
 have hmf2 := zk5 c.R 262
 intro w d i r hs ho h
 have HE := qh h.base.ends
 have HR0 := qh h
 have HA0 := qh (Ap.refl c.R w.heap.size w)
 have HLT := qh h.rlt
 dsimp only at hs
 unfold zy1 at hs
 have HS := qh hs
 have HO := qh ho
 clear h hs ho
 go_enter Tryz.func224, Tryz.ntmps224
 cases hr : znz c.l zxw zjy (zw8 c.l) (zbz c.l) F.fuel i with
 | out =>
  rw [hr] at HS; simp only [zqv] at HS; exact absurd HS.out.symm HO.out
 | bad er p =>
  have HC := qh (zg9 226 262 (zw8 c.l) (fun _ => zbz c.l) zxw zjy (qzx c) param_any en183 en218 (by decide) (by decide) (paramP_go HE.out) F.fuel w d i _ rfl (by rw [hr]; nofun) HR0.out)
  rw [hr] at HC HS; simp only [zz6] at HS; clear hr; go_wp2_with fail; refine cm HC.out ?_; intro e w' hp; obtain ⟨rfl, ha⟩ := hp; exact ⟨rfl, zq9 HS.out.symm (HA0.out.next ha)⟩
 | ok x1 j1 =>
  have HC := qh (zg9 226 262 (zw8 c.l) (fun _ => zbz c.l) zxw zjy (qzx c) param_any en183 en218 (by decide) (by decide) (paramP_go HE.out) F.fuel w d i _ rfl (by rw [hr]; nofun) HR0.out)
  rw [hr] at HC HS; simp only [zzv] at HS; clear hr; go_wp2_with fail; refine cm HC.out ?_; intro e w1 hp; obtain ⟨⟨v1, rfl, hn1⟩, hrd, ha⟩ := hp; clear HC; have HA1 := qh (HA0.out.next ha); have HR1 := qh hrd
  have HN1 := qh (KV.mono hn1.1 HA0.out.size); clear hn1; clear hrd ha HA0 HR0; obtain ⟨va, vc, rfl⟩ := HN1.out.shape; have HC := qh (zqw 40 zzx (.slice va x1.length vc) w1 ⟨_, _, _, rfl⟩); go_wp2_with fail
  refine cm HC.out ?_; rintro e wn ⟨rfl, rfl⟩; clear HC; go_wp2_with fail; go_ret; obtain ⟨m1, m2, m3⟩ := made0 HR1.out HA1.out HN1.out 40 zzx _ rfl; exact ppOk HS.out.symm m1.nv m2 m3
theorem object_any {c : Ctx} {F : Fns} (hF : FC c F) (hN : ∃ k, FNx c.l k F) : Does c 166 NV (zf3 c.l F) := by
 have hmf := zk5 c.R 226
 have hmf2 := zk5 c.R 227
 obtain ⟨k, hN⟩ := hN
 intro w d i r hs ho h
 have HE := qh h.base.ends
 have HNX := qh hN
 clear hN
 have HR0 := qh h
 have HA0 := qh (Ap.refl c.R w.heap.size w)
 have HLT := qh h.rlt
 unfold zf3 at hs
 have HS := qh hs
 have HO := qh ho
 clear h hs ho
 go_enter Tryz.func166, Tryz.ntmps166
 cases hr : znz c.l zz4 zvv (zw8 c.l) (zf2 c.l F d) F.fuel i with
 | out =>
  rw [hr] at HS; simp only [zqv] at HS; exact absurd HS.out.symm HO.out
 | bad er p =>
  have HC := qh (zg9 226 227 (zw8 c.l) (zf2 c.l F) zz4 zvv (qzx c) (prop_any hF) en183 en184 (by decide) (by decide) (propP_go HNX.out HE.out) F.fuel w d i _ rfl (by rw [hr]; nofun) HR0.out)
  rw [hr] at HC HS; simp only [zz6] at HS; clear hr; go_wp2_with fail; refine cm HC.out ?_; intro e w' hp; obtain ⟨rfl, ha⟩ := hp; exact ⟨rfl, zq9 HS.out.symm (HA0.out.next ha)⟩
 | ok x1 j1 =>
  have HC := qh (zg9 226 227 (zw8 c.l) (zf2 c.l F) zz4 zvv (qzx c) (prop_any hF) en183 en184 (by decide) (by decide) (propP_go HNX.out HE.out) F.fuel w d i _ rfl (by rw [hr]; nofun) HR0.out)
  rw [hr] at HC HS; simp only [zzv] at HS; clear hr; go_wp2_with fail; refine cm HC.out ?_; intro e w1 hp; obtain ⟨⟨v1, rfl, hn1⟩, hrd, ha⟩ := hp; clear HC; have HA1 := qh (HA0.out.next ha); have HR1 := qh hrd
  have HN1 := qh (KV.mono hn1.1 HA0.out.size); clear hn1; clear hrd ha HA0 HR0; obtain ⟨va, vc, rfl⟩ := HN1.out.shape; have HC := qh (zqw 38 zzx (.slice va x1.length vc) w1 ⟨_, _, _, rfl⟩); go_wp2_with fail
  refine cm HC.out ?_; rintro e wn ⟨rfl, rfl⟩; clear HC; go_wp2_with fail; go_ret; obtain ⟨m1, m2, m3⟩ := made0 HR1.out HA1.out HN1.out 38 zzx _ rfl; exact ppOk HS.out.symm m1.nv m2 m3
theorem empty_any {c : Ctx} : Does c 160 NV (fun _ i => (zz0 c.l zqz i).bind fun _ i1 => .ok (.mk 16 zzx 0 []) i1) := by
 intro w d i r hs ho h
 have HR0 := qh h
 have HA0 := qh (Ap.refl c.R w.heap.size w)
 have HLT := qh h.rlt
 dsimp only at hs
 have HS := qh hs
 have HO := qh ho
 clear h hs ho
 go_enter Tryz.func160, Tryz.ntmps160
 cases hr : zz0 c.l zqz i with
 | out =>
  rw [hr] at HS; simp only [zqv] at HS; exact absurd HS.out.symm HO.out
 | bad er p =>
  have HC := qh (zz8 c zqz w i d HR0.out (by decide)); rw [hr] at HC HS; simp only [zz6] at HS; clear hr; go_wp2_with fail; refine cm HC.out ?_; intro e w' hp; obtain ⟨rfl, ha⟩ := hp
  exact ⟨rfl, zq9 HS.out.symm (HA0.out.next ha)⟩
 | ok x1 j1 =>
  have HC := qh (zz8 c zqz w i d HR0.out (by decide)); rw [hr] at HC HS; simp only [zzv] at HS; clear hr; go_wp2_with fail; refine cm HC.out ?_; intro e w1 hp; obtain ⟨⟨v1, rfl, rfl⟩, hrd, ha⟩ := hp; clear HC
  have HA1 := qh (HA0.out.next ha); have HR1 := qh hrd; clear hrd ha HA0 HR0; have HC := qh (zqw 16 zzx (.slice none 0 0) w1 ⟨_, _, _, rfl⟩); go_wp2_with fail; refine cm HC.out ?_; rintro e wn ⟨rfl, rfl⟩
  clear HC; go_wp2_with fail; go_ret; obtain ⟨m1, m2, m3⟩ := made0 HR1.out HA1.out (KV.nil _ _) 16 zzx _ rfl; exact ppOk HS.out.symm m1.nv m2 m3
theorem mapOf_snoc (l : List (ByteArray × Value)) (k : ByteArray) (v : Value) : (zx6 l).push { key := .string k, val := v, born := l.length } = zx6 (l ++ [(k, v)]) := by
 unfold zx6
 rw [List.zipIdx_append, List.map_append]
 simp [mkE, List.zipIdx]
def zkq (W : World) (m : Nat) (o : Obj) : World := { W with heap := W.heap.setIfInBounds m o }
theorem zfv (W : World) (m : Nat) (o : Obj) : (zkq W m o).heap.size = W.heap.size := by simp [zkq]
theorem zm4 {W : World} {m : Nat} {o : Obj} (h : m < W.heap.size) : (zkq W m o).heap[m]? = some o := by simp [zkq, h]
theorem zv5 {W : World} {m k : Nat} {o : Obj} (h : k ≠ m) : (zkq W m o).heap[k]? = W.heap[k]? := by simp [zkq, Ne.symm h]
theorem zgw {B : Nat} {w W : World} {m : Nat} {o : Obj} (h : Below B w W) (hm : B ≤ m) : Below B w (zkq W m o) :=
 ⟨h.os, h.tape, h.output, by rw [zfv]; exact h.size, fun k hk => by rw [zv5 (by omega)]; exact h.block k hk⟩
theorem zg5 (T E : TypeId) (m : Nat) (l : List (ByteArray × Value)) (s : ByteArray) (v : Value) (W : World) (hT : Tryz.prog.underlying T = some (.map 9 E)) (hm : W.heap[m]? = some (.map (zx6 l) l.length)) (hn : l.find? (fun e => decide (s = e.1)) = none) :
  (Instr.mapUpdate T (.map (some m)) (.string s) v).run Tryz.prog W = .ok () (zkq W m (.map (zx6 (l ++ [(s, v)])) (l.length + 1))) := by
 obtain ⟨o, h1, h2⟩ := znj s l 0 0
 have h9 := Tryz.underlying9
 have ho : o = none := by
  rw [hn] at h2
  cases o with
  | none => rfl
  | some y => simp at h2
 subst ho
 have h3 : (Instr.findKey 9 (.string s) (zx6 l).toList).run Tryz.prog W = .ok none W := by
  unfold Instr.findKey; rw [Sem.run_bind, run_underlying h9 W]; simp only [Result.andThen_ok, zx6]; rw [h1]; rfl
 have hck : ∀ b, (Instr.checkKey b 10000 9 (.string s)).run Tryz.prog W = .ok () W := by
  intro b; rw [Instr.checkKey, Sem.run_bind, run_underlying h9 W]; rfl
 have hg : (getObj m).run Tryz.prog W = .ok (.map (zx6 l) l.length) W := by simp [getObj, Sem.run, hm]
 unfold Instr.mapUpdate
 rw [Sem.run_bind, run_underlying hT W]
 simp only [Result.andThen_ok, Sem.run_bind, hg, hck, h3]
 rw [mapOf_snoc]
 simp [setObj, Sem.run, hm, zkq]
theorem mkMap (T : TypeId) (W : World) : (Instr.makeMap T none).run Tryz.prog W = .ok (.map (some W.heap.size)) (W.alloc (.map #[] 0)) := rfl
def sgCells : Array Value := (sgs.flatMap fun e => [.string e.tx, .int .i64 e.kd, .int .i64 e.parts, .int .i64 e.str]).toArray
theorem sgSize : sgCells.size = 56 := by decide +kernel
theorem sgIdx (k : Nat) (hk : k < 14) (W : World) : (Instr.index 176 (.agg sgCells) (.int .i64 (k : Int))).run Tryz.prog W = .ok (sgV (sgs.getD k ⟨zzx, 0, 0, 0⟩)) W := by
 have h : k = 0 ∨ k = 1 ∨ k = 2 ∨ k = 3 ∨ k = 4 ∨ k = 5 ∨ k = 6 ∨ k = 7 ∨ k = 8 ∨ k = 9 ∨ k = 10 ∨ k = 11 ∨ k = 12 ∨ k = 13 := by omega
 rcases h with rfl | rfl | rfl | rfl | rfl | rfl | rfl | rfl | rfl | rfl | rfl | rfl | rfl | rfl <;> (show _ = _; kernel_rfl)
def sgL (j : Nat) : List (ByteArray × Value) := (sgs.take j).map fun e => (e.tx, sgV e)
theorem sgL_len {j : Nat} (hj : j ≤ 14) : (sgL j).length = j := by
 unfold sgL
 rw [List.length_map, List.length_take]
 have : sgs.length = 14 := rfl
 omega
theorem sgL_next {j : Nat} (hj : j < 14) : sgL (j + 1) = sgL j ++ [((sgs.getD j ⟨zzx, 0, 0, 0⟩).tx, sgV (sgs.getD j ⟨zzx, 0, 0, 0⟩))] := by
 have h : j = 0 ∨ j = 1 ∨ j = 2 ∨ j = 3 ∨ j = 4 ∨ j = 5 ∨ j = 6 ∨ j = 7 ∨ j = 8 ∨ j = 9 ∨ j = 10 ∨ j = 11 ∨ j = 12 ∨ j = 13 := by omega
 rcases h with rfl | rfl | rfl | rfl | rfl | rfl | rfl | rfl | rfl | rfl | rfl | rfl | rfl | rfl <;> rfl
theorem sgL_new {j : Nat} (hj : j < 14) : (sgL j).find? (fun e => decide ((sgs.getD j ⟨zzx, 0, 0, 0⟩).tx = e.1)) = none := by
 have key : ∀ j, j < 14 → ((sgs.take j).map (·.tx)).find? (fun e => decide ((sgs.getD j ⟨zzx, 0, 0, 0⟩).tx = e)) = none := by decide +kernel
 have := key j hj
 unfold sgL
 rw [List.find?_map] at this ⊢
 simpa [Function.comp_def] using this
theorem signsByText_any (w : World) (t : TypeId) (fr : Nat × Nat) (hg : w.heap[4]? = some (.cells sgCells t fr)) :
  Calls Tryz.prog 156 #[] w fun e w' => e = .returned (.map (some w.heap.size)) ∧ w'.heap[w.heap.size]? = some (.map sgMap 14) ∧ Below w.heap.size w w' := by
 have HG : Hid ((w.alloc (.map #[] 0)).heap[4]? = some (.cells sgCells t fr)) := (Below.heap_alloc w _ 4 (zzq hg)).trans hg
 obtain ⟨cs, hcs⟩ : ∃ cs, cs = sgCells := ⟨_, rfl⟩
 have hix : ∀ k : Nat, k < 14 → ∀ W, (Instr.index 176 (.agg cs) (.int .i64 (k : Int))).run Tryz.prog W = .ok (sgV (sgs.getD k ⟨zzx, 0, 0, 0⟩)) W := by rw [hcs]; exact sgIdx
 have hsz : cs.size = 56 := by rw [hcs]; exact sgSize
 rw [← hcs] at HG
 have HIX := qh hix
 have Hsz := qh hsz
 have hmk := mkMap 166
 clear hg hix hcs hsz
 go_enter Tryz.func156, Tryz.ntmps156
 go_wp2_with (refine wpList_load_row rfl 176 _ rfl 4 rfl t cs fr _ HG.out Tryz.underlying176 rfl (by rw [Hsz.out]; kernel_rfl) ?_)
 go_loopw [6] (fun i wr => ∃ j : Nat, j ≤ 14 ∧ i = .int .i64 j ∧ wr.heap[w.heap.size]? = some (.map (zx6 (sgL j)) j) ∧ Below w.heap.size w wr) (fun i _ => 14 - (intOf i).toNat)
 case atStart => exact ⟨0, Nat.zero_le _, rfl, zqx _ _, qb.alloc qv _⟩
 case round =>
  obtain ⟨j, hj, rfl, hm, hb⟩ := hrel; have HM := qh hm; have HB := qh hb; clear hm hb
  by_cases hlt : j < 14
  ·
   have hck := zzz HIX j hlt; obtain ⟨x, hx⟩ : ∃ x, x = sgs.getD j ⟨zzx, 0, 0, 0⟩ := ⟨_, rfl⟩
   have hm2 : (wr.alloc (.cells #[.string x.tx, .int .i64 x.kd, .int .i64 x.parts, .int .i64 x.str] 175)).heap[w.heap.size]? = some (.map (zx6 (sgL j)) (sgL j).length) := by
    rw [sgL_len (by omega)]; exact (Below.heap_alloc _ _ _ (zzq HM.out)).trans HM.out
   have hup := zg5 166 175 w.heap.size (sgL j) x.tx (sgV x) _ Tryz.underlying166 hm2 (by rw [hx]; exact sgL_new hlt)
   rw [← hx] at hck; have HX := qh hx; have HM2 := qh hm2; simp only [sgV] at hck hup; clear hx hm2; go_wp2_with fail
   go_roundw
   case rel =>
    refine ⟨j + 1, by omega, by go_num, ?_, zgw (HB.out.alloc HB.out.size _) qv⟩; rw [zm4 (by simp; have := HB.out.size; omega), sgL_next hlt, ← HX.out, sgL_len (by omega)]
    rfl
   case measure => simp [intOf]; omega
  ·
   have hj14 : j = 14 := by omega
   subst hj14; go_wp2_with fail; go_ret; exact ⟨rfl, HM.out, HB.out⟩
end Go.Proofs.YtodmgaikhbmlnaaGreatDoor
