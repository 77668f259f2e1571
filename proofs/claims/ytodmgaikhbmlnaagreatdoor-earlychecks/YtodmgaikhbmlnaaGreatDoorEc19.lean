/-
  Rows of parts that grow; blocks; lists.
-/
import Derived.Test.YtodmgaikhbmlnaaGreatDoorEc18
import Derived.Deep.AppendLies
import Derived.MapKept
import Derived.Deep.MidRow
import Derived.Laws.AppendOwnNone
set_option maxRecDepth 100000
set_option maxHeartbeats 16000000
namespace Go.Proofs.YtodmgaikhbmlnaaGreatDoor
open Go.RowKit
theorem info22 : (Tryz.prog.info? 22).map (fun i => (i.zero, i.size, i.bytes)) = some (some (.pointer none), 1, 8) := by kernel_rfl
section
variable {B : Nat} {w : World} {ts : List Tr} {v : Value} (h : KV B w ts v)
include B w ts v h
theorem KV.shape : ∃ a cap, v = .slice a ts.length cap := by
 obtain ⟨ps, hr, hk⟩ := h
 rw [← NAts.length _ _ hk]
 exact row_shut hr
theorem KV.own (g : Nat) (hg : v.ownBlock = some g) : g < w.heap.size ∧ B ≤ g := by
 obtain ⟨ps, hr, _⟩ := h
 exact own_lt hr g hg
end
theorem KV.mono {B B' : Nat} {w : World} {ts : List Tr} {v : Value} (h : KV B w ts v) (hB : B' ≤ B) : KV B' w ts v := by
 obtain ⟨ps, hr, hk⟩ := h
 refine ⟨ps, ⟨hr.1, ?_⟩, NAts.mono (fun b h _ => ⟨by omega, h.2⟩) _ _ hk⟩
 exact zbgm
theorem kv_push {B : Nat} {w1 w3 : World} {ts us : List Tr} {v : Value} {ps qs : List Nat} {g cap n : Nat} {o : Obj} (hk : NAts (fun b => B ≤ b ∧ v.ownBlock ≠ some b) w1 ts ps)
  (ht : NAts (fun b => B ≤ b ∧ v.ownBlock ≠ some b) w1 us qs) (hown : w3.ownsRow B 22 1 (.slice (some ⟨g, 0, none⟩) n cap) n ((ps ++ qs).map nPtr)) (hn : n = (ps ++ qs).length) (hgr : (w1.alloc o).grownBy w3 v.ownBlock)
  (hg : v.ownBlock = some g ∨ g = w1.heap.size + 1) : KV B w3 (ts ++ us) (.slice (some ⟨g, 0, none⟩) n cap) := by
 subst hn
 refine ⟨ps ++ qs, hown, ?_⟩
 have hs : Stay (fun b => B ≤ b ∧ b ≠ g ∧ v.ownBlock ≠ some b) w1 w3 := by
  intro b hb hl; have h1 : Below w1.heap.size w1 (w1.alloc o) := (Below.refl _ _).alloc (Nat.le_refl _) _; rw [← h1.block b hl]; exact hgr.block b (by simp; omega) (fun e => hb.2.2 e.symm)
 have h0 := NAts.mono (J := fun b => B ≤ b ∧ b ≠ g ∧ v.ownBlock ≠ some b) (fun b hb hl => ⟨hb.1, fun e => by (rcases hg with hg | hg); (exact hb.2 (by rw [hg, e])); omega, hb.2⟩) _ _ (NAts.append ht _ _ hk)
 exact NAts.mono (fun b hb _ => ⟨hb.1, fun e => by simp only [Value.ownBlock, Option.some.injEq] at e; exact hb.2.1 e.symm⟩) _ _ (NAts.later hs _ _ h0)
def nxt (c : Ctx) (w : World) : Nat := match w.cell? ⟨c.R, 1, none⟩ with | some (.int _ v) => v.toNat | _ => 0
theorem nxt_eq {c : Ctx} {w : World} {i d : Nat} (h : Rdr c w i d) : nxt c w = i := by unfold nxt; rw [h.c1]; rfl
theorem one_cells (w : World) (p H : Nat) (h : w.heap.size = H) : ∀ j u, [nPtr p][j]? = some u → (w.alloc (.cells #[nPtr p] 22)).cell? ((⟨H, 0, none⟩ : Addr).add j) = some u := by
 intro j u hj
 match j, hj with
 | 0, hj =>
  simp only [List.getElem?_cons_zero, Option.some.injEq] at hj; subst hj; subst h; rw [show (⟨w.heap.size, 0, none⟩ : Addr).add 0 = ⟨w.heap.size, 0, none⟩ from rfl, cell_of (heap_new _ _)]; rfl
 | j + 1, hj => simp at hj
theorem one_one (p : Nat) : ∀ u ∈ [nPtr p], u.oneCell' = true := by
 intro u hu
 simp only [List.mem_singleton] at hu
 subst hu; rfl
theorem apart_own {B : Nat} {w w1 : World} {ts : List Tr} {v : Value} {t : Tr} {p : Nat} (hk : KV B w ts v) (hB : B ≤ w.heap.size) (hn : NAt (From w.heap.size) w1 t p) : NAt (fun b => B ≤ b ∧ v.ownBlock ≠ some b) w1 t p :=
 NAt.mono (fun b hb _ => ⟨Nat.le_trans hB hb, fun e => by have := (hk.own b e).1; have : w.heap.size ≤ b := hb; omega⟩) _ _ hn
open zrqcu in
theorem block_any {c : Ctx} {F : Fns} (hF : FC c F) (hN : ∃ k, FNx c.l k F) : Does c 159 EV (blockP c.l F) := by
 have hmf := mf_bound c.R 170
 intro w d i r hs ho h
 have HR0 := hide h
 have HE := hide h.base.ends
 have HL := hide h.base.len
 have HLO := hide h.base.size
 obtain ⟨i0, hi0, hz0, hz1, hz2⟩ := info_parts info22
 have HA0 := hide (Ap.refl c.R w.heap.size w)
 have HLT := hide h.rlt
 have HFC := hide hF
 have HNX := hide hN
 unfold blockP at hs
 have HS := hide hs
 have HO := hide ho
 clear h hs ho hF hN
 go_enter Tryz.func159, Tryz.ntmps159
 cases hr : mustP c.l tLBrace i with
 | out =>
  exact zbak
 | bad er p =>
  have HC := hide (must_any c tLBrace w i d HR0.out (by decide)); exact zbav
 | ok x1 j1 =>
  have HC := hide (must_any c tLBrace w i d HR0.out (by decide)); rw [hr] at HC HS; simp only [bind_ok] at HS; clear hr; go_wp2_with fail; refine cm HC.out ?_; intro e w1 hp; obtain ⟨⟨v1, rfl, rfl⟩, hrd, ha⟩ := hp
  have HA1 := hide (HA0.out.next ha); have HR1 := hide hrd; clear hrd ha HC HA0 HR0; go_wp2_with fail
  go_loopw [3] (fun v wr => ∃ k acc j, (blockLoop c.l F d k acc j).bind (fun ts i2 => PR.ok (.mk 6 noText 0 ts) i2) = r ∧ Rdr c wr j d ∧ Ap c.R w.heap.size w wr ∧ KV w.heap.size wr acc v ∧ acc.length ≤ j) (fun _ wr => c.l.length - nxt c wr)
  case atStart => exact ⟨F.fuel, [], j1, HS.out, HR1.out, HA1.out, KV.nil _ _, Nat.zero_le _⟩
  case round =>
   obtain ⟨k, acc, j, hq, hrd, hap, hkv, hle⟩ := hrel
   cases k with
   | zero => exact absurd hq.symm HO.out
   | succ k =>
    have hL := unhide HL; have hjl := hrd.lt; have HR2 := hide hrd; have HRM := hide hrd; have HA2 := hide hap; have HK2 := hide hkv; have HLE := hide hle
    by_cases hx : fx c.l j = tRBrace
    ·
     have HQ : Hid (PR.ok (.mk 6 noText 0 acc) (j + 1) = r) := by
      unfold blockLoop at hq; rw [if_pos hx, bind_ok] at hq; exact hq
     have HC := hide (take_yes c tRBrace wr j d hrd hx (by decide)); obtain ⟨va, vc, rfl⟩ := hkv.shape; clear hq hrd hap hkv hle hx; go_wp2_with fail; refine cm HC.out ?_; rintro e w3 ⟨rfl, hr3, ha3⟩
     have HA3 := hide (HA2.out.next ha3); have HR3 := hide hr3; have HK3 := hide (KV.later HK2.out ha3 HLT.out); clear hr3 ha3 HC HA2 HR2 HK2; have HC := hide (node_any 6 noText (.slice va acc.length vc) w3 ⟨_, _, _, rfl⟩)
     go_wp2_with fail; refine cm HC.out ?_; rintro e wn ⟨rfl, rfl⟩; clear HC; go_wp2_with fail; go_ret; obtain ⟨m1, m2, m3⟩ := made0 HR3.out HA3.out HK3.out 6 noText _ rfl; exact ppOk HQ.out.symm m1 m2 m3
    ·
     have HQ : Hid ((deepP c.l F.st d j).bind (fun t i1 => (blockLoop c.l F d k (acc ++ [t]) i1).bind fun ts i2 => PR.ok (.mk 6 noText 0 ts) i2) = r) := by
      unfold blockLoop at hq; rw [if_neg hx] at hq; rw [← hq]
      cases deepP c.l F.st d j <;> rfl
     have HC := hide (take_not c tRBrace wr j d hrd hx); clear hq hrd hap hkv hle hx
     cases hr : deepP c.l F.st d j with
     | out =>
      exact zbfz
     | bad er p =>
      have HRR := hide hr; rw [hr] at HQ; simp only [bind_bad] at HQ; clear hr; go_wp2_with fail; refine cm HC.out ?_; rintro e w3 ⟨rfl, hb3⟩; have HA3 := hide (HA2.out.next (Ap.of hb3))
      have HR3 := hide (HR2.out.later hb3); clear hb3 HC HA2 HR2; have HC := hide (deepS HFC.out w3 d j HR3.out (by rw [HRR.out]; nofun))
      exact zbfr
     | ok t j2 =>
      have HRR := hide hr; rw [hr] at HQ; simp only [bind_ok] at HQ; clear hr; exact zrdm
def Asks (c : Ctx) (f : Nat) (b : Nat → Bool) : Prop :=
 ∀ w d i, Rdr c w i d → Calls Tryz.prog f #[rPtr c] w fun e w' => e = .returned (.bool (b i)) ∧ Below w.heap.size w w'
def LV (B : Nat) (w : World) (ts : List Tr) (v : Value) : Prop := KV B w ts v ∧ (ts = [] → v = .slice none 0 0) ∧ ts.length ≤ 3001
open zrqcv in
theorem list_any {c : Ctx} (fb fp : Nat) (begins : Nat → Bool) (sp : Nat → Nat → PR Tr) (opn shut : ByteArray) (hb : Asks c fb begins) (hp : Does c fp NV sp)
  (enb : ∀ args W, (callFunc fb args).run Tryz.prog W = .ok (.enter fb args) W) (enp : ∀ args W, (callFunc fp args).run Tryz.prog W = .ok (.enter fp args) W)
  (hno : opn ≠ noText) (hns : shut ≠ noText) (hgo : ∀ d i t j, i < c.l.length → sp d i = .ok t j → i < j)
  (k : Nat) (w : World) (d i : Nat) (r : PR (List Tr)) (hs : listP c.l opn shut begins (sp d) k i = r) (ho : r ≠ .out) (h : Rdr c w i d) :
  Calls Tryz.prog 225 #[rPtr c, .string opn, .string shut, boundV c.R fb, boundV c.R fp] w (PPost c w d (LV w.heap.size) r) := by
 have HR0 := hide h
 have HL := hide h.base.len
 have HLO := hide h.base.size
 obtain ⟨i0, hi0, hz0, hz1, hz2⟩ := info_parts info22
 have HA0 := hide (Ap.refl c.R w.heap.size w)
 have HLT := hide h.rlt
 have HB := hide hb
 have HP := hide hp
 have HNO := hide hno
 have HNS := hide hns
 have HGO := hide hgo
 unfold listP at hs
 have HS := hide hs
 have HO := hide ho
 clear h hs ho hb hp hno hns hgo
 unfold boundV
 go_enter Tryz.func225, Tryz.ntmps225
 cases hr : mustP c.l opn i with
 | out =>
  exact zbak
 | bad er p =>
  have HC := hide (must_any c opn w i d HR0.out HNO.out); exact zbav
 | ok x1 j1 =>
  have HC := hide (must_any c opn w i d HR0.out HNO.out); rw [hr] at HC HS; simp only [bind_ok] at HS; clear hr; go_wp2_with fail; refine cm HC.out ?_; intro e w1 hp; obtain ⟨⟨v1, rfl, rfl⟩, hrd, ha⟩ := hp
  have HA1 := hide (HA0.out.next ha); have HR1 := hide hrd; clear hrd ha HC HA0 HR0
  by_cases hx : fx c.l j1 = shut
  ·
   have HC := hide (take_yes c shut w1 j1 d HR1.out hx HNS.out); rw [if_pos hx] at HS; clear hx; go_wp2_with fail; refine cm HC.out ?_; rintro e w2 ⟨rfl, hr2, ha2⟩; have HA2 := hide (HA1.out.next ha2); have HR2 := hide hr2
   clear hr2 ha2; go_wp2_with fail; go_ret; exact ppOk HS.out.symm ⟨KV.nil _ _, fun _ => rfl, by simp⟩ HR2.out HA2.out
  ·
   have HC := hide (take_not c shut w1 j1 d HR1.out hx); rw [if_neg hx] at HS; clear hx; go_wp2_with fail; refine cm HC.out ?_; rintro e w2 ⟨rfl, hb2⟩; have HA2 := hide (HA1.out.next (Ap.of hb2))
   have HR2 := hide (HR1.out.later hb2); clear hb2 HC HA1 HR1; go_wp2_with fail
   go_loopw [11] (fun v wr => ∃ k acc j, listLoop c.l shut begins (sp d) k acc j = r ∧ Rdr c wr j d ∧ Ap c.R w.heap.size w wr ∧ KV w.heap.size wr acc v ∧ acc.length ≤ j) (fun _ wr => c.l.length - nxt c wr)
   case atStart => exact ⟨k, [], j1, HS.out, HR2.out, HA2.out, KV.nil _ _, Nat.zero_le _⟩
   case round =>
    obtain ⟨k, acc, j, hq, hrd, hap, hkv, hle⟩ := hrel; clear HS HR2 HA2
    cases k with
    | zero => exact absurd hq.symm HO.out
    | succ k =>
     have hL := unhide HL; have hjl := hrd.lt; have HR2 := hide hrd; have HRM := hide hrd; have HA2 := hide hap; have HK2 := hide hkv; have HLE := hide hle; unfold listLoop at hq; have HQ := hide hq; clear hq hrd hap hle
     obtain ⟨va, vc, rfl⟩ := hkv.shape; clear hkv
     by_cases h8 : acc.length = 8
     ·
      cases hbg : begins j with
      | true =>
       rw [if_pos ⟨h8, hbg⟩] at HQ; have HC : Hid _ := unhide HB wr d j HR2.out; rw [hbg] at HC; clear hbg; have h8i : ((acc.length : Int) == 8) = true := beq_iff_eq.2 (by omega); have H8 := hide h8; clear h8
       go_wp2_with fail; refine cm HC.out ?_; rintro e w3 ⟨rfl, hb3⟩; have HA3 := hide (HA2.out.next (Ap.of hb3)); have HC := hide (fault_any c 4 w3 j d (HR2.out.later hb3)); clear hb3; go_wp2_with fail
       refine cm HC.out ?_; rintro e w4 ⟨rfl, hb4⟩; exact ⟨rfl, ppBad HQ.out.symm (HA3.out.next (Ap.of hb4))⟩
      | false =>
       rw [if_neg (by rw [hbg]; rintro ⟨_, hh⟩; cases hh)] at HQ
       have HC : Hid _ := unhide HB wr d j HR2.out; rw [hbg] at HC; clear hbg; have h8i : ((acc.length : Int) == 8) = true := beq_iff_eq.2 (by omega); have H8 := hide h8; clear h8; exact zrdm
     ·
      rw [if_neg (fun hh => h8 hh.1)] at HQ; have h8i : ((acc.length : Int) == 8) = false := beq_eq_false_iff_ne.2 (by omega); clear h8
      have HQ2 : Hid ((sp d j).bind (fun t i1 => if fx c.l i1 = shut then PR.ok (acc ++ [t]) (i1 + 1) else (mustP c.l tComma i1).bind fun _ i2 => listLoop c.l shut begins (sp d) k (acc ++ [t]) i2) = r) := unhide HQ
      clear HQ
      cases hr : sp d j with
      | out =>
       exact zcch
      | bad er p =>
       have HC : Hid _ := unhide HP wr d j _ rfl (by rw [hr]; nofun) HR2.out
       rw [hr] at HC HQ2; simp only [bind_bad] at HQ2; clear hr; go_wp2_with fail; refine cm HC.out ?_; intro e w' hp; obtain ⟨rfl, ha⟩ := hp; exact ⟨rfl, ppBad HQ2.out.symm (HA2.out.next ha)⟩
      | ok t j2 =>
       have HC : Hid _ := unhide HP wr d j _ rfl (by rw [hr]; nofun) HR2.out
       have hgt : j < j2 := unhide HGO d j t j2 hjl hr; rw [hr] at HC HQ2; simp only [bind_ok] at HQ2; clear hr; go_wp2_with fail; refine cm HC.out ?_; intro e w4 hp; obtain ⟨⟨v4, rfl, p4, rfl, hn4⟩, hrd, ha⟩ := hp
       have HA4 := hide (HA2.out.next ha); have HR4 := hide hrd; have HN4 := hide (apart_own HK2.out HA2.out.size hn4); have HK4 := hide (KV.later HK2.out ha HLT.out); exact zbap
def FOk (F : Fns) : Prop := ∀ d i t j, F.st d i = .ok t j → t.kd = 15 → ∃ v r, t.kids = v :: r
theorem deepP_ok {l : List Tk} {f : Nat → Nat → PR Tr} {d i j : Nat} {t : Tr} (h : deepP l f d i = .ok t j) : f (d + 1) i = .ok t j := by
 unfold deepP at h
 split at h
 ·
  cases h
 ·
  exact h
section
variable {l : List Tk} {F : Fns} (hF : FOk F)
include l F hF
theorem blockLoop_all {d : Nat} : ∀ n acc i ts j, (∀ t ∈ acc, t.kd = 15 → ∃ v r, t.kids = v :: r) → blockLoop l F d n acc i = .ok ts j → ∀ t ∈ ts, t.kd = 15 → ∃ v r, t.kids = v :: r := by
 intro n
 induction n with
 | zero => intro acc i ts j _ h; cases h
 | succ n ih =>
  intro acc i ts j hacc h; unfold blockLoop at h
  split at h
  ·
   cases h; exact hacc
  ·
   cases hr : deepP l F.st d i with
   | out => rw [hr] at h; cases h
   | bad er p => rw [hr] at h; cases h
   | ok t j1 =>
    rw [hr, bind_ok] at h; refine ih _ _ _ _ (fun u hu => ?_) h
    rcases List.mem_append.1 hu with hu | hu
    ·
     exact hacc u hu
    ·
     rw [List.mem_singleton] at hu; subst hu; exact hF _ _ _ _ (deepP_ok hr)
theorem blockP_exprOk {d i j : Nat} {t : Tr} (h : blockP l F d i = .ok t j) : ExprOk t := by
 unfold blockP at h
 cases hm : mustP l tLBrace i with
 | out => rw [hm] at h; cases h
 | bad er p => rw [hm] at h; cases h
 | ok x j1 =>
  rw [hm, bind_ok] at h
  cases hb : blockLoop l F d F.fuel [] j1 with
  | out => rw [hb] at h; cases h
  | bad er p => rw [hb] at h; cases h
  | ok ts j2 =>
   rw [hb, bind_ok] at h; cases h; intro k1 r hk h15; have hk' : ts = k1 :: r := hk; exact blockLoop_all hF _ _ _ _ _ (fun _ hu => absurd hu (by simp)) hb k1 (by rw [hk']; simp) h15
end
theorem en183 : ∀ args W, (callFunc 226 args).run Tryz.prog W = .ok (.enter 226 args) W := fun _ _ => by kernel_rfl
theorem en218 : ∀ args W, (callFunc 262 args).run Tryz.prog W = .ok (.enter 262 args) W := fun _ _ => by kernel_rfl
theorem en184 : ∀ args W, (callFunc 227 args).run Tryz.prog W = .ok (.enter 227 args) W := fun _ _ => by kernel_rfl
theorem asksName (c : Ctx) : Asks c 226 (isName c.l) := fun w d i h => atName_any c w i d h
section
variable {c : Ctx}
include c
open zrqbm in
theorem arg_any {F : Fns} (hF : FC c F) : Does c 280 NV (argP c.l F) := by
 have hmf := mf_bound c.R 222
 intro w d i r hs ho h
 have HR0 := hide h
 have HA0 := hide (Ap.refl c.R w.heap.size w)
 have HLT := hide h.rlt
 unfold argP at hs
 have HS := hide hs
 have HO := hide ho
 clear h hs ho
 go_enter Tryz.func280, Tryz.ntmps280
 cases hr : deepP c.l F.vl d i with
 | out =>
  rw [hr] at HS; exact absurd HS.out.symm HO.out
 | bad er p =>
  have HC := hide (deepV hF w d i HR0.out (by rw [hr]; nofun))
  rw [hr] at HC HS; exact zcci
 | ok x1 j1 =>
  have HC := hide (deepV hF w d i HR0.out (by rw [hr]; nofun))
  rw [hr] at HC HS; exact zrcs
open zrqbj in
theorem param_any : Does c 262 NV (fun _ => paramP c.l) := by
 intro w d i r hs ho h
 have HR0 := hide h
 have HA0 := hide (Ap.refl c.R w.heap.size w)
 have HLT := hide h.rlt
 dsimp only at hs
 unfold paramP at hs
 have HS := hide hs
 have HO := hide ho
 clear h hs ho
 go_enter Tryz.func262, Tryz.ntmps262
 exact zean
open zrqbk in
theorem prop_any {F : Fns} (hF : FC c F) : Does c 227 NV (propP c.l F) := by
 have hmf := mf_bound c.R 222
 intro w d i r hs ho h
 have HR0 := hide h
 have HA0 := hide (Ap.refl c.R w.heap.size w)
 have HLT := hide h.rlt
 unfold propP at hs
 have HS := hide hs
 have HO := hide ho
 clear h hs ho
 go_enter Tryz.func227, Tryz.ntmps227
 exact zean
theorem paramP_go (hE : Ends c.l) (d i : Nat) (t : Tr) (j : Nat) (hi : i < c.l.length) (h : (fun (_ : Nat) => paramP c.l) d i = .ok t j) : i < j := ((paramP_nx (q := True) hE hi).2 t j h).1
theorem propP_go {F : Fns} {k : Nat} (hN : FNx c.l k F) (hE : Ends c.l) (d i : Nat) (t : Tr) (j : Nat) (hi : i < c.l.length) (h : propP c.l F d i = .ok t j) : i < j := ((propP_nx (q := False) hE hN hi (fun h => h.elim)).2 t j h).1
theorem argP_go {F : Fns} {k : Nat} (hN : FNx c.l k F) (d i : Nat) (t : Tr) (j : Nat) (hi : i < c.l.length) (h : argP c.l F d i = .ok t j) : i < j := ((argP_nx (q := False) hN hi (fun h => h.elim)).2 t j h).1
open zrqbn in
theorem params_any {F : Fns} : Does c 224 NV (fun _ => paramsP c.l F) := by
 have hmf := mf_bound c.R 226
 have hmf2 := mf_bound c.R 262
 intro w d i r hs ho h
 have HE := hide h.base.ends
 have HR0 := hide h
 have HA0 := hide (Ap.refl c.R w.heap.size w)
 have HLT := hide h.rlt
 dsimp only at hs
 unfold paramsP at hs
 have HS := hide hs
 have HO := hide ho
 clear h hs ho
 go_enter Tryz.func224, Tryz.ntmps224
 cases hr : listP c.l tOpen tShut (isName c.l) (paramP c.l) F.fuel i with
 | out =>
  exact zbak
 | bad er p =>
  have HC := hide (list_any 226 262 (isName c.l) (fun _ => paramP c.l) tOpen tShut (asksName c) param_any en183 en218 (by decide) (by decide) (paramP_go HE.out) F.fuel w d i _ rfl (by rw [hr]; nofun) HR0.out)
  exact zbav
 | ok x1 j1 =>
  have HC := hide (list_any 226 262 (isName c.l) (fun _ => paramP c.l) tOpen tShut (asksName c) param_any en183 en218 (by decide) (by decide) (paramP_go HE.out) F.fuel w d i _ rfl (by rw [hr]; nofun) HR0.out)
  exact zrdf
open zrqbo in
theorem object_any {F : Fns} (hF : FC c F) (hN : ∃ k, FNx c.l k F) : Does c 166 NV (objectP c.l F) := by
 have hmf := mf_bound c.R 226
 have hmf2 := mf_bound c.R 227
 obtain ⟨k, hN⟩ := hN
 intro w d i r hs ho h
 have HE := hide h.base.ends
 have HNX := hide hN
 clear hN
 have HR0 := hide h
 have HA0 := hide (Ap.refl c.R w.heap.size w)
 have HLT := hide h.rlt
 unfold objectP at hs
 have HS := hide hs
 have HO := hide ho
 clear h hs ho
 go_enter Tryz.func166, Tryz.ntmps166
 cases hr : listP c.l tLBrace tRBrace (isName c.l) (propP c.l F d) F.fuel i with
 | out =>
  exact zbak
 | bad er p =>
  have HC := hide (list_any 226 227 (isName c.l) (propP c.l F) tLBrace tRBrace (asksName c) (prop_any hF) en183 en184 (by decide) (by decide) (propP_go HNX.out HE.out) F.fuel w d i _ rfl (by rw [hr]; nofun) HR0.out)
  exact zbav
 | ok x1 j1 =>
  have HC := hide (list_any 226 227 (isName c.l) (propP c.l F) tLBrace tRBrace (asksName c) (prop_any hF) en183 en184 (by decide) (by decide) (propP_go HNX.out HE.out) F.fuel w d i _ rfl (by rw [hr]; nofun) HR0.out)
  exact zrdf
open zrqbl in
theorem empty_any : Does c 160 NV (fun _ i => (mustP c.l tSemi i).bind fun _ i1 => .ok (.mk 16 noText 0 []) i1) := by
 intro w d i r hs ho h
 have HR0 := hide h
 have HA0 := hide (Ap.refl c.R w.heap.size w)
 have HLT := hide h.rlt
 dsimp only at hs
 have HS := hide hs
 have HO := hide ho
 clear h hs ho
 go_enter Tryz.func160, Tryz.ntmps160
 cases hr : mustP c.l tSemi i with
 | out =>
  exact zbak
 | bad er p =>
  have HC := hide (must_any c tSemi w i d HR0.out (by decide)); exact zbav
 | ok x1 j1 =>
  have HC := hide (must_any c tSemi w i d HR0.out (by decide)); exact zrbo
end
theorem mapOf_snoc (l : List (ByteArray × Value)) (k : ByteArray) (v : Value) : (mapOf l).push { key := .string k, val := v, born := l.length } = mapOf (l ++ [(k, v)]) := by
 unfold mapOf
 rw [List.zipIdx_append, List.map_append]
 simp [mkE, List.zipIdx]
def setMap (W : World) (m : Nat) (o : Obj) : World := { W with heap := W.heap.setIfInBounds m o }
theorem setMap_size (W : World) (m : Nat) (o : Obj) : (setMap W m o).heap.size = W.heap.size := by simp [setMap]
theorem setMap_at {W : World} {m : Nat} {o : Obj} (h : m < W.heap.size) : (setMap W m o).heap[m]? = some o := by simp [setMap, h]
theorem setMap_other {W : World} {m k : Nat} {o : Obj} (h : k ≠ m) : (setMap W m o).heap[k]? = W.heap[k]? := by simp [setMap, Ne.symm h]
theorem setMap_below {B : Nat} {w W : World} {m : Nat} {o : Obj} (h : Below B w W) (hm : B ≤ m) : Below B w (setMap W m o) :=
 ⟨h.os, h.tape, h.output, by rw [setMap_size]; exact h.size, fun k hk => by rw [setMap_other (by omega)]; exact h.block k hk⟩
theorem update_new (T E : TypeId) (m : Nat) (l : List (ByteArray × Value)) (s : ByteArray) (v : Value) (W : World) (hT : Tryz.prog.underlying T = some (.map 9 E)) (hm : W.heap[m]? = some (.map (mapOf l) l.length)) (hn : l.find? (fun e => decide (s = e.1)) = none) :
  (Instr.mapUpdate T (.map (some m)) (.string s) v).run Tryz.prog W = .ok () (setMap W m (.map (mapOf (l ++ [(s, v)])) (l.length + 1))) := by
 obtain ⟨o, h1, h2⟩ := find_ents s l 0 0
 have h9 := Tryz.underlying9
 have ho : o = none := by
  rw [hn] at h2
  cases o with
  | none => rfl
  | some y => simp at h2
 subst ho
 have h3 : (Instr.findKey 9 (.string s) (mapOf l).toList).run Tryz.prog W = .ok none W := by
  unfold Instr.findKey; rw [Sem.run_bind, run_underlying h9 W]; simp only [Result.andThen_ok, mapOf]; rw [h1]; rfl
 have hck : ∀ b, (Instr.checkKey b 10000 9 (.string s)).run Tryz.prog W = .ok () W := by
  exact zccl
 have hg : (getObj m).run Tryz.prog W = .ok (.map (mapOf l) l.length) W := by simp [getObj, Sem.run, hm]
 unfold Instr.mapUpdate
 rw [Sem.run_bind, run_underlying hT W]
 simp only [Result.andThen_ok, Sem.run_bind, hg, hck, h3]
 rw [mapOf_snoc]
 simp [setObj, Sem.run, hm, setMap]
theorem mkMap (T : TypeId) (W : World) : (Instr.makeMap T none).run Tryz.prog W = .ok (.map (some W.heap.size)) (W.alloc (.map #[] 0)) := rfl
def sgCells : Array Value := (sgs.flatMap fun e => [.string e.tx, .int .i64 e.kd, .int .i64 e.parts, .int .i64 e.str]).toArray
theorem sgSize : sgCells.size = 56 := by decide +kernel
theorem sgIdx (k : Nat) (hk : k < 14) (W : World) : (Instr.index 176 (.agg sgCells) (.int .i64 (k : Int))).run Tryz.prog W = .ok (sgV (sgs.getD k ⟨noText, 0, 0, 0⟩)) W := by
 have h : k = 0 ∨ k = 1 ∨ k = 2 ∨ k = 3 ∨ k = 4 ∨ k = 5 ∨ k = 6 ∨ k = 7 ∨ k = 8 ∨ k = 9 ∨ k = 10 ∨ k = 11 ∨ k = 12 ∨ k = 13 := by omega
 rcases h with rfl | rfl | rfl | rfl | rfl | rfl | rfl | rfl | rfl | rfl | rfl | rfl | rfl | rfl <;> (show _ = _; kernel_rfl)
def sgL (j : Nat) : List (ByteArray × Value) := (sgs.take j).map fun e => (e.tx, sgV e)
theorem sgL_len {j : Nat} (hj : j ≤ 14) : (sgL j).length = j := by
 unfold sgL
 rw [List.length_map, List.length_take]
 have : sgs.length = 14 := rfl
 omega
theorem sgL_next {j : Nat} (hj : j < 14) : sgL (j + 1) = sgL j ++ [((sgs.getD j ⟨noText, 0, 0, 0⟩).tx, sgV (sgs.getD j ⟨noText, 0, 0, 0⟩))] := by
 have h : j = 0 ∨ j = 1 ∨ j = 2 ∨ j = 3 ∨ j = 4 ∨ j = 5 ∨ j = 6 ∨ j = 7 ∨ j = 8 ∨ j = 9 ∨ j = 10 ∨ j = 11 ∨ j = 12 ∨ j = 13 := by omega
 rcases h with rfl | rfl | rfl | rfl | rfl | rfl | rfl | rfl | rfl | rfl | rfl | rfl | rfl | rfl <;> rfl
theorem sgL_new {j : Nat} (hj : j < 14) : (sgL j).find? (fun e => decide ((sgs.getD j ⟨noText, 0, 0, 0⟩).tx = e.1)) = none := by
 have key : ∀ j, j < 14 → ((sgs.take j).map (·.tx)).find? (fun e => decide ((sgs.getD j ⟨noText, 0, 0, 0⟩).tx = e)) = none := by decide +kernel
 have := key j hj
 unfold sgL
 rw [List.find?_map] at this ⊢
 simpa [Function.comp_def] using this
theorem signsByText_any (w : World) (t : TypeId) (fr : Nat × Nat) (hg : w.heap[4]? = some (.cells sgCells t fr)) :
  Calls Tryz.prog 156 #[] w fun e w' => e = .returned (.map (some w.heap.size)) ∧ w'.heap[w.heap.size]? = some (.map sgMap 14) ∧ Below w.heap.size w w' := by
 have HG : Hid ((w.alloc (.map #[] 0)).heap[4]? = some (.cells sgCells t fr)) := (Below.heap_alloc w _ 4 (lt_of_heap hg)).trans hg
 obtain ⟨cs, hcs⟩ : ∃ cs, cs = sgCells := ⟨_, rfl⟩
 have hix : ∀ k : Nat, k < 14 → ∀ W, (Instr.index 176 (.agg cs) (.int .i64 (k : Int))).run Tryz.prog W = .ok (sgV (sgs.getD k ⟨noText, 0, 0, 0⟩)) W := by rw [hcs]; exact sgIdx
 have hsz : cs.size = 56 := by rw [hcs]; exact sgSize
 rw [← hcs] at HG
 have HIX := hide hix
 have Hsz := hide hsz
 have hmk := mkMap 166
 clear hg hix hcs hsz
 go_enter Tryz.func156, Tryz.ntmps156
 go_wp2_with (refine wpList_load_row rfl 176 _ rfl 4 rfl t cs fr _ HG.out Tryz.underlying176 rfl (by rw [Hsz.out]; kernel_rfl) ?_)
 go_loopw [6] (fun i wr => ∃ j : Nat, j ≤ 14 ∧ i = .int .i64 j ∧ wr.heap[w.heap.size]? = some (.map (mapOf (sgL j)) j) ∧ Below w.heap.size w wr) (fun i _ => 14 - (intOf i).toNat)
 case atStart => exact ⟨0, Nat.zero_le _, rfl, heap_new _ _, (Below.refl _ _).alloc (Nat.le_refl _) _⟩
 case round =>
  obtain ⟨j, hj, rfl, hm, hb⟩ := hrel; have HM := hide hm; have HB := hide hb; clear hm hb
  by_cases hlt : j < 14
  ·
   have hck := unhide HIX j hlt; obtain ⟨x, hx⟩ : ∃ x, x = sgs.getD j ⟨noText, 0, 0, 0⟩ := ⟨_, rfl⟩
   have hm2 : (wr.alloc (.cells #[.string x.tx, .int .i64 x.kd, .int .i64 x.parts, .int .i64 x.str] 175)).heap[w.heap.size]? = some (.map (mapOf (sgL j)) (sgL j).length) := by
    rw [sgL_len (by omega)]; exact (Below.heap_alloc _ _ _ (lt_of_heap HM.out)).trans HM.out
   have hup := update_new 166 175 w.heap.size (sgL j) x.tx (sgV x) _ Tryz.underlying166 hm2 (by rw [hx]; exact sgL_new hlt)
   rw [← hx] at hck; have HX := hide hx; have HM2 := hide hm2; simp only [sgV] at hck hup; clear hx hm2; go_wp2_with fail
   go_roundw
   case rel =>
    refine ⟨j + 1, by omega, by go_num, ?_, setMap_below (HB.out.alloc HB.out.size _) (Nat.le_refl _)⟩; rw [setMap_at (by simp; have := HB.out.size; omega), sgL_next hlt, ← HX.out, sgL_len (by omega)]
    rfl
   case measure => simp [intOf]; omega
  ·
   have hj14 : j = 14 := by omega
   subst hj14; go_wp2_with fail; go_ret; exact ⟨rfl, HM.out, HB.out⟩
end Go.Proofs.YtodmgaikhbmlnaaGreatDoor
