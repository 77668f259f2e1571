/-
  The document's parser at any text.
-/
import Derived.Test.YtodmgaikhbmlnaaGreatDoorHn23
import Derived.Test.YtodmgaikhbmlnaaGreatDoorHn28
set_option maxRecDepth 100000
set_option maxHeartbeats 16000000
namespace Go.Proofs.YtodmgaikhbmlnaaGreatDoor
open Go.RowKit
theorem tPM_not : ∀ g ∈ signsS, g ≠ tPM := by decide +kernel
theorem rparse_any (ws : List ByteArray) (s : ByteArray) (w : World) (hs : s.size ≤ 3000) (hL : RefLists ws w) (hws : ∀ x ∈ ws, sgP 2 x = none) : Calls Tryz.prog 12 #[.string s] w (RpPost (zb0 ws s) w) := by
 have hT : ∀ W, RefLists ws W → Calls Tryz.prog 45 #[.string s] W (UPost (zkz ws signsS s (zz3 gapB s 0) []) W) := fun W h => refTokens_any ws s W hs h
 cases hl : zkz ws signsS s (zz3 gapB s 0) [] with
 | bad er p =>
  have he := toks_er ws signsS s zyj _ _ [] er p rfl (zwj gapB s 0 (Nat.zero_le _)) hl; rw [hl] at hT; exact rparse_toks ws s w er p he (fun t h => by unfold zb0 at h; rw [hl] at h; cases h) hL hT
 | ok l =>
  rw [hl] at hT; have hE := toks_ends zyj hl; have hN := toks_noSg zyj hws tPM_not hl; have h3 : l.length ≤ 3001 := by omega
  have hto := rprog_total hE.1 hE.2.1 h3; have hpt := zg8 hE.1 hE.2.1 h3; have hr : zb0 ws s = paOf (zh5 l (rfns l KK)) := by
   unfold zb0; rw [hl]; simp only
   cases zh5 l (rfns l KK) <;> rfl
  rw [hr]; refine rparse_main s w l (rfns l KK) _ hE.1 hE.2.1 h3 ws hL hT (fun c hc => ?_) ⟨KK, rfns_nx hE.1 KK⟩ (rfns_ok l KK) rfl hto.1 (fun t j h => ?_)
  ·
   subst hc; exact rfns_all hE.1 KK
  ·
   rcases rprog_imp hN.1 hN.2 KK KK t j h with h2 | h2
   ·
    have h4 := prog_cb (fns_cb KK) h2; have h5 := hpt.2 t j h2; omega
   ·
    exact absurd h2 hpt.1
structure SameAt (p q g h k L c1 c2 a b : Nat) (W : World) : Prop where
 x3 : W.cell? ⟨p, 3, none⟩ = some (.slice (some ⟨g, 0, none⟩) L c1)
 y3 : W.cell? ⟨q, 3, none⟩ = some (.slice (some ⟨h, 0, none⟩) L c2)
 xk : W.cell? ⟨g, k, none⟩ = some (nPtr a)
 yk : W.cell? ⟨h, k, none⟩ = some (nPtr b)
theorem same_any (I J : Nat → Prop) : ∀ (m : Nat) (t : Tr), t.count ≤ m → t.count ≤ 100000 → ∀ (p q : Nat) (w : World), NAt I w t p → NAt J w t q →
  Calls Tryz.prog 15 #[nPtr p, nPtr q] w fun e w' => e = .returned (.bool true) ∧ Below w.heap.size w w' := by
 intro m
 induction m with
 | zero =>
  intro t ht
  cases t with
  | mk kd tx nn ks => rw [zqy] at ht; omega
 | succ m ih =>
  intro t ht hbd p q w hnp hnq; obtain ⟨u, ps, hblk, hrow, hri, hks⟩ := hnp.opens2; obtain ⟨v, qs, hblq, hroq, hrj, hkq⟩ := hnq.opens2; have hlen := NAts.length _ _ hks; have hleq := NAts.length _ _ hkq
  have htc : t.count = 1 + Tr.counts t.kids := by cases t with | mk kd tx nn ks => exact zqy _ _ _ _
  obtain ⟨f0, f1, f2, f3, _⟩ := zzj hblk; obtain ⟨g0, g1, g2, g3, _⟩ := zzj hblq; obtain ⟨ua, uc, hu⟩ := zj2 hrow; subst hu; obtain ⟨va, vc, hv⟩ := zj2 hroq; subst hv; rw [hlen] at f3
  rw [hleq] at g3; have hkb : t.kids.length ≤ 100000 := by have := zvz t.kids; omega
  obtain ⟨kd, hkd⟩ : ∃ kd, kd = t.kd := ⟨_, rfl⟩; obtain ⟨tx, htx⟩ : ∃ tx, tx = t.tx := ⟨_, rfl⟩; obtain ⟨nn, hnn⟩ : ∃ nn, nn = t.n := ⟨_, rfl⟩; rw [← hkd] at f0 g0; rw [← htx] at f1 g1; rw [← hnn] at f2 g2
  have HKS := qh hks; have HKQ := qh hkq; have HROW := qh hrow; have HROQ := qh hroq; have HIH := qh ih; have HTC := qh htc; have HHT := qh ht; have HBD := qh hbd; have HLE := qh hlen
  have HLQ := qh hleq; have HP := qh (zzq hblk); have HQ := qh (zzq hblq); have HF3 := qh f3; have HG3 := qh g3; clear hri hrj hks hkq hrow hroq ih htc ht hbd hblk hblq hnp hnq hkd htx hnn hlen hleq
  go_enter Tryz.func15, Tryz.ntmps15; go_wp2_with fail
  go_region
  go_wp2_with fail
  go_loopw [64] (fun i wr => ∃ k : Nat, k ≤ t.kids.length ∧ i = .int .i64 k ∧ Below w.heap.size w wr) (fun i _ => t.kids.length - (intOf i).toNat)
  case atStart => exact ⟨0, Nat.zero_le _, rfl, qb.drew⟩
  case round =>
   obtain ⟨k, hk, rfl, hb⟩ := hrel; have HB := qh hb; clear hb f0 f1 f2 f3 g0 g1 g2 g3
   by_cases hlt : k < t.kids.length
   ·
    obtain ⟨g, cap, hv, hcell⟩ := zw9 HROW.out (by have := zzz HLE; omega)
    simp only [Value.slice.injEq] at hv; obtain ⟨rfl, _, rfl⟩ := hv; obtain ⟨h, cbp, hv, hcelq⟩ := zw9 HROQ.out (by have := zzz HLQ; omega)
    simp only [Value.slice.injEq] at hv; obtain ⟨rfl, _, rfl⟩ := hv; obtain ⟨hkp, hnk⟩ := NAts.get _ _ HKS.out k hlt; obtain ⟨hkq, hnl⟩ := NAts.get _ _ HKQ.out k hlt; have hgl : g < w.heap.size := (zxj HROW.out g rfl).1
    have hhl : h < w.heap.size := (zxj HROQ.out h rfl).1; have hbb := zzz HB; have hnk2 : NAt I wr.drew t.kids[k] ps[k] := NAt.later (fun x _ hl => (hbb.drew).block x hl) _ _ hnk
    have hnl2 : NAt J wr.drew t.kids[k] qs[k] := NAt.later (fun x _ hl => (hbb.drew).block x hl) _ _ hnl; have hst : SameAt p q g h k t.kids.length uc vc ps[k] qs[k] wr.drew :=
     ⟨by rw [World.cell?_of_block (w := w) ((hbb.drew).block p HP.out)]; exact HF3.out, by rw [World.cell?_of_block (w := w) ((hbb.drew).block q HQ.out)]; exact HG3.out, by rw [World.cell?_of_block (w := w) ((hbb.drew).block g hgl)]; exact hcell k hkp, by rw [World.cell?_of_block (w := w) ((hbb.drew).block h hhl)]; exact hcelq k hkq⟩
    have hle := zb4 t.kids k hlt; have h1 := zzz HTC; have h2 := zzz HHT; have h3 := zzz HBD; have HC := qh (HIH.out t.kids[k] (by omega) (by omega) ps[k] qs[k] wr.drew hnk2 hnl2)
    obtain ⟨a, ha⟩ : ∃ a, a = ps[k] := ⟨_, rfl⟩; obtain ⟨b, hb⟩ : ∃ b, b = qs[k] := ⟨_, rfl⟩; rw [← ha, ← hb] at hst HC; have HST := qh hst; have hki : (k : Int) < (t.kids.length : Int) := by omega
    have HX : Hid (∀ w2, Below wr.drew.heap.size wr.drew w2 → SameAt p q g h k t.kids.length uc vc a b w2 ∧ Below w.heap.size w w2) := fun w2 h2 => by
     have h3 : Below w.heap.size w w2 := hbb.drew.trans (h2.mono hbb.drew.size); refine ⟨⟨?_, ?_, ?_, ?_⟩, h3⟩
     ·
      rw [World.cell?_of_block (w := w) (h3.block p HP.out)]; exact zzz HF3
     ·
      rw [World.cell?_of_block (w := w) (h3.block q HQ.out)]; exact zzz HG3
     ·
      rw [World.cell?_of_block (w := w) (h3.block g hgl)]; rw [ha]; exact hcell k hkp
     ·
      rw [World.cell?_of_block (w := w) (h3.block h hhl)]; rw [hb]; exact hcelq k hkq
    clear hcell hcelq hnk hnl hnk2 hnl2 hle h1 h2 h3 ha hb hst hbb; go_wp2_with fail; refine wp_region_held (S := SameAt p q g h k t.kids.length uc vc a b) (by kernel_rfl) ?_; change wpAnyH _ _ _ _ _ _ _ _ (World.drew _)
    refine wh 0 (nPtr p) HST.out ?_; refine wh 1 (nPtr p) HST.out ?_; refine wh 2 (.pointer (some ⟨p, 3, none⟩)) HST.out ?_
    refine wg 3 (.slice (some ⟨g, 0, none⟩) t.kids.length uc) rfl (Or.inl ⟨by kernel_rfl, fun W hW => by have hh := SameAt.x3 hW; go_simp⟩) HST.out ?_
    refine wh 4 (.int .i64 (k : Int)) HST.out ?_; refine wh 5 (.pointer (some ⟨g, k, none⟩)) HST.out ?_; refine wg 6 (nPtr a) rfl (Or.inl ⟨by kernel_rfl, fun W hW => by have hh := SameAt.xk hW; go_simp⟩) HST.out ?_
    refine wh 7 (nPtr q) HST.out ?_; refine wh 8 (nPtr q) HST.out ?_; refine wh 9 (.pointer (some ⟨q, 3, none⟩)) HST.out ?_
    refine wg 10 (.slice (some ⟨h, 0, none⟩) t.kids.length vc) rfl (Or.inl ⟨by kernel_rfl, fun W hW => by have hh := SameAt.y3 hW; go_simp⟩) HST.out ?_
    refine wh 11 (.int .i64 (k : Int)) HST.out ?_; refine wh 12 (.pointer (some ⟨h, k, none⟩)) HST.out ?_; refine wg 13 (nPtr b) rfl (Or.inl ⟨by kernel_rfl, fun W hW => by have hh := SameAt.yk hW; go_simp⟩) HST.out ?_
    refine wq1 14 fun K hK => ?_; go_simp; refine cm HC.out ?_; rintro e w2 ⟨rfl, hb2⟩; obtain ⟨hs2, hb3⟩ := HX.out w2 hb2; have HS2 := qh hs2; have HB3 := qh hb3; clear hs2 hb2 hb3 HC
    refine hK.out _ _ HS2.out (fun _ => ?_); clear hK K; refine wh 15 (.bool false) HS2.out ?_; refine wpAnyH_done (by kernel_rfl) ?_ _; go_simp; go_wp2_with fail
    go_roundw
    case rel => exact ⟨k + 1, by omega, by go_num, HB3.out⟩
    case measure => simp [intOf]; omega
   ·
    have hk2 : k = t.kids.length := by omega
    subst hk2; go_wp2_with fail; go_ret; exact ⟨rfl, HB.out⟩
end Go.Proofs.YtodmgaikhbmlnaaGreatDoor
namespace Go.Proofs.YtodmgaikhbmlnaaGreatDoor
open Go.ChangeShapes Go.WideShapes Go.ChangeAt Go.WideMaps Go.WideElems Go.RowKit
def jn (a b : ByteArray) : ByteArray := ⟨(a.data.toList ++ 10 :: b.data.toList).toArray⟩
def shRd (D : Nat) : Rd → Rd
 | .tok kd tx n e => .tok kd tx n (D + e)
 | .bad er p => .bad er (D + p)
def shTk (D : Nat) (t : Tk) : Tk := ⟨t.kd, t.tx, t.n, D + t.pl⟩
end Go.Proofs.YtodmgaikhbmlnaaGreatDoor
namespace Go.Proofs.YtodmgaikhbmlnaaGreatDoor
open Go.RowKit
def NoHead (s : ByteArray) : Prop := s = zmv ∨ s = zj8 ∨ s = zxq
theorem NoHead.facts {s : ByteArray} (h : NoHead s) : s ≠ zzx ∧ zx1 vlKeys s = none ∧ (sgP 0 s).isNone = true ∧ (sgP 1 s).isNone = true ∧ zx1 stKeys s = none := by
 rcases h with rfl | rfl | rfl <;> decide
section
variable {l : List Tk} {s : ByteArray} {i : Nat} (hs : NoHead s) (hf : fx l i = s)
include hs hf
end
theorem progP_inv {l : List Tk} {F : Fns} {t : Tr} {j : Nat} (h : zh5 l F = .ok t j) : ∃ ts, zjv l F F.fuel [] 0 = .ok ts j ∧ t = zh0 (.mk 1 zzx 0 ts) := by
 unfold zh5 at h
 obtain ⟨ts, j1, h1, h⟩ := zq8 h
 cases h
 exact ⟨ts, h1, rfl⟩
theorem codeT_kd (t : Tr) : (zh0 t).kd = t.kd := by unfold zh0; split <;> rfl
theorem parseS_kd {ws gs : List ByteArray} {s : ByteArray} {t : Tr} (h : parseS ws gs s = .ok t) : t.kd = 1 ∧ t.count ≤ 1500 := by
 unfold parseS at h
 split at h
 ·
  cases h
 ·
  split at h
  ·
   cases h
  ·
   split at h
   ·
    cases h
   ·
    rename_i hr
    split at h
    ·
     cases h
    ·
     cases h; obtain ⟨ts, _, rfl⟩ := progP_inv hr; exact ⟨codeT_kd _, by omega⟩
   ·
    cases h
def ReadPost (r : PaR) (w : World) (e : Ending) (w' : World) : Prop :=
 match r with
 | .ok t => ∃ p, e = .returned (.tuple #[nPtr p, .bool true]) ∧ NAt (From w.heap.size) w' t p ∧ Below w.heap.size w w'
 | _ => e = .returned (.tuple #[.pointer none, .bool false]) ∧ Below w.heap.size w w'
def bothS (ws : List ByteArray) (s : ByteArray) : Option Tr := if 3000 < s.size then none else match zb0 ws s with | .ok t => some t | _ => none
def BoPost (r : Option Tr) (w : World) (e : Ending) (w' : World) : Prop :=
 match r with
 | some t => ∃ p q, e = .returned (.tuple #[nPtr p, nPtr q, .bool true]) ∧ NAt (From w.heap.size) w' t p ∧ NAt (From w.heap.size) w' t q ∧ Below w.heap.size w w'
 | none => e = .returned (.tuple #[.pointer none, .pointer none, .bool false]) ∧ Below w.heap.size w w'
theorem both_long (s : ByteArray) (w : World) (hs : 3000 < s.size) : Calls Tryz.prog 19 #[.string s] w (BoPost none w) := by
 have hgt : decide ((3000 : Int) < (s.size : Int)) = true := decide_eq_true (by omega)
 go_enter Tryz.func19, Tryz.ntmps19
 go_wp2_with fail
 exact bodyPost_ret (v := .tuple #[.pointer none, .pointer none, .bool false]) (by simp [results, Tryz.results19, go_sem]) rfl ⟨rfl, Below.refl _ _⟩
theorem both_bad (s : ByteArray) (w : World) (r : PaR) (hs : s.size ≤ 3000) (hr : ∀ t, r ≠ .ok t) (h : Calls Tryz.prog 12 #[.string s] w (RpPost r w)) : Calls Tryz.prog 19 #[.string s] w (BoPost none w) := by
 have hgt : decide ((3000 : Int) < (s.size : Int)) = false := decide_eq_false (by omega)
 have h2 : Calls Tryz.prog 12 #[.string s] w (fun e w' => ∃ er pl : Int, er ≠ 0 ∧ e = .returned (.tuple #[.pointer none, .agg #[.int .i64 er, .int .i64 pl]]) ∧ Below w.heap.size w w') := by
  cases r with
  | ok t => exact absurd rfl (hr t)
  | bare => exact h
  | «at» a b => exact h
 have HC := qh h2
 clear h h2 hr
 go_enter Tryz.func19, Tryz.ntmps19
 go_wp2_with fail
 refine cm HC.out ?_
 rintro e w1 ⟨er, pl, he, rfl, hb⟩
 have hb0 : (er != 0) = true := bne_iff_ne.2 he
 have HB := qh hb
 clear hb HC
 go_wp2_with fail
 exact bodyPost_ret (v := .tuple #[.pointer none, .pointer none, .bool false]) (by simp [results, Tryz.results19, go_sem]) rfl ⟨rfl, HB.out.alloc HB.out.size _⟩
theorem both_ok (s : ByteArray) (w : World) (t : Tr) (hs : s.size ≤ 3000) (hc : t.count ≤ 1500) (h : Calls Tryz.prog 12 #[.string s] w (RpPost (.ok t) w)) (h2 : ∀ W, Below w.heap.size w W → Calls Tryz.prog 13 #[.string s] W (PaPost (.ok t) W)) : Calls Tryz.prog 19 #[.string s] w (BoPost (some t) w) := by
 have hgt : decide ((3000 : Int) < (s.size : Int)) = false := decide_eq_false (by omega)
 have HC := qh h
 have HC2 := qh h2
 clear h h2
 go_enter Tryz.func19, Tryz.ntmps19
 go_wp2_with fail
 refine cm HC.out ?_
 rintro e w1 ⟨q, rfl, hn, hb⟩
 have HB := qh (hb.alloc hb.size (.cells #[.int .i64 0, .int .i64 (-1)] 25))
 have HN := qh (NAt.later (fun b _ hl => Below.heap_alloc w1 (.cells #[.int .i64 0, .int .i64 (-1)] 25) b hl) _ _ hn)
 have HC3 := qh (zzz HC2 _ HB.out)
 clear hb hn HC HC2
 go_wp2_with fail
 refine cm HC3.out ?_
 rintro e w2 ⟨p, rfl, hn2, hb2⟩
 have HB2 := qh (HB.out.trans (hb2.mono HB.out.size))
 have HNq := qh (NAt.later (fun b _ hl => hb2.block b hl) _ _ HN.out)
 have HNp := qh (NAt.mono (J := From w.heap.size) (fun b h1 _ => Nat.le_trans HB.out.size h1) _ _ hn2)
 have HC4 := qh (same_any _ _ t.count t qv (by omega) p q w2 HNp.out HNq.out)
 clear hb2 hn2 HC3
 go_wp2_with fail
 refine cm HC4.out ?_
 rintro e w3 ⟨rfl, hb3⟩
 have HB3 := qh (HB2.out.trans (hb3.mono HB2.out.size))
 have HNq2 := qh (NAt.later (fun b _ hl => hb3.block b hl) _ _ HNq.out)
 have HNp2 := qh (NAt.later (fun b _ hl => hb3.block b hl) _ _ HNp.out)
 clear hb3 HC4
 go_wp2_with fail
 exact bodyPost_ret (v := .tuple #[nPtr p, nPtr q, .bool true]) (by simp [results, Tryz.results19, go_sem]) rfl ⟨p, q, rfl, HNp2.out, HNq2.out, HB3.out⟩
theorem both_any (ws gs : List ByteArray) (s : ByteArray) (w : World) (hL : Lists ws gs w) (hT : Tabs w) (hR : RefLists ws w) (hg : gs = signsS) (hws : ∀ x ∈ ws, sgP 2 x = none) : Calls Tryz.prog 19 #[.string s] w (BoPost (bothS ws s) w) := by
 have hgs : ∀ g ∈ gs, 1 ≤ g.size := by rw [hg]; exact zyj
 unfold bothS
 by_cases hs : 3000 < s.size
 ·
  rw [if_pos hs]; exact both_long s w hs
 ·
  rw [if_neg hs]; have h1 := rparse_any ws s w (by omega) hR hws
  cases hr : zb0 ws s with
  | ok t =>
   rw [hr] at h1; have h2 := rparse_same hg (by omega) hgs hws (by rw [hg]; exact tPM_not) hr
   have h3 := (parseS_kd h2).2; refine both_ok s w t (by omega) h3 h1 (fun W hb => ?_); rw [← h2]; exact parse_any ws gs s W (hL.later hb) hgs (hT.later hb)
  | bare => rw [hr] at h1; exact both_bad s w _ (by omega) (by nofun) h1
  | «at» a b => rw [hr] at h1; exact both_bad s w _ (by omega) (by nofun) h1
theorem bothS_count {ws gs : List ByteArray} {s : ByteArray} {t : Tr} (hg : gs = signsS) (hws : ∀ x ∈ ws, sgP 2 x = none) (h : bothS ws s = some t) : t.count ≤ 1500 ∧ t.kd = 1 ∧ parseS ws gs s = .ok t := by
 have hgs : ∀ g ∈ gs, 1 ≤ g.size := by rw [hg]; exact zyj
 unfold bothS at h
 split at h
 ·
  cases h
 ·
  cases hr : zb0 ws s with
  | ok t2 =>
   rw [hr] at h; cases h; have h2 := rparse_same hg (by omega) hgs hws (by rw [hg]; exact tPM_not) hr
   exact ⟨(parseS_kd h2).2, (parseS_kd h2).1, h2⟩
  | bare => rw [hr] at h; cases h
  | «at» a b => rw [hr] at h; cases h
abbrev SRow (B : Nat) (w : World) (v : Value) (l : List ByteArray) : Prop := w.ownsRow B 9 1 v l.length (l.map Value.string)
theorem info9 : (Tryz.prog.info? 9).map (fun i => (i.zero, i.size, i.bytes)) = some (some (.string ByteArray.empty), 1, 16) := by kernel_rfl
theorem zz7 {w : World} {B e sz n : Nat} {v : Value} {xs : List Value} (h : w.ownsRow B e sz v n xs) : ∃ a cap, v = .slice a n cap := by
 rcases h.2 with ⟨rfl, rfl⟩ | ⟨g, cap, cur, rfl, _⟩
 ·
  exact ⟨none, 0, rfl⟩
 ·
  exact ⟨_, cap, rfl⟩
theorem zfj (B : Nat) (w : World) : SRow B w (.slice none 0 0) [] := ⟨rfl, Or.inl ⟨rfl, rfl⟩⟩
theorem zbw {B : Nat} {w : World} {v : Value} {l : List ByteArray} (h : SRow B w v l) (k : Nat) (hk : k < l.length) : ∃ g cap, v = .slice (some ⟨g, 0, none⟩) l.length cap ∧ g < w.heap.size ∧ B ≤ g ∧ w.cell? ⟨g, k, none⟩ = some (.string l[k]) := by
 obtain ⟨g, cap, rfl, _, _⟩ := h.form (by omega)
 have h1 := zxj h g rfl
 refine ⟨g, cap, rfl, h1.1, h1.2, ?_⟩
 rw [h.cellAt k (by omega)]
 simp [hk]
theorem zbv (l : List ByteArray) : ∀ u ∈ l.map Value.string, u.oneCell' = true := by
 intro u hu
 obtain ⟨p, _, rfl⟩ := List.mem_map.1 hu
 rfl
theorem zp8 (w : World) (s : ByteArray) (H : Nat) (h : w.heap.size = H) : ∀ j u, [Value.string s][j]? = some u → (w.alloc (.cells #[.string s] 9)).cell? ((⟨H, 0, none⟩ : Addr).add j) = some u := by
 subst h
 intro j u hj
 match j with
 | 0 =>
  simp only [List.getElem?_cons_zero, Option.some.injEq] at hj; subst hj
  show (w.alloc (.cells #[.string s] 9)).cell? ⟨w.heap.size, 0 + 0, none⟩ = _
  rw [zqj (zqx w (.cells #[.string s] 9))]; rfl
 | n + 1 => simp at hj
theorem hoOneS (s : ByteArray) : ∀ u ∈ [Value.string s], u.oneCell' = true := by
 intro u hu
 rw [List.mem_singleton.1 hu]
 rfl
def hasB (l : List ByteArray) (s : ByteArray) : Bool := l.any (fun x => decide (s = x))
theorem hasB_iff {l : List ByteArray} {s : ByteArray} : hasB l s = true ↔ s ∈ l := by simp [hasB]
theorem hasB_no {l : List ByteArray} {s : ByteArray} : hasB l s = false ↔ s ∉ l := by rw [← hasB_iff]; simp
def addB (l : List ByteArray) (s : ByteArray) : List ByteArray := if hasB l s then l else l ++ [s]
def zb8 (l : List ByteArray) : List ByteArray := l.foldl addB []
theorem index_any {B : Nat} (l : List ByteArray) (s : ByteArray) (v : Value) (w : World) (h : SRow B w v l) (hl : l.length ≤ 100000) :
  Calls Tryz.prog 189 #[v, .string s] w fun e w' => (∃ k : Int, e = .returned (.int .i64 k) ∧ decide (0 ≤ k) = hasB l s) ∧ w' = w := by
 obtain ⟨va, vc, rfl⟩ := zz7 h
 have HR := qh h
 clear h
 go_enter Tryz.func189, Tryz.ntmps189
 go_wp2_with fail
 go_loopw [8] (fun i wr => ∃ k : Nat, k ≤ l.length ∧ i = .int .i64 k ∧ s ∉ l.take k ∧ wr = w) (fun i _ => l.length - (intOf i).toNat)
 case atStart => exact ⟨0, Nat.zero_le _, rfl, by simp, rfl⟩
 case round =>
  obtain ⟨k, hk, rfl, hns, rfl⟩ := hrel; have HNS := qh hns; clear hns
  by_cases hlt : k < l.length
  ·
   obtain ⟨g, cap, hv, hg, _, hc⟩ := zbw HR.out k hlt; simp only [Value.slice.injEq] at hv; obtain ⟨rfl, _, rfl⟩ := hv; have hki : (k : Int) < (l.length : Int) := by omega
   obtain ⟨x, hx⟩ : ∃ x, x = l[k] := ⟨_, rfl⟩; rw [← hx] at hc; have HX := qh hx; clear hx
   by_cases he : s = x
   ·
    subst he; go_wp2_with fail; go_ret; refine ⟨⟨k, rfl, ?_⟩, rfl⟩; rw [decide_eq_true (by omega), eq_comm, hasB_iff, HX.out]; exact List.getElem_mem _
   ·
    have hne := zp2 he; have HE := qh he; clear he; go_wp2_with fail
    go_roundw
    case rel =>
     refine ⟨k + 1, by omega, by go_num, ?_, trivial⟩; rw [List.take_succ_eq_append_getElem hlt]; intro hm
     rcases List.mem_append.1 hm with hm | hm
     ·
      exact zzz HNS hm
     ·
      exact zzz HE (by rw [HX.out]; exact List.mem_singleton.1 hm)
    case measure => simp [intOf]; omega
  ·
   have hkk : k = l.length := by omega
   subst hkk; go_wp2_with fail; go_ret; refine ⟨⟨-1, rfl, ?_⟩, rfl⟩; have h := zzz HNS; rw [List.take_length] at h; rw [hasB_no.2 h]; rfl
theorem contains_any {B : Nat} (l : List ByteArray) (s : ByteArray) (v : Value) (w : World) (h : SRow B w v l) (hl : l.length ≤ 100000) :
  Calls Tryz.prog 134 #[v, .string s] w fun e w' => e = .returned (.bool (hasB l s)) ∧ w' = w := by
 have HC := qh (index_any l s v w h hl)
 clear h
 go_enter Tryz.func134, Tryz.ntmps134
 go_wp2_with fail
 refine cm HC.out ?_
 rintro e w1 ⟨⟨k, rfl, hk⟩, rfl⟩
 have HK := qh hk
 clear hk HC
 go_wp2_with fail
 go_ret
 exact ⟨zwx HK.out, rfl⟩
theorem take_snoc' {α : Type} (l : List α) (k : Nat) (hk : k < l.length) : l.take (k + 1) = l.take k ++ [l[k]] := List.take_succ_eq_append_getElem hk
theorem once_take (l : List ByteArray) (k : Nat) (hk : k < l.length) : zb8 (l.take (k + 1)) = addB (zb8 (l.take k)) l[k] := by
 rw [take_snoc' l k hk, zb8, List.foldl_append]; rfl
theorem zp5 (l : List ByteArray) : (zb8 l).length ≤ l.length := by
 have : ∀ (l acc : List ByteArray), (l.foldl addB acc).length ≤ acc.length + l.length := by
  intro l
  induction l with
  | nil => intro acc; simp
  | cons x l ih =>
   intro acc; have h := ih (addB acc x); have h2 : (addB acc x).length ≤ acc.length + 1 := by unfold addB; split <;> simp
   simp only [List.foldl_cons, List.length_cons]; omega
 simpa [zb8] using this l []
theorem zm8 {B : Nat} (l : List ByteArray) (v : Value) (w : World) (h : SRow B w v l) (hl : l.length ≤ 90000) :
  Calls Tryz.prog 65 #[v] w fun e w' => (∃ u, e = .returned u ∧ SRow w.heap.size w' u (zb8 l)) ∧ Below w.heap.size w w' := by
 obtain ⟨i0, hi0, hz0, hz1, hz2⟩ := info_parts info9
 obtain ⟨va, vc, rfl⟩ := zz7 h
 have HR := qh h
 clear h
 go_enter Tryz.func65, Tryz.ntmps65
 go_wp2_with fail
 go_loopw [3, 8] (fun o i wr => ∃ k : Nat, k ≤ l.length ∧ i = .int .i64 k ∧ SRow w.heap.size wr o (zb8 (l.take k)) ∧ Below w.heap.size w wr) (fun _ i _ => l.length - (intOf i).toNat)
 case atStart => exact ⟨0, Nat.zero_le _, rfl, zfj _ _, Below.refl _ _⟩
 case round =>
  obtain ⟨k, hk, rfl, hown, hbel⟩ := hrel; have HOWN := qh hown; have HBEL := qh hbel; obtain ⟨oa, oc, rfl⟩ := zz7 hown; clear hown hbel
  by_cases hlt : k < l.length
  ·
   obtain ⟨g, cap, hv, hg, _, hc⟩ := zbw HR.out k hlt; simp only [Value.slice.injEq] at hv; obtain ⟨rfl, _, rfl⟩ := hv; have hki : (k : Int) < (l.length : Int) := by omega
   obtain ⟨x, hx⟩ : ∃ x, x = l[k] := ⟨_, rfl⟩; rw [← hx] at hc; have HX := qh hx; have hcr : wr.cell? ⟨g, k, none⟩ = some (.string x) := by rw [HBEL.out.cell (p := ⟨g, k, none⟩) hg]; exact hc
   have HON := qh (once_take l k hlt); have hol := zp5 (l.take k); rw [List.length_take] at hol; obtain ⟨L, hL⟩ : ∃ L, L = zb8 (l.take k) := ⟨_, rfl⟩; rw [← hL] at hol; have HL := qh hL
   have HOW2 : Hid (SRow w.heap.size wr (.slice oa L.length oc) L) := by
    have h := zzz HOWN; rw [← hL] at h; exact h
   rw [← hL]; have hLk : L.length ≤ k := by omega
   have HC := qh (contains_any L x _ wr HOW2.out (by omega)); have hgr : g < wr.heap.size := Nat.lt_of_lt_of_le hg HBEL.out.size; have hsz := HBEL.out.size; clear hx hc hg HOWN hL hol
   cases hh : hasB L x with
   | true =>
    rw [hh] at HC; have HH := qh hh; clear hh; go_wp2_with fail; refine cm HC.out ?_; rintro e w2 ⟨rfl, rfl⟩; clear HC; go_wp2_with fail
    go_roundw
    case rel =>
     refine ⟨k + 1, by omega, by go_num, ?_, HBEL.out⟩; rw [HON.out, ← HL.out, ← HX.out, addB, if_pos HH.out]; exact zzz HOW2
    case measure => simp [intOf]; omega
   | false =>
    rw [hh] at HC; have HH := qh hh; clear hh; go_wp2_with fail; refine cm HC.out ?_; rintro e w2 ⟨rfl, rfl⟩; clear HC
    go_wp2_with (at_builtin; refine wpList_append_lies _ rfl _ _ 54 rfl w.heap.size 9 i0 (.string ByteArray.empty) 1 16 Tryz.underlying54 hi0 hz0 hz1 hz2 rfl (by decide) _ _ _ rfl (HOW2.out.alloc _) ⟨w2.heap.size, 0, none⟩ 1 1 [.string x] rfl rfl (zp8 w2 x _ rfl) (hoOneS x) (by decide) (by unfold maxLen; omega) (by omega) (by simp; omega) (w2.heap.size + 1) (by simp) ?_)
    intro g' cap' w3 hown' hgrow hg' _; have HB3 := qh ((HBEL.out.alloc hsz (.cells #[.string x] 9)).grown hgrow (by simp; omega) (fun b hb => (zxj HOW2.out b hb).2))
    have HO3 := qh hown'; clear hown' hgrow hg'; go_wp2_with fail
    go_roundw
    case rel =>
     refine ⟨k + 1, by omega, by go_num, ?_, HB3.out⟩; rw [HON.out, ← HL.out, ← HX.out, addB, if_neg (by rw [HH.out]; decide)]
     have h := zzz HO3
     show World.ownsRow _ _ _ _ _ _ _
     rw [List.length_append, List.map_append]; exact h
    case measure => simp [intOf]; omega
  ·
   have hkk : k = l.length := by omega
   subst hkk; go_wp2_with fail; go_ret; refine ⟨⟨_, rfl, ?_⟩, HBEL.out⟩; have h := zzz HOWN; rw [List.take_length] at h; rw [List.take_length]; exact h
abbrev NTr (w : World) (t : Tr) (p : Nat) : Prop := NAt (fun _ => True) w t p
def NRow (B : Nat) (w : World) (v : Value) (ts : List Tr) : Prop := ∃ ps : List Nat, w.ownsRow B 22 1 v ps.length (ps.map nPtr) ∧ NAts (fun _ => True) w ts ps
theorem Below.stay {I : Nat → Prop} {w w' : World} (h : Below w.heap.size w w') : Stay I w w' := fun b _ hl => h.block b hl
theorem NAt.nt {I : Nat → Prop} {w : World} {t : Tr} {p : Nat} (h : NAt I w t p) : NTr w t p := NAt.mono (fun _ _ _ => trivial) _ _ h
theorem NTr.later {w w' : World} {t : Tr} {p : Nat} (h : NTr w t p) (hb : Below w.heap.size w w') : NTr w' t p := NAt.later (Below.stay hb) _ _ h
theorem NRow.later {B : Nat} {w w' : World} {v : Value} {ts : List Tr} (h : NRow B w v ts) (hb : Below w.heap.size w w') : NRow B w' v ts := by
 obtain ⟨ps, h1, h2⟩ := h
 exact ⟨ps, zj4 (I := fun _ => True) (Below.stay hb) (fun _ _ => trivial) h1, NAts.later (Below.stay hb) _ _ h2⟩
theorem SRow.later {B : Nat} {w w' : World} {v : Value} {l : List ByteArray} (h : SRow B w v l) (hb : Below w.heap.size w w') : SRow B w' v l := zj4 (I := fun _ => True) (Below.stay hb) (fun _ _ => trivial) h
theorem NRow.form {B : Nat} {w : World} {v : Value} {ts : List Tr} (h : NRow B w v ts) : ∃ a cap, v = .slice a ts.length cap := by
 obtain ⟨ps, h1, h2⟩ := h
 rw [← NAts.length _ _ h2]
 exact zj2 h1
theorem NRow.nil (B : Nat) (w : World) : NRow B w (.slice none 0 0) [] := ⟨[], ⟨rfl, Or.inl ⟨rfl, rfl⟩⟩, NAts.nil⟩
theorem NRow.cell {B : Nat} {w : World} {v : Value} {ts : List Tr} (h : NRow B w v ts) (k : Nat) (hk : k < ts.length) : ∃ g cap p, v = .slice (some ⟨g, 0, none⟩) ts.length cap ∧ g < w.heap.size ∧ w.cell? ⟨g, k, none⟩ = some (nPtr p) ∧ NTr w ts[k] p := by
 obtain ⟨ps, h1, h2⟩ := h
 have hl := NAts.length _ _ h2
 obtain ⟨g, cap, rfl, hc⟩ := zw9 h1 (by omega)
 obtain ⟨hp, hn⟩ := NAts.get _ _ h2 k hk
 exact ⟨g, cap, ps[k], by rw [hl], (zxj h1 g rfl).1, hc k hp, hn⟩
theorem NRow.own {B : Nat} {w : World} {v : Value} {ts : List Tr} (h : NRow B w v ts) (g : Nat) (hg : v.ownBlock = some g) : g < w.heap.size ∧ B ≤ g := by
 obtain ⟨ps, h1, h2⟩ := h
 exact zxj h1 g hg
theorem NTr.cells {w : World} {t : Tr} {p : Nat} (h : NTr w t p) : p < w.heap.size ∧ w.cell? ⟨p, 0, none⟩ = some (.int .i64 t.kd) ∧ w.cell? ⟨p, 1, none⟩ = some (.string t.tx) ∧ ∃ u, w.cell? ⟨p, 3, none⟩ = some u ∧ NRow 0 w u t.kids := by
 obtain ⟨u, ps, hb, hr, _, hk⟩ := NAt.opens2 h
 obtain ⟨c0, c1, _, c3, _⟩ := zzj hb
 exact ⟨zzq hb, c0, c1, u, c3, ps, hr, hk⟩
theorem one_cellsP (w : World) (q : Nat) (H : Nat) (h : w.heap.size = H) : ∀ j u, [nPtr q][j]? = some u → (w.alloc (.cells #[nPtr q] 22)).cell? ((⟨H, 0, none⟩ : Addr).add j) = some u := by
 subst h
 intro j u hj
 match j with
 | 0 =>
  simp only [List.getElem?_cons_zero, Option.some.injEq] at hj; subst hj
  show (w.alloc (.cells #[nPtr q] 22)).cell? ⟨w.heap.size, 0 + 0, none⟩ = _
  rw [zqj (zqx w (.cells #[nPtr q] 22))]; rfl
 | n + 1 => simp at hj
theorem one_oneP (q : Nat) : ∀ u ∈ [nPtr q], u.oneCell' = true := by
 intro u hu
 rw [List.mem_singleton.1 hu]
 rfl
theorem zdw {B : Nat} (ts : List Tr) (v : Value) (w : World) (h : NRow B w v ts) (hl : ts.length ≤ 90000) :
  Calls Tryz.prog 72 #[v] w fun e w' => (∃ u, e = .returned u ∧ SRow w.heap.size w' u (ts.map Tr.tx)) ∧ Below w.heap.size w w' := by
 obtain ⟨i0, hi0, hz0, hz1, hz2⟩ := info_parts info9
 obtain ⟨va, vc, rfl⟩ := h.form
 have HR := qh h
 clear h
 go_enter Tryz.func72, Tryz.ntmps72
 go_wp2_with fail
 go_loopw [3, 8] (fun o i wr => ∃ k : Nat, k ≤ ts.length ∧ i = .int .i64 k ∧ SRow w.heap.size wr o ((ts.take k).map Tr.tx) ∧ Below w.heap.size w wr) (fun _ i _ => ts.length - (intOf i).toNat)
 case atStart => exact ⟨0, Nat.zero_le _, rfl, zfj _ _, Below.refl _ _⟩
 case round =>
  obtain ⟨k, hk, rfl, hown, hbel⟩ := hrel; have HOWN := qh hown; have HBEL := qh hbel; obtain ⟨oa, oc, rfl⟩ := zz7 hown; clear hown hbel
  by_cases hlt : k < ts.length
  ·
   obtain ⟨g, cap, q, hv, hg, hc, hn⟩ := (HR.out.later HBEL.out).cell k hlt; simp only [Value.slice.injEq] at hv; obtain ⟨rfl, _, rfl⟩ := hv; obtain ⟨hql, _, c1, _⟩ := hn.cells
   have hki : (k : Int) < (ts.length : Int) := by omega
   obtain ⟨x, hx⟩ : ∃ x, x = (ts[k]).tx := ⟨_, rfl⟩; rw [← hx] at c1; have HX := qh hx; have hsz := HBEL.out.size; obtain ⟨L, hL⟩ : ∃ L, L = (ts.take k).map Tr.tx := ⟨_, rfl⟩
   have hLl : L.length = k := by rw [hL]; simp; omega
   have HL := qh hL; rw [← hL] at HOWN ⊢; have HOW2 : Hid (World.ownsRow wr w.heap.size 9 1 (.slice oa k oc) k (L.map Value.string)) := by
    have h : World.ownsRow wr w.heap.size 9 1 (.slice oa L.length oc) L.length (L.map Value.string) := zzz HOWN; rw [hLl] at h; exact h
   rw [hLl]; have HLL := qh hLl; clear hx hn HOWN hL hLl
   go_wp2_with (at_builtin; refine wpList_append_lies _ rfl _ _ 54 rfl w.heap.size 9 i0 (.string ByteArray.empty) 1 16 Tryz.underlying54 hi0 hz0 hz1 hz2 rfl (by decide) _ _ _ rfl (HOW2.out.alloc _) ⟨wr.heap.size, 0, none⟩ 1 1 [.string x] rfl rfl (zp8 wr x _ rfl) (hoOneS x) (by decide) (by unfold maxLen; omega) (by omega) (by simp; omega) (wr.heap.size + 1) (by simp) ?_)
   intro g' cap' w3 hown' hgrow hg' _; have HB3 := qh ((HBEL.out.alloc hsz (.cells #[.string x] 9)).grown hgrow (by simp; omega) (fun b hb => (zxj HOW2.out b hb).2))
   have HO3 := qh hown'; clear hown' hgrow hg'; go_wp2_with fail
   go_roundw
   case rel =>
    refine ⟨k + 1, by omega, by go_num, ?_, HB3.out⟩; rw [List.take_succ_eq_append_getElem hlt, List.map_append, ← HL.out]
    show World.ownsRow _ _ _ _ _ _ _
    rw [List.length_append, List.map_append, HLL.out]
    show World.ownsRow _ _ _ _ _ _ (_ ++ [Value.string (ts[k]).tx])
    rw [← HX.out]; exact zzz HO3
   case measure => simp [intOf]; omega
  ·
   have hkk : k = ts.length := by omega
   subst hkk; go_wp2_with fail; go_ret; refine ⟨⟨_, rfl, ?_⟩, HBEL.out⟩; have h := zzz HOWN; rw [List.take_length] at h; rw [List.take_length]; exact h
theorem kids_any (t : Tr) (p : Nat) (w : World) (h : NTr w t p) : Calls Tryz.prog 64 #[nPtr p] w fun e w' => (∃ u, e = .returned u ∧ NRow 0 w u t.kids) ∧ w' = w := by
 obtain ⟨hpl, _, _, u, c3, hr⟩ := h.cells
 obtain ⟨ua, uc, rfl⟩ := hr.form
 have HR := qh hr
 clear hr h
 go_enter Tryz.func64, Tryz.ntmps64
 go_wp2_with fail
 go_ret
 exact ⟨⟨_, rfl, HR.out⟩, rfl⟩
abbrev fnV (F : Nat) : Value := .func (.func F) #[] #[]
theorem zp0 (F : Nat) (f : Tr → Bool) (hen : ∀ args W, (callFunc F args).run Tryz.prog W = .ok (.enter F args) W)
  (hF : ∀ t p W, NTr W t p → Calls Tryz.prog F #[nPtr p] W fun e w' => e = .returned (.bool (f t)) ∧ w' = W)
  (t : Tr) (p : Nat) (w : World) (h : NTr w t p) (hl : t.kids.length ≤ 90000) :
  Calls Tryz.prog 68 #[nPtr p, fnV F] w fun e w' => (∃ u, e = .returned u ∧ NRow w.heap.size w' u (t.kids.filter f)) ∧ Below w.heap.size w w' := by
 obtain ⟨i0, hi0, hz0, hz1, hz2⟩ := info_parts zkw
 have HK := qh (kids_any t p w h)
 have HF := qh hF
 clear h hF
 generalize hts : t.kids = ts at HK hl
 clear hts t
 go_enter Tryz.func68, Tryz.ntmps68
 go_wp2_with fail
 refine cm HK.out ?_
 rintro e w1 ⟨⟨u, rfl, hr⟩, rfl⟩
 obtain ⟨va, vc, rfl⟩ := hr.form
 have HR := qh hr
 clear HK hr
 go_wp2_with fail
 go_loopw [5, 11] (fun o i wr => ∃ (k : Nat) (qs : List Nat), k ≤ ts.length ∧ i = .int .i64 k ∧ wr.ownsRow w1.heap.size 22 1 o qs.length (qs.map nPtr) ∧ NAts (fun _ => True) w1 ((ts.take k).filter f) qs ∧ Below w1.heap.size w1 wr) (fun _ i _ => ts.length - (intOf i).toNat)
 case atStart => exact ⟨0, [], Nat.zero_le _, rfl, ⟨rfl, Or.inl ⟨rfl, rfl⟩⟩, NAts.nil, Below.refl _ _⟩
 case round =>
  obtain ⟨k, qs, hk, rfl, hown, hns, hbel⟩ := hrel; have HO := qh hown; have HNS := qh hns; have HBEL := qh hbel; obtain ⟨oa, oc, rfl⟩ := zj2 hown; have hql := NAts.length _ _ hns; clear hown hbel hns
  by_cases hlt : k < ts.length
  ·
   obtain ⟨g, cap, q, hv, hg, hc0, hn0⟩ := HR.out.cell k hlt; simp only [Value.slice.injEq] at hv; obtain ⟨rfl, _, rfl⟩ := hv
   have hc : wr.cell? ⟨g, k, none⟩ = some (nPtr q) := by rw [HBEL.out.cell (p := ⟨g, k, none⟩) hg]; exact hc0
   have hki : (k : Int) < (ts.length : Int) := by omega
   have hsz := HBEL.out.size; have HC := qh (zzz HF ts[k] q wr (hn0.later HBEL.out)); have HN := qh hn0; have HTK := qh (List.take_succ_eq_append_getElem hlt); have hgr : g < wr.heap.size := by omega
   have hLl : qs.length ≤ k := by rw [hql]; have := List.length_filter_le f (ts.take k); rw [List.length_take] at this; omega
   have HOL := qh (zxj HO.out); clear hn0 hc0 hql
   cases hh : f ts[k] with
   | true =>
    rw [hh] at HC; have HH := qh hh; clear hh; go_wp2_with fail; refine cm HC.out ?_; rintro e w2 ⟨rfl, rfl⟩; clear HC
    go_wp2_with (at_builtin; refine wpList_append_lies _ rfl _ _ 36 rfl w1.heap.size 22 i0 (.pointer none) 1 8 Tryz.underlying36 hi0 hz0 hz1 hz2 rfl (by decide) _ _ _ rfl (HO.out.alloc _) ⟨w2.heap.size, 0, none⟩ 1 1 [nPtr q] rfl rfl (one_cellsP w2 q _ rfl) (one_oneP q) (by decide) (by unfold maxLen; omega) (by omega) (by simp; omega) (w2.heap.size + 1) (by simp) ?_)
    intro g' cap' w3 hown' hgrow hg' _; have HB3 := qh (HBEL.out.trans (((Below.refl w1.heap.size w2).alloc hsz (.cells #[nPtr q] 22)).grown hgrow (by simp; omega) (fun b hb => (zzz HOL b hb).2)))
    have HO3 := qh hown'; clear hown' hgrow hg'; go_wp2_with fail
    go_roundw
    case rel =>
     refine ⟨k + 1, qs ++ [q], by omega, by go_num, ?_, ?_, HB3.out⟩
     ·
      rw [List.length_append, List.map_append]; exact zzz HO3
     ·
      rw [HTK.out, List.filter_append]; simp only [List.filter_cons, HH.out, List.filter_nil, if_true]; exact NAts.append (NAts.cons HN.out NAts.nil) _ _ HNS.out
    case measure => simp [intOf]; omega
   | false =>
    rw [hh] at HC; have HH := qh hh; clear hh; go_wp2_with fail; refine cm HC.out ?_; rintro e w2 ⟨rfl, rfl⟩; clear HC; go_wp2_with fail
    go_roundw
    case rel =>
     refine ⟨k + 1, qs, by omega, by go_num, HO.out, ?_, HBEL.out⟩; rw [HTK.out, List.filter_append]; simp only [List.filter_cons, HH.out, List.filter_nil, Bool.false_eq_true, if_false, List.append_nil]; exact zzz HNS
    case measure => simp [intOf]; omega
  ·
   have hkk : k = ts.length := by omega
   subst hkk; go_wp2_with fail; go_ret; have h := zzz HNS; rw [List.take_length] at h; exact ⟨⟨_, rfl, qs, HO.out, NAts.later (Below.stay HBEL.out) _ _ h⟩, HBEL.out⟩
theorem en69 : ∀ args W, (callFunc 69 args).run Tryz.prog W = .ok (.enter 69 args) W := fun _ _ => by kernel_rfl
theorem en71 : ∀ args W, (callFunc 71 args).run Tryz.prog W = .ok (.enter 71 args) W := fun _ _ => by kernel_rfl
def isFnT (t : Tr) : Bool := t.kd == 5
def isLetT (t : Tr) : Bool := t.kd == 3 || t.kd == 4
def zg3 (t : Tr) : Bool := t.kd == 5 || t.kd == 37
theorem funcs1_any (t : Tr) (p : Nat) (w : World) (h : NTr w t p) : Calls Tryz.prog 69 #[nPtr p] w fun e w' => e = .returned (.bool (isFnT t)) ∧ w' = w := by
 obtain ⟨hpl, c0, _, _⟩ := h.cells
 clear h
 go_enter Tryz.func69, Tryz.ntmps69
 go_wp2_with fail
 go_ret
 exact ⟨rfl, rfl⟩
theorem lets1_any (t : Tr) (p : Nat) (w : World) (h : NTr w t p) : Calls Tryz.prog 71 #[nPtr p] w fun e w' => e = .returned (.bool (isLetT t)) ∧ w' = w := by
 obtain ⟨hpl, c0, _, _⟩ := h.cells
 clear h
 unfold isLetT
 generalize t.kd = kd at c0
 cases h3 : (kd == 3)
 all_goals
  go_enter Tryz.func71, Tryz.ntmps71; go_wp2_with fail; go_ret; exact ⟨rfl, rfl⟩
theorem isFun_any (t : Tr) (p : Nat) (w : World) (h : NTr w t p) : Calls Tryz.prog 63 #[nPtr p] w fun e w' => e = .returned (.bool (zg3 t)) ∧ w' = w := by
 obtain ⟨hpl, c0, _, _⟩ := h.cells
 clear h
 unfold zg3
 generalize t.kd = kd at c0
 cases h3 : (kd == 5)
 all_goals
  go_enter Tryz.func63, Tryz.ntmps63; go_wp2_with fail; go_ret; exact ⟨rfl, rfl⟩
def fnsT (t : Tr) : List Tr := t.kids.filter isFnT
def zm0 (t : Tr) : List Tr := t.kids.filter isLetT
theorem funcs_any (t : Tr) (p : Nat) (w : World) (h : NTr w t p) (hl : t.kids.length ≤ 90000) :
  Calls Tryz.prog 31 #[nPtr p] w fun e w' => (∃ u, e = .returned u ∧ NRow w.heap.size w' u (fnsT t)) ∧ Below w.heap.size w w' := by
 have HC := qh (zp0 69 isFnT en69 funcs1_any t p w h hl)
 clear h
 go_enter Tryz.func31, Tryz.ntmps31
 go_wp2_with fail
 refine cm HC.out ?_
 rintro e w1 ⟨⟨u, rfl, hr⟩, hb⟩
 obtain ⟨ua, uc, rfl⟩ := hr.form
 have HR := qh hr
 have HB := qh hb
 clear HC hr hb
 go_wp2_with fail
 go_ret
 exact ⟨⟨_, rfl, HR.out⟩, HB.out⟩
theorem lets_any (t : Tr) (p : Nat) (w : World) (h : NTr w t p) (hl : t.kids.length ≤ 90000) :
  Calls Tryz.prog 33 #[nPtr p] w fun e w' => (∃ u, e = .returned u ∧ NRow w.heap.size w' u (zm0 t)) ∧ Below w.heap.size w w' := by
 have HC := qh (zp0 71 isLetT en71 lets1_any t p w h hl)
 clear h
 go_enter Tryz.func33, Tryz.ntmps33
 go_wp2_with fail
 refine cm HC.out ?_
 rintro e w1 ⟨⟨u, rfl, hr⟩, hb⟩
 obtain ⟨ua, uc, rfl⟩ := hr.form
 have HR := qh hr
 have HB := qh hb
 clear HC hr hb
 go_wp2_with fail
 go_ret
 exact ⟨⟨_, rfl, HR.out⟩, HB.out⟩
def zmx (t : Tr) : List ByteArray := if t.kd == 2 then [t.tx] else []
mutual
def vw : Tr → List ByteArray
 | .mk kd tx _ ks => (if kd == 2 then [tx] else []) ++ (if kd == 5 || kd == 37 then [] else vws ks)
def vws : List Tr → List ByteArray
 | [] => []
 | t :: ts => vw t ++ vws ts
end
theorem vw_eq (t : Tr) : vw t = zmx t ++ (if zg3 t then [] else vws t.kids) := by
 cases t with
 | mk kd tx n ks => rw [vw]; rfl
theorem vws_app : ∀ a b : List Tr, vws (a ++ b) = vws a ++ vws b
 | [], b => by simp [vws]
 | t :: a, b => by simp [vws, vws_app a b]
theorem vws_take (ts : List Tr) (k : Nat) (hk : k < ts.length) : vws (ts.take (k + 1)) = vws (ts.take k) ++ vw ts[k] := by
 rw [List.take_succ_eq_append_getElem hk, vws_app]
 simp [vws]
mutual
theorem vw_len : ∀ t : Tr, (vw t).length ≤ t.count
 | .mk kd tx n ks => by
  have h := zmk ks; rw [vw, zqy]
  split <;> split <;> simp <;> omega
theorem zmk : ∀ ts : List Tr, (vws ts).length ≤ Tr.counts ts
 | [] => by simp [vws]
 | t :: ts => by
  have h1 := vw_len t; have h2 := zmk ts; rw [vws, zz9]; simp; omega
end
structure GotS (b B : Nat) (l : List ByteArray) (w : World) : Prop where
 lt : b < B
 sz : B ≤ w.heap.size
 own : ∃ v, w.heap[b]? = some (.cells #[v] 54 (0, 0)) ∧ SRow B w v l
theorem GotS.drew {b B : Nat} {l : List ByteArray} {w : World} (h : GotS b B l w) : GotS b B l w.drew := ⟨h.lt, h.sz, h.own⟩
theorem gots_push {b B g cap n : Nat} {l : List ByteArray} {s : ByteArray} {wd w3 : World} {v : Value} (hlt : b < B) (hsz : B ≤ wd.heap.size) (hb : wd.heap[b]? = some (.cells #[v] 54 (0, 0))) (hown : wd.ownsRow B 9 1 v l.length (l.map Value.string)) (hn : n = l.length + 1)
  (hown3 : w3.ownsRow B 9 1 (.slice (some ⟨g, 0, none⟩) n cap) n (l.map Value.string ++ [.string s])) (hgr : (wd.alloc (.cells #[.string s] 9)).grownBy w3 v.ownBlock) :
  GotS b B (l ++ [s]) (w3.setCell ⟨b, 0, none⟩ (.slice (some ⟨g, 0, none⟩) n cap)) ∧ Ap b B wd (w3.setCell ⟨b, 0, none⟩ (.slice (some ⟨g, 0, none⟩) n cap)) := by
 subst hn
 have hob : ∀ k, v.ownBlock = some k → B ≤ k := fun k hk => (zxj hown k hk).2
 have hap : Ap b B wd (w3.setCell ⟨b, 0, none⟩ (.slice (some ⟨g, 0, none⟩) (l.length + 1) cap)) := (((Ap.refl b B wd).alloc hsz _).grown hgr (by simp; omega) hob).setCell (p := ⟨b, 0, none⟩) (Or.inr rfl) _
 have h3 : w3.heap[b]? = some (.cells #[v] 54 (0, 0)) := by
  rw [hgr.block b (by simp; omega) (fun e => by have := hob b e.symm; omega), Below.heap_alloc _ _ _ (by omega)]
  exact hb
 have hgB : B ≤ g := (zxj hown3 g rfl).2
 refine ⟨⟨hlt, Nat.le_trans hsz hap.size, _, by rw [zqq h3]; rfl, ?_⟩, hap⟩
 show World.ownsRow _ _ _ _ _ _ _
 rw [show (l ++ [s]).length = l.length + 1 by simp, List.map_append]
 exact zj4 (I := fun x => x = g) (fun x hx _ => Below.heap_setCell w3 ⟨b, 0, none⟩ _ x (by have h1 : x = g := hx; show x ≠ b; omega)) (fun y hy => by simpa [Value.ownBlock] using hy.symm) hown3
theorem via00 {G goal : Prop} (h1 : G → goal) (h2 : G) : goal := h1 h2
theorem vars1_any {b B p : Nat} {l : List ByteArray} {t : Tr} {w : World} (hG : GotS b B l w) (hn : NAt (fun x => x < B ∧ x ≠ b) w t p) (hl : l.length ≤ 100000) :
  Calls Tryz.prog 62 #[nPtr p, .pointer (some ⟨b, 0, none⟩)] w fun e w' => e = .returned (.bool (!zg3 t)) ∧ GotS b B (l ++ zmx t) w' ∧ Ap b B w w' := by
 obtain ⟨i0, hi0, hz0, hz1, hz2⟩ := info_parts info9
 have hpB : p < B ∧ p ≠ b := by
  cases t with
  | mk kd tx nn ks => rw [NAt] at hn; exact hn.1
 have HFN : ∀ W, Ap b B w W → Hid (Calls Tryz.prog 63 #[nPtr p] W fun e w' => e = .returned (.bool (zg3 t)) ∧ w' = W) := fun W hW => isFun_any t p W (NAt.nt (NAt.later (fun x hx _ => hW.block x hx.1 hx.2) _ _ hn))
 obtain ⟨hpl, c0, c1, _⟩ := (NAt.nt hn).cells
 have HG0 := qh hG
 obtain ⟨hbB, hBs, v, hb, hown⟩ := hG
 obtain ⟨va, vc, rfl⟩ := zz7 hown
 have d0 : w.cell? ⟨b, 0, none⟩ = some (.slice va l.length vc) := by rw [zqj hb]; rfl
 have cf := zj5 hb 0
 have hbl := zzq hb
 have HOWN := qh hown
 have HB := qh hb
 obtain ⟨tx, htx⟩ : ∃ tx, tx = t.tx := ⟨_, rfl⟩
 obtain ⟨kd, hkd⟩ : ∃ kd, kd = t.kd := ⟨_, rfl⟩
 obtain ⟨fb, hfb⟩ : ∃ fb, fb = zg3 t := ⟨_, rfl⟩
 rw [← htx] at c1
 rw [← hkd] at c0
 rw [← hfb]
 have HOV : Hid (zmx t = if kd == 2 then [tx] else []) := by rw [htx, hkd]; rfl
 rw [HOV.out]
 simp only [← hfb] at HFN
 clear hown hb hn htx hkd hfb HOV
 cases hk : (kd == 2) with
 | false =>
  have HC := HFN w (Ap.refl _ _ _); go_enter Tryz.func62, Tryz.ntmps62; go_wp2_with fail; refine cm HC.out ?_; rintro e w2 ⟨rfl, rfl⟩; clear HC; go_wp2_with fail; go_ret; exact ⟨rfl, by simpa using HG0.out, Ap.refl _ _ _⟩
 | true =>
  go_enter Tryz.func62, Tryz.ntmps62; go_wp2_with fail; refine via00 (G := ?G1) (fun CONT => ?_) ?_; rotate_left
  ·
   refine wp_region_any (by kernel_rfl) ?_; change wpAny _ _ _ _ _ _ _ (World.drew _); refine wt 1 (nPtr p) ?_; refine wt 2 (nPtr p) ?_; refine wt 3 (.pointer (some ⟨p, 1, none⟩)) ?_
   refine wr2 0 4 (fun K hK => ?_) (fun K hK => ?_)
   ·
    go_simp; refine hK _ _ ?_; clear hK K; refine wr1 4 fun K hK => ?_; go_simp; refine hK _ _ ?_; clear hK K; refine wr1 5 fun K hK => ?_; go_simp; refine hK _ _ ?_; clear hK K
    refine zq7 (listed' := tf 6 2) (by kernel_rfl) rfl ?_; exact CONT
   ·
    go_simp; refine hK _ _ ?_; clear hK K; refine wr2 0 5 (fun K hK => ?_) (fun K hK => ?_)
    ·
     go_simp; refine hK _ _ ?_; clear hK K; refine wr1 5 fun K hK => ?_; go_simp; refine hK _ _ ?_; clear hK K; exact wz 6 2 CONT
    ·
     go_simp; refine hK _ _ ?_; clear hK K; refine wr1 0 fun K hK => ?_; go_simp; refine hK _ _ ?_; clear hK K; exact wz 6 2 CONT
  ·
   refine wr1 6 fun K hK => ?_
   refine step_append_lies _ rfl _ _ 54 rfl B 9 i0 (.string ByteArray.empty) 1 16 Tryz.underlying54 hi0 hz0 hz1 hz2 rfl (by decide) _ _ _ rfl ((HOWN.out : World.ownsRow w.drew B 9 1 _ _ _).alloc _) ⟨w.heap.size, 0, none⟩ 1 1 [.string tx] rfl rfl (zp8 w.drew tx _ rfl) (hoOneS tx) (by decide) (by unfold maxLen; omega) (by omega) (by simp; omega) (w.heap.size + 1) (by simp) ?_
   intro g cap w3 hown3 hgr3 _ _; refine hK _ _ ?_; clear hK K; have HGP := qh (gots_push (wd := w.drew) hbB hBs HB.out HOWN.out rfl hown3 hgr3)
   have h3 : w3.heap[b]? = w.heap[b]? := (hgr3.block b (by simp; omega) (fun e => by have := (zxj HOWN.out b e.symm).2; omega)).trans (Below.heap_alloc w.drew _ b hbl)
   have e0 : w3.cell? ⟨b, 0, none⟩ = some (.slice va l.length vc) := (World.cell?_of_block (w := w) h3).trans d0; have ef : w3.frozen? ⟨b, 0, none⟩ = false := (World.frozen?_of_block (w := w) h3).trans cf
   have he : b < w3.heap.size := zzq (h3.trans HB.out); clear hown3 hgr3 h3 d0 cf; refine wr1 7 fun K hK => ?_; go_simp; refine hK _ _ ?_; clear hK K e0 ef he; refine wpAny_done (by kernel_rfl) ?_ _; go_simp
   obtain ⟨hg2, ha2⟩ := zzz HGP; obtain ⟨W, hW⟩ : ∃ W, W = w3.setCell ⟨b, 0, none⟩ (.slice (some ⟨g, 0, none⟩) (l.length + 1) cap) := ⟨_, rfl⟩; rw [← hW] at hg2 ha2 ⊢; have HG2 := qh hg2
   have HA2 := qh ((Ap.refl b B w).drew.trans ha2); clear hg2 ha2 hW HGP c0 c1; have HC := HFN W HA2.out; go_wp2_with fail; refine cm HC.out ?_; rintro e w2 ⟨rfl, rfl⟩; clear HC; go_wp2_with fail; go_ret
   exact ⟨rfl, HG2.out, HA2.out⟩
end Go.Proofs.YtodmgaikhbmlnaaGreatDoor
