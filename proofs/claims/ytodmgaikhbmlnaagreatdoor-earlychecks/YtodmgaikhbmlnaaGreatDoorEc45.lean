/-
  The document's parser at any text.
-/
import Derived.Test.YtodmgaikhbmlnaaGreatDoorEc44
import Derived.LaidEql
import Derived.Stop.Asserts
import Derived.RowKitTokens
set_option maxRecDepth 100000
set_option maxHeartbeats 16000000
namespace Go.Proofs.YtodmgaikhbmlnaaGreatDoor
open Go.RowKit
theorem tPM_not : ∀ g ∈ signsS, g ≠ tPM := by decide +kernel
theorem rparse_any (ws : List ByteArray) (s : ByteArray) (w : World) (hs : s.size ≤ 3000) (hL : RefLists ws w) (hws : ∀ x ∈ ws, sgP 2 x = none) : Calls Tryz.prog 12 #[.string s] w (RpPost (rparseS ws s) w) := by
 have hT : ∀ W, RefLists ws W → Calls Tryz.prog 45 #[.string s] W (UPost (toksR ws signsS s (pastN gapB s 0) []) W) := fun W h => refTokens_any ws s W hs h
 cases hl : toksR ws signsS s (pastN gapB s 0) [] with
 | bad er p =>
  have he := toks_er ws signsS s rf_signs_pos _ _ [] er p rfl (pastN_le gapB s 0 (Nat.zero_le _)) hl; rw [hl] at hT; exact rparse_toks ws s w er p he (fun t h => by unfold rparseS at h; rw [hl] at h; cases h) hL hT
 | ok l =>
  rw [hl] at hT; have hE := toks_ends rf_signs_pos hl; have hN := toks_noSg rf_signs_pos hws tPM_not hl; have h3 : l.length ≤ 3001 := by omega
  have hto := rprog_total hE.1 hE.2.1 h3; have hpt := prog_total hE.1 hE.2.1 h3; have hr : rparseS ws s = paOf (progP l (rfns l KK)) := by
   unfold rparseS; rw [hl]; simp only
   cases progP l (rfns l KK) <;> rfl
  rw [hr]; refine rparse_main s w l (rfns l KK) _ hE.1 hE.2.1 h3 ws hL hT (fun c hc => ?_) ⟨KK, rfns_nx hE.1 KK⟩ (rfns_ok l KK) rfl hto.1 (fun t j h => ?_)
  ·
   subst hc; exact rfns_all hE.1 KK
  ·
   rcases rprog_imp hN.1 hN.2 KK KK t j h with h2 | h2
   ·
    have h4 := prog_cb (fns_cb KK) h2; have h5 := hpt.2 t j h2; omega
   ·
    exact absurd h2 hpt.1
structure SameAt (p q g h k L c1 c2 a b : Nat) (W : World) : Prop where
 x3 : W.cell? ⟨p, 3, none⟩ = some (.slice (some ⟨g, 0, none⟩) L c1)
 y3 : W.cell? ⟨q, 3, none⟩ = some (.slice (some ⟨h, 0, none⟩) L c2)
 xk : W.cell? ⟨g, k, none⟩ = some (nPtr a)
 yk : W.cell? ⟨h, k, none⟩ = some (nPtr b)
theorem same_any (I J : Nat → Prop) : ∀ (m : Nat) (t : Tr), t.count ≤ m → t.count ≤ 100000 → ∀ (p q : Nat) (w : World), NAt I w t p → NAt J w t q →
  Calls Tryz.prog 15 #[nPtr p, nPtr q] w fun e w' => e = .returned (.bool true) ∧ Below w.heap.size w w' := by
 intro m
 induction m with
 | zero =>
  exact zbdt
 | succ m ih =>
  intro t ht hbd p q w hnp hnq; obtain ⟨u, ps, hblk, hrow, hri, hks⟩ := hnp.opens2; obtain ⟨v, qs, hblq, hroq, hrj, hkq⟩ := hnq.opens2; have hlen := NAts.length _ _ hks; have hleq := NAts.length _ _ hkq
  have htc : t.count = 1 + Tr.counts t.kids := by cases t with | mk kd tx nn ks => exact count_mk _ _ _ _
  obtain ⟨f0, f1, f2, f3, _⟩ := node_cells hblk; obtain ⟨g0, g1, g2, g3, _⟩ := node_cells hblq; obtain ⟨ua, uc, hu⟩ := row_shut hrow; subst hu; obtain ⟨va, vc, hv⟩ := row_shut hroq; subst hv; rw [hlen] at f3
  rw [hleq] at g3; have hkb : t.kids.length ≤ 100000 := by have := counts_len t.kids; omega
  obtain ⟨kd, hkd⟩ : ∃ kd, kd = t.kd := ⟨_, rfl⟩; obtain ⟨tx, htx⟩ : ∃ tx, tx = t.tx := ⟨_, rfl⟩; obtain ⟨nn, hnn⟩ : ∃ nn, nn = t.n := ⟨_, rfl⟩; rw [← hkd] at f0 g0; rw [← htx] at f1 g1; rw [← hnn] at f2 g2
  have HKS := hide hks; have HKQ := hide hkq; have HROW := hide hrow; have HROQ := hide hroq; have HIH := hide ih; have HTC := hide htc; have HHT := hide ht; have HBD := hide hbd; have HLE := hide hlen
  have HLQ := hide hleq; have HP := hide (lt_of_heap hblk); have HQ := hide (lt_of_heap hblq); have HF3 := hide f3; have HG3 := hide g3; clear hri hrj hks hkq hrow hroq ih htc ht hbd hblk hblq hnp hnq hkd htx hnn hlen hleq
  go_enter Tryz.func15, Tryz.ntmps15; go_wp2_with fail
  go_region
  go_wp2_with fail
  go_loopw [64] (fun i wr => ∃ k : Nat, k ≤ t.kids.length ∧ i = .int .i64 k ∧ Below w.heap.size w wr) (fun i _ => t.kids.length - (intOf i).toNat)
  case atStart => exact ⟨0, Nat.zero_le _, rfl, (Below.refl _ _).drew⟩
  case round =>
   obtain ⟨k, hk, rfl, hb⟩ := hrel; have HB := hide hb; clear hb f0 f1 f2 f3 g0 g1 g2 g3
   by_cases hlt : k < t.kids.length
   ·
    obtain ⟨g, cap, hv, hcell⟩ := row_open HROW.out (by have := unhide HLE; omega)
    simp only [Value.slice.injEq] at hv; obtain ⟨rfl, _, rfl⟩ := hv; obtain ⟨h, cbp, hv, hcelq⟩ := row_open HROQ.out (by have := unhide HLQ; omega)
    simp only [Value.slice.injEq] at hv; obtain ⟨rfl, _, rfl⟩ := hv; obtain ⟨hkp, hnk⟩ := NAts.get _ _ HKS.out k hlt; obtain ⟨hkq, hnl⟩ := NAts.get _ _ HKQ.out k hlt; have hgl : g < w.heap.size := (own_lt HROW.out g rfl).1
    have hhl : h < w.heap.size := (own_lt HROQ.out h rfl).1; have hbb := unhide HB; have hnk2 : NAt I wr.drew t.kids[k] ps[k] := NAt.later (fun x _ hl => (hbb.drew).block x hl) _ _ hnk
    have hnl2 : NAt J wr.drew t.kids[k] qs[k] := NAt.later (fun x _ hl => (hbb.drew).block x hl) _ _ hnl; have hst : SameAt p q g h k t.kids.length uc vc ps[k] qs[k] wr.drew :=
     ⟨by rw [World.cell?_of_block (w := w) ((hbb.drew).block p HP.out)]; exact HF3.out, by rw [World.cell?_of_block (w := w) ((hbb.drew).block q HQ.out)]; exact HG3.out, by rw [World.cell?_of_block (w := w) ((hbb.drew).block g hgl)]; exact hcell k hkp, by rw [World.cell?_of_block (w := w) ((hbb.drew).block h hhl)]; exact hcelq k hkq⟩
    have hle := counts_le t.kids k hlt; have h1 := unhide HTC; have h2 := unhide HHT; have h3 := unhide HBD; have HC := hide (HIH.out t.kids[k] (by omega) (by omega) ps[k] qs[k] wr.drew hnk2 hnl2)
    obtain ⟨a, ha⟩ : ∃ a, a = ps[k] := ⟨_, rfl⟩; obtain ⟨b, hb⟩ : ∃ b, b = qs[k] := ⟨_, rfl⟩; rw [← ha, ← hb] at hst HC; have HST := hide hst; have hki : (k : Int) < (t.kids.length : Int) := by omega
    have HX : Hid (∀ w2, Below wr.drew.heap.size wr.drew w2 → SameAt p q g h k t.kids.length uc vc a b w2 ∧ Below w.heap.size w w2) := fun w2 h2 => by
     have h3 : Below w.heap.size w w2 := hbb.drew.trans (h2.mono hbb.drew.size); refine ⟨⟨?_, ?_, ?_, ?_⟩, h3⟩
     ·
      rw [World.cell?_of_block (w := w) (h3.block p HP.out)]; exact unhide HF3
     ·
      rw [World.cell?_of_block (w := w) (h3.block q HQ.out)]; exact unhide HG3
     ·
      rw [World.cell?_of_block (w := w) (h3.block g hgl)]; rw [ha]; exact hcell k hkp
     ·
      rw [World.cell?_of_block (w := w) (h3.block h hhl)]; rw [hb]; exact hcelq k hkq
    clear hcell hcelq hnk hnl hnk2 hnl2 hle h1 h2 h3 ha hb hst hbb; go_wp2_with fail; refine wp_region_held (S := SameAt p q g h k t.kids.length uc vc a b) (by kernel_rfl) ?_; change wpAnyH _ _ _ _ _ _ _ _ (World.drew _)
    refine wh 0 (nPtr p) HST.out ?_; refine wh 1 (nPtr p) HST.out ?_; refine wh 2 (.pointer (some ⟨p, 3, none⟩)) HST.out ?_
    refine wg 3 (.slice (some ⟨g, 0, none⟩) t.kids.length uc) rfl (Or.inl ⟨by kernel_rfl, fun W hW => by have hh := SameAt.x3 hW; go_simp⟩) HST.out ?_
    refine wh 4 (.int .i64 (k : Int)) HST.out ?_; refine wh 5 (.pointer (some ⟨g, k, none⟩)) HST.out ?_; refine wg 6 (nPtr a) rfl (Or.inl ⟨by kernel_rfl, fun W hW => by have hh := SameAt.xk hW; go_simp⟩) HST.out ?_
    refine wh 7 (nPtr q) HST.out ?_; refine wh 8 (nPtr q) HST.out ?_; refine wh 9 (.pointer (some ⟨q, 3, none⟩)) HST.out ?_
    refine wg 10 (.slice (some ⟨h, 0, none⟩) t.kids.length vc) rfl (Or.inl ⟨by kernel_rfl, fun W hW => by have hh := SameAt.y3 hW; go_simp⟩) HST.out ?_
    refine wh 11 (.int .i64 (k : Int)) HST.out ?_; refine wh 12 (.pointer (some ⟨h, k, none⟩)) HST.out ?_; refine wg 13 (nPtr b) rfl (Or.inl ⟨by kernel_rfl, fun W hW => by have hh := SameAt.yk hW; go_simp⟩) HST.out ?_
    refine wq1 14 fun K hK => ?_; go_simp; refine cm HC.out ?_; rintro e w2 ⟨rfl, hb2⟩; obtain ⟨hs2, hb3⟩ := HX.out w2 hb2; have HS2 := hide hs2; have HB3 := hide hb3; clear hs2 hb2 hb3 HC
    refine hK.out _ _ HS2.out (fun _ => ?_); clear hK K; refine wh 15 (.bool false) HS2.out ?_; refine wpAnyH_done (by kernel_rfl) ?_ _; go_simp; go_wp2_with fail
    go_roundw
    case rel => exact ⟨k + 1, by omega, by go_num, HB3.out⟩
    case measure => simp [intOf]; omega
   ·
    have hk2 : k = t.kids.length := by omega
    subst hk2; go_wp2_with fail; go_ret; exact ⟨rfl, HB.out⟩
end Go.Proofs.YtodmgaikhbmlnaaGreatDoor
namespace Go.Proofs.YtodmgaikhbmlnaaGreatDoor
open Go.ChangeShapes Go.WideShapes Go.ChangeAt Go.WideMaps Go.WideElems Go.RowKit
def jn (a b : ByteArray) : ByteArray := ⟨(a.data.toList ++ 10 :: b.data.toList).toArray⟩
def shRd (D : Nat) : Rd → Rd
 | .tok kd tx n e => .tok kd tx n (D + e)
 | .bad er p => .bad er (D + p)
def shTk (D : Nat) (t : Tk) : Tk := ⟨t.kd, t.tx, t.n, D + t.pl⟩
end Go.Proofs.YtodmgaikhbmlnaaGreatDoor
namespace Go.Proofs.YtodmgaikhbmlnaaGreatDoor
def Js {α : Type} (A L a : Nat) (r r' : PR α) : Prop := ∀ x j, r = .ok x j → (a ≤ j ∧ j < L) ∧ (j < A → r' = .ok x j)
section
variable {α : Type}
include α
theorem Js.ok {A L a i : Nat} {x : α} (h1 : a ≤ i) (h2 : i < L) : Js A L a (.ok x i) (.ok x i) :=
 fun _ _ h => by cases h; exact ⟨⟨h1, h2⟩, fun _ => rfl⟩
theorem Js.bad {A L a : Nat} {er : Int} {p : Nat} {r : PR α} : Js A L a (.bad er p) r := fun _ _ h => by cases h
theorem Js.out {A L a : Nat} {r : PR α} : Js A L a .out r := fun _ _ h => by cases h
theorem Js.badF {A L a : Nat} {l : List Tk} {er : Int} {i : Nat} {r : PR α} : Js A L a (badF l er i) r := Js.bad
theorem Js.le {A L a b : Nat} {r r' : PR α} (h : Js A L a r r') (hb : b ≤ a) : Js A L b r r' := fun x j e => ⟨⟨Nat.le_trans hb (h x j e).1.1, (h x j e).1.2⟩, (h x j e).2⟩
theorem Js.less {A B L a : Nat} {r r' : PR α} (h : Js B L a r r') (hb : A ≤ B) : Js A L a r r' := fun x j e => ⟨(h x j e).1, fun hj => (h x j e).2 (by omega)⟩
theorem Js.low {A L a : Nat} {r r' : PR α} (h : Js (A + 1) L a r r') : Js A L a r r' := h.less (Nat.le_succ _)
theorem Js.far {A L a : Nat} {r r' r'' : PR α} (h : Js A L a r r'') (ha : A ≤ a) : Js A L a r r' := fun x j e => ⟨(h x j e).1, fun hj => absurd (h x j e).1.1 (by omega)⟩
end
theorem Js.bindD {α β : Type} {A L a b : Nat} (dl : Nat) {r r' : PR α} {f f' : α → Nat → PR β} (h : Js A L a r r') (hb : b ≤ a + dl)
  (hf : ∀ x i, a ≤ i → i < L → Js (A + dl) L (i + dl) (f x i) (f' x i)) : Js (A + dl) L b (r.bind f) (r'.bind f') := by
 intro y j e
 cases r with
 | ok x i =>
  have h1 := h x i rfl; have h2 := hf x i h1.1.1 h1.1.2 y j e; refine ⟨⟨by omega, h2.1.2⟩, fun hj => ?_⟩; rw [h1.2 (by omega)]; exact h2.2 hj
 | bad er p => cases e
 | out => cases e
theorem Js.bind {α β : Type} {A L a b : Nat} {r r' : PR α} {f f' : α → Nat → PR β} (h : Js A L a r r') (hb : b ≤ a)
  (hf : ∀ x i, a ≤ i → i < L → Js A L i (f x i) (f' x i)) : Js A L b (r.bind f) (r'.bind f') := Js.bindD 0 h hb hf
section
variable {l l' : List Tk} {A : Nat} (hE : Ends l) (hA : ∀ i, i < A → tkA l i = tkA l' i)
include hE hA
omit hE hA in
omit hE in
omit hE in
structure FJs (l : List Tk) (A : Nat) (F F' : Fns) : Prop where
 fuel : F.fuel = F'.fuel
 st : ∀ d i, i < l.length → Js (A + 1) l.length (i + 1) (F.st d i) (F'.st d i)
 vl : ∀ d i, i < l.length → Js A l.length (i + 1) (F.vl d i) (F'.vl d i)
 pr : ∀ b d i, i < l.length → Js A l.length (i + 1) (F.pr b d i) (F'.pr b d i)
 sg : ∀ d i, i < l.length → Js A l.length (i + 1) (F.sg d i) (F'.sg d i)
def Parts (l l' : List Tk) (A : Nat) : Prop := ∀ s, s = tElse ∨ s = tCatch ∨ s = tFinally → fx l A ≠ s ∧ fx l' A ≠ s
variable {F F' : Fns} (hF : FJs l A F F')
include hF
variable {k : Nat} (hN : FNx l k F)
include hN
end
end Go.Proofs.YtodmgaikhbmlnaaGreatDoor
namespace Go.Proofs.YtodmgaikhbmlnaaGreatDoor
def Sh {α : Type} (A : Nat) (r r' : PR α) : Prop := ∀ x j, r = .ok x j → r' = .ok x (A + j)
theorem Sh.ok {α : Type} {A i : Nat} {x : α} : Sh A (.ok x i) (.ok x (A + i)) := fun _ _ h => by cases h; rfl
section
variable {α : Type} {A : Nat}
include α A
theorem Sh.bad {er : Int} {p : Nat} {r : PR α} : Sh A (.bad er p) r := fun _ _ h => by cases h
theorem Sh.out {r : PR α} : Sh A .out r := fun _ _ h => by cases h
theorem Sh.badF {l : List Tk} {er : Int} {i : Nat} {r : PR α} : Sh A (badF l er i) r := Sh.bad
end
theorem Sh.bind {α β : Type} {A : Nat} {r r' : PR α} {f f' : α → Nat → PR β} (h : Sh A r r') (hf : ∀ x i, Sh A (f x i) (f' x (A + i))) : Sh A (r.bind f) (r'.bind f') := by
 intro y j e
 cases r with
 | ok x i => rw [h x i rfl]; exact hf x i y j e
 | bad er p => cases e
 | out => cases e
structure Shifts (l l' : List Tk) (A : Nat) : Prop where
 kd : ∀ i, (tkA l' (A + i)).kd = (tkA l i).kd
 tx : ∀ i, (tkA l' (A + i)).tx = (tkA l i).tx
 n : ∀ i, (tkA l' (A + i)).n = (tkA l i).n
section
variable {l l' : List Tk} {A : Nat} (hA : Shifts l l' A)
include hA
omit hA in
structure FSh (A : Nat) (F F' : Fns) : Prop where
 fuel : F'.fuel = F.fuel
 st : ∀ d i, Sh A (F.st d i) (F'.st d (A + i))
 vl : ∀ d i, Sh A (F.vl d i) (F'.vl d (A + i))
 pr : ∀ b d i, Sh A (F.pr b d i) (F'.pr b d (A + i))
 sg : ∀ d i, Sh A (F.sg d i) (F'.sg d (A + i))
variable {F F' : Fns} (hF : FSh A F F')
include hF
end
end Go.Proofs.YtodmgaikhbmlnaaGreatDoor
namespace Go.Proofs.YtodmgaikhbmlnaaGreatDoor
open Go.RowKit
def NoHead (s : ByteArray) : Prop := s = tElse ∨ s = tCatch ∨ s = tFinally
theorem NoHead.facts {s : ByteArray} (h : NoHead s) : s ≠ noText ∧ look2 vlKeys s = none ∧ (sgP 0 s).isNone = true ∧ (sgP 1 s).isNone = true ∧ look2 stKeys s = none := by
 rcases h with rfl | rfl | rfl <;> decide
section
variable {l : List Tk} {s : ByteArray} {i : Nat} (hs : NoHead s) (hf : fx l i = s)
include hs hf
end
theorem progP_inv {l : List Tk} {F : Fns} {t : Tr} {j : Nat} (h : progP l F = .ok t j) : ∃ ts, progLoop l F F.fuel [] 0 = .ok ts j ∧ t = codeT (.mk 1 noText 0 ts) := by
 unfold progP at h
 obtain ⟨ts, j1, h1, h⟩ := bind_inv h
 cases h
 exact ⟨ts, h1, rfl⟩
theorem codeT_kd (t : Tr) : (codeT t).kd = t.kd := by unfold codeT; split <;> rfl
theorem parseS_kd {ws gs : List ByteArray} {s : ByteArray} {t : Tr} (h : parseS ws gs s = .ok t) : t.kd = 1 ∧ t.count ≤ 1500 := by
 unfold parseS at h
 split at h
 ·
  cases h
 ·
  split at h
  ·
   cases h
  ·
   split at h
   ·
    cases h
   ·
    rename_i hr
    split at h
    ·
     cases h
    ·
     cases h; obtain ⟨ts, _, rfl⟩ := progP_inv hr; exact ⟨codeT_kd _, by omega⟩
   ·
    cases h
def ReadPost (r : PaR) (w : World) (e : Ending) (w' : World) : Prop :=
 match r with
 | .ok t => ∃ p, e = .returned (.tuple #[nPtr p, .bool true]) ∧ NAt (From w.heap.size) w' t p ∧ Below w.heap.size w w'
 | _ => e = .returned (.tuple #[.pointer none, .bool false]) ∧ Below w.heap.size w w'
def bothS (ws : List ByteArray) (s : ByteArray) : Option Tr := if 3000 < s.size then none else match rparseS ws s with | .ok t => some t | _ => none
def BoPost (r : Option Tr) (w : World) (e : Ending) (w' : World) : Prop :=
 match r with
 | some t => ∃ p q, e = .returned (.tuple #[nPtr p, nPtr q, .bool true]) ∧ NAt (From w.heap.size) w' t p ∧ NAt (From w.heap.size) w' t q ∧ Below w.heap.size w w'
 | none => e = .returned (.tuple #[.pointer none, .pointer none, .bool false]) ∧ Below w.heap.size w w'
section
variable (s : ByteArray) (w : World)
include s w
theorem both_long (hs : 3000 < s.size) : Calls Tryz.prog 19 #[.string s] w (BoPost none w) := by
 have hgt : decide ((3000 : Int) < (s.size : Int)) = true := decide_eq_true (by omega)
 go_enter Tryz.func19, Tryz.ntmps19
 go_wp2_with fail
 exact bodyPost_ret (v := .tuple #[.pointer none, .pointer none, .bool false]) (by simp [results, Tryz.results19, go_sem]) rfl ⟨rfl, Below.refl _ _⟩
theorem both_bad (r : PaR) (hs : s.size ≤ 3000) (hr : ∀ t, r ≠ .ok t) (h : Calls Tryz.prog 12 #[.string s] w (RpPost r w)) : Calls Tryz.prog 19 #[.string s] w (BoPost none w) := by
 have hgt : decide ((3000 : Int) < (s.size : Int)) = false := decide_eq_false (by omega)
 have h2 : Calls Tryz.prog 12 #[.string s] w (fun e w' => ∃ er pl : Int, er ≠ 0 ∧ e = .returned (.tuple #[.pointer none, .agg #[.int .i64 er, .int .i64 pl]]) ∧ Below w.heap.size w w') := by
  cases r with
  | ok t => exact absurd rfl (hr t)
  | bare => exact h
  | «at» a b => exact h
 have HC := hide h2
 clear h h2 hr
 go_enter Tryz.func19, Tryz.ntmps19
 go_wp2_with fail
 refine cm HC.out ?_
 rintro e w1 ⟨er, pl, he, rfl, hb⟩
 have hb0 : (er != 0) = true := bne_iff_ne.2 he
 have HB := hide hb
 clear hb HC
 go_wp2_with fail
 exact bodyPost_ret (v := .tuple #[.pointer none, .pointer none, .bool false]) (by simp [results, Tryz.results19, go_sem]) rfl ⟨rfl, HB.out.alloc HB.out.size _⟩
theorem both_ok (t : Tr) (hs : s.size ≤ 3000) (hc : t.count ≤ 1500) (h : Calls Tryz.prog 12 #[.string s] w (RpPost (.ok t) w)) (h2 : ∀ W, Below w.heap.size w W → Calls Tryz.prog 13 #[.string s] W (PaPost (.ok t) W)) : Calls Tryz.prog 19 #[.string s] w (BoPost (some t) w) := by
 have hgt : decide ((3000 : Int) < (s.size : Int)) = false := decide_eq_false (by omega)
 have HC := hide h
 have HC2 := hide h2
 clear h h2
 go_enter Tryz.func19, Tryz.ntmps19
 go_wp2_with fail
 refine cm HC.out ?_
 rintro e w1 ⟨q, rfl, hn, hb⟩
 have HB := hide (hb.alloc hb.size (.cells #[.int .i64 0, .int .i64 (-1)] 25))
 have HN := hide (NAt.later (fun b _ hl => Below.heap_alloc w1 (.cells #[.int .i64 0, .int .i64 (-1)] 25) b hl) _ _ hn)
 have HC3 := hide (unhide HC2 _ HB.out)
 clear hb hn HC HC2
 go_wp2_with fail
 refine cm HC3.out ?_
 rintro e w2 ⟨p, rfl, hn2, hb2⟩
 have HB2 := hide (HB.out.trans (hb2.mono HB.out.size))
 have HNq := hide (NAt.later (fun b _ hl => hb2.block b hl) _ _ HN.out)
 have HNp := hide (NAt.mono (J := From w.heap.size) (fun b h1 _ => Nat.le_trans HB.out.size h1) _ _ hn2)
 have HC4 := hide (same_any _ _ t.count t (Nat.le_refl _) (by omega) p q w2 HNp.out HNq.out)
 clear hb2 hn2 HC3
 go_wp2_with fail
 refine cm HC4.out ?_
 rintro e w3 ⟨rfl, hb3⟩
 have HB3 := hide (HB2.out.trans (hb3.mono HB2.out.size))
 have HNq2 := hide (NAt.later (fun b _ hl => hb3.block b hl) _ _ HNq.out)
 have HNp2 := hide (NAt.later (fun b _ hl => hb3.block b hl) _ _ HNp.out)
 clear hb3 HC4
 go_wp2_with fail
 exact bodyPost_ret (v := .tuple #[nPtr p, nPtr q, .bool true]) (by simp [results, Tryz.results19, go_sem]) rfl ⟨p, q, rfl, HNp2.out, HNq2.out, HB3.out⟩
end
theorem both_any (ws gs : List ByteArray) (s : ByteArray) (w : World) (hL : Lists ws gs w) (hT : Tabs w) (hR : RefLists ws w) (hg : gs = signsS) (hws : ∀ x ∈ ws, sgP 2 x = none) : Calls Tryz.prog 19 #[.string s] w (BoPost (bothS ws s) w) := by
 have hgs : ∀ g ∈ gs, 1 ≤ g.size := by rw [hg]; exact rf_signs_pos
 unfold bothS
 by_cases hs : 3000 < s.size
 ·
  rw [if_pos hs]; exact both_long s w hs
 ·
  rw [if_neg hs]; have h1 := rparse_any ws s w (by omega) hR hws
  cases hr : rparseS ws s with
  | ok t =>
   rw [hr] at h1; have h2 := rparse_same hg (by omega) hgs hws (by rw [hg]; exact tPM_not) hr
   have h3 := (parseS_kd h2).2; refine both_ok s w t (by omega) h3 h1 (fun W hb => ?_); rw [← h2]; exact parse_any ws gs s W (hL.later hb) hgs (hT.later hb)
  | bare => rw [hr] at h1; exact both_bad s w _ (by omega) (by nofun) h1
  | «at» a b => rw [hr] at h1; exact both_bad s w _ (by omega) (by nofun) h1
theorem bothS_count {ws gs : List ByteArray} {s : ByteArray} {t : Tr} (hg : gs = signsS) (hws : ∀ x ∈ ws, sgP 2 x = none) (h : bothS ws s = some t) : t.count ≤ 1500 ∧ t.kd = 1 ∧ parseS ws gs s = .ok t := by
 have hgs : ∀ g ∈ gs, 1 ≤ g.size := by rw [hg]; exact rf_signs_pos
 unfold bothS at h
 split at h
 ·
  cases h
 ·
  cases hr : rparseS ws s with
  | ok t2 =>
   rw [hr] at h; cases h; have h2 := rparse_same hg (by omega) hgs hws (by rw [hg]; exact tPM_not) hr
   exact ⟨(parseS_kd h2).2, (parseS_kd h2).1, h2⟩
  | bare => rw [hr] at h; cases h
  | «at» a b => rw [hr] at h; cases h
theorem check_all : ∀ m, ChkAt m := by
 intro m
 induction m with
 | zero =>
  exact zbdt
 | succ m ih =>
  intro t ht hill hc p s i b w h
  cases s with
  | true =>
   cases hf : isFunT t with
   | true => exact chkTF ih t ht hill hc p i b w h hf
   | false => exact chkTN ih t ht hill hc p i b w h hf
  | false =>
   cases hf : isFunT t with
   | false => exact chkFN ih t ht hill hc p i b w h hf
   | true =>
    cases hs : strictT t with
    | true => exact chkFT ih t ht hill hc p i b w h hf hs
    | false => exact chkFF ih t ht hill hc p i b w h hf hs
theorem Check_any (t : Tr) (p : Nat) (s i : Bool) (w : World) (h : NTr w t p) (hill : t.ill = 0) (hc : t.count ≤ 20000) : Calls Tryz.prog 42 #[nPtr p, .bool s, .bool i] w fun e w' => e = .returned (erV (chk t s i false)) ∧ Below w.heap.size w w' := by
 have HC := hide (check_all t.count t (Nat.le_refl _) hill hc p s i false w h)
 clear h hill hc
 generalize chk t s i false = r at HC
 cases r <;>
 ·
  go_enter Tryz.func42, Tryz.ntmps42; go_wp2_with fail; refine cm HC.out ?_; rintro e w1 ⟨rfl, hb⟩; have HB := hide hb; clear HC hb; unfold erV; go_wp2_with fail; go_ret; exact ⟨rfl, HB.out⟩
theorem nmE_mono {s s' : Bool} {x : ByteArray} (hs : s' = true → s = true) (h : nmE s x = none) : nmE s' x = none := by
 unfold nmE at h ⊢
 cases s' with
 | false => rfl
 | true => rw [hs rfl] at h; exact h
theorem parF_mono {s s' : Bool} {P : List Tr} {k : Nat} (hs : s' = true → s = true) (h : parF s P k = none) : parF s' P k = none := by
 unfold parF at h ⊢
 cases h1 : nmE s (txAt P k) with
 | some e => rw [h1] at h; cases h
 | none =>
  rw [h1] at h; rw [nmE_mono hs h1]
  cases s' with
  | false => rfl
  | true => rw [hs rfl] at h; exact h
theorem firstE_mono {f g : Nat → Option Int} (hfg : ∀ k, f k = none → g k = none) : ∀ n, firstE f n = none → firstE g n = none
 | 0, _ => rfl
 | n + 1, h => by
  rw [firstE] at h ⊢
  cases h1 : firstE f n with
  | some e => rw [h1] at h; cases h
  | none =>
   rw [h1] at h; rw [firstE_mono hfg n h1]; exact hfg n h
section
variable {s s' : Bool} {t : Tr} (hs : s' = true → s = true)
include s s' t hs
theorem fnE_mono (h : fnE t s = none) : fnE t s' = none := by
 unfold fnE at h ⊢
 cases h1 : nmE s t.tx with
 | some e => rw [h1] at h; cases h
 | none =>
  rw [h1] at h; rw [nmE_mono hs h1]
  cases h2 : parE s (kidT t 0).kids with
  | some e => simp only [h2] at h; cases h
  | none =>
   simp only [h2] at h; have h3 : parE s' (kidT t 0).kids = none := firstE_mono (fun k => parF_mono hs) _ h2; simp only [h3]; exact h
theorem catchE_mono (h : catchE t s = none) : catchE t s' = none := by
 unfold catchE at h ⊢
 cases h1 : nmE s t.tx with
 | some e => rw [h1] at h; cases h
 | none =>
  rw [h1] at h; rw [nmE_mono hs h1]; exact h
theorem brE_mono (h : brE t s = none) : brE t s' = none := by
 unfold brE at h ⊢
 cases s' with
 | true => rw [hs rfl] at h; exact h
 | false =>
  split at h
  ·
   cases h
  ·
   rename_i hn
   rw [if_neg]; intro hh; exact hn (by simp at hh ⊢; exact Or.inr hh)
end
theorem wrT_mono {t : Tr} {s s' i i' b : Bool} (hs : s' = true → s = true) (hi : i = true → i' = true) (h : wrT t s i b = none) : wrT t s' i' b = none := by
 unfold wrT at h ⊢
 split at h
 ·
  rename_i k; rw [if_pos k]; exact h
 rename_i k1; rw [if_neg k1]
 split at h
 ·
  rename_i k; rw [if_pos k]; exact h
 rename_i k2; rw [if_neg k2]
 split at h
 ·
  rename_i k; rw [if_pos k]; exact fnE_mono hs h
 rename_i k3; rw [if_neg k3]
 split at h
 ·
  rename_i k; rw [if_pos k]; exact nmE_mono hs h
 rename_i k4; rw [if_neg k4]
 split at h
 ·
  rename_i k; rw [if_pos k]; exact catchE_mono hs h
 rename_i k5; rw [if_neg k5]
 split at h
 ·
  rename_i k; rw [if_pos k]; exact brE_mono hs h
 rename_i k6; rw [if_neg k6]
 split at h
 ·
  rename_i k
  rw [if_pos k]
  split at h
  ·
   rename_i hh; rw [if_pos (hi hh)]
  ·
   cases h
 rename_i k7; rw [if_neg k7]
 split at h
 ·
  rename_i k
  rw [if_pos k]
  split at h
  ·
   rename_i hh; rw [if_pos hh]; exact nmE_mono hs h
  ·
   rename_i hh; rw [if_neg hh]
 rename_i k8; rw [if_neg k8]
 split at h
 ·
  rename_i k
  rw [if_pos k]
  cases s' with
  | false => rfl
  | true => rw [hs rfl] at h; exact h
 ·
  rename_i k; rw [if_neg k]
theorem s2_mono {t : Tr} {s s' : Bool} (hs : s' = true → s = true) : s2 t s' = true → s2 t s = true := by
 unfold s2
 cases s' with
 | false => cases s <;> cases isFunT t <;> simp <;> exact fun h => h
 | true => rw [hs rfl]; exact fun h => h
theorem i2_mono {t : Tr} {i i' : Bool} (hi : i = true → i' = true) : i2 t i = true → i2 t i' = true := by
 unfold i2
 cases isFunT t with
 | true => exact fun h => h
 | false => exact hi
mutual
theorem chk_mono : ∀ (t : Tr) {s s' i i' b : Bool}, (s' = true → s = true) → (i = true → i' = true) → chk t s i b = none → chk t s' i' b = none
 | .mk kd tx n ks, s, s', i, i', b, hs, hi, h => by
  rw [chk] at h ⊢
  cases h1 : wrT (.mk kd tx n ks) (s2 (.mk kd tx n ks) s) (i2 (.mk kd tx n ks) i) b with
  | some e => rw [h1] at h; cases h
  | none =>
   rw [h1] at h; rw [wrT_mono (s2_mono hs) (i2_mono hi) h1]; exact chks_mono ks (s2_mono hs) (i2_mono hi) h
theorem chks_mono : ∀ (ts : List Tr) {s s' i i' b : Bool}, (s' = true → s = true) → (i = true → i' = true) → chks ts s i b = none → chks ts s' i' b = none
 | [], _, _, _, _, _, _, _, _ => by rw [chks]
 | t :: ts, s, s', i, i', b, hs, hi, h => by
  rw [chks] at h ⊢
  cases h1 : chk t s i b with
  | some e => rw [h1] at h; cases h
  | none =>
   rw [h1] at h; rw [chk_mono t hs hi h1]; exact chks_mono ts hs hi h
end
end Go.Proofs.YtodmgaikhbmlnaaGreatDoor
namespace Go.Proofs.YtodmgaikhbmlnaaGreatDoor
open Go.RowKit Go.Extern.Stop Go.Stop Go.Extern
theorem R9.valueOf77 (t : Addr) (w : World) : (ReflectliteValue.unpack (.iface 92 (.pointer (some t)))).run Tryz.prog w
  = .ok (.agg #[.pointer (some ⟨13, 92, none⟩), .pointer (some ⟨w.heap.size, 0, none⟩), .int .u64 150]) (w.alloc (.cells #[.pointer (some t)] 92)) := by kernel_rfl
theorem R9.valueOf23 (n : Int) (w : World) : (ReflectliteValue.unpack (.iface 23 (.int .i64 n))).run Tryz.prog w
  = .ok (.agg #[.pointer (some ⟨13, 23, none⟩), .pointer (some ⟨w.heap.size, 0, none⟩), .int .u64 130]) (w.alloc (.cells #[.int .i64 n] 23)) := by kernel_rfl
theorem R9.type77 (a : Addr) (w : World) : (ReflectliteValue.methodAny (ReflectliteValue.valueError "reflectlite.Value.Type" 0) (fun t _ _ _ => ReflectliteType.toType t) #[.agg #[.pointer (some ⟨13, 92, none⟩), .pointer (some a), .int .u64 150]]).run Tryz.prog w
  = .ok (.iface 187 (.agg #[.pointer (some ⟨13, 92, none⟩)])) w := by kernel_rfl
theorem R9.kind77 (w : World) : ((ReflectliteType.abiMethod fun t => (fun a : Nat => Value.int IntKind.u8 (a : Int)) <$> Rtype.kind t) #[.pointer (some ⟨13, 92, none⟩)]).run Tryz.prog w = .ok (.int .u8 22) w := by kernel_rfl
theorem R9.kind23 (w : World) : ((ReflectliteType.abiMethod fun t => (fun a : Nat => Value.int IntKind.u8 (a : Int)) <$> Rtype.kind t) #[.pointer (some ⟨13, 23, none⟩)]).run Tryz.prog w = .ok (.int .u8 2) w := by kernel_rfl
theorem at_one (v : Value) (f : Value → Sem Value) (g : Array Value → Sem Value) : @ReflectliteValue.method.match_2 (fun _ => Sem Value) #[v] f g = f v := rfl
theorem at_two (v x : Value) (f : Value → Value → Sem Value) (g : Array Value → Sem Value) : @ReflectliteValue.set.match_3 (fun _ => Sem Value) #[v, x] f g = f v x := rfl
theorem R9.parts77 (a : Addr) (w : World) : (ReflectliteValue.parts (.agg #[.pointer (some ⟨13, 92, none⟩), .pointer (some a), .int .u64 150])).run Tryz.prog w = .ok (some (92, a, 150)) w := by kernel_rfl
theorem R9.isNil77 (a p : Addr) (W : World) (ha : W.cell? a = some (.pointer (some p))) :
  (ReflectliteValue.method (ReflectliteValue.valueError "reflectlite.Value.IsNil" 0) ReflectliteValue.isNil #[.agg #[.pointer (some ⟨13, 92, none⟩), .pointer (some a), .int .u64 150]]).run Tryz.prog W = .ok (.bool false) W := by
 delta ReflectliteValue.method
 rw [at_one]
 simp only [Sem.run_bind, R9.parts77, Result.andThen]
 simp [ReflectliteValue.isNil, loadVar, isAgg, underlying, Tryz.underlying92, ha, Result.andThen]
theorem R9.elem77 (w : World) : (ReflectliteType.method ReflectliteType.elem #[.agg #[.pointer (some ⟨13, 92, none⟩)]]).run Tryz.prog w = .ok (.iface 187 (.agg #[.pointer (some ⟨13, 23, none⟩)])) w := by kernel_rfl
theorem R9.implements23 (w : World) : (ReflectliteType.relation "Implements" ReflectliteType.implements_ #[.agg #[.pointer (some ⟨13, 23, none⟩)], .iface 187 (.agg #[.pointer (some ⟨13, 29, none⟩)])]).run Tryz.prog w = .ok (.bool true) w := by kernel_rfl
theorem R9.typeOf23 (v : Value) (w : World) : (ReflectliteType.typeOf #[.iface 23 v]).run Tryz.prog w = .ok (.iface 187 (.agg #[.pointer (some ⟨13, 23, none⟩)])) w := by kernel_rfl
theorem R9.assignable23 (w : World) : (ReflectliteType.relation "AssignableTo" ReflectliteType.assignableTo #[.agg #[.pointer (some ⟨13, 23, none⟩)], .iface 187 (.agg #[.pointer (some ⟨13, 23, none⟩)])]).run Tryz.prog w = .ok (.bool true) w := by kernel_rfl
theorem R9.elemOf77 (w : World) : (Rtype.elem? 92).run Tryz.prog w = .ok (some 23) w := by kernel_rfl
theorem R9.mk23 (p : Addr) (w : World) : (ReflectliteValue.mk 23 p ReflectliteValue.flagAddr).run Tryz.prog w = .ok (.agg #[.pointer (some ⟨13, 23, none⟩), .pointer (some p), .int .u64 386]) w := by kernel_rfl
theorem R9.elemV77 (a p : Addr) (W : World) (ha : W.cell? a = some (.pointer (some p))) :
  (ReflectliteValue.method (ReflectliteValue.valueError "reflectlite.Value.Elem" 0) ReflectliteValue.elem #[.agg #[.pointer (some ⟨13, 92, none⟩), .pointer (some a), .int .u64 150]]).run Tryz.prog W
   = .ok (.agg #[.pointer (some ⟨13, 23, none⟩), .pointer (some p), .int .u64 386]) W := by
 delta ReflectliteValue.method
 rw [at_one]
 simp only [Sem.run_bind, R9.parts77, Result.andThen]
 simp [ReflectliteValue.elem, loadVar, isAgg, underlying, Tryz.underlying92, ha, Result.andThen, R9.elemOf77, R9.mk23]
theorem R9.parts23a (a : Addr) (w : World) : (ReflectliteValue.parts (.agg #[.pointer (some ⟨13, 23, none⟩), .pointer (some a), .int .u64 386])).run Tryz.prog w = .ok (some (23, a, 386)) w := by kernel_rfl
theorem R9.parts23 (a : Addr) (w : World) : (ReflectliteValue.parts (.agg #[.pointer (some ⟨13, 23, none⟩), .pointer (some a), .int .u64 130])).run Tryz.prog w = .ok (some (23, a, 130)) w := by kernel_rfl
theorem R9.direct23 (w : World) : (Rtype.directlyAssignable 23 23).run Tryz.prog w = .ok true w := by kernel_rfl
theorem R9.set23 (ta b : Addr) (n : Int) (old : Value) (W : World) (hb : W.cell? b = some (.int .i64 n)) (ht : W.cell? ta = some old) (hf : W.frozen? ta = false) :
  (ReflectliteValue.set #[.agg #[.pointer (some ⟨13, 23, none⟩), .pointer (some ta), .int .u64 386], .agg #[.pointer (some ⟨13, 23, none⟩), .pointer (some b), .int .u64 130]]).run Tryz.prog W
   = .ok (.tuple #[]) (W.setCell ta (.int .i64 n)) := by
 delta ReflectliteValue.set
 rw [at_two]
 simp only [Sem.run_bind, R9.parts23a, R9.parts23, Result.andThen]
 simp [ReflectliteValue.flagAddr, loadVar, isAgg, underlying, Tryz.underlying23, hb, Result.andThen, R9.direct23, storeVar, Value.cells, storeCells, Addr.add]
 rw [run_store Tryz.prog W ta _ _ (by rfl)]
 simp [ht, hf]
section
variable (h : Value) (w : World)
include h w
theorem R9.mKind : (Go.method 395 187 (.agg #[h]) "Kind").run Tryz.prog w = .ok (295, h) w := by kernel_rfl
theorem R9.mElem : (Go.method 395 187 (.agg #[h]) "Elem").run Tryz.prog w = .ok (308, .agg #[h]) w := by kernel_rfl
theorem R9.mImpl : (Go.method 395 187 (.agg #[h]) "Implements").run Tryz.prog w = .ok (309, .agg #[h]) w := by kernel_rfl
theorem R9.mAssign : (Go.method 395 187 (.agg #[h]) "AssignableTo").run Tryz.prog w = .ok (306, .agg #[h]) w := by kernel_rfl
end
end Go.Proofs.YtodmgaikhbmlnaaGreatDoor
namespace Go.Proofs.YtodmgaikhbmlnaaGreatDoor
open Go.RowKit Go.Extern.Stop Go.Stop Go.Extern
theorem as_end {w : World} {T : Nat} {n : Int} {v0 : Value} (o1 o2 : Obj) (hT : w.cell? ⟨T, 0, none⟩ = some v0) (hTl : T < w.heap.size) :
  (((w.setCell ⟨T, 0, none⟩ (.int .i64 n)).alloc o1).alloc o2).cell? ⟨T, 0, none⟩ = some (.int .i64 n) ∧ Below T w (((w.setCell ⟨T, 0, none⟩ (.int .i64 n)).alloc o1).alloc o2) := by
 have b0 : Below T w (w.setCell ⟨T, 0, none⟩ (.int .i64 n)) := (Below.refl _ _).setCell (p := ⟨T, 0, none⟩) (Nat.le_refl _) _
 have hz := b0.size
 have h0 : (w.setCell ⟨T, 0, none⟩ (.int .i64 n)).cell? ⟨T, 0, none⟩ = some (.int .i64 n) := World.cell?_setCell_same _ _ _ hT
 have h1 : ((w.setCell ⟨T, 0, none⟩ (.int .i64 n)).alloc o1).cell? ⟨T, 0, none⟩ = some (.int .i64 n) := by rw [World.cell?_alloc_past _ _ _ (by omega)]; exact h0
 have hz1 : ((w.setCell ⟨T, 0, none⟩ (.int .i64 n)).alloc o1).heap.size = (w.setCell ⟨T, 0, none⟩ (.int .i64 n)).heap.size + 1 := World.size_alloc _ _
 refine ⟨by rw [World.cell?_alloc_past _ _ _ (by omega)]; exact h1, (b0.alloc (by omega) _).alloc (by omega) _⟩
set_option maxRecDepth 100000 in
set_option maxHeartbeats 1000000 in
theorem as_hit (n : Int) (T a : Nat) (w : World) (hT : w.cell? ⟨T, 0, none⟩ = some (.int .i64 0)) (hF : w.frozen? ⟨T, 0, none⟩ = false) (ha : w.cell? ⟨a, 0, none⟩ = some (.pointer (some ⟨T, 0, none⟩))) (hTl : T < w.heap.size) (hal : a < w.heap.size) :
  Calls Tryz.prog 133 #[.iface 23 (.int .i64 n), .iface 92 (.pointer (some ⟨T, 0, none⟩)), .agg #[.pointer (some ⟨13, 92, none⟩), .pointer (some ⟨a, 0, none⟩), .int .u64 150], .iface 187 (.agg #[.pointer (some ⟨13, 23, none⟩)])] w fun e w' =>
   e = .returned (.bool true) ∧ w'.cell? ⟨T, 0, none⟩ = some (.int .i64 n) ∧ Below T w w' := by
 have h62 := @run_callFunc_extern Tryz.prog 186 _ ReflectliteType.typeOf Tryz.func186 (by kernel_rfl) (by kernel_rfl) (by kernel_rfl) (by kernel_rfl)
 have h105 := @run_callFunc_extern Tryz.prog 306 _ (ReflectliteType.relation "AssignableTo" ReflectliteType.assignableTo) Tryz.func306 (by kernel_rfl) (by kernel_rfl) (by kernel_rfl) (by kernel_rfl)
 have h63 := @run_callFunc_extern Tryz.prog 187 _ (ReflectliteValue.method (ReflectliteValue.valueError "reflectlite.Value.Elem" 0) ReflectliteValue.elem) Tryz.func187 (by kernel_rfl) (by kernel_rfl) (by kernel_rfl) (by kernel_rfl)
 have h64 := @run_callFunc_extern Tryz.prog 188 _ ReflectliteValue.set Tryz.func188 (by kernel_rfl) (by kernel_rfl) (by kernel_rfl) (by kernel_rfl)
 have h55 := @run_callFunc_extern Tryz.prog 130 _ (fun args => ReflectliteValue.unpack (args.getD 0 (.tuple #[]))) Tryz.func130 (by kernel_rfl) (by kernel_rfl) (by kernel_rfl) (by kernel_rfl)
 have tO := R9.typeOf23
 have mA := R9.mAssign
 have a23 := R9.assignable23
 have v23 := R9.valueOf23
 have el := R9.elemV77 ⟨a, 0, none⟩ ⟨T, 0, none⟩ (w.alloc (.cells #[.pointer (some ⟨13, 92, none⟩), .pointer (some ⟨a, 0, none⟩), .int .u64 150] 146)) (by rw [World.cell?_alloc_past _ _ _ hal]; exact ha)
 have st := R9.set23 ⟨T, 0, none⟩ ⟨w.heap.size + 1, 0, none⟩ n (.int .i64 0) ((w.alloc (.cells #[.pointer (some ⟨13, 92, none⟩), .pointer (some ⟨a, 0, none⟩), .int .u64 150] 146)).alloc (.cells #[.int .i64 n] 23))
  (by rw [World.cell?_alloc_at _ _ _ _ (by simp)]; rfl) (by rw [World.cell?_alloc_past _ _ _ (by simp; omega), World.cell?_alloc_past _ _ _ hTl]; exact hT) (by rw [World.frozen?_alloc_old _ _ _ (by simp; omega), World.frozen?_alloc_old _ _ _ (by simp; omega)]; exact hF)
 go_enter Tryz.func133, Tryz.ntmps133
 go_wp2
 refine wp_loop_rounds 1 ?_
 rw [rounds_succ]
 go_wp2
 go_ret
 exact ⟨rfl, as_end _ _ hT hTl⟩
set_option maxRecDepth 100000 in
set_option maxHeartbeats 1000000 in
theorem As_hit (n : Int) (T : Nat) (w : World) (hT : w.cell? ⟨T, 0, none⟩ = some (.int .i64 0)) (hF : w.frozen? ⟨T, 0, none⟩ = false) (hTl : T < w.heap.size) (hg : w.cell? ⟨1, 0, none⟩ = some (.iface 187 (.agg #[.pointer (some ⟨13, 29, none⟩)]))) :
  Calls Tryz.prog 61 #[.iface 23 (.int .i64 n), .iface 92 (.pointer (some ⟨T, 0, none⟩))] w fun e w' => e = .returned (.bool true) ∧ w'.cell? ⟨T, 0, none⟩ = some (.int .i64 n) ∧ Below T w w' := by
 have h55 := @run_callFunc_extern Tryz.prog 130 _ (fun args => ReflectliteValue.unpack (args.getD 0 (.tuple #[]))) Tryz.func130 (by kernel_rfl) (by kernel_rfl) (by kernel_rfl) (by kernel_rfl)
 have h56 := @run_callFunc_extern Tryz.prog 131 _ (ReflectliteValue.methodAny (ReflectliteValue.valueError "reflectlite.Value.Type" 0) (fun t _ _ _ => ReflectliteType.toType t)) Tryz.func131 (by kernel_rfl) (by kernel_rfl) (by kernel_rfl) (by kernel_rfl)
 have h57 := @run_callFunc_extern Tryz.prog 132 _ (ReflectliteValue.method (ReflectliteValue.valueError "reflectlite.Value.IsNil" 0) ReflectliteValue.isNil) Tryz.func132 (by kernel_rfl) (by kernel_rfl) (by kernel_rfl) (by kernel_rfl)
 have h91 := @run_callFunc_extern Tryz.prog 295 _ (ReflectliteType.abiMethod fun t => do pure (.int .u8 (← Rtype.kind t))) Tryz.func295 (by kernel_rfl) (by kernel_rfl) (by kernel_rfl) (by kernel_rfl)
 have h107 := @run_callFunc_extern Tryz.prog 308 _ (ReflectliteType.method ReflectliteType.elem) Tryz.func308 (by kernel_rfl) (by kernel_rfl) (by kernel_rfl) (by kernel_rfl)
 have h108 := @run_callFunc_extern Tryz.prog 309 _ (ReflectliteType.relation "Implements" ReflectliteType.implements_) Tryz.func309 (by kernel_rfl) (by kernel_rfl) (by kernel_rfl) (by kernel_rfl)
 have v77 := R9.valueOf77
 have t77 := R9.type77
 have mK := R9.mKind
 have mE := R9.mElem
 have mI := R9.mImpl
 have k77 := R9.kind77
 have k23 := R9.kind23
 have e77 := R9.elem77
 have i23 := R9.implements23
 have hgl : 1 < w.heap.size := by
  rcases Nat.lt_or_ge 1 w.heap.size with h | h
  ·
   exact h
  ·
   simp [World.cell?, Array.getElem?_eq_none h] at hg
 obtain ⟨W1, hW1⟩ : ∃ W1, W1 = (w.alloc (.cells #[.pointer (some ⟨T, 0, none⟩)] 92)).alloc (.cells #[.pointer (some ⟨13, 92, none⟩), .pointer (some ⟨w.heap.size, 0, none⟩), .int .u64 150] 146) := ⟨_, rfl⟩
 have hg2 : ((w.alloc (.cells #[.pointer (some ⟨T, 0, none⟩)] 92)).alloc (.cells #[.pointer (some ⟨13, 92, none⟩), .pointer (some ⟨w.heap.size, 0, none⟩), .int .u64 150] 146)).cell? ⟨1, 0, none⟩ = some (.iface 187 (.agg #[.pointer (some ⟨13, 29, none⟩)])) := by
  rw [World.cell?_alloc_past _ _ _ (by simp; omega), World.cell?_alloc_past _ _ _ hgl]; exact hg
 have ha : W1.cell? ⟨w.heap.size, 0, none⟩ = some (.pointer (some ⟨T, 0, none⟩)) := by
  rw [hW1, World.cell?_alloc_past _ _ _ (by simp), World.cell?_alloc_at _ _ _ _ rfl]; rfl
 have hT1 : W1.cell? ⟨T, 0, none⟩ = some (.int .i64 0) := by rw [hW1, World.cell?_alloc_past _ _ _ (by simp; omega), World.cell?_alloc_past _ _ _ hTl]; exact hT
 have hF1 : W1.frozen? ⟨T, 0, none⟩ = false := by rw [hW1, World.frozen?_alloc_old _ _ _ (by simp; omega), World.frozen?_alloc_old _ _ _ (by simp; omega)]; exact hF
 have hz1 : W1.heap.size = w.heap.size + 2 := by rw [hW1]; simp
 have hB1 : Below T w W1 := by rw [hW1]; exact ((Below.refl _ _).alloc (Nat.le_of_lt hTl) _).alloc (by simp; omega) _
 have n8 := R9.isNil77 ⟨w.heap.size, 0, none⟩ ⟨T, 0, none⟩ W1 ha
 rw [hW1] at n8
 have HC : Hid _ := as_hit n T w.heap.size W1 hT1 hF1 ha (by omega) (by omega)
 have HB1 := hide hB1
 rw [hW1] at HC HB1
 clear hB1 hz1 hF1 hT1 ha hW1 W1
 go_enter Tryz.func61, Tryz.ntmps61
 go_wp2_with fail
 refine cm HC.out ?_
 rintro e w2 ⟨rfl, hc2, hb2⟩
 have HC2 := hide hc2
 have HB2 := hide hb2
 clear hc2 hb2
 go_wp2_with fail
 go_ret
 exact ⟨rfl, HC2.out, HB1.out.trans HB2.out⟩
end Go.Proofs.YtodmgaikhbmlnaaGreatDoor
