/-
  The document's parser at any text.
-/
import Derived.Test.YtodmgaikhbmlnaaGreatDoorHf25
import Derived.Test.YtodmgaikhbmlnaaGreatDoorHf29
set_option maxRecDepth 100000
set_option maxHeartbeats 16000000
namespace Go.Proofs.YtodmgaikhbmlnaaGreatDoor
open Go.RowKit
theorem tPM_not : ∀ g ∈ signsS, g ≠ tPM := by decide +kernel
theorem rparse_any (ws : List ByteArray) (s : ByteArray) (w : World) (hs : s.size ≤ 3000) (hL : RefLists ws w) (hws : ∀ x ∈ ws, sgP 2 x = none) : Calls Tryz.prog 12 #[.string s] w (RpPost (rparseS ws s) w) := by
 have hT : ∀ W, RefLists ws W → Calls Tryz.prog 45 #[.string s] W (UPost (toksR ws signsS s (pastN gapB s 0) []) W) := fun W h => refTokens_any ws s W hs h
 cases hl : toksR ws signsS s (pastN gapB s 0) [] with
 | bad er p =>
  have he := toks_er ws signsS s rf_signs_pos _ _ [] er p rfl (pastN_le gapB s 0 (Nat.zero_le _)) hl; rw [hl] at hT; exact rparse_toks ws s w er p he (fun t h => by unfold rparseS at h; rw [hl] at h; cases h) hL hT
 | ok l =>
  rw [hl] at hT; have hE := toks_ends rf_signs_pos hl; have hN := toks_noSg rf_signs_pos hws tPM_not hl; have h3 : l.length ≤ 3001 := by omega
  have hto := rprog_total hE.1 hE.2.1 h3; have hpt := prog_total hE.1 hE.2.1 h3; have hr : rparseS ws s = paOf (progP l (rfns l KK)) := by
   unfold rparseS; rw [hl]; simp only
   cases progP l (rfns l KK) <;> rfl
  rw [hr]; refine rparse_main s w l (rfns l KK) _ hE.1 hE.2.1 h3 ws hL hT (fun c hc => ?_) ⟨KK, rfns_nx hE.1 KK⟩ (rfns_ok l KK) rfl hto.1 (fun t j h => ?_)
  ·
   subst hc; exact rfns_all hE.1 KK
  ·
   rcases rprog_imp hN.1 hN.2 KK KK t j h with h2 | h2
   ·
    have h4 := prog_cb (fns_cb KK) h2; have h5 := hpt.2 t j h2; omega
   ·
    exact absurd h2 hpt.1
structure SameAt (p q g h k L c1 c2 a b : Nat) (W : World) : Prop where
 x3 : W.cell? ⟨p, 3, none⟩ = some (.slice (some ⟨g, 0, none⟩) L c1)
 y3 : W.cell? ⟨q, 3, none⟩ = some (.slice (some ⟨h, 0, none⟩) L c2)
 xk : W.cell? ⟨g, k, none⟩ = some (nPtr a)
 yk : W.cell? ⟨h, k, none⟩ = some (nPtr b)
theorem same_any (I J : Nat → Prop) : ∀ (m : Nat) (t : Tr), t.count ≤ m → t.count ≤ 100000 → ∀ (p q : Nat) (w : World), NAt I w t p → NAt J w t q →
  Calls Tryz.prog 15 #[nPtr p, nPtr q] w fun e w' => e = .returned (.bool true) ∧ Below w.heap.size w w' := by
 intro m
 induction m with
 | zero =>
  exact zbdk
 | succ m ih =>
  intro t ht hbd p q w hnp hnq; obtain ⟨u, ps, hblk, hrow, hri, hks⟩ := hnp.opens2; obtain ⟨v, qs, hblq, hroq, hrj, hkq⟩ := hnq.opens2; have hlen := NAts.length _ _ hks; have hleq := NAts.length _ _ hkq
  have htc : t.count = 1 + Tr.counts t.kids := by cases t with | mk kd tx nn ks => exact count_mk _ _ _ _
  obtain ⟨f0, f1, f2, f3, _⟩ := node_cells hblk; obtain ⟨g0, g1, g2, g3, _⟩ := node_cells hblq; obtain ⟨ua, uc, hu⟩ := row_shut hrow; subst hu; obtain ⟨va, vc, hv⟩ := row_shut hroq; subst hv; rw [hlen] at f3
  rw [hleq] at g3; have hkb : t.kids.length ≤ 100000 := by have := counts_len t.kids; omega
  obtain ⟨kd, hkd⟩ : ∃ kd, kd = t.kd := ⟨_, rfl⟩; obtain ⟨tx, htx⟩ : ∃ tx, tx = t.tx := ⟨_, rfl⟩; obtain ⟨nn, hnn⟩ : ∃ nn, nn = t.n := ⟨_, rfl⟩; rw [← hkd] at f0 g0; rw [← htx] at f1 g1; rw [← hnn] at f2 g2
  have HKS := hide hks; have HKQ := hide hkq; have HROW := hide hrow; have HROQ := hide hroq; have HIH := hide ih; have HTC := hide htc; have HHT := hide ht; have HBD := hide hbd; have HLE := hide hlen
  have HLQ := hide hleq; have HP := hide (lt_of_heap hblk); have HQ := hide (lt_of_heap hblq); have HF3 := hide f3; have HG3 := hide g3; clear hri hrj hks hkq hrow hroq ih htc ht hbd hblk hblq hnp hnq hkd htx hnn hlen hleq
  go_enter Tryz.func15, Tryz.ntmps15; go_wp2_with fail
  go_region
  go_wp2_with fail
  go_loopw [64] (fun i wr => ∃ k : Nat, k ≤ t.kids.length ∧ i = .int .i64 k ∧ Below w.heap.size w wr) (fun i _ => t.kids.length - (intOf i).toNat)
  case atStart => exact ⟨0, Nat.zero_le _, rfl, (Below.refl _ _).drew⟩
  case round =>
   obtain ⟨k, hk, rfl, hb⟩ := hrel; have HB := hide hb; clear hb f0 f1 f2 f3 g0 g1 g2 g3
   by_cases hlt : k < t.kids.length
   ·
    obtain ⟨g, cap, hv, hcell⟩ := row_open HROW.out (by have := unhide HLE; omega)
    simp only [Value.slice.injEq] at hv; obtain ⟨rfl, _, rfl⟩ := hv; obtain ⟨h, cbp, hv, hcelq⟩ := row_open HROQ.out (by have := unhide HLQ; omega)
    simp only [Value.slice.injEq] at hv; obtain ⟨rfl, _, rfl⟩ := hv; obtain ⟨hkp, hnk⟩ := NAts.get _ _ HKS.out k hlt; obtain ⟨hkq, hnl⟩ := NAts.get _ _ HKQ.out k hlt; have hgl : g < w.heap.size := (own_lt HROW.out g rfl).1
    have hhl : h < w.heap.size := (own_lt HROQ.out h rfl).1; have hbb := unhide HB; have hnk2 : NAt I wr.drew t.kids[k] ps[k] := NAt.later (fun x _ hl => (hbb.drew).block x hl) _ _ hnk
    have hnl2 : NAt J wr.drew t.kids[k] qs[k] := NAt.later (fun x _ hl => (hbb.drew).block x hl) _ _ hnl; have hst : SameAt p q g h k t.kids.length uc vc ps[k] qs[k] wr.drew :=
     ⟨by rw [World.cell?_of_block (w := w) ((hbb.drew).block p HP.out)]; exact HF3.out, by rw [World.cell?_of_block (w := w) ((hbb.drew).block q HQ.out)]; exact HG3.out, by rw [World.cell?_of_block (w := w) ((hbb.drew).block g hgl)]; exact hcell k hkp, by rw [World.cell?_of_block (w := w) ((hbb.drew).block h hhl)]; exact hcelq k hkq⟩
    have hle := counts_le t.kids k hlt; have h1 := unhide HTC; have h2 := unhide HHT; have h3 := unhide HBD; have HC := hide (HIH.out t.kids[k] (by omega) (by omega) ps[k] qs[k] wr.drew hnk2 hnl2)
    obtain ⟨a, ha⟩ : ∃ a, a = ps[k] := ⟨_, rfl⟩; obtain ⟨b, hb⟩ : ∃ b, b = qs[k] := ⟨_, rfl⟩; rw [← ha, ← hb] at hst HC; have HST := hide hst; have hki : (k : Int) < (t.kids.length : Int) := by omega
    have HX : Hid (∀ w2, Below wr.drew.heap.size wr.drew w2 → SameAt p q g h k t.kids.length uc vc a b w2 ∧ Below w.heap.size w w2) := fun w2 h2 => by
     have h3 : Below w.heap.size w w2 := hbb.drew.trans (h2.mono hbb.drew.size); refine ⟨⟨?_, ?_, ?_, ?_⟩, h3⟩
     ·
      rw [World.cell?_of_block (w := w) (h3.block p HP.out)]; exact unhide HF3
     ·
      rw [World.cell?_of_block (w := w) (h3.block q HQ.out)]; exact unhide HG3
     ·
      rw [World.cell?_of_block (w := w) (h3.block g hgl)]; rw [ha]; exact hcell k hkp
     ·
      rw [World.cell?_of_block (w := w) (h3.block h hhl)]; rw [hb]; exact hcelq k hkq
    clear hcell hcelq hnk hnl hnk2 hnl2 hle h1 h2 h3 ha hb hst hbb; go_wp2_with fail; refine wp_region_held (S := SameAt p q g h k t.kids.length uc vc a b) (by kernel_rfl) ?_; change wpAnyH _ _ _ _ _ _ _ _ (World.drew _)
    refine wh 0 (nPtr p) HST.out ?_; refine wh 1 (nPtr p) HST.out ?_; refine wh 2 (.pointer (some ⟨p, 3, none⟩)) HST.out ?_
    refine wg 3 (.slice (some ⟨g, 0, none⟩) t.kids.length uc) rfl (Or.inl ⟨by kernel_rfl, fun W hW => by have hh := SameAt.x3 hW; go_simp⟩) HST.out ?_
    refine wh 4 (.int .i64 (k : Int)) HST.out ?_; refine wh 5 (.pointer (some ⟨g, k, none⟩)) HST.out ?_; refine wg 6 (nPtr a) rfl (Or.inl ⟨by kernel_rfl, fun W hW => by have hh := SameAt.xk hW; go_simp⟩) HST.out ?_
    refine wh 7 (nPtr q) HST.out ?_; refine wh 8 (nPtr q) HST.out ?_; refine wh 9 (.pointer (some ⟨q, 3, none⟩)) HST.out ?_
    refine wg 10 (.slice (some ⟨h, 0, none⟩) t.kids.length vc) rfl (Or.inl ⟨by kernel_rfl, fun W hW => by have hh := SameAt.y3 hW; go_simp⟩) HST.out ?_
    refine wh 11 (.int .i64 (k : Int)) HST.out ?_; refine wh 12 (.pointer (some ⟨h, k, none⟩)) HST.out ?_; refine wg 13 (nPtr b) rfl (Or.inl ⟨by kernel_rfl, fun W hW => by have hh := SameAt.yk hW; go_simp⟩) HST.out ?_
    refine wq1 14 fun K hK => ?_; go_simp; refine cm HC.out ?_; rintro e w2 ⟨rfl, hb2⟩; obtain ⟨hs2, hb3⟩ := HX.out w2 hb2; have HS2 := hide hs2; have HB3 := hide hb3; clear hs2 hb2 hb3 HC
    refine hK.out _ _ HS2.out (fun _ => ?_); clear hK K; refine wh 15 (.bool false) HS2.out ?_; refine wpAnyH_done (by kernel_rfl) ?_ _; go_simp; go_wp2_with fail
    go_roundw
    case rel => exact ⟨k + 1, by omega, by go_num, HB3.out⟩
    case measure => simp [intOf]; omega
   ·
    have hk2 : k = t.kids.length := by omega
    subst hk2; go_wp2_with fail; go_ret; exact ⟨rfl, HB.out⟩
end Go.Proofs.YtodmgaikhbmlnaaGreatDoor
namespace Go.Proofs.YtodmgaikhbmlnaaGreatDoor
open Go.ChangeShapes Go.WideShapes Go.ChangeAt Go.WideMaps Go.WideElems Go.RowKit
def jn (a b : ByteArray) : ByteArray := ⟨(a.data.toList ++ 10 :: b.data.toList).toArray⟩
def shRd (D : Nat) : Rd → Rd
 | .tok kd tx n e => .tok kd tx n (D + e)
 | .bad er p => .bad er (D + p)
def shTk (D : Nat) (t : Tk) : Tk := ⟨t.kd, t.tx, t.n, D + t.pl⟩
end Go.Proofs.YtodmgaikhbmlnaaGreatDoor
namespace Go.Proofs.YtodmgaikhbmlnaaGreatDoor
def Js {α : Type} (A L a : Nat) (r r' : PR α) : Prop := ∀ x j, r = .ok x j → (a ≤ j ∧ j < L) ∧ (j < A → r' = .ok x j)
section
variable {α : Type}
include α
theorem Js.ok {A L a i : Nat} {x : α} (h1 : a ≤ i) (h2 : i < L) : Js A L a (.ok x i) (.ok x i) :=
 fun _ _ h => by cases h; exact ⟨⟨h1, h2⟩, fun _ => rfl⟩
theorem Js.bad {A L a : Nat} {er : Int} {p : Nat} {r : PR α} : Js A L a (.bad er p) r := fun _ _ h => by cases h
theorem Js.out {A L a : Nat} {r : PR α} : Js A L a .out r := fun _ _ h => by cases h
theorem Js.badF {A L a : Nat} {l : List Tk} {er : Int} {i : Nat} {r : PR α} : Js A L a (badF l er i) r := Js.bad
theorem Js.le {A L a b : Nat} {r r' : PR α} (h : Js A L a r r') (hb : b ≤ a) : Js A L b r r' := fun x j e => ⟨⟨Nat.le_trans hb (h x j e).1.1, (h x j e).1.2⟩, (h x j e).2⟩
theorem Js.less {A B L a : Nat} {r r' : PR α} (h : Js B L a r r') (hb : A ≤ B) : Js A L a r r' := fun x j e => ⟨(h x j e).1, fun hj => (h x j e).2 (by omega)⟩
theorem Js.low {A L a : Nat} {r r' : PR α} (h : Js (A + 1) L a r r') : Js A L a r r' := h.less (Nat.le_succ _)
theorem Js.far {A L a : Nat} {r r' r'' : PR α} (h : Js A L a r r'') (ha : A ≤ a) : Js A L a r r' := fun x j e => ⟨(h x j e).1, fun hj => absurd (h x j e).1.1 (by omega)⟩
end
theorem Js.bindD {α β : Type} {A L a b : Nat} (dl : Nat) {r r' : PR α} {f f' : α → Nat → PR β} (h : Js A L a r r') (hb : b ≤ a + dl)
  (hf : ∀ x i, a ≤ i → i < L → Js (A + dl) L (i + dl) (f x i) (f' x i)) : Js (A + dl) L b (r.bind f) (r'.bind f') := by
 intro y j e
 cases r with
 | ok x i =>
  have h1 := h x i rfl; have h2 := hf x i h1.1.1 h1.1.2 y j e; refine ⟨⟨by omega, h2.1.2⟩, fun hj => ?_⟩; rw [h1.2 (by omega)]; exact h2.2 hj
 | bad er p => cases e
 | out => cases e
theorem Js.bind {α β : Type} {A L a b : Nat} {r r' : PR α} {f f' : α → Nat → PR β} (h : Js A L a r r') (hb : b ≤ a)
  (hf : ∀ x i, a ≤ i → i < L → Js A L i (f x i) (f' x i)) : Js A L b (r.bind f) (r'.bind f') := Js.bindD 0 h hb hf
section
variable {l l' : List Tk} {A : Nat} (hE : Ends l) (hA : ∀ i, i < A → tkA l i = tkA l' i)
include hE hA
omit hE hA in
omit hE in
omit hE in
structure FJs (l : List Tk) (A : Nat) (F F' : Fns) : Prop where
 fuel : F.fuel = F'.fuel
 st : ∀ d i, i < l.length → Js (A + 1) l.length (i + 1) (F.st d i) (F'.st d i)
 vl : ∀ d i, i < l.length → Js A l.length (i + 1) (F.vl d i) (F'.vl d i)
 pr : ∀ b d i, i < l.length → Js A l.length (i + 1) (F.pr b d i) (F'.pr b d i)
 sg : ∀ d i, i < l.length → Js A l.length (i + 1) (F.sg d i) (F'.sg d i)
def Parts (l l' : List Tk) (A : Nat) : Prop := ∀ s, s = tElse ∨ s = tCatch ∨ s = tFinally → fx l A ≠ s ∧ fx l' A ≠ s
variable {F F' : Fns} (hF : FJs l A F F')
include hF
variable {k : Nat} (hN : FNx l k F)
include hN
end
end Go.Proofs.YtodmgaikhbmlnaaGreatDoor
namespace Go.Proofs.YtodmgaikhbmlnaaGreatDoor
def Sh {α : Type} (A : Nat) (r r' : PR α) : Prop := ∀ x j, r = .ok x j → r' = .ok x (A + j)
theorem Sh.ok {α : Type} {A i : Nat} {x : α} : Sh A (.ok x i) (.ok x (A + i)) := fun _ _ h => by cases h; rfl
section
variable {α : Type} {A : Nat}
include α A
theorem Sh.bad {er : Int} {p : Nat} {r : PR α} : Sh A (.bad er p) r := fun _ _ h => by cases h
theorem Sh.out {r : PR α} : Sh A .out r := fun _ _ h => by cases h
theorem Sh.badF {l : List Tk} {er : Int} {i : Nat} {r : PR α} : Sh A (badF l er i) r := Sh.bad
end
theorem Sh.bind {α β : Type} {A : Nat} {r r' : PR α} {f f' : α → Nat → PR β} (h : Sh A r r') (hf : ∀ x i, Sh A (f x i) (f' x (A + i))) : Sh A (r.bind f) (r'.bind f') := by
 intro y j e
 cases r with
 | ok x i => rw [h x i rfl]; exact hf x i y j e
 | bad er p => cases e
 | out => cases e
structure Shifts (l l' : List Tk) (A : Nat) : Prop where
 kd : ∀ i, (tkA l' (A + i)).kd = (tkA l i).kd
 tx : ∀ i, (tkA l' (A + i)).tx = (tkA l i).tx
 n : ∀ i, (tkA l' (A + i)).n = (tkA l i).n
section
variable {l l' : List Tk} {A : Nat} (hA : Shifts l l' A)
include hA
omit hA in
structure FSh (A : Nat) (F F' : Fns) : Prop where
 fuel : F'.fuel = F.fuel
 st : ∀ d i, Sh A (F.st d i) (F'.st d (A + i))
 vl : ∀ d i, Sh A (F.vl d i) (F'.vl d (A + i))
 pr : ∀ b d i, Sh A (F.pr b d i) (F'.pr b d (A + i))
 sg : ∀ d i, Sh A (F.sg d i) (F'.sg d (A + i))
variable {F F' : Fns} (hF : FSh A F F')
include hF
end
end Go.Proofs.YtodmgaikhbmlnaaGreatDoor
namespace Go.Proofs.YtodmgaikhbmlnaaGreatDoor
open Go.RowKit
def NoHead (s : ByteArray) : Prop := s = tElse ∨ s = tCatch ∨ s = tFinally
theorem NoHead.facts {s : ByteArray} (h : NoHead s) : s ≠ noText ∧ look2 vlKeys s = none ∧ (sgP 0 s).isNone = true ∧ (sgP 1 s).isNone = true ∧ look2 stKeys s = none := by
 rcases h with rfl | rfl | rfl <;> decide
section
variable {l : List Tk} {s : ByteArray} {i : Nat} (hs : NoHead s) (hf : fx l i = s)
include hs hf
end
theorem progP_inv {l : List Tk} {F : Fns} {t : Tr} {j : Nat} (h : progP l F = .ok t j) : ∃ ts, progLoop l F F.fuel [] 0 = .ok ts j ∧ t = codeT (.mk 1 noText 0 ts) := by
 unfold progP at h
 obtain ⟨ts, j1, h1, h⟩ := bind_inv h
 cases h
 exact ⟨ts, h1, rfl⟩
theorem codeT_kd (t : Tr) : (codeT t).kd = t.kd := by unfold codeT; split <;> rfl
theorem parseS_kd {ws gs : List ByteArray} {s : ByteArray} {t : Tr} (h : parseS ws gs s = .ok t) : t.kd = 1 ∧ t.count ≤ 1500 := by
 unfold parseS at h
 split at h
 ·
  cases h
 ·
  split at h
  ·
   cases h
  ·
   split at h
   ·
    cases h
   ·
    rename_i hr
    split at h
    ·
     cases h
    ·
     cases h; obtain ⟨ts, _, rfl⟩ := progP_inv hr; exact ⟨codeT_kd _, by omega⟩
   ·
    cases h
def ReadPost (r : PaR) (w : World) (e : Ending) (w' : World) : Prop :=
 match r with
 | .ok t => ∃ p, e = .returned (.tuple #[nPtr p, .bool true]) ∧ NAt (From w.heap.size) w' t p ∧ Below w.heap.size w w'
 | _ => e = .returned (.tuple #[.pointer none, .bool false]) ∧ Below w.heap.size w w'
def bothS (ws : List ByteArray) (s : ByteArray) : Option Tr := if 3000 < s.size then none else match rparseS ws s with | .ok t => some t | _ => none
def BoPost (r : Option Tr) (w : World) (e : Ending) (w' : World) : Prop :=
 match r with
 | some t => ∃ p q, e = .returned (.tuple #[nPtr p, nPtr q, .bool true]) ∧ NAt (From w.heap.size) w' t p ∧ NAt (From w.heap.size) w' t q ∧ Below w.heap.size w w'
 | none => e = .returned (.tuple #[.pointer none, .pointer none, .bool false]) ∧ Below w.heap.size w w'
section
variable (s : ByteArray) (w : World)
include s w
theorem both_long (hs : 3000 < s.size) : Calls Tryz.prog 19 #[.string s] w (BoPost none w) := by
 have hgt : decide ((3000 : Int) < (s.size : Int)) = true := decide_eq_true (by omega)
 go_enter Tryz.func19, Tryz.ntmps19
 go_wp2_with fail
 exact bodyPost_ret (v := .tuple #[.pointer none, .pointer none, .bool false]) (by simp [results, Tryz.results19, go_sem]) rfl ⟨rfl, Below.refl _ _⟩
theorem both_bad (r : PaR) (hs : s.size ≤ 3000) (hr : ∀ t, r ≠ .ok t) (h : Calls Tryz.prog 12 #[.string s] w (RpPost r w)) : Calls Tryz.prog 19 #[.string s] w (BoPost none w) := by
 have hgt : decide ((3000 : Int) < (s.size : Int)) = false := decide_eq_false (by omega)
 have h2 : Calls Tryz.prog 12 #[.string s] w (fun e w' => ∃ er pl : Int, er ≠ 0 ∧ e = .returned (.tuple #[.pointer none, .agg #[.int .i64 er, .int .i64 pl]]) ∧ Below w.heap.size w w') := by
  cases r with
  | ok t => exact absurd rfl (hr t)
  | bare => exact h
  | «at» a b => exact h
 have HC := hide h2
 clear h h2 hr
 go_enter Tryz.func19, Tryz.ntmps19
 go_wp2_with fail
 refine cm HC.out ?_
 rintro e w1 ⟨er, pl, he, rfl, hb⟩
 have hb0 : (er != 0) = true := bne_iff_ne.2 he
 have HB := hide hb
 clear hb HC
 go_wp2_with fail
 exact bodyPost_ret (v := .tuple #[.pointer none, .pointer none, .bool false]) (by simp [results, Tryz.results19, go_sem]) rfl ⟨rfl, HB.out.alloc HB.out.size _⟩
theorem both_ok (t : Tr) (hs : s.size ≤ 3000) (hc : t.count ≤ 1500) (h : Calls Tryz.prog 12 #[.string s] w (RpPost (.ok t) w)) (h2 : ∀ W, Below w.heap.size w W → Calls Tryz.prog 13 #[.string s] W (PaPost (.ok t) W)) : Calls Tryz.prog 19 #[.string s] w (BoPost (some t) w) := by
 have hgt : decide ((3000 : Int) < (s.size : Int)) = false := decide_eq_false (by omega)
 have HC := hide h
 have HC2 := hide h2
 clear h h2
 go_enter Tryz.func19, Tryz.ntmps19
 go_wp2_with fail
 refine cm HC.out ?_
 rintro e w1 ⟨q, rfl, hn, hb⟩
 have HB := hide (hb.alloc hb.size (.cells #[.int .i64 0, .int .i64 (-1)] 25))
 have HN := hide (NAt.later (fun b _ hl => Below.heap_alloc w1 (.cells #[.int .i64 0, .int .i64 (-1)] 25) b hl) _ _ hn)
 have HC3 := hide (unhide HC2 _ HB.out)
 clear hb hn HC HC2
 go_wp2_with fail
 refine cm HC3.out ?_
 rintro e w2 ⟨p, rfl, hn2, hb2⟩
 have HB2 := hide (HB.out.trans (hb2.mono HB.out.size))
 have HNq := hide (NAt.later (fun b _ hl => hb2.block b hl) _ _ HN.out)
 have HNp := hide (NAt.mono (J := From w.heap.size) (fun b h1 _ => Nat.le_trans HB.out.size h1) _ _ hn2)
 have HC4 := hide (same_any _ _ t.count t (Nat.le_refl _) (by omega) p q w2 HNp.out HNq.out)
 clear hb2 hn2 HC3
 go_wp2_with fail
 refine cm HC4.out ?_
 rintro e w3 ⟨rfl, hb3⟩
 have HB3 := hide (HB2.out.trans (hb3.mono HB2.out.size))
 have HNq2 := hide (NAt.later (fun b _ hl => hb3.block b hl) _ _ HNq.out)
 have HNp2 := hide (NAt.later (fun b _ hl => hb3.block b hl) _ _ HNp.out)
 clear hb3 HC4
 go_wp2_with fail
 exact bodyPost_ret (v := .tuple #[nPtr p, nPtr q, .bool true]) (by simp [results, Tryz.results19, go_sem]) rfl ⟨p, q, rfl, HNp2.out, HNq2.out, HB3.out⟩
end
theorem both_any (ws gs : List ByteArray) (s : ByteArray) (w : World) (hL : Lists ws gs w) (hT : Tabs w) (hR : RefLists ws w) (hg : gs = signsS) (hws : ∀ x ∈ ws, sgP 2 x = none) : Calls Tryz.prog 19 #[.string s] w (BoPost (bothS ws s) w) := by
 have hgs : ∀ g ∈ gs, 1 ≤ g.size := by rw [hg]; exact rf_signs_pos
 unfold bothS
 by_cases hs : 3000 < s.size
 ·
  rw [if_pos hs]; exact both_long s w hs
 ·
  rw [if_neg hs]; have h1 := rparse_any ws s w (by omega) hR hws
  cases hr : rparseS ws s with
  | ok t =>
   rw [hr] at h1; have h2 := rparse_same hg (by omega) hgs hws (by rw [hg]; exact tPM_not) hr
   have h3 := (parseS_kd h2).2; refine both_ok s w t (by omega) h3 h1 (fun W hb => ?_); rw [← h2]; exact parse_any ws gs s W (hL.later hb) hgs (hT.later hb)
  | bare => rw [hr] at h1; exact both_bad s w _ (by omega) (by nofun) h1
  | «at» a b => rw [hr] at h1; exact both_bad s w _ (by omega) (by nofun) h1
theorem bothS_count {ws gs : List ByteArray} {s : ByteArray} {t : Tr} (hg : gs = signsS) (hws : ∀ x ∈ ws, sgP 2 x = none) (h : bothS ws s = some t) : t.count ≤ 1500 ∧ t.kd = 1 ∧ parseS ws gs s = .ok t := by
 have hgs : ∀ g ∈ gs, 1 ≤ g.size := by rw [hg]; exact rf_signs_pos
 unfold bothS at h
 split at h
 ·
  cases h
 ·
  cases hr : rparseS ws s with
  | ok t2 =>
   rw [hr] at h; cases h; have h2 := rparse_same hg (by omega) hgs hws (by rw [hg]; exact tPM_not) hr
   exact ⟨(parseS_kd h2).2, (parseS_kd h2).1, h2⟩
  | bare => rw [hr] at h; cases h
  | «at» a b => rw [hr] at h; cases h
abbrev SRow (B : Nat) (w : World) (v : Value) (l : List ByteArray) : Prop := w.ownsRow B 9 1 v l.length (l.map Value.string)
theorem info9 : (Tryz.prog.info? 9).map (fun i => (i.zero, i.size, i.bytes)) = some (some (.string ByteArray.empty), 1, 16) := by kernel_rfl
theorem srow_form {w : World} {B e sz n : Nat} {v : Value} {xs : List Value} (h : w.ownsRow B e sz v n xs) : ∃ a cap, v = .slice a n cap := by
 rcases h.2 with ⟨rfl, rfl⟩ | ⟨g, cap, cur, rfl, _⟩
 ·
  exact ⟨none, 0, rfl⟩
 ·
  exact ⟨_, cap, rfl⟩
theorem srow_nil (B : Nat) (w : World) : SRow B w (.slice none 0 0) [] := ⟨rfl, Or.inl ⟨rfl, rfl⟩⟩
theorem srow_cell {B : Nat} {w : World} {v : Value} {l : List ByteArray} (h : SRow B w v l) (k : Nat) (hk : k < l.length) : ∃ g cap, v = .slice (some ⟨g, 0, none⟩) l.length cap ∧ g < w.heap.size ∧ B ≤ g ∧ w.cell? ⟨g, k, none⟩ = some (.string l[k]) := by
 obtain ⟨g, cap, rfl, _, _⟩ := h.form (by omega)
 have h1 := own_lt h g rfl
 refine ⟨g, cap, rfl, h1.1, h1.2, ?_⟩
 rw [h.cellAt k (by omega)]
 simp [hk]
theorem srow_ones (l : List ByteArray) : ∀ u ∈ l.map Value.string, u.oneCell' = true := by
 intro u hu
 obtain ⟨p, _, rfl⟩ := List.mem_map.1 hu
 rfl
theorem hoCellsS (w : World) (s : ByteArray) (H : Nat) (h : w.heap.size = H) : ∀ j u, [Value.string s][j]? = some u → (w.alloc (.cells #[.string s] 9)).cell? ((⟨H, 0, none⟩ : Addr).add j) = some u := by
 subst h
 intro j u hj
 match j with
 | 0 =>
  simp only [List.getElem?_cons_zero, Option.some.injEq] at hj; subst hj
  show (w.alloc (.cells #[.string s] 9)).cell? ⟨w.heap.size, 0 + 0, none⟩ = _
  rw [cell_of (heap_new w (.cells #[.string s] 9))]; rfl
 | n + 1 => simp at hj
theorem hoOneS (s : ByteArray) : ∀ u ∈ [Value.string s], u.oneCell' = true := by
 intro u hu
 rw [List.mem_singleton.1 hu]
 rfl
def hasB (l : List ByteArray) (s : ByteArray) : Bool := l.any (fun x => decide (s = x))
section
variable {l : List ByteArray} {s : ByteArray}
include l s
theorem hasB_iff : hasB l s = true ↔ s ∈ l := by simp [hasB]
theorem hasB_no : hasB l s = false ↔ s ∉ l := by rw [← hasB_iff]; simp
end
def addB (l : List ByteArray) (s : ByteArray) : List ByteArray := if hasB l s then l else l ++ [s]
def onceL (l : List ByteArray) : List ByteArray := l.foldl addB []
section
variable {B : Nat} (l : List ByteArray) (s : ByteArray) (v : Value) (w : World) (h : SRow B w v l) (hl : l.length ≤ 100000)
include B l s v w h hl
theorem index_any :
  Calls Tryz.prog 189 #[v, .string s] w fun e w' => (∃ k : Int, e = .returned (.int .i64 k) ∧ decide (0 ≤ k) = hasB l s) ∧ w' = w := by
 obtain ⟨va, vc, rfl⟩ := srow_form h
 have HR := hide h
 clear h
 go_enter Tryz.func189, Tryz.ntmps189
 go_wp2_with fail
 go_loopw [8] (fun i wr => ∃ k : Nat, k ≤ l.length ∧ i = .int .i64 k ∧ s ∉ l.take k ∧ wr = w) (fun i _ => l.length - (intOf i).toNat)
 case atStart => exact ⟨0, Nat.zero_le _, rfl, by simp, rfl⟩
 case round =>
  obtain ⟨k, hk, rfl, hns, rfl⟩ := hrel; have HNS := hide hns; clear hns
  by_cases hlt : k < l.length
  ·
   obtain ⟨g, cap, hv, hg, _, hc⟩ := srow_cell HR.out k hlt; simp only [Value.slice.injEq] at hv; obtain ⟨rfl, _, rfl⟩ := hv; have hki : (k : Int) < (l.length : Int) := by omega
   obtain ⟨x, hx⟩ : ∃ x, x = l[k] := ⟨_, rfl⟩; rw [← hx] at hc; have HX := hide hx; clear hx
   by_cases he : s = x
   ·
    subst he; go_wp2_with fail; go_ret; refine ⟨⟨k, rfl, ?_⟩, rfl⟩; rw [decide_eq_true (by omega), eq_comm, hasB_iff, HX.out]; exact List.getElem_mem _
   ·
    have hne := tl_ne he; have HE := hide he; clear he; go_wp2_with fail
    go_roundw
    case rel =>
     refine ⟨k + 1, by omega, by go_num, ?_, trivial⟩; rw [List.take_succ_eq_append_getElem hlt]; intro hm
     rcases List.mem_append.1 hm with hm | hm
     ·
      exact unhide HNS hm
     ·
      exact unhide HE (by rw [HX.out]; exact List.mem_singleton.1 hm)
    case measure => simp [intOf]; omega
  ·
   have hkk : k = l.length := by omega
   subst hkk; go_wp2_with fail; go_ret; refine ⟨⟨-1, rfl, ?_⟩, rfl⟩; have h := unhide HNS; rw [List.take_length] at h; rw [hasB_no.2 h]; rfl
theorem contains_any :
  Calls Tryz.prog 134 #[v, .string s] w fun e w' => e = .returned (.bool (hasB l s)) ∧ w' = w := by
 have HC := hide (index_any l s v w h hl)
 clear h
 go_enter Tryz.func134, Tryz.ntmps134
 go_wp2_with fail
 refine cm HC.out ?_
 rintro e w1 ⟨⟨k, rfl, hk⟩, rfl⟩
 have HK := hide hk
 clear hk HC
 go_wp2_with fail
 go_ret
 exact ⟨ret_bool HK.out, rfl⟩
end
theorem take_snoc' {α : Type} (l : List α) (k : Nat) (hk : k < l.length) : l.take (k + 1) = l.take k ++ [l[k]] := List.take_succ_eq_append_getElem hk
theorem once_take (l : List ByteArray) (k : Nat) (hk : k < l.length) : onceL (l.take (k + 1)) = addB (onceL (l.take k)) l[k] := by
 rw [take_snoc' l k hk, onceL, List.foldl_append]; rfl
theorem once_len (l : List ByteArray) : (onceL l).length ≤ l.length := by
 have : ∀ (l acc : List ByteArray), (l.foldl addB acc).length ≤ acc.length + l.length := by
  intro l
  induction l with
  | nil => intro acc; simp
  | cons x l ih =>
   intro acc; have h := ih (addB acc x); have h2 : (addB acc x).length ≤ acc.length + 1 := by unfold addB; split <;> simp
   simp only [List.foldl_cons, List.length_cons]; omega
 simpa [onceL] using this l []
theorem once_any {B : Nat} (l : List ByteArray) (v : Value) (w : World) (h : SRow B w v l) (hl : l.length ≤ 90000) :
  Calls Tryz.prog 65 #[v] w fun e w' => (∃ u, e = .returned u ∧ SRow w.heap.size w' u (onceL l)) ∧ Below w.heap.size w w' := by
 obtain ⟨i0, hi0, hz0, hz1, hz2⟩ := info_parts info9
 obtain ⟨va, vc, rfl⟩ := srow_form h
 have HR := hide h
 clear h
 go_enter Tryz.func65, Tryz.ntmps65
 go_wp2_with fail
 go_loopw [3, 8] (fun o i wr => ∃ k : Nat, k ≤ l.length ∧ i = .int .i64 k ∧ SRow w.heap.size wr o (onceL (l.take k)) ∧ Below w.heap.size w wr) (fun _ i _ => l.length - (intOf i).toNat)
 case atStart => exact ⟨0, Nat.zero_le _, rfl, srow_nil _ _, Below.refl _ _⟩
 case round =>
  obtain ⟨k, hk, rfl, hown, hbel⟩ := hrel; have HOWN := hide hown; have HBEL := hide hbel; obtain ⟨oa, oc, rfl⟩ := srow_form hown; clear hown hbel
  by_cases hlt : k < l.length
  ·
   obtain ⟨g, cap, hv, hg, _, hc⟩ := srow_cell HR.out k hlt; simp only [Value.slice.injEq] at hv; obtain ⟨rfl, _, rfl⟩ := hv; have hki : (k : Int) < (l.length : Int) := by omega
   obtain ⟨x, hx⟩ : ∃ x, x = l[k] := ⟨_, rfl⟩; rw [← hx] at hc; have HX := hide hx; have hcr : wr.cell? ⟨g, k, none⟩ = some (.string x) := by rw [HBEL.out.cell (p := ⟨g, k, none⟩) hg]; exact hc
   have HON := hide (once_take l k hlt); have hol := once_len (l.take k); rw [List.length_take] at hol; obtain ⟨L, hL⟩ : ∃ L, L = onceL (l.take k) := ⟨_, rfl⟩; rw [← hL] at hol; have HL := hide hL
   have HOW2 : Hid (SRow w.heap.size wr (.slice oa L.length oc) L) := by
    have h := unhide HOWN; rw [← hL] at h; exact h
   rw [← hL]; have hLk : L.length ≤ k := by omega
   have HC := hide (contains_any L x _ wr HOW2.out (by omega)); have hgr : g < wr.heap.size := Nat.lt_of_lt_of_le hg HBEL.out.size; have hsz := HBEL.out.size; clear hx hc hg HOWN hL hol
   cases hh : hasB L x with
   | true =>
    rw [hh] at HC; have HH := hide hh; clear hh; go_wp2_with fail; refine cm HC.out ?_; rintro e w2 ⟨rfl, rfl⟩; clear HC; go_wp2_with fail
    go_roundw
    case rel =>
     refine ⟨k + 1, by omega, by go_num, ?_, HBEL.out⟩; rw [HON.out, ← HL.out, ← HX.out, addB, if_pos HH.out]; exact unhide HOW2
    case measure => simp [intOf]; omega
   | false =>
    rw [hh] at HC; have HH := hide hh; clear hh; go_wp2_with fail; refine cm HC.out ?_; rintro e w2 ⟨rfl, rfl⟩; clear HC
    go_wp2_with (at_builtin; refine wpList_append_lies _ rfl _ _ 54 rfl w.heap.size 9 i0 (.string ByteArray.empty) 1 16 Tryz.underlying54 hi0 hz0 hz1 hz2 rfl (by decide) _ _ _ rfl (HOW2.out.alloc _) ⟨w2.heap.size, 0, none⟩ 1 1 [.string x] rfl rfl (hoCellsS w2 x _ rfl) (hoOneS x) (by decide) (by unfold maxLen; omega) (by omega) (by simp; omega) (w2.heap.size + 1) (by simp) ?_)
    intro g' cap' w3 hown' hgrow hg' _; have HB3 := hide ((HBEL.out.alloc hsz (.cells #[.string x] 9)).grown hgrow (by simp; omega) (fun b hb => (own_lt HOW2.out b hb).2))
    have HO3 := hide hown'; clear hown' hgrow hg'; go_wp2_with fail
    go_roundw
    case rel =>
     refine ⟨k + 1, by omega, by go_num, ?_, HB3.out⟩; rw [HON.out, ← HL.out, ← HX.out, addB, if_neg (by rw [HH.out]; decide)]
     have h := unhide HO3
     show World.ownsRow _ _ _ _ _ _ _
     rw [List.length_append, List.map_append]; exact h
    case measure => simp [intOf]; omega
  ·
   have hkk : k = l.length := by omega
   subst hkk; go_wp2_with fail; go_ret; refine ⟨⟨_, rfl, ?_⟩, HBEL.out⟩; exact zbdp
end Go.Proofs.YtodmgaikhbmlnaaGreatDoor
