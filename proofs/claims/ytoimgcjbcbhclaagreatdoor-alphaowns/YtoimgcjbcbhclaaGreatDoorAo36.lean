/-
  The document's parser at any text.
-/
import Derived.Test.YtoimgcjbcbhclaaGreatDoorAo31
import Derived.Test.YtoimgcjbcbhclaaGreatDoorAo35
import Derived.Test.YtoimgcjbcbhclaaGreatDoorAo25
set_option maxRecDepth 100000
set_option maxHeartbeats 16000000
namespace Go.Proofs.YtoimgcjbcbhclaaGreatDoor
open Go.RowKit
theorem tPM_not : ∀ g ∈ signsS, g ≠ tPM := by decide +kernel
theorem rparse_any (ws : List ByteArray) (s : ByteArray) (w : World) (hs : s.size ≤ 3000) (hL : RefLists ws w) (hws : ∀ x ∈ ws, sgP 2 x = none) : Calls Tryz.prog 46 #[.string s] w (RpPost (rparseS ws s) w) := by
 have hT : ∀ W, RefLists ws W → Calls Tryz.prog 109 #[.string s] W (UPost (toksR ws signsS s (pastN gapB s 0) []) W) := fun W h => refTokens_any ws s W hs h
 cases hl : toksR ws signsS s (pastN gapB s 0) [] with
 | bad er p =>
  have he := toks_er ws signsS s rf_signs_pos _ _ [] er p rfl (pastN_le gapB s 0 (Nat.zero_le _)) hl; rw [hl] at hT; exact rparse_toks ws s w er p he (fun t h => by unfold rparseS at h; rw [hl] at h; cases h) hL hT
 | ok l =>
  rw [hl] at hT; have hE := toks_ends rf_signs_pos hl; have hN := toks_noSg rf_signs_pos hws tPM_not hl; have h3 : l.length ≤ 3001 := by omega
  have hto := rprog_total hE.1 hE.2.1 h3; have hpt := prog_total hE.1 hE.2.1 h3; have hr : rparseS ws s = paOf (progP l (rfns l KK)) := by
   unfold rparseS; rw [hl]; simp only
   cases progP l (rfns l KK) <;> rfl
  rw [hr]; refine rparse_main s w l (rfns l KK) _ hE.1 hE.2.1 h3 ws hL hT (fun c hc => ?_) ⟨KK, rfns_nx hE.1 KK⟩ (rfns_ok l KK) rfl hto.1 (fun t j h => ?_)
  ·
   subst hc; exact rfns_all hE.1 KK
  ·
   rcases rprog_imp hN.1 hN.2 KK KK t j h with h2 | h2
   ·
    have h4 := prog_cb (fns_cb KK) h2; have h5 := hpt.2 t j h2; omega
   ·
    exact absurd h2 hpt.1
end Go.Proofs.YtoimgcjbcbhclaaGreatDoor
namespace Go.Proofs.YtoimgcjbcbhclaaGreatDoor
open Go.ChangeShapes Go.WideShapes Go.ChangeAt Go.WideMaps Go.WideElems Go.RowKit
def jn (a b : ByteArray) : ByteArray := ⟨(a.data.toList ++ 10 :: b.data.toList).toArray⟩
def shRd (D : Nat) : Rd → Rd
 | .tok kd tx n e => .tok kd tx n (D + e)
 | .bad er p => .bad er (D + p)
def shTk (D : Nat) (t : Tk) : Tk := ⟨t.kd, t.tx, t.n, D + t.pl⟩
end Go.Proofs.YtoimgcjbcbhclaaGreatDoor
namespace Go.Proofs.YtoimgcjbcbhclaaGreatDoor
def Js {α : Type} (A L a : Nat) (r r' : PR α) : Prop := ∀ x j, r = .ok x j → (a ≤ j ∧ j < L) ∧ (j < A → r' = .ok x j)
section
variable {α : Type}
include α
theorem Js.ok {A L a i : Nat} {x : α} (h1 : a ≤ i) (h2 : i < L) : Js A L a (.ok x i) (.ok x i) :=
 fun _ _ h => by cases h; exact ⟨⟨h1, h2⟩, fun _ => rfl⟩
theorem Js.bad {A L a : Nat} {er : Int} {p : Nat} {r : PR α} : Js A L a (.bad er p) r := fun _ _ h => by cases h
theorem Js.out {A L a : Nat} {r : PR α} : Js A L a .out r := fun _ _ h => by cases h
theorem Js.badF {A L a : Nat} {l : List Tk} {er : Int} {i : Nat} {r : PR α} : Js A L a (badF l er i) r := Js.bad
theorem Js.le {A L a b : Nat} {r r' : PR α} (h : Js A L a r r') (hb : b ≤ a) : Js A L b r r' := fun x j e => ⟨⟨Nat.le_trans hb (h x j e).1.1, (h x j e).1.2⟩, (h x j e).2⟩
theorem Js.less {A B L a : Nat} {r r' : PR α} (h : Js B L a r r') (hb : A ≤ B) : Js A L a r r' := fun x j e => ⟨(h x j e).1, fun hj => (h x j e).2 (by omega)⟩
theorem Js.low {A L a : Nat} {r r' : PR α} (h : Js (A + 1) L a r r') : Js A L a r r' := h.less (Nat.le_succ _)
theorem Js.far {A L a : Nat} {r r' r'' : PR α} (h : Js A L a r r'') (ha : A ≤ a) : Js A L a r r' := fun x j e => ⟨(h x j e).1, fun hj => absurd (h x j e).1.1 (by omega)⟩
end
theorem Js.bindD {α β : Type} {A L a b : Nat} (dl : Nat) {r r' : PR α} {f f' : α → Nat → PR β} (h : Js A L a r r') (hb : b ≤ a + dl)
  (hf : ∀ x i, a ≤ i → i < L → Js (A + dl) L (i + dl) (f x i) (f' x i)) : Js (A + dl) L b (r.bind f) (r'.bind f') := by
 intro y j e
 cases r with
 | ok x i =>
  have h1 := h x i rfl; have h2 := hf x i h1.1.1 h1.1.2 y j e; refine ⟨⟨by omega, h2.1.2⟩, fun hj => ?_⟩; rw [h1.2 (by omega)]; exact h2.2 hj
 | bad er p => cases e
 | out => cases e
theorem Js.bind {α β : Type} {A L a b : Nat} {r r' : PR α} {f f' : α → Nat → PR β} (h : Js A L a r r') (hb : b ≤ a)
  (hf : ∀ x i, a ≤ i → i < L → Js A L i (f x i) (f' x i)) : Js A L b (r.bind f) (r'.bind f') := Js.bindD 0 h hb hf
section
variable {l l' : List Tk} {A : Nat} (hE : Ends l) (hA : ∀ i, i < A → tkA l i = tkA l' i)
include hE hA
omit hE hA in
omit hE in
omit hE in
structure FJs (l : List Tk) (A : Nat) (F F' : Fns) : Prop where
 fuel : F.fuel = F'.fuel
 st : ∀ d i, i < l.length → Js (A + 1) l.length (i + 1) (F.st d i) (F'.st d i)
 vl : ∀ d i, i < l.length → Js A l.length (i + 1) (F.vl d i) (F'.vl d i)
 pr : ∀ b d i, i < l.length → Js A l.length (i + 1) (F.pr b d i) (F'.pr b d i)
 sg : ∀ d i, i < l.length → Js A l.length (i + 1) (F.sg d i) (F'.sg d i)
def Parts (l l' : List Tk) (A : Nat) : Prop := ∀ s, s = tElse ∨ s = tCatch ∨ s = tFinally → fx l A ≠ s ∧ fx l' A ≠ s
variable {F F' : Fns} (hF : FJs l A F F')
include hF
variable {k : Nat} (hN : FNx l k F)
include hN
end
end Go.Proofs.YtoimgcjbcbhclaaGreatDoor
namespace Go.Proofs.YtoimgcjbcbhclaaGreatDoor
def Sh {α : Type} (A : Nat) (r r' : PR α) : Prop := ∀ x j, r = .ok x j → r' = .ok x (A + j)
theorem Sh.ok {α : Type} {A i : Nat} {x : α} : Sh A (.ok x i) (.ok x (A + i)) := fun _ _ h => by cases h; rfl
section
variable {α : Type} {A : Nat}
include α A
theorem Sh.bad {er : Int} {p : Nat} {r : PR α} : Sh A (.bad er p) r := fun _ _ h => by cases h
theorem Sh.out {r : PR α} : Sh A .out r := fun _ _ h => by cases h
theorem Sh.badF {l : List Tk} {er : Int} {i : Nat} {r : PR α} : Sh A (badF l er i) r := Sh.bad
end
theorem Sh.bind {α β : Type} {A : Nat} {r r' : PR α} {f f' : α → Nat → PR β} (h : Sh A r r') (hf : ∀ x i, Sh A (f x i) (f' x (A + i))) : Sh A (r.bind f) (r'.bind f') := by
 intro y j e
 cases r with
 | ok x i => rw [h x i rfl]; exact hf x i y j e
 | bad er p => cases e
 | out => cases e
structure Shifts (l l' : List Tk) (A : Nat) : Prop where
 kd : ∀ i, (tkA l' (A + i)).kd = (tkA l i).kd
 tx : ∀ i, (tkA l' (A + i)).tx = (tkA l i).tx
 n : ∀ i, (tkA l' (A + i)).n = (tkA l i).n
section
variable {l l' : List Tk} {A : Nat} (hA : Shifts l l' A)
include hA
omit hA in
structure FSh (A : Nat) (F F' : Fns) : Prop where
 fuel : F'.fuel = F.fuel
 st : ∀ d i, Sh A (F.st d i) (F'.st d (A + i))
 vl : ∀ d i, Sh A (F.vl d i) (F'.vl d (A + i))
 pr : ∀ b d i, Sh A (F.pr b d i) (F'.pr b d (A + i))
 sg : ∀ d i, Sh A (F.sg d i) (F'.sg d (A + i))
variable {F F' : Fns} (hF : FSh A F F')
include hF
end
end Go.Proofs.YtoimgcjbcbhclaaGreatDoor
namespace Go.Proofs.YtoimgcjbcbhclaaGreatDoor
open Go.RowKit
def NoHead (s : ByteArray) : Prop := s = tElse ∨ s = tCatch ∨ s = tFinally
theorem NoHead.facts {s : ByteArray} (h : NoHead s) : s ≠ noText ∧ look2 vlKeys s = none ∧ (sgP 0 s).isNone = true ∧ (sgP 1 s).isNone = true ∧ look2 stKeys s = none := by
 rcases h with rfl | rfl | rfl <;> decide
section
variable {l : List Tk} {s : ByteArray} {i : Nat} (hs : NoHead s) (hf : fx l i = s)
include hs hf
end
theorem progP_inv {l : List Tk} {F : Fns} {t : Tr} {j : Nat} (h : progP l F = .ok t j) : ∃ ts, progLoop l F F.fuel [] 0 = .ok ts j ∧ t = codeT (.mk 1 noText 0 ts) := by
 unfold progP at h
 obtain ⟨ts, j1, h1, h⟩ := bind_inv h
 cases h
 exact ⟨ts, h1, rfl⟩
structure SameAt (p q g h k L c1 c2 a b : Nat) (W : World) : Prop where
 x3 : W.cell? ⟨p, 3, none⟩ = some (.slice (some ⟨g, 0, none⟩) L c1)
 y3 : W.cell? ⟨q, 3, none⟩ = some (.slice (some ⟨h, 0, none⟩) L c2)
 xk : W.cell? ⟨g, k, none⟩ = some (nPtr a)
 yk : W.cell? ⟨h, k, none⟩ = some (nPtr b)
theorem same_any (I J : Nat → Prop) : ∀ (m : Nat) (t : Tr), t.count ≤ m → t.count ≤ 100000 → ∀ (p q : Nat) (w : World), NAt I w t p → NAt J w t q →
  Calls Tryz.prog 16 #[nPtr p, nPtr q] w fun e w' => e = .returned (.bool true) ∧ Below w.heap.size w w' := by
 intro m
 induction m with
 | zero =>
  exact zbej
 | succ m ih =>
  intro t ht hbd p q w hnp hnq; obtain ⟨u, ps, hblk, hrow, hri, hks⟩ := hnp.opens2; obtain ⟨v, qs, hblq, hroq, hrj, hkq⟩ := hnq.opens2; have hlen := NAts.length _ _ hks; have hleq := NAts.length _ _ hkq
  have htc : t.count = 1 + Tr.counts t.kids := by cases t with | mk kd tx nn ks => exact count_mk _ _ _ _
  obtain ⟨f0, f1, f2, f3, _⟩ := node_cells hblk; obtain ⟨g0, g1, g2, g3, _⟩ := node_cells hblq; obtain ⟨ua, uc, hu⟩ := row_shut hrow; subst hu; obtain ⟨va, vc, hv⟩ := row_shut hroq; subst hv; rw [hlen] at f3
  rw [hleq] at g3; have hkb : t.kids.length ≤ 100000 := by have := counts_len t.kids; omega
  obtain ⟨kd, hkd⟩ : ∃ kd, kd = t.kd := ⟨_, rfl⟩; obtain ⟨tx, htx⟩ : ∃ tx, tx = t.tx := ⟨_, rfl⟩; obtain ⟨nn, hnn⟩ : ∃ nn, nn = t.n := ⟨_, rfl⟩; rw [← hkd] at f0 g0; rw [← htx] at f1 g1; rw [← hnn] at f2 g2
  have HKS := hide hks; have HKQ := hide hkq; have HROW := hide hrow; have HROQ := hide hroq; have HIH := hide ih; have HTC := hide htc; have HHT := hide ht; have HBD := hide hbd; have HLE := hide hlen
  have HLQ := hide hleq; have HP := hide (lt_of_heap hblk); have HQ := hide (lt_of_heap hblq); have HF3 := hide f3; have HG3 := hide g3; clear hri hrj hks hkq hrow hroq ih htc ht hbd hblk hblq hnp hnq hkd htx hnn hlen hleq
  go_enter Tryz.func16, Tryz.ntmps16; go_wp2_with fail
  go_region
  go_wp2_with fail
  go_loopw [64] (fun i wr => ∃ k : Nat, k ≤ t.kids.length ∧ i = .int .i64 k ∧ Below w.heap.size w wr) (fun i _ => t.kids.length - (intOf i).toNat)
  case atStart => exact ⟨0, Nat.zero_le _, rfl, (Below.refl _ _).drew⟩
  case round =>
   obtain ⟨k, hk, rfl, hb⟩ := hrel; have HB := hide hb; clear hb f0 f1 f2 f3 g0 g1 g2 g3
   by_cases hlt : k < t.kids.length
   ·
    obtain ⟨g, cap, hv, hcell⟩ := row_open HROW.out (by have := unhide HLE; omega)
    simp only [Value.slice.injEq] at hv; obtain ⟨rfl, _, rfl⟩ := hv; obtain ⟨h, cbp, hv, hcelq⟩ := row_open HROQ.out (by have := unhide HLQ; omega)
    simp only [Value.slice.injEq] at hv; obtain ⟨rfl, _, rfl⟩ := hv; obtain ⟨hkp, hnk⟩ := NAts.get _ _ HKS.out k hlt; obtain ⟨hkq, hnl⟩ := NAts.get _ _ HKQ.out k hlt; have hgl : g < w.heap.size := (own_lt HROW.out g rfl).1
    have hhl : h < w.heap.size := (own_lt HROQ.out h rfl).1; have hbb := unhide HB; have hnk2 : NAt I wr.drew t.kids[k] ps[k] := NAt.later (fun x _ hl => (hbb.drew).block x hl) _ _ hnk
    have hnl2 : NAt J wr.drew t.kids[k] qs[k] := NAt.later (fun x _ hl => (hbb.drew).block x hl) _ _ hnl; have hst : SameAt p q g h k t.kids.length uc vc ps[k] qs[k] wr.drew :=
     ⟨by rw [World.cell?_of_block (w := w) ((hbb.drew).block p HP.out)]; exact HF3.out, by rw [World.cell?_of_block (w := w) ((hbb.drew).block q HQ.out)]; exact HG3.out, by rw [World.cell?_of_block (w := w) ((hbb.drew).block g hgl)]; exact hcell k hkp, by rw [World.cell?_of_block (w := w) ((hbb.drew).block h hhl)]; exact hcelq k hkq⟩
    have hle := counts_le t.kids k hlt; have h1 := unhide HTC; have h2 := unhide HHT; have h3 := unhide HBD; have HC := hide (HIH.out t.kids[k] (by omega) (by omega) ps[k] qs[k] wr.drew hnk2 hnl2)
    obtain ⟨a, ha⟩ : ∃ a, a = ps[k] := ⟨_, rfl⟩; obtain ⟨b, hb⟩ : ∃ b, b = qs[k] := ⟨_, rfl⟩; rw [← ha, ← hb] at hst HC; have HST := hide hst; have hki : (k : Int) < (t.kids.length : Int) := by omega
    have HX : Hid (∀ w2, Below wr.drew.heap.size wr.drew w2 → SameAt p q g h k t.kids.length uc vc a b w2 ∧ Below w.heap.size w w2) := fun w2 h2 => by
     have h3 : Below w.heap.size w w2 := hbb.drew.trans (h2.mono hbb.drew.size); refine ⟨⟨?_, ?_, ?_, ?_⟩, h3⟩
     ·
      rw [World.cell?_of_block (w := w) (h3.block p HP.out)]; exact unhide HF3
     ·
      rw [World.cell?_of_block (w := w) (h3.block q HQ.out)]; exact unhide HG3
     ·
      rw [World.cell?_of_block (w := w) (h3.block g hgl)]; rw [ha]; exact hcell k hkp
     ·
      rw [World.cell?_of_block (w := w) (h3.block h hhl)]; rw [hb]; exact hcelq k hkq
    clear hcell hcelq hnk hnl hnk2 hnl2 hle h1 h2 h3 ha hb hst hbb; go_wp2_with fail; refine wp_region_held (S := SameAt p q g h k t.kids.length uc vc a b) (by kernel_rfl) ?_; change wpAnyH _ _ _ _ _ _ _ _ (World.drew _)
    refine wh 0 (nPtr p) HST.out ?_; refine wh 1 (nPtr p) HST.out ?_; refine wh 2 (.pointer (some ⟨p, 3, none⟩)) HST.out ?_
    refine wg 3 (.slice (some ⟨g, 0, none⟩) t.kids.length uc) rfl (Or.inl ⟨by kernel_rfl, fun W hW => by have hh := SameAt.x3 hW; go_simp⟩) HST.out ?_
    refine wh 4 (.int .i64 (k : Int)) HST.out ?_; refine wh 5 (.pointer (some ⟨g, k, none⟩)) HST.out ?_; refine wg 6 (nPtr a) rfl (Or.inl ⟨by kernel_rfl, fun W hW => by have hh := SameAt.xk hW; go_simp⟩) HST.out ?_
    refine wh 7 (nPtr q) HST.out ?_; refine wh 8 (nPtr q) HST.out ?_; refine wh 9 (.pointer (some ⟨q, 3, none⟩)) HST.out ?_
    refine wg 10 (.slice (some ⟨h, 0, none⟩) t.kids.length vc) rfl (Or.inl ⟨by kernel_rfl, fun W hW => by have hh := SameAt.y3 hW; go_simp⟩) HST.out ?_
    refine wh 11 (.int .i64 (k : Int)) HST.out ?_; refine wh 12 (.pointer (some ⟨h, k, none⟩)) HST.out ?_; refine wg 13 (nPtr b) rfl (Or.inl ⟨by kernel_rfl, fun W hW => by have hh := SameAt.yk hW; go_simp⟩) HST.out ?_
    refine wq1 14 fun K hK => ?_; go_simp; refine cm HC.out ?_; rintro e w2 ⟨rfl, hb2⟩; obtain ⟨hs2, hb3⟩ := HX.out w2 hb2; have HS2 := hide hs2; have HB3 := hide hb3; clear hs2 hb2 hb3 HC
    refine hK.out _ _ HS2.out (fun _ => ?_); clear hK K; refine wh 15 (.bool false) HS2.out ?_; refine wpAnyH_done (by kernel_rfl) ?_ _; go_simp; go_wp2_with fail
    go_roundw
    case rel => exact ⟨k + 1, by omega, by go_num, HB3.out⟩
    case measure => simp [intOf]; omega
   ·
    have hk2 : k = t.kids.length := by omega
    subst hk2; go_wp2_with fail; go_ret; exact ⟨rfl, HB.out⟩
theorem codeT_kd (t : Tr) : (codeT t).kd = t.kd := by unfold codeT; split <;> rfl
theorem parseS_kd {ws gs : List ByteArray} {s : ByteArray} {t : Tr} (h : parseS ws gs s = .ok t) : t.kd = 1 ∧ t.count ≤ 1500 := by
 unfold parseS at h
 split at h
 ·
  cases h
 ·
  split at h
  ·
   cases h
  ·
   split at h
   ·
    cases h
   ·
    rename_i hr
    split at h
    ·
     cases h
    ·
     cases h; obtain ⟨ts, _, rfl⟩ := progP_inv hr; exact ⟨codeT_kd _, by omega⟩
   ·
    cases h
def ReadPost (r : PaR) (w : World) (e : Ending) (w' : World) : Prop :=
 match r with
 | .ok t => ∃ p, e = .returned (.tuple #[nPtr p, .bool true]) ∧ NAt (From w.heap.size) w' t p ∧ Below w.heap.size w w'
 | _ => e = .returned (.tuple #[.pointer none, .bool false]) ∧ Below w.heap.size w w'
def bothS (ws : List ByteArray) (s : ByteArray) : Option Tr := if 3000 < s.size then none else match rparseS ws s with | .ok t => some t | _ => none
def BoPost (r : Option Tr) (w : World) (e : Ending) (w' : World) : Prop :=
 match r with
 | some t => ∃ p q, e = .returned (.tuple #[nPtr p, nPtr q, .bool true]) ∧ NAt (From w.heap.size) w' t p ∧ NAt (From w.heap.size) w' t q ∧ Below w.heap.size w w'
 | none => e = .returned (.tuple #[.pointer none, .pointer none, .bool false]) ∧ Below w.heap.size w w'
section
variable (s : ByteArray) (w : World)
include s w
theorem both_long (hs : 3000 < s.size) : Calls Tryz.prog 17 #[.string s] w (BoPost none w) := by
 have hgt : decide ((3000 : Int) < (s.size : Int)) = true := decide_eq_true (by omega)
 go_enter Tryz.func17, Tryz.ntmps17
 go_wp2_with fail
 exact bodyPost_ret (v := .tuple #[.pointer none, .pointer none, .bool false]) (by simp [results, Tryz.results17, go_sem]) rfl ⟨rfl, Below.refl _ _⟩
theorem both_bad (r : PaR) (hs : s.size ≤ 3000) (hr : ∀ t, r ≠ .ok t) (h : Calls Tryz.prog 46 #[.string s] w (RpPost r w)) : Calls Tryz.prog 17 #[.string s] w (BoPost none w) := by
 have hgt : decide ((3000 : Int) < (s.size : Int)) = false := decide_eq_false (by omega)
 have h2 : Calls Tryz.prog 46 #[.string s] w (fun e w' => ∃ er pl : Int, er ≠ 0 ∧ e = .returned (.tuple #[.pointer none, .agg #[.int .i64 er, .int .i64 pl]]) ∧ Below w.heap.size w w') := by
  cases r with
  | ok t => exact absurd rfl (hr t)
  | bare => exact h
  | «at» a b => exact h
 have HC := hide h2
 clear h h2 hr
 go_enter Tryz.func17, Tryz.ntmps17
 go_wp2_with fail
 refine cm HC.out ?_
 rintro e w1 ⟨er, pl, he, rfl, hb⟩
 have hb0 : (er != 0) = true := bne_iff_ne.2 he
 have HB := hide hb
 clear hb HC
 go_wp2_with fail
 exact bodyPost_ret (v := .tuple #[.pointer none, .pointer none, .bool false]) (by simp [results, Tryz.results17, go_sem]) rfl ⟨rfl, HB.out.alloc HB.out.size _⟩
theorem both_ok (t : Tr) (hs : s.size ≤ 3000) (hc : t.count ≤ 1500) (h : Calls Tryz.prog 46 #[.string s] w (RpPost (.ok t) w)) (h2 : ∀ W, Below w.heap.size w W → Calls Tryz.prog 14 #[.string s] W (PaPost (.ok t) W)) : Calls Tryz.prog 17 #[.string s] w (BoPost (some t) w) := by
 have hgt : decide ((3000 : Int) < (s.size : Int)) = false := decide_eq_false (by omega)
 have HC := hide h
 have HC2 := hide h2
 clear h h2
 go_enter Tryz.func17, Tryz.ntmps17
 go_wp2_with fail
 refine cm HC.out ?_
 rintro e w1 ⟨q, rfl, hn, hb⟩
 have HB := hide (hb.alloc hb.size (.cells #[.int .i64 0, .int .i64 (-1)] 86))
 have HN := hide (NAt.later (fun b _ hl => Below.heap_alloc w1 (.cells #[.int .i64 0, .int .i64 (-1)] 86) b hl) _ _ hn)
 have HC3 := hide (unhide HC2 _ HB.out)
 clear hb hn HC HC2
 go_wp2_with fail
 refine cm HC3.out ?_
 rintro e w2 ⟨p, rfl, hn2, hb2⟩
 have HB2 := hide (HB.out.trans (hb2.mono HB.out.size))
 have HNq := hide (NAt.later (fun b _ hl => hb2.block b hl) _ _ HN.out)
 have HNp := hide (NAt.mono (J := From w.heap.size) (fun b h1 _ => Nat.le_trans HB.out.size h1) _ _ hn2)
 have HC4 := hide (same_any _ _ t.count t (Nat.le_refl _) (by omega) p q w2 HNp.out HNq.out)
 clear hb2 hn2 HC3
 go_wp2_with fail
 refine cm HC4.out ?_
 rintro e w3 ⟨rfl, hb3⟩
 have HB3 := hide (HB2.out.trans (hb3.mono HB2.out.size))
 have HNq2 := hide (NAt.later (fun b _ hl => hb3.block b hl) _ _ HNq.out)
 have HNp2 := hide (NAt.later (fun b _ hl => hb3.block b hl) _ _ HNp.out)
 clear hb3 HC4
 go_wp2_with fail
 exact bodyPost_ret (v := .tuple #[nPtr p, nPtr q, .bool true]) (by simp [results, Tryz.results17, go_sem]) rfl ⟨p, q, rfl, HNp2.out, HNq2.out, HB3.out⟩
end
theorem both_any (ws gs : List ByteArray) (s : ByteArray) (w : World) (hL : Lists ws gs w) (hT : Tabs w) (hR : RefLists ws w) (hg : gs = signsS) (hws : ∀ x ∈ ws, sgP 2 x = none) : Calls Tryz.prog 17 #[.string s] w (BoPost (bothS ws s) w) := by
 have hgs : ∀ g ∈ gs, 1 ≤ g.size := by rw [hg]; exact rf_signs_pos
 unfold bothS
 by_cases hs : 3000 < s.size
 ·
  rw [if_pos hs]; exact both_long s w hs
 ·
  rw [if_neg hs]; have h1 := rparse_any ws s w (by omega) hR hws
  cases hr : rparseS ws s with
  | ok t =>
   rw [hr] at h1; have h2 := rparse_same hg (by omega) hgs hws (by rw [hg]; exact tPM_not) hr
   have h3 := (parseS_kd h2).2; refine both_ok s w t (by omega) h3 h1 (fun W hb => ?_); rw [← h2]; exact parse_any ws gs s W (hL.later hb) hgs (hT.later hb)
  | bare => rw [hr] at h1; exact both_bad s w _ (by omega) (by nofun) h1
  | «at» a b => rw [hr] at h1; exact both_bad s w _ (by omega) (by nofun) h1
theorem bothS_count {ws gs : List ByteArray} {s : ByteArray} {t : Tr} (hg : gs = signsS) (hws : ∀ x ∈ ws, sgP 2 x = none) (h : bothS ws s = some t) : t.count ≤ 1500 ∧ t.kd = 1 ∧ parseS ws gs s = .ok t := by
 have hgs : ∀ g ∈ gs, 1 ≤ g.size := by rw [hg]; exact rf_signs_pos
 unfold bothS at h
 split at h
 ·
  cases h
 ·
  cases hr : rparseS ws s with
  | ok t2 =>
   rw [hr] at h; cases h; have h2 := rparse_same hg (by omega) hgs hws (by rw [hg]; exact tPM_not) hr
   exact ⟨(parseS_kd h2).2, (parseS_kd h2).1, h2⟩
  | bare => rw [hr] at h; cases h
  | «at» a b => rw [hr] at h; cases h
mutual
def allR : Tr → List Tr
 | .mk kd tx n ks => .mk kd tx n ks :: allRs ks
def allRs : List Tr → List Tr
 | [] => []
 | t :: ts => allR t ++ allRs ts
end
mutual
theorem all_tr : ∀ a : Ad, a.all.map Ad.tr = allR a.tr
 | .mk p kd tx n ks => by rw [Ad.all, Ad.tr, allR, List.map_cons, alls_tr ks, Ad.tr]
theorem alls_tr : ∀ es : List Ad, (Ad.alls es).map Ad.tr = allRs (Ad.trs es)
 | [] => by rw [Ad.alls, Ad.trs, allRs]; rfl
 | a :: es => by rw [Ad.alls, Ad.trs, allRs, List.map_append, all_tr a, alls_tr es]
end
theorem all_cnt_eq (a : Ad) : a.all.length = a.tr.count := by rw [all_len, Ad.ads_len, Ad.cnt_tr]
theorem body_split {t : Ad} (hd : t.ads.Nodup) (hF : FS t) {i : Nat} (hi : i < t.all.length) (hf : isFunT (t.all[i]).tr = true) :
  ∃ z, bodyOf (t.all[i]) z.p = true ∧ ∃ (h : i + 1 + (kid0 (t.all[i]).tr).count < t.all.length), t.all[i + 1 + (kid0 (t.all[i]).tr).count] = z := by
 obtain ⟨a, z, hks, _, _⟩ := hF _ (List.getElem_mem hi) hf
 obtain ⟨pre, post, hsp⟩ := all_split t _ (List.getElem_mem hi)
 obtain ⟨y, hy⟩ : ∃ y, t.all[i] = y := ⟨_, rfl⟩
 rw [hy] at hks hsp hf
 rw [hy]
 have hl0 : pre.length < t.all.length := by rw [hsp, all_eq y]; simp
 have hm0 : t.all[pre.length] = y := by
  have h1 : (pre ++ y.all ++ post)[pre.length]? = some y := by
   rw [List.append_assoc, List.getElem?_append_right (Nat.le_refl _), all_eq y]; simp
  rw [← hsp] at h1; exact (List.getElem?_eq_some_iff.1 h1).2
 have hpi : pre.length = i := nodup_at (by rw [all_ads]; exact hd) hl0 hi (by rw [hm0, hy])
 have hs2 : t.all = (pre ++ y :: a.all) ++ z :: (Ad.alls z.ks ++ post) := by
  rw [hsp, all_eq y, hks, Ad.alls, Ad.alls, Ad.alls, all_eq z]; simp
 have hk0 : kid0 y.tr = a.tr := by unfold kid0; rw [y.tr_eq.2.2, hks]; rfl
 have hlen : (pre ++ y :: a.all).length = i + 1 + (kid0 y.tr).count := by
  rw [List.length_append, List.length_cons, hpi, hk0, all_cnt_eq]; omega
 refine ⟨z, ?_, ?_⟩
 ·
  unfold bodyOf; rw [hf, hks]; simp
 ·
  rw [← hlen]; refine ⟨by rw [hs2]; simp, ?_⟩
  exact zbef
def isB (L : List Tr) (k : Nat) : Prop := ∃ i, ∃ h : i < L.length, isFunT L[i] = true ∧ k = i + 1 + (kid0 L[i]).count
theorem any_iff {t : Ad} (hd : t.ads.Nodup) (hF : FS t) {k : Nat} (hk : k < t.all.length) : t.all.any (fun y => bodyOf y (t.all[k]).p) = true ↔ isB (t.all.map Ad.tr) k := by
 rw [List.any_eq_true]
 constructor
 ·
  rintro ⟨y, hy, hb⟩; obtain ⟨i, hi, rfl⟩ := List.mem_iff_getElem.1 hy; have hf : isFunT (t.all[i]).tr = true := by
   unfold bodyOf at hb; rw [Bool.and_eq_true] at hb; exact hb.1
  obtain ⟨z, h1, h2, h3⟩ := body_split hd hF hi hf; have hz : z.p = (t.all[k]).p := by
   obtain ⟨a, z2, hks, _, _⟩ := hF _ hy hf; unfold bodyOf at hb h1; rw [hf, hks] at hb h1; simp only [Bool.true_and, decide_eq_true_eq] at h1 hb; rw [← h1, ← hb]
  refine ⟨i, by rw [List.length_map]; exact hi, by simpa using hf, ?_⟩
  have hkk : k = i + 1 + (kid0 (t.all[i]).tr).count := nodup_at (by rw [all_ads]; exact hd) hk h2 (by rw [h3]; exact hz.symm)
  simpa using hkk
 ·
  rintro ⟨i, hi, hf, hkk⟩; rw [List.length_map] at hi; have hf2 : isFunT (t.all[i]).tr = true := by simpa using hf
  have hk2 : k = i + 1 + (kid0 (t.all[i]).tr).count := by simpa using hkk
  obtain ⟨z, h1, h2, h3⟩ := body_split hd hF hi hf2; subst hk2; exact ⟨t.all[i], List.getElem_mem hi, by rw [h3]; exact h1⟩
theorem rowns_same {a b : Ad} (h : a.tr = b.tr) (ha : a.ads.Nodup) (hb : b.ads.Nodup) (hFa : FS a) (hFb : FS b) (at' : Int) : rownsN a at' = rownsN b at' := by
 have hm : a.all.map Ad.tr = b.all.map Ad.tr := by rw [all_tr, all_tr, h]
 have hl : a.all.length = b.all.length := by have := congrArg List.length hm; simpa using this
 unfold rownsN
 by_cases hc : 0 ≤ at' ∧ at'.toNat < a.all.length
 ·
  have hc2 : 0 ≤ at' ∧ at'.toNat < b.all.length := by rw [← hl]; exact hc
  rw [dif_pos hc, dif_pos hc2]; obtain ⟨k, hk⟩ : ∃ k, k = at'.toNat := ⟨_, rfl⟩; have hka : k < a.all.length := by rw [hk]; exact hc.2
  have hkb : k < b.all.length := by rw [hk]; exact hc2.2
  have g1 : a.all[at'.toNat]'hc.2 = a.all[k] := by congr 1; exact hk.symm
  have g2 : b.all[at'.toNat]'hc2.2 = b.all[k] := by congr 1; exact hk.symm
  rw [g1, g2]; have e1 : (a.all[k]'hka).tr = (b.all[k]'hkb).tr := by
   have h1 : (a.all.map Ad.tr)[k]? = (b.all.map Ad.tr)[k]? := by rw [hm]
   rw [List.getElem?_map, List.getElem?_map, List.getElem?_eq_getElem hka, List.getElem?_eq_getElem hkb] at h1; simpa using h1
  have e2 : (a.all[k]'hka).kd = (b.all[k]'hkb).kd := by rw [← (a.all[k]).tr_eq.1, ← (b.all[k]).tr_eq.1, e1]
  have i1 := any_iff ha hFa hka; have i2 := any_iff hb hFb hkb; rw [hm] at i1; have i3 := i1.trans i2.symm; unfold rown; rw [e1, e2]
  by_cases hh : (b.all[k]'hkb).kd = 6 ∧ (b.all.any fun y => bodyOf y (b.all[k]'hkb).p) = true
  ·
   rw [if_pos hh, if_pos ⟨hh.1, i3.2 hh.2⟩]
  ·
   rw [if_neg hh, if_neg (fun h2 => hh ⟨h2.1, i3.1 h2.2⟩)]
 ·
  rw [dif_neg hc, dif_neg (by rw [← hl]; exact hc)]
theorem declT_len (t : Tr) : (declT t).length ≤ 3 * t.count := by
 have hc : ∀ u : Tr, u.count = 1 + Tr.counts u.kids := fun u => by cases u with | mk kd tx n ks => exact count_mk _ _ _ _
 have h0 := hc t
 have h1 := counts_len t.kids
 unfold declT
 split
 ·
  have := lets_len t; omega
 ·
  split
  ·
   split
   ·
    rename_i pr bl ks hks
    have h2 := counts_len pr.kids; have h3 := hc pr; have h4 := fl_len bl; have h5 := counts_len bl.kids; have h6 := hc bl; have h7 := vn_len bl; rw [hks, counts_cons, counts_cons] at h0
    simp only [List.flatten_cons, List.flatten_nil, List.length_append, List.length_nil]; omega
   ·
    simp
  ·
   split
   ·
    have h4 := fl_len t; simp only [List.flatten_cons, List.flatten_nil, List.length_append, List.length_nil]; omega
   ·
    split
    ·
     simp; omega
    ·
     simp
theorem flt_mem : ∀ (l : List Ad) (i : Nat) (b : Option Nat), ∀ x ∈ fltS i b l, x.2 ∈ l
 | [], _, _, x, h => by cases h
 | a :: l, i, b, x, h => by
  rw [fltS] at h
  rcases List.mem_append.1 h with h | h
  ·
   split at h
   ·
    rw [List.mem_singleton.1 h]; simp
   ·
    cases h
  ·
   exact List.mem_cons_of_mem _ (flt_mem l _ _ x h)
theorem rowns_len {t : Ad} (hc : t.cnt ≤ 20000) (at' : Int) : (rownsN t at').length ≤ 90000 := by
 unfold rownsN
 split
 ·
  rename_i h
  unfold rown
  split
  ·
   simp
  ·
   have h1 := once_len ((declT (t.all[at'.toNat]'h.2).tr).map Tr.tx); have h2 := declT_len (t.all[at'.toNat]'h.2).tr; have h3 := all_cnt hc (t.all[at'.toNat]'h.2) (List.getElem_mem h.2); rw [Ad.cnt_tr] at h2
   rw [List.length_map] at h1; omega
 ·
  simp
theorem ao_no (s : ByteArray) (i : Int) (w : World) (h : Calls Tryz.prog 17 #[.string s] w (BoPost none w)) :
  Calls Tryz.prog 9 #[.string s, .int .i64 i] w fun e w' => e = .returned (.bool true) ∧ Below w.heap.size w w' := by
 have HC := hide h
 clear h
 go_enter Tryz.func9, Tryz.ntmps9
 go_wp2_with fail
 refine cm HC.out ?_
 rintro e w1 ⟨rfl, hb1⟩
 have HB1 := hide hb1
 clear HC hb1
 go_wp2_with fail
 go_ret
 exact ⟨rfl, HB1.out⟩
theorem ao_ok (s : ByteArray) (i : Int) (t : Tr) (w : World) (hc : t.count ≤ 1500) (hi : t.ill = 0) {Nm : ByteArray → Prop} {c : Nat} (hsh : Shp Nm c t) (h : Calls Tryz.prog 17 #[.string s] w (BoPost (some t) w)) :
  Calls Tryz.prog 9 #[.string s, .int .i64 i] w fun e w' => e = .returned (.bool true) ∧ Below w.heap.size w w' := by
 have HC := hide h
 have HI := hide hi
 have HS := hide hsh
 clear h hi hsh
 go_enter Tryz.func9, Tryz.ntmps9
 go_wp2_with fail
 refine cm HC.out ?_
 rintro e w1 ⟨p, q, rfl, hp, hq, hb1⟩
 obtain ⟨a, ha1, rfl, ha2, ha3, _⟩ := NAt.ad _ _ hp
 obtain ⟨b, hb1', rfl, hb2, hb3, _⟩ := NAt.ad _ _ hq
 have hca : a.cnt ≤ 20000 := by rw [← a.cnt_tr, ha1]; omega
 have hcb : b.cnt ≤ 20000 := by rw [← b.cnt_tr, hb1']; omega
 have hFa : FS a := fs_of (c := c) (Nm := Nm) (by rw [ha1]; exact HS.out)
 have hFb : FS b := fs_of (c := c) (Nm := Nm) (by rw [hb1']; exact HS.out)
 have ho := owns_eq ha3 hFa i
 have hsame := rowns_same (ha1.trans hb1'.symm) ha3 hb3 hFa hFb i
 have HO := hide (owns_any a i w1 ha2 ha3 (by rw [ha1]; exact HI.out) hca (fun x hx => by
  rw [scopesL_eq] at hx; have h1 := declT_len x.2.tr; have h2 := all_cnt hca x.2 (flt_mem _ _ _ x hx); rw [Ad.cnt_tr] at h1; omega))
 have HR := hide (fun W (hW : Below w1.heap.size w1 W) => rowns_any b i W (AAt.later (fun b _ hl => hW.block b hl) _ hb2) (by rw [hb1']; exact HI.out) hcb (fun x hx y z ks hf hks => by
  obtain ⟨y', z', h1, h2, _⟩ := hFb x hx hf; rw [h1] at hks; cases hks; exact h2))
 rw [ho.1, ho.2, hsame] at HO
 have HLEN := hide (rowns_len hcb i)
 have HCP := hide (fun W (hW : Below w1.heap.size w1 W) => copy_any t.count t (Nat.le_refl _) (by omega) a.p W (NAt.nt (NAt.later (fun b _ hl => hW.block b hl) _ _ hp)))
 have HSM := hide (fun W (hW : Below w1.heap.size w1 W) r (hr : NAt (fun _ => True) W t r) => same_any (fun _ => True) (From w.heap.size) t.count t (Nat.le_refl _) (by omega) r b.p W hr (NAt.later (fun b _ hl => hW.block b hl) _ _ hq))
 have HB1 := hide hb1
 generalize rownsN b i = l at HO HR HLEN
 generalize a.p = pa at *
 generalize b.p = pb at *
 clear hp hq ha1 ha2 ha3 hb1' hb2 hb3 hFa hFb ho hsame hca hcb hb1 HC HI HS
 go_wp2_with fail
 refine cm HO.out ?_
 rintro e w2 ⟨⟨u, rfl, hu⟩, hb2⟩
 have HC2 := hide (unhide HR w2 hb2)
 have HU := hide hu
 have HB2 := hide hb2
 obtain ⟨ua, uc, rfl⟩ := srow_form hu
 clear HO HR hu hb2
 go_wp2_with fail
 refine cm HC2.out ?_
 rintro e w3 ⟨⟨v, rfl, hv⟩, hb3⟩
 have HB3 := hide (HB2.out.trans (hb3.mono HB2.out.size))
 have HC3 := hide (sameT_any l _ v w3 (SRow.later HU.out hb3) hv HLEN.out)
 obtain ⟨va, vc, rfl⟩ := srow_form hv
 clear HC2 hv hb3 HU HB2
 go_wp2_with fail
 refine cm HC3.out ?_
 rintro e w4 ⟨rfl, hb4⟩
 have HB4 := hide (HB3.out.trans (hb4.mono HB3.out.size))
 have HC4 := hide (unhide HCP w4 HB4.out)
 clear HC3 hb4 HB3 HCP
 go_wp2_with fail
 refine cm HC4.out ?_
 rintro e w5 ⟨⟨r, rfl, hr⟩, hb5⟩
 have HB5 := hide (HB4.out.trans (hb5.mono HB4.out.size))
 have HC5 := hide (unhide HSM w5 HB5.out r hr.nt)
 clear HC4 hr hb5 HB4 HSM
 go_wp2_with fail
 refine cm HC5.out ?_
 rintro e w6 ⟨rfl, hb6⟩
 have HB6 := hide (HB5.out.trans (hb6.mono HB5.out.size))
 have HC6 := hide (copy_nil w6)
 clear HC5 hb6 HB5
 go_wp2_with fail
 refine cm HC6.out ?_
 rintro e w7 ⟨rfl, rfl⟩
 clear HC6
 go_wp2_with fail
 go_ret
 exact ⟨rfl, HB1.out.trans (HB6.out.mono HB1.out.size)⟩
theorem ao_any (ws gs : List ByteArray) (s : ByteArray) (i : Int) (w : World) (hL : Lists ws gs w) (hT : Tabs w) (hR : RefLists ws w) (hg : gs = signsS) (hws : ∀ x ∈ ws, sgP 2 x = none) :
  Calls Tryz.prog 9 #[.string s, .int .i64 i] w fun e w' => e = .returned (.bool true) ∧ Below w.heap.size w w' := by
 have h := both_any ws gs s w hL hT hR hg hws
 cases hb : bothS ws s with
 | none => rw [hb] at h; exact ao_no s i w h
 | some t =>
  rw [hb] at h; obtain ⟨h1, h2, h3⟩ := bothS_count hg hws hb; obtain ⟨l, _, hsh⟩ := parse_sh h3; exact ao_ok s i t w h1 (parse_ill h3) hsh h
end Go.Proofs.YtoimgcjbcbhclaaGreatDoor
