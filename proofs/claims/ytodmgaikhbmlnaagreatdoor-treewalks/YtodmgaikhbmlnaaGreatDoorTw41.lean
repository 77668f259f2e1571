/-
  The document's parser at any text.
-/
import Derived.Test.YtodmgaikhbmlnaaGreatDoorTw33
import Derived.Test.YtodmgaikhbmlnaaGreatDoorTw40
set_option maxRecDepth 100000
set_option maxHeartbeats 16000000
namespace Go.Proofs.YtodmgaikhbmlnaaGreatDoor
open Go.RowKit
theorem tPM_not : ∀ g ∈ signsS, g ≠ tPM := by decide +kernel
theorem rparse_any (ws : List ByteArray) (s : ByteArray) (w : World) (hs : s.size ≤ 3000) (hL : RefLists ws w) (hws : ∀ x ∈ ws, sgP 2 x = none) : Calls Tryz.prog 12 #[.string s] w (RpPost (rparseS ws s) w) := by
 have hT : ∀ W, RefLists ws W → Calls Tryz.prog 45 #[.string s] W (UPost (toksR ws signsS s (pastN gapB s 0) []) W) := fun W h => refTokens_any ws s W hs h
 cases hl : toksR ws signsS s (pastN gapB s 0) [] with
 | bad er p =>
  have he := toks_er ws signsS s rf_signs_pos _ _ [] er p rfl (pastN_le gapB s 0 (Nat.zero_le _)) hl; rw [hl] at hT; exact rparse_toks ws s w er p he (fun t h => by unfold rparseS at h; rw [hl] at h; cases h) hL hT
 | ok l =>
  rw [hl] at hT; have hE := toks_ends rf_signs_pos hl; have hN := toks_noSg rf_signs_pos hws tPM_not hl; have h3 : l.length ≤ 3001 := by omega
  have hto := rprog_total hE.1 hE.2.1 h3; have hpt := prog_total hE.1 hE.2.1 h3; have hr : rparseS ws s = paOf (progP l (rfns l KK)) := by
   unfold rparseS; rw [hl]; simp only
   cases progP l (rfns l KK) <;> rfl
  rw [hr]; refine rparse_main s w l (rfns l KK) _ hE.1 hE.2.1 h3 ws hL hT (fun c hc => ?_) ⟨KK, rfns_nx hE.1 KK⟩ (rfns_ok l KK) rfl hto.1 (fun t j h => ?_)
  ·
   subst hc; exact rfns_all hE.1 KK
  ·
   rcases rprog_imp hN.1 hN.2 KK KK t j h with h2 | h2
   ·
    have h4 := prog_cb (fns_cb KK) h2; have h5 := hpt.2 t j h2; omega
   ·
    exact absurd h2 hpt.1
structure SameAt (p q g h k L c1 c2 a b : Nat) (W : World) : Prop where
 x3 : W.cell? ⟨p, 3, none⟩ = some (.slice (some ⟨g, 0, none⟩) L c1)
 y3 : W.cell? ⟨q, 3, none⟩ = some (.slice (some ⟨h, 0, none⟩) L c2)
 xk : W.cell? ⟨g, k, none⟩ = some (nPtr a)
 yk : W.cell? ⟨h, k, none⟩ = some (nPtr b)
theorem same_any (I J : Nat → Prop) : ∀ (m : Nat) (t : Tr), t.count ≤ m → t.count ≤ 100000 → ∀ (p q : Nat) (w : World), NAt I w t p → NAt J w t q →
  Calls Tryz.prog 15 #[nPtr p, nPtr q] w fun e w' => e = .returned (.bool true) ∧ Below w.heap.size w w' := by
 intro m
 induction m with
 | zero =>
  intro t ht
  cases t with
  | mk kd tx nn ks => rw [count_mk] at ht; omega
 | succ m ih =>
  intro t ht hbd p q w hnp hnq; obtain ⟨u, ps, hblk, hrow, hri, hks⟩ := hnp.opens2; obtain ⟨v, qs, hblq, hroq, hrj, hkq⟩ := hnq.opens2; have hlen := NAts.length _ _ hks; have hleq := NAts.length _ _ hkq
  have htc : t.count = 1 + Tr.counts t.kids := by cases t with | mk kd tx nn ks => exact count_mk _ _ _ _
  obtain ⟨f0, f1, f2, f3, _⟩ := node_cells hblk; obtain ⟨g0, g1, g2, g3, _⟩ := node_cells hblq; obtain ⟨ua, uc, hu⟩ := row_shut hrow; subst hu; obtain ⟨va, vc, hv⟩ := row_shut hroq; subst hv; rw [hlen] at f3
  rw [hleq] at g3; have hkb : t.kids.length ≤ 100000 := by have := counts_len t.kids; omega
  obtain ⟨kd, hkd⟩ : ∃ kd, kd = t.kd := ⟨_, rfl⟩; obtain ⟨tx, htx⟩ : ∃ tx, tx = t.tx := ⟨_, rfl⟩; obtain ⟨nn, hnn⟩ : ∃ nn, nn = t.n := ⟨_, rfl⟩; rw [← hkd] at f0 g0; rw [← htx] at f1 g1; rw [← hnn] at f2 g2
  have HKS := hide hks; have HKQ := hide hkq; have HROW := hide hrow; have HROQ := hide hroq; have HIH := hide ih; have HTC := hide htc; have HHT := hide ht; have HBD := hide hbd; have HLE := hide hlen
  have HLQ := hide hleq; have HP := hide (lt_of_heap hblk); have HQ := hide (lt_of_heap hblq); have HF3 := hide f3; have HG3 := hide g3; clear hri hrj hks hkq hrow hroq ih htc ht hbd hblk hblq hnp hnq hkd htx hnn hlen hleq
  go_enter Tryz.func15, Tryz.ntmps15; go_wp2_with fail
  go_region
  go_wp2_with fail
  go_loopw [64] (fun i wr => ∃ k : Nat, k ≤ t.kids.length ∧ i = .int .i64 k ∧ Below w.heap.size w wr) (fun i _ => t.kids.length - (intOf i).toNat)
  case atStart => exact ⟨0, Nat.zero_le _, rfl, (Below.refl _ _).drew⟩
  case round =>
   obtain ⟨k, hk, rfl, hb⟩ := hrel; have HB := hide hb; clear hb f0 f1 f2 f3 g0 g1 g2 g3
   by_cases hlt : k < t.kids.length
   ·
    obtain ⟨g, cap, hv, hcell⟩ := row_open HROW.out (by have := unhide HLE; omega)
    simp only [Value.slice.injEq] at hv; obtain ⟨rfl, _, rfl⟩ := hv; obtain ⟨h, cbp, hv, hcelq⟩ := row_open HROQ.out (by have := unhide HLQ; omega)
    simp only [Value.slice.injEq] at hv; obtain ⟨rfl, _, rfl⟩ := hv; obtain ⟨hkp, hnk⟩ := NAts.get _ _ HKS.out k hlt; obtain ⟨hkq, hnl⟩ := NAts.get _ _ HKQ.out k hlt; have hgl : g < w.heap.size := (own_lt HROW.out g rfl).1
    have hhl : h < w.heap.size := (own_lt HROQ.out h rfl).1; have hbb := unhide HB; have hnk2 : NAt I wr.drew t.kids[k] ps[k] := NAt.later (fun x _ hl => (hbb.drew).block x hl) _ _ hnk
    have hnl2 : NAt J wr.drew t.kids[k] qs[k] := NAt.later (fun x _ hl => (hbb.drew).block x hl) _ _ hnl; have hst : SameAt p q g h k t.kids.length uc vc ps[k] qs[k] wr.drew :=
     ⟨by rw [World.cell?_of_block (w := w) ((hbb.drew).block p HP.out)]; exact HF3.out, by rw [World.cell?_of_block (w := w) ((hbb.drew).block q HQ.out)]; exact HG3.out, by rw [World.cell?_of_block (w := w) ((hbb.drew).block g hgl)]; exact hcell k hkp, by rw [World.cell?_of_block (w := w) ((hbb.drew).block h hhl)]; exact hcelq k hkq⟩
    have hle := counts_le t.kids k hlt; have h1 := unhide HTC; have h2 := unhide HHT; have h3 := unhide HBD; have HC := hide (HIH.out t.kids[k] (by omega) (by omega) ps[k] qs[k] wr.drew hnk2 hnl2)
    obtain ⟨a, ha⟩ : ∃ a, a = ps[k] := ⟨_, rfl⟩; obtain ⟨b, hb⟩ : ∃ b, b = qs[k] := ⟨_, rfl⟩; rw [← ha, ← hb] at hst HC; have HST := hide hst; have hki : (k : Int) < (t.kids.length : Int) := by omega
    have HX : Hid (∀ w2, Below wr.drew.heap.size wr.drew w2 → SameAt p q g h k t.kids.length uc vc a b w2 ∧ Below w.heap.size w w2) := fun w2 h2 => by
     have h3 : Below w.heap.size w w2 := hbb.drew.trans (h2.mono hbb.drew.size); refine ⟨⟨?_, ?_, ?_, ?_⟩, h3⟩
     ·
      rw [World.cell?_of_block (w := w) (h3.block p HP.out)]; exact unhide HF3
     ·
      rw [World.cell?_of_block (w := w) (h3.block q HQ.out)]; exact unhide HG3
     ·
      rw [World.cell?_of_block (w := w) (h3.block g hgl)]; rw [ha]; exact hcell k hkp
     ·
      rw [World.cell?_of_block (w := w) (h3.block h hhl)]; rw [hb]; exact hcelq k hkq
    clear hcell hcelq hnk hnl hnk2 hnl2 hle h1 h2 h3 ha hb hst hbb; go_wp2_with fail; refine wp_region_held (S := SameAt p q g h k t.kids.length uc vc a b) (by kernel_rfl) ?_; change wpAnyH _ _ _ _ _ _ _ _ (World.drew _)
    refine wh 0 (nPtr p) HST.out ?_; refine wh 1 (nPtr p) HST.out ?_; refine wh 2 (.pointer (some ⟨p, 3, none⟩)) HST.out ?_
    refine wg 3 (.slice (some ⟨g, 0, none⟩) t.kids.length uc) rfl (Or.inl ⟨by kernel_rfl, fun W hW => by have hh := SameAt.x3 hW; go_simp⟩) HST.out ?_
    refine wh 4 (.int .i64 (k : Int)) HST.out ?_; refine wh 5 (.pointer (some ⟨g, k, none⟩)) HST.out ?_; refine wg 6 (nPtr a) rfl (Or.inl ⟨by kernel_rfl, fun W hW => by have hh := SameAt.xk hW; go_simp⟩) HST.out ?_
    refine wh 7 (nPtr q) HST.out ?_; refine wh 8 (nPtr q) HST.out ?_; refine wh 9 (.pointer (some ⟨q, 3, none⟩)) HST.out ?_
    refine wg 10 (.slice (some ⟨h, 0, none⟩) t.kids.length vc) rfl (Or.inl ⟨by kernel_rfl, fun W hW => by have hh := SameAt.y3 hW; go_simp⟩) HST.out ?_
    refine wh 11 (.int .i64 (k : Int)) HST.out ?_; refine wh 12 (.pointer (some ⟨h, k, none⟩)) HST.out ?_; refine wg 13 (nPtr b) rfl (Or.inl ⟨by kernel_rfl, fun W hW => by have hh := SameAt.yk hW; go_simp⟩) HST.out ?_
    refine wq1 14 fun K hK => ?_; go_simp; refine cm HC.out ?_; rintro e w2 ⟨rfl, hb2⟩; obtain ⟨hs2, hb3⟩ := HX.out w2 hb2; have HS2 := hide hs2; have HB3 := hide hb3; clear hs2 hb2 hb3 HC
    refine hK.out _ _ HS2.out (fun _ => ?_); clear hK K; refine wh 15 (.bool false) HS2.out ?_; refine wpAnyH_done (by kernel_rfl) ?_ _; go_simp; go_wp2_with fail
    go_roundw
    case rel => exact ⟨k + 1, by omega, by go_num, HB3.out⟩
    case measure => simp [intOf]; omega
   ·
    have hk2 : k = t.kids.length := by omega
    subst hk2; go_wp2_with fail; go_ret; exact ⟨rfl, HB.out⟩
end Go.Proofs.YtodmgaikhbmlnaaGreatDoor
namespace Go.Proofs.YtodmgaikhbmlnaaGreatDoor
open Go.ChangeShapes Go.WideShapes Go.ChangeAt Go.WideMaps Go.WideElems Go.RowKit
def jn (a b : ByteArray) : ByteArray := ⟨(a.data.toList ++ 10 :: b.data.toList).toArray⟩
def shRd (D : Nat) : Rd → Rd
 | .tok kd tx n e => .tok kd tx n (D + e)
 | .bad er p => .bad er (D + p)
def shTk (D : Nat) (t : Tk) : Tk := ⟨t.kd, t.tx, t.n, D + t.pl⟩
end Go.Proofs.YtodmgaikhbmlnaaGreatDoor
namespace Go.Proofs.YtodmgaikhbmlnaaGreatDoor
def Js {α : Type} (A L a : Nat) (r r' : PR α) : Prop := ∀ x j, r = .ok x j → (a ≤ j ∧ j < L) ∧ (j < A → r' = .ok x j)
theorem Js.ok {α : Type} {A L a i : Nat} {x : α} (h1 : a ≤ i) (h2 : i < L) : Js A L a (.ok x i) (.ok x i) :=
 fun _ _ h => by cases h; exact ⟨⟨h1, h2⟩, fun _ => rfl⟩
theorem Js.bad {α : Type} {A L a : Nat} {er : Int} {p : Nat} {r : PR α} : Js A L a (.bad er p) r := fun _ _ h => by cases h
theorem Js.out {α : Type} {A L a : Nat} {r : PR α} : Js A L a .out r := fun _ _ h => by cases h
theorem Js.badF {α : Type} {A L a : Nat} {l : List Tk} {er : Int} {i : Nat} {r : PR α} : Js A L a (badF l er i) r := Js.bad
theorem Js.le {α : Type} {A L a b : Nat} {r r' : PR α} (h : Js A L a r r') (hb : b ≤ a) : Js A L b r r' := fun x j e => ⟨⟨Nat.le_trans hb (h x j e).1.1, (h x j e).1.2⟩, (h x j e).2⟩
theorem Js.less {α : Type} {A B L a : Nat} {r r' : PR α} (h : Js B L a r r') (hb : A ≤ B) : Js A L a r r' := fun x j e => ⟨(h x j e).1, fun hj => (h x j e).2 (by omega)⟩
theorem Js.low {α : Type} {A L a : Nat} {r r' : PR α} (h : Js (A + 1) L a r r') : Js A L a r r' := h.less (Nat.le_succ _)
theorem Js.far {α : Type} {A L a : Nat} {r r' r'' : PR α} (h : Js A L a r r'') (ha : A ≤ a) : Js A L a r r' := fun x j e => ⟨(h x j e).1, fun hj => absurd (h x j e).1.1 (by omega)⟩
theorem Js.bindD {α β : Type} {A L a b : Nat} (dl : Nat) {r r' : PR α} {f f' : α → Nat → PR β} (h : Js A L a r r') (hb : b ≤ a + dl)
  (hf : ∀ x i, a ≤ i → i < L → Js (A + dl) L (i + dl) (f x i) (f' x i)) : Js (A + dl) L b (r.bind f) (r'.bind f') := by
 intro y j e
 cases r with
 | ok x i =>
  have h1 := h x i rfl; have h2 := hf x i h1.1.1 h1.1.2 y j e; refine ⟨⟨by omega, h2.1.2⟩, fun hj => ?_⟩; rw [h1.2 (by omega)]; exact h2.2 hj
 | bad er p => cases e
 | out => cases e
theorem Js.bind {α β : Type} {A L a b : Nat} {r r' : PR α} {f f' : α → Nat → PR β} (h : Js A L a r r') (hb : b ≤ a)
  (hf : ∀ x i, a ≤ i → i < L → Js A L i (f x i) (f' x i)) : Js A L b (r.bind f) (r'.bind f') := Js.bindD 0 h hb hf
section
variable {l l' : List Tk} {A : Nat} (hE : Ends l) (hA : ∀ i, i < A → tkA l i = tkA l' i)
include hE hA
structure FJs (l : List Tk) (A : Nat) (F F' : Fns) : Prop where
 fuel : F.fuel = F'.fuel
 st : ∀ d i, i < l.length → Js (A + 1) l.length (i + 1) (F.st d i) (F'.st d i)
 vl : ∀ d i, i < l.length → Js A l.length (i + 1) (F.vl d i) (F'.vl d i)
 pr : ∀ b d i, i < l.length → Js A l.length (i + 1) (F.pr b d i) (F'.pr b d i)
 sg : ∀ d i, i < l.length → Js A l.length (i + 1) (F.sg d i) (F'.sg d i)
def Parts (l l' : List Tk) (A : Nat) : Prop := ∀ s, s = tElse ∨ s = tCatch ∨ s = tFinally → fx l A ≠ s ∧ fx l' A ≠ s
variable {F F' : Fns} (hF : FJs l A F F')
include hF
variable {k : Nat} (hN : FNx l k F)
include hN
end
end Go.Proofs.YtodmgaikhbmlnaaGreatDoor
namespace Go.Proofs.YtodmgaikhbmlnaaGreatDoor
def Sh {α : Type} (A : Nat) (r r' : PR α) : Prop := ∀ x j, r = .ok x j → r' = .ok x (A + j)
theorem Sh.ok {α : Type} {A i : Nat} {x : α} : Sh A (.ok x i) (.ok x (A + i)) := fun _ _ h => by cases h; rfl
theorem Sh.bad {α : Type} {A : Nat} {er : Int} {p : Nat} {r : PR α} : Sh A (.bad er p) r := fun _ _ h => by cases h
theorem Sh.out {α : Type} {A : Nat} {r : PR α} : Sh A .out r := fun _ _ h => by cases h
theorem Sh.badF {α : Type} {A : Nat} {l : List Tk} {er : Int} {i : Nat} {r : PR α} : Sh A (badF l er i) r := Sh.bad
theorem Sh.bind {α β : Type} {A : Nat} {r r' : PR α} {f f' : α → Nat → PR β} (h : Sh A r r') (hf : ∀ x i, Sh A (f x i) (f' x (A + i))) : Sh A (r.bind f) (r'.bind f') := by
 intro y j e
 cases r with
 | ok x i => rw [h x i rfl]; exact hf x i y j e
 | bad er p => cases e
 | out => cases e
structure Shifts (l l' : List Tk) (A : Nat) : Prop where
 kd : ∀ i, (tkA l' (A + i)).kd = (tkA l i).kd
 tx : ∀ i, (tkA l' (A + i)).tx = (tkA l i).tx
 n : ∀ i, (tkA l' (A + i)).n = (tkA l i).n
section
variable {l l' : List Tk} {A : Nat} (hA : Shifts l l' A)
include hA
structure FSh (A : Nat) (F F' : Fns) : Prop where
 fuel : F'.fuel = F.fuel
 st : ∀ d i, Sh A (F.st d i) (F'.st d (A + i))
 vl : ∀ d i, Sh A (F.vl d i) (F'.vl d (A + i))
 pr : ∀ b d i, Sh A (F.pr b d i) (F'.pr b d (A + i))
 sg : ∀ d i, Sh A (F.sg d i) (F'.sg d (A + i))
variable {F F' : Fns} (hF : FSh A F F')
include hF
end
end Go.Proofs.YtodmgaikhbmlnaaGreatDoor
namespace Go.Proofs.YtodmgaikhbmlnaaGreatDoor
open Go.RowKit
def NoHead (s : ByteArray) : Prop := s = tElse ∨ s = tCatch ∨ s = tFinally
theorem NoHead.facts {s : ByteArray} (h : NoHead s) : s ≠ noText ∧ look2 vlKeys s = none ∧ (sgP 0 s).isNone = true ∧ (sgP 1 s).isNone = true ∧ look2 stKeys s = none := by
 rcases h with rfl | rfl | rfl <;> decide
section
variable {l : List Tk} {s : ByteArray} {i : Nat} (hs : NoHead s) (hf : fx l i = s)
include hs hf
end
theorem progP_inv {l : List Tk} {F : Fns} {t : Tr} {j : Nat} (h : progP l F = .ok t j) : ∃ ts, progLoop l F F.fuel [] 0 = .ok ts j ∧ t = codeT (.mk 1 noText 0 ts) := by
 unfold progP at h
 obtain ⟨ts, j1, h1, h⟩ := bind_inv h
 cases h
 exact ⟨ts, h1, rfl⟩
theorem codeT_kd (t : Tr) : (codeT t).kd = t.kd := by unfold codeT; split <;> rfl
theorem parseS_kd {ws gs : List ByteArray} {s : ByteArray} {t : Tr} (h : parseS ws gs s = .ok t) : t.kd = 1 ∧ t.count ≤ 1500 := by
 unfold parseS at h
 split at h
 ·
  cases h
 ·
  split at h
  ·
   cases h
  ·
   split at h
   ·
    cases h
   ·
    rename_i hr
    split at h
    ·
     cases h
    ·
     cases h; obtain ⟨ts, _, rfl⟩ := progP_inv hr; exact ⟨codeT_kd _, by omega⟩
   ·
    cases h
def ReadPost (r : PaR) (w : World) (e : Ending) (w' : World) : Prop :=
 match r with
 | .ok t => ∃ p, e = .returned (.tuple #[nPtr p, .bool true]) ∧ NAt (From w.heap.size) w' t p ∧ Below w.heap.size w w'
 | _ => e = .returned (.tuple #[.pointer none, .bool false]) ∧ Below w.heap.size w w'
def bothS (ws : List ByteArray) (s : ByteArray) : Option Tr := if 3000 < s.size then none else match rparseS ws s with | .ok t => some t | _ => none
def BoPost (r : Option Tr) (w : World) (e : Ending) (w' : World) : Prop :=
 match r with
 | some t => ∃ p q, e = .returned (.tuple #[nPtr p, nPtr q, .bool true]) ∧ NAt (From w.heap.size) w' t p ∧ NAt (From w.heap.size) w' t q ∧ Below w.heap.size w w'
 | none => e = .returned (.tuple #[.pointer none, .pointer none, .bool false]) ∧ Below w.heap.size w w'
theorem both_long (s : ByteArray) (w : World) (hs : 3000 < s.size) : Calls Tryz.prog 19 #[.string s] w (BoPost none w) := by
 have hgt : decide ((3000 : Int) < (s.size : Int)) = true := decide_eq_true (by omega)
 go_enter Tryz.func19, Tryz.ntmps19
 go_wp2_with fail
 exact bodyPost_ret (v := .tuple #[.pointer none, .pointer none, .bool false]) (by simp [results, Tryz.results19, go_sem]) rfl ⟨rfl, Below.refl _ _⟩
theorem both_bad (s : ByteArray) (w : World) (r : PaR) (hs : s.size ≤ 3000) (hr : ∀ t, r ≠ .ok t) (h : Calls Tryz.prog 12 #[.string s] w (RpPost r w)) : Calls Tryz.prog 19 #[.string s] w (BoPost none w) := by
 have hgt : decide ((3000 : Int) < (s.size : Int)) = false := decide_eq_false (by omega)
 have h2 : Calls Tryz.prog 12 #[.string s] w (fun e w' => ∃ er pl : Int, er ≠ 0 ∧ e = .returned (.tuple #[.pointer none, .agg #[.int .i64 er, .int .i64 pl]]) ∧ Below w.heap.size w w') := by
  cases r with
  | ok t => exact absurd rfl (hr t)
  | bare => exact h
  | «at» a b => exact h
 have HC := hide h2
 clear h h2 hr
 go_enter Tryz.func19, Tryz.ntmps19
 go_wp2_with fail
 refine cm HC.out ?_
 rintro e w1 ⟨er, pl, he, rfl, hb⟩
 have hb0 : (er != 0) = true := bne_iff_ne.2 he
 have HB := hide hb
 clear hb HC
 go_wp2_with fail
 exact bodyPost_ret (v := .tuple #[.pointer none, .pointer none, .bool false]) (by simp [results, Tryz.results19, go_sem]) rfl ⟨rfl, HB.out.alloc HB.out.size _⟩
theorem both_ok (s : ByteArray) (w : World) (t : Tr) (hs : s.size ≤ 3000) (hc : t.count ≤ 1500) (h : Calls Tryz.prog 12 #[.string s] w (RpPost (.ok t) w)) (h2 : ∀ W, Below w.heap.size w W → Calls Tryz.prog 13 #[.string s] W (PaPost (.ok t) W)) : Calls Tryz.prog 19 #[.string s] w (BoPost (some t) w) := by
 have hgt : decide ((3000 : Int) < (s.size : Int)) = false := decide_eq_false (by omega)
 have HC := hide h
 have HC2 := hide h2
 clear h h2
 go_enter Tryz.func19, Tryz.ntmps19
 go_wp2_with fail
 refine cm HC.out ?_
 rintro e w1 ⟨q, rfl, hn, hb⟩
 have HB := hide (hb.alloc hb.size (.cells #[.int .i64 0, .int .i64 (-1)] 25))
 have HN := hide (NAt.later (fun b _ hl => Below.heap_alloc w1 (.cells #[.int .i64 0, .int .i64 (-1)] 25) b hl) _ _ hn)
 have HC3 := hide (unhide HC2 _ HB.out)
 clear hb hn HC HC2
 go_wp2_with fail
 refine cm HC3.out ?_
 rintro e w2 ⟨p, rfl, hn2, hb2⟩
 have HB2 := hide (HB.out.trans (hb2.mono HB.out.size))
 have HNq := hide (NAt.later (fun b _ hl => hb2.block b hl) _ _ HN.out)
 have HNp := hide (NAt.mono (J := From w.heap.size) (fun b h1 _ => Nat.le_trans HB.out.size h1) _ _ hn2)
 have HC4 := hide (same_any _ _ t.count t (Nat.le_refl _) (by omega) p q w2 HNp.out HNq.out)
 clear hb2 hn2 HC3
 go_wp2_with fail
 refine cm HC4.out ?_
 rintro e w3 ⟨rfl, hb3⟩
 have HB3 := hide (HB2.out.trans (hb3.mono HB2.out.size))
 have HNq2 := hide (NAt.later (fun b _ hl => hb3.block b hl) _ _ HNq.out)
 have HNp2 := hide (NAt.later (fun b _ hl => hb3.block b hl) _ _ HNp.out)
 clear hb3 HC4
 go_wp2_with fail
 exact bodyPost_ret (v := .tuple #[nPtr p, nPtr q, .bool true]) (by simp [results, Tryz.results19, go_sem]) rfl ⟨p, q, rfl, HNp2.out, HNq2.out, HB3.out⟩
theorem both_any (ws gs : List ByteArray) (s : ByteArray) (w : World) (hL : Lists ws gs w) (hT : Tabs w) (hR : RefLists ws w) (hg : gs = signsS) (hws : ∀ x ∈ ws, sgP 2 x = none) : Calls Tryz.prog 19 #[.string s] w (BoPost (bothS ws s) w) := by
 have hgs : ∀ g ∈ gs, 1 ≤ g.size := by rw [hg]; exact rf_signs_pos
 unfold bothS
 by_cases hs : 3000 < s.size
 ·
  rw [if_pos hs]; exact both_long s w hs
 ·
  rw [if_neg hs]; have h1 := rparse_any ws s w (by omega) hR hws
  cases hr : rparseS ws s with
  | ok t =>
   rw [hr] at h1; have h2 := rparse_same hg (by omega) hgs hws (by rw [hg]; exact tPM_not) hr
   have h3 := (parseS_kd h2).2; refine both_ok s w t (by omega) h3 h1 (fun W hb => ?_); rw [← h2]; exact parse_any ws gs s W (hL.later hb) hgs (hT.later hb)
  | bare => rw [hr] at h1; exact both_bad s w _ (by omega) (by nofun) h1
  | «at» a b => rw [hr] at h1; exact both_bad s w _ (by omega) (by nofun) h1
theorem bothS_count {ws gs : List ByteArray} {s : ByteArray} {t : Tr} (hg : gs = signsS) (hws : ∀ x ∈ ws, sgP 2 x = none) (h : bothS ws s = some t) : t.count ≤ 1500 ∧ t.kd = 1 ∧ parseS ws gs s = .ok t := by
 have hgs : ∀ g ∈ gs, 1 ≤ g.size := by rw [hg]; exact rf_signs_pos
 unfold bothS at h
 split at h
 ·
  cases h
 ·
  cases hr : rparseS ws s with
  | ok t2 =>
   rw [hr] at h; cases h; have h2 := rparse_same hg (by omega) hgs hws (by rw [hg]; exact tPM_not) hr
   exact ⟨(parseS_kd h2).2, (parseS_kd h2).1, h2⟩
  | bare => rw [hr] at h; cases h
  | «at» a b => rw [hr] at h; cases h
mutual
def wk (s : Int) : Tr → List Int
 | .mk kd _ _ ks => kd :: (if kd = s then [] else wks s ks)
def wks (s : Int) : List Tr → List Int
 | [] => []
 | t :: ts => wk s t ++ wks s ts
end
theorem info3 : (Tryz.prog.info? 3).map (fun i => (i.zero, i.size, i.bytes)) = some (some (.int .i64 0), 1, 8) := by kernel_rfl
theorem row_form {w : World} {B e sz n : Nat} {v : Value} {xs : List Value} (h : w.ownsRow B e sz v n xs) : ∃ a cap, v = .slice a n cap := by
 rcases h.2 with ⟨rfl, rfl⟩ | ⟨g, cap, cur, rfl, _⟩
 ·
  exact ⟨none, 0, rfl⟩
 ·
  exact ⟨_, cap, rfl⟩
structure Got (b B : Nat) (zs : List Int) (w : World) : Prop where
 lt : b < B
 sz : B ≤ w.heap.size
 own : ∃ v, w.heap[b]? = some (.cells #[v] 42 (0, 0)) ∧ w.ownsRow B 3 1 v zs.length (zs.map (Value.int .i64))
theorem one_cellsI (w : World) (k : Int) (H : Nat) (h : w.heap.size = H) : ∀ j u, [Value.int .i64 k][j]? = some u → (w.alloc (.cells #[.int .i64 k] 3)).cell? ((⟨H, 0, none⟩ : Addr).add j) = some u := by
 subst h
 intro j u hj
 match j with
 | 0 =>
  simp only [List.getElem?_cons_zero, Option.some.injEq] at hj; subst hj
  show (w.alloc (.cells #[.int .i64 k] 3)).cell? ⟨w.heap.size, 0 + 0, none⟩ = _
  rw [cell_of (heap_new w (.cells #[.int .i64 k] 3))]; rfl
 | n + 1 => simp at hj
theorem one_oneI (k : Int) : ∀ u ∈ [Value.int .i64 k], u.oneCell' = true := by
 intro u hu
 rw [List.mem_singleton.1 hu]
 rfl
theorem via0 {G goal : Prop} (h1 : G → goal) (h2 : G) : goal := h1 h2
theorem Got.drew {b B : Nat} {zs : List Int} {w : World} (h : Got b B zs w) : Got b B zs w.drew := ⟨h.lt, h.sz, h.own⟩
theorem got_push {b B g cap n : Nat} {zs : List Int} {kd : Int} {wd w3 : World} {v : Value} (hlt : b < B) (hsz : B ≤ wd.heap.size) (hb : wd.heap[b]? = some (.cells #[v] 42 (0, 0))) (hown : wd.ownsRow B 3 1 v zs.length (zs.map (Value.int .i64))) (hn : n = zs.length + 1)
  (hown3 : w3.ownsRow B 3 1 (.slice (some ⟨g, 0, none⟩) n cap) n (zs.map (Value.int .i64) ++ [.int .i64 kd])) (hgr : (wd.alloc (.cells #[.int .i64 kd] 3)).grownBy w3 v.ownBlock) :
  Got b B (zs ++ [kd]) (w3.setCell ⟨b, 0, none⟩ (.slice (some ⟨g, 0, none⟩) n cap)) ∧ Ap b B wd (w3.setCell ⟨b, 0, none⟩ (.slice (some ⟨g, 0, none⟩) n cap)) := by
 subst hn
 have hob : ∀ k, v.ownBlock = some k → B ≤ k := fun k hk => (own_lt hown k hk).2
 have hap : Ap b B wd (w3.setCell ⟨b, 0, none⟩ (.slice (some ⟨g, 0, none⟩) (zs.length + 1) cap)) := (((Ap.refl b B wd).alloc hsz _).grown hgr (by simp; omega) hob).setCell (p := ⟨b, 0, none⟩) (Or.inr rfl) _
 have h3 : w3.heap[b]? = some (.cells #[v] 42 (0, 0)) := by
  rw [hgr.block b (by simp; omega) (fun e => by have := hob b e.symm; omega), Below.heap_alloc _ _ _ (by omega)]
  exact hb
 have hgB : B ≤ g := (own_lt hown3 g rfl).2
 refine ⟨⟨hlt, Nat.le_trans hsz hap.size, _, by rw [heap_set h3]; rfl, ?_⟩, hap⟩
 rw [show (zs ++ [kd]).length = zs.length + 1 by simp, List.map_append]
 exact owns_stay (I := fun x => x = g) (fun x hx _ => Below.heap_setCell w3 ⟨b, 0, none⟩ _ x (by have h1 : x = g := hx; show x ≠ b; omega)) (fun y hy => by simpa [Value.ownBlock] using hy.symm) hown3
theorem got1 {b sb B p : Nat} {zs : List Int} {kd s n : Int} {tx : ByteArray} {u : Value} {w : World} (hG : Got b B zs w) (hs : w.cell? ⟨sb, 0, none⟩ = some (.int .i64 s)) (hn : w.heap[p]? = some (nodeObj kd tx n u)) (hp : p ≠ b) (hpB : p < B) (hsb : sb ≠ b) (hsB : sb < B) (hl : zs.length ≤ 100000) :
  Calls Tryz.prog 21 #[nPtr p, .pointer (some ⟨b, 0, none⟩), .pointer (some ⟨sb, 0, none⟩)] w fun e w' => e = .returned (.bool (kd != s)) ∧ Got b B (zs ++ [kd]) w' ∧ Ap b B w w' := by
 obtain ⟨i0, hi0, hz0, hz1, hz2⟩ := info_parts info3
 obtain ⟨hbB, hBs, v, hb, hown⟩ := hG
 obtain ⟨va, vc, rfl⟩ := row_form hown
 have c0 : w.cell? ⟨b, 0, none⟩ = some (.slice va zs.length vc) := by rw [cell_of hb]; rfl
 have cf := frozen_of hb 0
 have hbl := lt_of_heap hb
 obtain ⟨d0, _, _, _, _⟩ := node_cells hn
 have hpl := lt_of_heap hn
 have HOWN := hide hown
 have HB := hide hb
 have HND := hide hn
 clear hown hb hn
 go_enter Tryz.func21, Tryz.ntmps21
 go_wp2_with fail
 refine via0 (G := ?G1) (fun CONT => ?_) ?_
 rotate_left
 ·
  refine wp_region_any (by kernel_rfl) ?_; change wpAny _ _ _ _ _ _ _ (World.drew _); refine wt 1 (nPtr p) ?_; refine wt 2 (nPtr p) ?_; refine wt 3 (.pointer (some ⟨p, 0, none⟩)) ?_
  refine wr2 0 4 (fun K hK => ?_) fun K hK => ?_
  ·
   go_simp; refine hK _ _ ?_; clear hK K; refine wr1 4 fun K hK => ?_; go_simp; refine hK _ _ ?_; clear hK K; refine wr1 5 fun K hK => ?_; go_simp; refine hK _ _ ?_; clear hK K
   refine wpAny_same (listed' := tf 6 2) (by kernel_rfl) rfl ?_; exact CONT
  ·
   go_simp; refine hK _ _ ?_; clear hK K; refine wr2 0 5 (fun K hK => ?_) fun K hK => ?_
   ·
    go_simp; refine hK _ _ ?_; clear hK K; refine wr1 5 fun K hK => ?_; go_simp; refine hK _ _ ?_; clear hK K; exact wz 6 2 CONT
   ·
    go_simp; refine hK _ _ ?_; clear hK K; refine wr1 0 fun K hK => ?_; go_simp; refine hK _ _ ?_; clear hK K; exact wz 6 2 CONT
 ·
  refine wr1 6 fun K hK => ?_
  refine step_append_lies _ rfl _ _ 42 rfl B 3 i0 (.int .i64 0) 1 8 Tryz.underlying42 hi0 hz0 hz1 hz2 rfl (by decide) _ _ _ rfl ((HOWN.out : World.ownsRow w.drew B 3 1 _ _ _).alloc _) ⟨w.heap.size, 0, none⟩ 1 1 [.int .i64 kd] rfl rfl (one_cellsI w.drew kd _ rfl) (one_oneI kd) (by decide) (by unfold maxLen; omega) (by omega) (by simp; omega) (w.heap.size + 1) (by simp) ?_
  intro g cap w3 hown3 hgr3 _ _; refine hK _ _ ?_; clear hK K; have HGP := hide (got_push (wd := w.drew) hbB hBs HB.out HOWN.out rfl hown3 hgr3)
  have h3 : w3.heap[b]? = w.heap[b]? := (hgr3.block b (by simp; omega) (fun e => by have := (own_lt HOWN.out b e.symm).2; omega)).trans (Below.heap_alloc w.drew _ b hbl)
  have e0 : w3.cell? ⟨b, 0, none⟩ = some (.slice va zs.length vc) := (World.cell?_of_block (w := w) h3).trans c0; have ef : w3.frozen? ⟨b, 0, none⟩ = false := (World.frozen?_of_block (w := w) h3).trans cf
  have he : b < w3.heap.size := lt_of_heap (h3.trans HB.out); clear hown3 hgr3 h3 c0 cf; refine wr1 7 fun K hK => ?_; go_simp; refine hK _ _ ?_; clear hK K e0 ef he; refine wpAny_done (by kernel_rfl) ?_ _; go_simp
  obtain ⟨hg2, ha2⟩ := unhide HGP; obtain ⟨W, hW⟩ : ∃ W, W = w3.setCell ⟨b, 0, none⟩ (.slice (some ⟨g, 0, none⟩) (zs.length + 1) cap) := ⟨_, rfl⟩; rw [← hW] at hg2 ha2 ⊢
  have y0 : W.cell? ⟨p, 0, none⟩ = some (.int .i64 kd) := (ha2.cell (p := ⟨p, 0, none⟩) hpB hp).trans d0; have y1 : W.cell? ⟨sb, 0, none⟩ = some (.int .i64 s) := (ha2.cell (p := ⟨sb, 0, none⟩) hsB hsb).trans hs
  have HG2 := hide hg2; have HA2 := hide ha2; clear hg2 ha2 hW HGP d0 hs; go_wp2_with fail; refine wp_region_held (S := fun X => X = W.drew) (by kernel_rfl) ?_; change wpAnyH _ _ _ _ _ _ _ _ (World.drew _)
  refine wg 0 (nPtr p) rfl (Or.inl ⟨by kernel_rfl, fun X hX => by cases hX; go_simp⟩) rfl ?_
  refine wg 1 (nPtr p) rfl (Or.inl ⟨by kernel_rfl, fun X hX => by cases hX; go_simp⟩) rfl ?_
  refine wg 2 (.pointer (some ⟨p, 0, none⟩)) rfl (Or.inl ⟨by kernel_rfl, fun X hX => by cases hX; go_simp⟩) rfl ?_
  refine wg 3 (.int .i64 kd) rfl (Or.inl ⟨by kernel_rfl, fun X hX => by cases hX; go_simp⟩) rfl ?_
  refine wg 4 (.int .i64 s) rfl (Or.inl ⟨by kernel_rfl, fun X hX => by cases hX; go_simp⟩) rfl ?_
  refine wg 5 (.bool (kd != s)) rfl (Or.inl ⟨by kernel_rfl, fun X hX => by cases hX; go_simp⟩) rfl ?_
  refine wg 6 (.bool (kd != s)) rfl (Or.inl ⟨by kernel_rfl, fun X hX => by cases hX; go_simp⟩) rfl ?_
  refine wpAnyH_done (by kernel_rfl) ?_ _; go_simp; go_wp2_with fail; go_ret; exact ⟨rfl, HG2.out.drew, (Ap.refl b B w).drew.trans HA2.out.drew⟩
abbrev gotV (b sb : Nat) : Value := .func (.func 21) #[] #[.pointer (some ⟨b, 0, none⟩), .pointer (some ⟨sb, 0, none⟩)]
theorem en21 : ∀ args W, (callFunc 21 args).run Tryz.prog W = .ok (.enter 21 args) W := fun _ _ => by kernel_rfl
theorem wks_app (s : Int) : ∀ a b : List Tr, wks s (a ++ b) = wks s a ++ wks s b
 | [], b => by simp [wks]
 | t :: a, b => by simp [wks, wks_app s a b]
theorem wks_take (s : Int) (ts : List Tr) (k : Nat) (hk : k < ts.length) : wks s (ts.take (k + 1)) = wks s (ts.take k) ++ wk s ts[k] := by
 rw [List.take_succ_eq_append_getElem hk, wks_app]
 simp [wks]
mutual
theorem wk_len (s : Int) : ∀ t : Tr, (wk s t).length ≤ t.count
 | .mk kd tx n ks => by
  have h := wks_len s ks; rw [wk, count_mk]
  split
  ·
   simp
  ·
   simp; omega
theorem wks_len (s : Int) : ∀ ts : List Tr, (wks s ts).length ≤ Tr.counts ts
 | [] => by simp [wks]
 | t :: ts => by
  have h1 := wk_len s t; have h2 := wks_len s ts; rw [wks, counts_cons]; simp; omega
end
theorem wk_stop {s : Int} {t : Tr} (h : t.kd = s) : wk s t = [t.kd] := by
 cases t with
 | mk kd tx n ks => have h1 : kd = s := h; rw [wk, if_pos h1]; rfl
theorem wk_go {s : Int} {t : Tr} (h : t.kd ≠ s) : wk s t = t.kd :: wks s t.kids := by
 cases t with
 | mk kd tx n ks => have h1 : kd ≠ s := h; rw [wk, if_neg h1]; rfl
theorem walkG (b sb B : Nat) (s : Int) (hsb : sb ≠ b) (hsB : sb < B) : ∀ (m : Nat) (t : Tr), t.count ≤ m → ∀ (p : Nat) (zs : List Int) (w : World), NAt (fun x => x < B ∧ x ≠ b) w t p → Got b B zs w → w.cell? ⟨sb, 0, none⟩ = some (.int .i64 s) → zs.length + t.count ≤ 100000 →
  Calls Tryz.prog 20 #[nPtr p, gotV b sb] w fun e w' => e = .returned (.tuple #[]) ∧ Got b B (zs ++ wk s t) w' ∧ Ap b B w w' := by
 intro m
 induction m with
 | zero =>
  intro t ht
  cases t with
  | mk kd tx nn ks => rw [count_mk] at ht; omega
 | succ m ih =>
  intro t ht p zs w hnt hG hs hbd; obtain ⟨u, ps, hblk, hrow, hri, hks⟩ := hnt.opens2; have hlen := NAts.length _ _ hks; have hpB : p < B ∧ p ≠ b := by
   cases t with
   | mk kd tx nn ks => rw [NAt] at hnt; exact hnt.1
  have htc : t.count = 1 + Tr.counts t.kids := by cases t with | mk kd tx nn ks => exact count_mk _ _ _ _
  obtain ⟨_, _, _, f3, _⟩ := node_cells hblk; obtain ⟨ua, uc, hu⟩ := row_shut hrow; subst hu; have hen := en21
  have hfn : ∀ W : World, (binOp .eql 35 (gotV b sb) .nilFunc).run Tryz.prog W = .ok (.bool false) W := fun W => by kernel_rfl
  have HC := hide (got1 hG hs hblk hpB.2 hpB.1 hsb hsB (by omega)); have HHS := hide hs; have HKS := hide hks; have HROW := hide hrow; have HRI := hide hri; have HIH := hide ih; have HTC := hide htc; have HHT := hide ht
  have HBD := hide hbd; have HF3 := hide f3; have HPL := hide (lt_of_heap hblk); have HPB := hide hpB; have HLEN := hide hlen; have HSZ := hide hG.sz; clear hG hs hks hrow hri ih htc ht hbd hblk hnt f3 hpB hlen
  by_cases hx : t.kd = s
  ·
   have hbn : (t.kd != s) = false := by rw [hx]; simp
   rw [hbn] at HC; have HX := hide hx; clear hbn hx; go_enter Tryz.func20, Tryz.ntmps20; go_wp2_with fail; refine cm HC.out ?_; rintro e w1 ⟨rfl, hg1, ha1⟩; have HG1 := hide hg1; have HA1 := hide ha1; clear HC hg1 ha1
   go_wp2_with fail; exact bodyPost_ret (v := .tuple #[]) (by simp [results, Tryz.results20, go_sem]) rfl ⟨rfl, by rw [wk_stop HX.out]; exact HG1.out, HA1.out⟩
  ·
   have hbn : (t.kd != s) = true := bne_iff_ne.2 hx; rw [hbn] at HC; have HX := hide hx; clear hbn hx; go_enter Tryz.func20, Tryz.ntmps20; go_wp2_with fail; refine cm HC.out ?_; rintro e w1 ⟨rfl, hg1, ha1⟩
   have g3 := (ha1.cell (p := ⟨p, 3, none⟩) HPB.out.1 HPB.out.2).trans HF3.out; rw [HLEN.out] at g3; have hpl1 : p < w1.heap.size := Nat.lt_of_lt_of_le HPL.out ha1.size; have HG1 := hide hg1; have HA1 := hide ha1
   clear HC hg1 ha1; go_wp2_with fail
   go_loopw [23] (fun i wr => ∃ k : Nat, k ≤ t.kids.length ∧ i = .int .i64 k ∧ Got b B (zs ++ t.kd :: wks s (t.kids.take k)) wr ∧ Ap b B w wr) (fun i _ => t.kids.length - (intOf i).toNat)
   case atStart => exact ⟨0, Nat.zero_le _, rfl, by simpa [wks] using HG1.out, HA1.out⟩
   case round =>
    obtain ⟨k, hk, rfl, hg, hap⟩ := hrel; have HGK := hide hg; have HAK := hide hap; clear hg hap
    by_cases hlt : k < t.kids.length
    ·
     obtain ⟨g, cap, hv, hcell⟩ := row_open HROW.out (by rw [HLEN.out]; omega)
     simp only [Value.slice.injEq] at hv; obtain ⟨rfl, _, rfl⟩ := hv; obtain ⟨hkp, hnk⟩ := NAts.get _ _ HKS.out k hlt; have hgb := unhide HRI g rfl; have hck : wr.cell? ⟨g, k, none⟩ = some (nPtr ps[k]) := by
      rw [HAK.out.cell (p := ⟨g, k, none⟩) hgb.1 hgb.2]; exact hcell k hkp
     have hnk2 : NAt (fun x => x < B ∧ x ≠ b) wr t.kids[k] ps[k] := NAt.later (fun x hx hl => HAK.out.block x hx.1 hx.2) _ _ hnk
     have hsk : wr.cell? ⟨sb, 0, none⟩ = some (.int .i64 s) := (HAK.out.cell (p := ⟨sb, 0, none⟩) hsB hsb).trans HHS.out; have hgl : g < wr.heap.size := Nat.lt_of_lt_of_le (own_lt HROW.out g rfl).1 HAK.out.size
     have htk := counts_take t.kids k hlt; have hwk := wks_take s t.kids k hlt; have hwl := wks_len s (t.kids.take k); have h1 := unhide HTC; have h2 := unhide HHT; have h3 := unhide HBD
     have htot : Tr.counts (t.kids.take k) + (t.kids[k]).count ≤ Tr.counts t.kids := by
      have : Tr.counts t.kids = Tr.counts (t.kids.take (k + 1)) + Tr.counts (t.kids.drop (k + 1)) := by rw [← counts_app, List.take_append_drop]
      omega
     have HC := hide (HIH.out t.kids[k] (by omega) ps[k] _ wr hnk2 HGK.out hsk (by simp; omega))
     have HWK := hide hwk; obtain ⟨q, hq⟩ : ∃ q, q = ps[k] := ⟨_, rfl⟩; rw [← hq] at hck HC; have hki : (k : Int) < (t.kids.length : Int) := by omega
     have hkb : t.kids.length ≤ 100000 := by have := counts_len t.kids; omega
     clear hcell hnk hnk2 htk h1 h2 h3 htot hq hwk hwl hsk; go_wp2_with fail; refine cm HC.out ?_; rintro e w2 ⟨rfl, hc2, ha2⟩; have HC2 := hide hc2; have HA2 := hide (HAK.out.trans ha2); clear hc2 ha2 HC hck
     go_wp2_with fail
     go_roundw
     case rel => exact ⟨k + 1, by omega, by go_num, by rw [HWK.out]; have h := unhide HC2; simpa using h, HA2.out⟩
     case measure => simp [intOf]; omega
    ·
     have hk2 : k = t.kids.length := by omega
     subst hk2; go_wp2_with fail
     go_end0
     refine ⟨rfl, ?_, HAK.out⟩; have h := unhide HGK; rw [List.take_length] at h; rw [wk_go HX.out]; exact h
end Go.Proofs.YtodmgaikhbmlnaaGreatDoor
