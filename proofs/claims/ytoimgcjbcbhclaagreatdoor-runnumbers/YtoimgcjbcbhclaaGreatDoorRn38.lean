/-
  The document's parser at any text.
-/
import Derived.Test.YtoimgcjbcbhclaaGreatDoorRn37
import Derived.LaidEql
namespace Go.Proofs.YtoimgcjbcbhclaaGreatDoor.Old
open Go.RowKit
theorem tPM_not : ∀ g ∈ signsS, g ≠ tPM := by decide +kernel
theorem rparse_any (ws : List ByteArray) (s : ByteArray) (w : World) (hs : s.size ≤ 3000) (hL : RefLists ws w) (hws : ∀ x ∈ ws, sgP 2 x = none) : Calls Tryz.prog 46 #[.string s] w (RpPost (zbk ws s) w) := by
 have hT : ∀ W, RefLists ws W → Calls Tryz.prog 109 #[.string s] W (UPost (zj7 ws signsS s (zz3 gapB s 0) []) W) := fun W h => refTokens_any ws s W hs h
 cases hl : zj7 ws signsS s (zz3 gapB s 0) [] with
 | bad er p =>
  have he := toks_er ws signsS s zyz _ _ [] er p rfl (zv8 gapB s 0 (Nat.zero_le _)) hl; rw [hl] at hT; exact rparse_toks ws s w er p he (fun t h => by unfold zbk at h; rw [hl] at h; cases h) hL hT
 | ok l =>
  rw [hl] at hT; have hE := toks_ends zyz hl; have hN := toks_noSg zyz hws tPM_not hl; have h3 : l.length ≤ 3001 := by omega
  have hto := rprog_total hE.1 hE.2.1 h3; have hpt := zgk hE.1 hE.2.1 h3; have hr : zbk ws s = paOf (zh2 l (rfns l KK)) := by
   unfold zbk; rw [hl]; simp only
   cases zh2 l (rfns l KK) <;> rfl
  rw [hr]; refine rparse_main s w l (rfns l KK) _ hE.1 hE.2.1 h3 ws hL hT (fun c hc => ?_) ⟨KK, rfns_nx hE.1 KK⟩ (rfns_ok l KK) rfl hto.1 (fun t j h => ?_)
  ·
   subst hc; exact rfns_all hE.1 KK
  ·
   rcases rprog_imp hN.1 hN.2 KK KK t j h with h2 | h2
   ·
    have h4 := prog_cb (fns_cb KK) h2; have h5 := hpt.2 t j h2; omega
   ·
    exact absurd h2 hpt.1
end Go.Proofs.YtoimgcjbcbhclaaGreatDoor.Old
namespace Go.Proofs.YtoimgcjbcbhclaaGreatDoor
open Go.ChangeShapes Go.WideShapes Go.ChangeAt Go.WideMaps Go.WideElems Go.RowKit
def jn (a b : ByteArray) : ByteArray := ⟨(a.data.toList ++ 10 :: b.data.toList).toArray⟩
def shRd (D : Nat) : Rd → Rd
 | .tok kd tx n e => .tok kd tx n (D + e)
 | .bad er p => .bad er (D + p)
def shTk (D : Nat) (t : Tk) : Tk := ⟨t.kd, t.tx, t.n, D + t.pl⟩
end Go.Proofs.YtoimgcjbcbhclaaGreatDoor
namespace Go.Proofs.YtoimgcjbcbhclaaGreatDoor
def Js {α : Type} (A L a : Nat) (r r' : PR α) : Prop := ∀ x j, r = .ok x j → (a ≤ j ∧ j < L) ∧ (j < A → r' = .ok x j)
theorem Js.ok {α : Type} {A L a i : Nat} {x : α} (h1 : a ≤ i) (h2 : i < L) : Js A L a (.ok x i) (.ok x i) :=
 fun _ _ h => by cases h; exact ⟨⟨h1, h2⟩, fun _ => rfl⟩
theorem Js.bad {α : Type} {A L a : Nat} {er : Int} {p : Nat} {r : PR α} : Js A L a (.bad er p) r := fun _ _ h => by cases h
theorem Js.out {α : Type} {A L a : Nat} {r : PR α} : Js A L a .out r := fun _ _ h => by cases h
theorem Js.badF {α : Type} {A L a : Nat} {l : List Tk} {er : Int} {i : Nat} {r : PR α} : Js A L a (badF l er i) r := Js.bad
theorem Js.le {α : Type} {A L a b : Nat} {r r' : PR α} (h : Js A L a r r') (hb : b ≤ a) : Js A L b r r' := fun x j e => ⟨⟨Nat.le_trans hb (h x j e).1.1, (h x j e).1.2⟩, (h x j e).2⟩
theorem Js.less {α : Type} {A B L a : Nat} {r r' : PR α} (h : Js B L a r r') (hb : A ≤ B) : Js A L a r r' := fun x j e => ⟨(h x j e).1, fun hj => (h x j e).2 (by omega)⟩
theorem Js.low {α : Type} {A L a : Nat} {r r' : PR α} (h : Js (A + 1) L a r r') : Js A L a r r' := h.less (Nat.le_succ _)
theorem Js.far {α : Type} {A L a : Nat} {r r' r'' : PR α} (h : Js A L a r r'') (ha : A ≤ a) : Js A L a r r' := fun x j e => ⟨(h x j e).1, fun hj => absurd (h x j e).1.1 (by omega)⟩
theorem Js.bindD {α β : Type} {A L a b : Nat} (dl : Nat) {r r' : PR α} {f f' : α → Nat → PR β} (h : Js A L a r r') (hb : b ≤ a + dl)
  (hf : ∀ x i, a ≤ i → i < L → Js (A + dl) L (i + dl) (f x i) (f' x i)) : Js (A + dl) L b (r.bind f) (r'.bind f') := by
 intro y j e
 cases r with
 | ok x i =>
  have h1 := h x i rfl; have h2 := hf x i h1.1.1 h1.1.2 y j e; refine ⟨⟨by omega, h2.1.2⟩, fun hj => ?_⟩; rw [h1.2 (by omega)]; exact h2.2 hj
 | bad er p => cases e
 | out => cases e
theorem Js.bind {α β : Type} {A L a b : Nat} {r r' : PR α} {f f' : α → Nat → PR β} (h : Js A L a r r') (hb : b ≤ a)
  (hf : ∀ x i, a ≤ i → i < L → Js A L i (f x i) (f' x i)) : Js A L b (r.bind f) (r'.bind f') := Js.bindD 0 h hb hf
section
variable {l l' : List Tk} {A : Nat} (hE : Ends l) (hA : ∀ i, i < A → tkA l i = tkA l' i)
include hE hA
omit hE hA in
omit hE in
omit hE in
structure FJs (l : List Tk) (A : Nat) (F F' : Fns) : Prop where
 fuel : F.fuel = F'.fuel
 st : ∀ d i, i < l.length → Js (A + 1) l.length (i + 1) (F.st d i) (F'.st d i)
 vl : ∀ d i, i < l.length → Js A l.length (i + 1) (F.vl d i) (F'.vl d i)
 pr : ∀ b d i, i < l.length → Js A l.length (i + 1) (F.pr b d i) (F'.pr b d i)
 sg : ∀ d i, i < l.length → Js A l.length (i + 1) (F.sg d i) (F'.sg d i)
def Parts (l l' : List Tk) (A : Nat) : Prop := ∀ s, s = zg0 ∨ s = zj5 ∨ s = zxz → fx l A ≠ s ∧ fx l' A ≠ s
variable {F F' : Fns} (hF : FJs l A F F')
include hF
variable {k : Nat} (hN : FNx l k F)
include hN
end
end Go.Proofs.YtoimgcjbcbhclaaGreatDoor
namespace Go.Proofs.YtoimgcjbcbhclaaGreatDoor
def Sh {α : Type} (A : Nat) (r r' : PR α) : Prop := ∀ x j, r = .ok x j → r' = .ok x (A + j)
theorem Sh.ok {α : Type} {A i : Nat} {x : α} : Sh A (.ok x i) (.ok x (A + i)) := fun _ _ h => by cases h; rfl
theorem Sh.bad {α : Type} {A : Nat} {er : Int} {p : Nat} {r : PR α} : Sh A (.bad er p) r := fun _ _ h => by cases h
theorem Sh.out {α : Type} {A : Nat} {r : PR α} : Sh A .out r := fun _ _ h => by cases h
theorem Sh.badF {α : Type} {A : Nat} {l : List Tk} {er : Int} {i : Nat} {r : PR α} : Sh A (badF l er i) r := Sh.bad
theorem Sh.bind {α β : Type} {A : Nat} {r r' : PR α} {f f' : α → Nat → PR β} (h : Sh A r r') (hf : ∀ x i, Sh A (f x i) (f' x (A + i))) : Sh A (r.bind f) (r'.bind f') := by
 intro y j e
 cases r with
 | ok x i => rw [h x i rfl]; exact hf x i y j e
 | bad er p => cases e
 | out => cases e
structure Shifts (l l' : List Tk) (A : Nat) : Prop where
 kd : ∀ i, (tkA l' (A + i)).kd = (tkA l i).kd
 tx : ∀ i, (tkA l' (A + i)).tx = (tkA l i).tx
 n : ∀ i, (tkA l' (A + i)).n = (tkA l i).n
section
variable {l l' : List Tk} {A : Nat} (hA : Shifts l l' A)
include hA
omit hA in
structure FSh (A : Nat) (F F' : Fns) : Prop where
 fuel : F'.fuel = F.fuel
 st : ∀ d i, Sh A (F.st d i) (F'.st d (A + i))
 vl : ∀ d i, Sh A (F.vl d i) (F'.vl d (A + i))
 pr : ∀ b d i, Sh A (F.pr b d i) (F'.pr b d (A + i))
 sg : ∀ d i, Sh A (F.sg d i) (F'.sg d (A + i))
variable {F F' : Fns} (hF : FSh A F F')
include hF
end
end Go.Proofs.YtoimgcjbcbhclaaGreatDoor
set_option maxRecDepth 100000
set_option maxHeartbeats 16000000
namespace Go.Proofs.YtoimgcjbcbhclaaGreatDoor
open Go.RowKit
def NoHead (s : ByteArray) : Prop := s = zg0 ∨ s = zj5 ∨ s = zxz
theorem NoHead.facts {s : ByteArray} (h : NoHead s) : s ≠ zzx ∧ zxy vlKeys s = none ∧ (sgP 0 s).isNone = true ∧ (sgP 1 s).isNone = true ∧ zxy stKeys s = none := by
 rcases h with rfl | rfl | rfl <;> decide
section
variable {l : List Tk} {s : ByteArray} {i : Nat} (hs : NoHead s) (hf : fx l i = s)
include hs hf
end
theorem progP_inv {l : List Tk} {F : Fns} {t : Tr} {j : Nat} (h : zh2 l F = .ok t j) : ∃ ts, zjv l F F.fuel [] 0 = .ok ts j ∧ t = zhk (.mk 1 zzx 0 ts) := by
 unfold zh2 at h
 obtain ⟨ts, j1, h1, h⟩ := zq6 h
 cases h
 exact ⟨ts, h1, rfl⟩
theorem codeT_kd (t : Tr) : (zhk t).kd = t.kd := by unfold zhk; split <;> rfl
theorem parseS_kd {ws gs : List ByteArray} {s : ByteArray} {t : Tr} (h : parseS ws gs s = .ok t) : t.kd = 1 ∧ t.count ≤ 1500 := by
 unfold parseS at h
 split at h
 ·
  cases h
 ·
  split at h
  ·
   cases h
  ·
   split at h
   ·
    cases h
   ·
    rename_i hr
    split at h
    ·
     cases h
    ·
     cases h; obtain ⟨ts, _, rfl⟩ := progP_inv hr; exact ⟨codeT_kd _, by omega⟩
   ·
    cases h
def ReadPost (r : PaR) (w : World) (e : Ending) (w' : World) : Prop :=
 match r with
 | .ok t => ∃ p, e = .returned (.tuple #[nPtr p, .bool true]) ∧ NAt (From w.heap.size) w' t p ∧ Below w.heap.size w w'
 | _ => e = .returned (.tuple #[.pointer none, .bool false]) ∧ Below w.heap.size w w'
mutual
theorem NAt.old {I : Nat → Prop} {w : World} : ∀ (t : Tr) (p : Nat), NAt I w t p → Old.NAt I w t p
 | .mk kd tx n ks, p, h => by
  rw [NAt] at h; rw [Old.NAt]; obtain ⟨hp, v, ps, hb, hr, hk⟩ := h; exact ⟨hp, v, ps, hb, hr, NAts.old ks ps (NAts.mono (fun b hb _ => hb.1) _ _ hk)⟩
theorem NAts.old {I : Nat → Prop} {w : World} : ∀ (ts : List Tr) (ps : List Nat), NAts I w ts ps → Old.NAts I w ts ps
 | [], ps, h => by rw [NAts] at h; rw [Old.NAts]; exact h
 | t :: ts, ps, h => by
  obtain ⟨p, ps', e, h1, h2⟩ := h.parts; rw [Old.NAts]; exact ⟨p, ps', e, NAt.old t p h1, NAts.old ts ps' h2⟩
end
def bothS (ws : List ByteArray) (s : ByteArray) : Option Tr := if 3000 < s.size then none else match zbk ws s with | .ok t => some t | _ => none
def BoPost (r : Option Tr) (w : World) (e : Ending) (w' : World) : Prop :=
 match r with
 | some t => ∃ p q, e = .returned (.tuple #[nPtr p, nPtr q, .bool true]) ∧ NAt (From w.heap.size) w' t p ∧ Old.NAt (From w.heap.size) w' t q ∧ Below w.heap.size w w'
 | none => e = .returned (.tuple #[.pointer none, .pointer none, .bool false]) ∧ Below w.heap.size w w'
theorem both_long (s : ByteArray) (w : World) (hs : 3000 < s.size) : Calls Tryz.prog 17 #[.string s] w (BoPost none w) := by
 have hgt : decide ((3000 : Int) < (s.size : Int)) = true := decide_eq_true (by omega)
 go_enter Tryz.func17, Tryz.ntmps17
 go_wp2_with fail
 exact bodyPost_ret (v := .tuple #[.pointer none, .pointer none, .bool false]) (by simp [results, Tryz.results17, go_sem]) rfl ⟨rfl, Below.refl _ _⟩
theorem both_bad (s : ByteArray) (w : World) (r : PaR) (hs : s.size ≤ 3000) (hr : ∀ t, r ≠ .ok t) (h : Calls Tryz.prog 46 #[.string s] w (Old.RpPost r w)) : Calls Tryz.prog 17 #[.string s] w (BoPost none w) := by
 have hgt : decide ((3000 : Int) < (s.size : Int)) = false := decide_eq_false (by omega)
 have h2 : Calls Tryz.prog 46 #[.string s] w (fun e w' => ∃ er pl : Int, er ≠ 0 ∧ e = .returned (.tuple #[.pointer none, .agg #[.int .i64 er, .int .i64 pl]]) ∧ Below w.heap.size w w') := by
  cases r with
  | ok t => exact absurd rfl (hr t)
  | bare => exact h
  | «at» a b => exact h
 have HC := qh h2
 clear h h2 hr
 go_enter Tryz.func17, Tryz.ntmps17
 go_wp2_with fail
 refine cm HC.out ?_
 rintro e w1 ⟨er, pl, he, rfl, hb⟩
 have hb0 : (er != 0) = true := bne_iff_ne.2 he
 have HB := qh hb
 clear hb HC
 go_wp2_with fail
 exact bodyPost_ret (v := .tuple #[.pointer none, .pointer none, .bool false]) (by simp [results, Tryz.results17, go_sem]) rfl ⟨rfl, HB.out.alloc HB.out.size _⟩
theorem both_ok (s : ByteArray) (w : World) (t : Tr) (hs : s.size ≤ 3000) (hc : t.count ≤ 1500) (h : Calls Tryz.prog 46 #[.string s] w (Old.RpPost (.ok t) w)) (h2 : ∀ W, Below w.heap.size w W → Calls Tryz.prog 14 #[.string s] W (PaPost (.ok t) W)) : Calls Tryz.prog 17 #[.string s] w (BoPost (some t) w) := by
 have hgt : decide ((3000 : Int) < (s.size : Int)) = false := decide_eq_false (by omega)
 have HC := qh h
 have HC2 := qh h2
 clear h h2
 go_enter Tryz.func17, Tryz.ntmps17
 go_wp2_with fail
 refine cm HC.out ?_
 rintro e w1 ⟨q, rfl, hn, hb⟩
 have HB := qh (hb.alloc hb.size (.cells #[.int .i64 0, .int .i64 (-1)] 86))
 have HN := qh (Old.NAt.later (fun b _ hl => Below.heap_alloc w1 (.cells #[.int .i64 0, .int .i64 (-1)] 86) b hl) _ _ hn)
 have HC3 := qh (zzq HC2 _ HB.out)
 clear hb hn HC HC2
 go_wp2_with fail
 refine cm HC3.out ?_
 rintro e w2 ⟨p, rfl, hn2, hb2⟩
 have HB2 := qh (HB.out.trans (hb2.mono HB.out.size))
 have HNq := qh (Old.NAt.later (fun b _ hl => hb2.block b hl) _ _ HN.out)
 have HNp := qh (NAt.mono (J := From w.heap.size) (fun b h1 _ => Nat.le_trans HB.out.size h1) _ _ hn2)
 have HC4 := qh (Old.same_any _ _ t.count t qv (by omega) p q w2 (NAt.old _ _ HNp.out) HNq.out)
 clear hb2 hn2 HC3
 go_wp2_with fail
 refine cm HC4.out ?_
 rintro e w3 ⟨rfl, hb3⟩
 have HB3 := qh (HB2.out.trans (hb3.mono HB2.out.size))
 have HNq2 := qh (Old.NAt.later (fun b _ hl => hb3.block b hl) _ _ HNq.out)
 have HNp2 := qh (NAt.later (fun b _ hl => hb3.block b hl) _ _ HNp.out)
 clear hb3 HC4
 go_wp2_with fail
 exact bodyPost_ret (v := .tuple #[nPtr p, nPtr q, .bool true]) (by simp [results, Tryz.results17, go_sem]) rfl ⟨p, q, rfl, HNp2.out, HNq2.out, HB3.out⟩
theorem both_any (ws gs : List ByteArray) (s : ByteArray) (w : World) (hL : Lists ws gs w) (hT : Tabs w) (hR : RefLists ws w) (hg : gs = signsS) (hws : ∀ x ∈ ws, sgP 2 x = none) : Calls Tryz.prog 17 #[.string s] w (BoPost (bothS ws s) w) := by
 have hgs : ∀ g ∈ gs, 1 ≤ g.size := by rw [hg]; exact zyz
 unfold bothS
 by_cases hs : 3000 < s.size
 ·
  rw [if_pos hs]; exact both_long s w hs
 ·
  rw [if_neg hs]; have h1 := Old.rparse_any ws s w (by omega) hR hws
  cases hr : zbk ws s with
  | ok t =>
   rw [hr] at h1; have h2 := rparse_same hg (by omega) hgs hws (by rw [hg]; exact Old.tPM_not) hr
   have h3 := (parseS_kd h2).2; refine both_ok s w t (by omega) h3 h1 (fun W hb => ?_); rw [← h2]; exact parse_any ws gs s W (hL.later hb) hgs (hT.later hb)
  | bare => rw [hr] at h1; exact both_bad s w _ (by omega) (by nofun) h1
  | «at» a b => rw [hr] at h1; exact both_bad s w _ (by omega) (by nofun) h1
theorem bothS_count {ws gs : List ByteArray} {s : ByteArray} {t : Tr} (hg : gs = signsS) (hws : ∀ x ∈ ws, sgP 2 x = none) (h : bothS ws s = some t) : t.count ≤ 1500 ∧ t.kd = 1 ∧ parseS ws gs s = .ok t := by
 have hgs : ∀ g ∈ gs, 1 ≤ g.size := by rw [hg]; exact zyz
 unfold bothS at h
 split at h
 ·
  cases h
 ·
  cases hr : zbk ws s with
  | ok t2 =>
   rw [hr] at h; cases h; have h2 := rparse_same hg (by omega) hgs hws (by rw [hg]; exact Old.tPM_not) hr
   exact ⟨(parseS_kd h2).2, (parseS_kd h2).1, h2⟩
  | bare => rw [hr] at h; cases h
  | «at» a b => rw [hr] at h; cases h
abbrev SRow (B : Nat) (w : World) (v : Value) (l : List ByteArray) : Prop := w.ownsRow B 9 1 v l.length (l.map Value.string)
def hasB (l : List ByteArray) (s : ByteArray) : Bool := l.any (fun x => decide (s = x))
def addB (l : List ByteArray) (s : ByteArray) : List ByteArray := if hasB l s then l else l ++ [s]
def onceL (l : List ByteArray) : List ByteArray := l.foldl addB []
abbrev NTr (w : World) (t : Tr) (p : Nat) : Prop := NAt (fun _ => True) w t p
def NRow (B : Nat) (w : World) (v : Value) (ts : List Tr) : Prop := ∃ ps : List Nat, w.ownsRow B 22 1 v ps.length (ps.map nPtr) ∧ NLs (fun _ => True) w ts ps
theorem Below.stay {I : Nat → Prop} {w w' : World} (h : Below w.heap.size w w') : Stay I w w' := fun b _ hl => h.block b hl
theorem NTr.later {w w' : World} {t : Tr} {p : Nat} (h : NTr w t p) (hb : Below w.heap.size w w') : NTr w' t p := NAt.later (Below.stay hb) _ _ h
theorem NRow.later {B : Nat} {w w' : World} {v : Value} {ts : List Tr} (h : NRow B w v ts) (hb : Below w.heap.size w w') : NRow B w' v ts := by
 obtain ⟨ps, h1, h2⟩ := h
 exact ⟨ps, zx2 (I := fun _ => True) (Below.stay hb) (fun _ _ => trivial) h1, NLs.later (Below.stay hb) _ _ h2⟩
theorem SRow.later {B : Nat} {w w' : World} {v : Value} {l : List ByteArray} (h : SRow B w v l) (hb : Below w.heap.size w w') : SRow B w' v l := zx2 (I := fun _ => True) (Below.stay hb) (fun _ _ => trivial) h
theorem NRow.form {B : Nat} {w : World} {v : Value} {ts : List Tr} (h : NRow B w v ts) : ∃ a cap, v = .slice a ts.length cap := by
 obtain ⟨ps, h1, h2⟩ := h
 rw [← NLs.length _ _ h2]
 exact zjj h1
theorem NRow.nil (B : Nat) (w : World) : NRow B w (.slice none 0 0) [] := ⟨[], ⟨rfl, Or.inl ⟨rfl, rfl⟩⟩, NLs.nil⟩
theorem NRow.cell {B : Nat} {w : World} {v : Value} {ts : List Tr} (h : NRow B w v ts) (k : Nat) (hk : k < ts.length) : ∃ g cap p, v = .slice (some ⟨g, 0, none⟩) ts.length cap ∧ g < w.heap.size ∧ w.cell? ⟨g, k, none⟩ = some (nPtr p) ∧ NTr w ts[k] p := by
 obtain ⟨ps, h1, h2⟩ := h
 have hl := NLs.length _ _ h2
 obtain ⟨g, cap, rfl, hc⟩ := zv2 h1 (by omega)
 obtain ⟨hp, hn⟩ := NLs.get _ _ h2 k hk
 exact ⟨g, cap, ps[k], by rw [hl], (zx6 h1 g rfl).1, hc k hp, hn⟩
theorem NRow.own {B : Nat} {w : World} {v : Value} {ts : List Tr} (h : NRow B w v ts) (g : Nat) (hg : v.ownBlock = some g) : g < w.heap.size ∧ B ≤ g := by
 obtain ⟨ps, h1, h2⟩ := h
 exact zx6 h1 g hg
theorem NTr.cells {w : World} {t : Tr} {p : Nat} (h : NTr w t p) : p < w.heap.size ∧ w.cell? ⟨p, 0, none⟩ = some (.int .i64 t.kd) ∧ w.cell? ⟨p, 1, none⟩ = some (.string t.tx) ∧ ∃ u, w.cell? ⟨p, 3, none⟩ = some u ∧ NRow 0 w u t.kids := by
 obtain ⟨u, ps, hb, hr, _, hk⟩ := NAt.opens2 h
 obtain ⟨c0, c1, _, c3, _⟩ := zzj hb
 exact ⟨zzz hb, c0, c1, u, c3, ps, hr, NAts.nl _ _ hk⟩
abbrev fnV (F : Nat) : Value := .func (.func F) #[] #[]
def isFnT (t : Tr) : Bool := t.kd == 5
def isLetT (t : Tr) : Bool := t.kd == 3 || t.kd == 4
def isFunT (t : Tr) : Bool := t.kd == 5 || t.kd == 37
def fnsT (t : Tr) : List Tr := t.kids.filter isFnT
def letsT (t : Tr) : List Tr := t.kids.filter isLetT
inductive Ad where
 | mk (p : Nat) (kd : Int) (tx : ByteArray) (n : Int) (ks : List Ad)
def Ad.p : Ad → Nat | .mk p _ _ _ _ => p
def Ad.kd : Ad → Int | .mk _ kd _ _ _ => kd
def Ad.tx : Ad → ByteArray | .mk _ _ tx _ _ => tx
def Ad.ks : Ad → List Ad | .mk _ _ _ _ ks => ks
mutual
def Ad.tr : Ad → Tr
 | .mk _ kd tx n ks => .mk kd tx n (Ad.trs ks)
def Ad.trs : List Ad → List Tr
 | [] => []
 | a :: es => a.tr :: Ad.trs es
end
mutual
def Ad.ads : Ad → List Nat
 | .mk p _ _ _ ks => p :: Ad.adss ks
def Ad.adss : List Ad → List Nat
 | [] => []
 | a :: es => a.ads ++ Ad.adss es
end
mutual
def AAt (I : Nat → Prop) (w : World) : Ad → Prop
 | .mk p kd tx n ks => NAt I w (.mk kd tx n (Ad.trs ks)) p ∧ I p ∧ (∃ v, w.heap[p]? = some (zzk kd tx n v) ∧ KRow I w v (ks.map Ad.p)) ∧ AAts I w ks
def AAts (I : Nat → Prop) (w : World) : List Ad → Prop
 | [] => True
 | a :: es => AAt I w a ∧ AAts I w es
end
theorem AAts.mem {I : Nat → Prop} {w : World} : ∀ (es : List Ad), AAts I w es → ∀ a ∈ es, AAt I w a
 | [], _, _, h => absurd h (by simp)
 | x :: es, h, a, ha => by
  rw [AAts] at h
  rcases List.mem_cons.1 ha with rfl | ha
  ·
   exact h.1
  ·
   exact AAts.mem es h.2 a ha
mutual
theorem AAt.later {I : Nat → Prop} {w w' : World} (hs : Stay I w w') : ∀ a : Ad, AAt I w a → AAt I w' a
 | .mk p kd tx n ks, h => by
  rw [AAt] at h ⊢; obtain ⟨hn, hp, ⟨v, hb, hr⟩, hk⟩ := h; exact ⟨NAt.later hs _ _ hn, hp, ⟨v, by rw [hs p hp (zzz hb)]; exact hb, zx2 hs hr.2 hr.1, hr.2⟩, AAts.later hs ks hk⟩
theorem AAts.later {I : Nat → Prop} {w w' : World} (hs : Stay I w w') : ∀ es : List Ad, AAts I w es → AAts I w' es
 | [], _ => by rw [AAts]; trivial
 | a :: es, h => by
  rw [AAts] at h ⊢; exact ⟨AAt.later hs a h.1, AAts.later hs es h.2⟩
end
mutual
theorem AAt.mono {I J : Nat → Prop} {w : World} (hJ : ∀ b, I b → b < w.heap.size → J b) : ∀ a : Ad, AAt I w a → AAt J w a
 | .mk p kd tx n ks, h => by
  rw [AAt] at h ⊢; obtain ⟨hn, hp, ⟨v, hb, hr⟩, hk⟩ := h; exact ⟨NAt.mono hJ _ _ hn, hJ p hp (zzz hb), ⟨v, hb, hr.1, fun g hg => hJ g (hr.2 g hg) (zx6 hr.1 g hg).1⟩, AAts.mono hJ ks hk⟩
theorem AAts.mono {I J : Nat → Prop} {w : World} (hJ : ∀ b, I b → b < w.heap.size → J b) : ∀ es : List Ad, AAts I w es → AAts J w es
 | [], _ => by rw [AAts]; trivial
 | a :: es, h => by
  rw [AAts] at h ⊢; exact ⟨AAt.mono hJ a h.1, AAts.mono hJ es h.2⟩
end
theorem trs_map : ∀ es : List Ad, Ad.trs es = es.map Ad.tr
 | [] => by rw [Ad.trs]; rfl
 | a :: es => by rw [Ad.trs, trs_map es]; rfl
theorem Ad.tr_eq (a : Ad) : a.tr.kd = a.kd ∧ a.tr.tx = a.tx ∧ a.tr.kids = a.ks.map Ad.tr := by
 cases a with
 | mk p kd tx n ks => rw [Ad.tr, trs_map]; exact ⟨rfl, rfl, rfl⟩
theorem AAt.parts {I : Nat → Prop} {w : World} {a : Ad} (h : AAt I w a) : ∀ k ∈ a.ks, AAt I w k := by
 cases a with
 | mk p kd tx n ks => rw [AAt] at h; exact AAts.mem ks h.2.2.2
mutual
theorem NAt.ad {I : Nat → Prop} {w : World} : ∀ (t : Tr) (p : Nat), NAt I w t p → ∃ a : Ad, a.tr = t ∧ a.p = p ∧ AAt I w a ∧ a.ads.Nodup ∧ ∀ b ∈ a.ads, I b
 | .mk kd tx n ks, p, h => by
  have hn := h; rw [NAt] at h; obtain ⟨hp, v, ps, hb, hr, hk⟩ := h; obtain ⟨es, h1, h2, h3, h4, h5⟩ := NAts.ads ks ps hk; refine ⟨.mk p kd tx n es, by rw [Ad.tr, trs_map, h1], rfl, ?_, ?_, ?_⟩
  ·
   rw [AAt, h2, trs_map, h1]; exact ⟨hn, hp, ⟨v, hb, hr⟩, AAts.mono (fun b hb _ => hb.1) es h3⟩
  ·
   rw [Ad.ads, List.nodup_cons]; exact ⟨fun hm => (h5 p hm).2 rfl, h4⟩
  ·
   rw [Ad.ads]; intro b hb
   rcases List.mem_cons.1 hb with rfl | hb
   ·
    exact hp
   ·
    exact (h5 b hb).1
theorem NAts.ads {I : Nat → Prop} {w : World} : ∀ (ts : List Tr) (ps : List Nat), NAts I w ts ps → ∃ es : List Ad, es.map Ad.tr = ts ∧ es.map Ad.p = ps ∧ AAts I w es ∧ (Ad.adss es).Nodup ∧ ∀ b ∈ Ad.adss es, I b
 | [], ps, h => by
  rw [NAts] at h; subst h; exact ⟨[], rfl, rfl, by rw [AAts]; trivial, by rw [Ad.adss]; exact List.nodup_nil, by rw [Ad.adss]; intro b hb; cases hb⟩
 | t :: ts, ps, h => by
  rw [NAts] at h; obtain ⟨p, ps', M, rfl, h1, h2⟩ := h; obtain ⟨a, a1, a2, a3, a4, a5⟩ := NAt.ad t p h1; obtain ⟨es, b1, b2, b3, b4, b5⟩ := NAts.ads ts ps' h2
  refine ⟨a :: es, by rw [List.map_cons, a1, b1], by rw [List.map_cons, a2, b2], ?_, ?_, ?_⟩
  ·
   rw [AAts]; exact ⟨AAt.mono (fun b hb _ => hb.1) a a3, AAts.mono (fun b hb _ => hb.1) es b3⟩
  ·
   rw [Ad.adss, List.nodup_append]; refine ⟨a4, b4, fun x hx y hy e => ?_⟩; have h8 := (a5 x hx).2; have h9 := (b5 y hy).2; omega
  ·
   rw [Ad.adss]; intro b hb
   rcases List.mem_append.1 hb with hb | hb
   ·
    exact (a5 b hb).1
   ·
    exact (b5 b hb).1
end
theorem AAt.cells {I : Nat → Prop} {w : World} {a : Ad} (h : AAt I w a) : I a.p ∧ a.p < w.heap.size ∧ w.cell? ⟨a.p, 0, none⟩ = some (.int .i64 a.kd) ∧ w.cell? ⟨a.p, 1, none⟩ = some (.string a.tx) ∧
  ∃ v, w.cell? ⟨a.p, 3, none⟩ = some v ∧ KRow I w v (a.ks.map Ad.p) := by
 cases a with
 | mk p kd tx n ks =>
  rw [AAt] at h; obtain ⟨_, hp, ⟨v, hb, hr⟩, _⟩ := h; obtain ⟨c0, c1, _, c3, _⟩ := zzj hb; exact ⟨hp, zzz hb, c0, c1, v, c3, hr⟩
mutual
def Ad.cnt : Ad → Nat
 | .mk _ _ _ _ ks => 1 + Ad.cnts ks
def Ad.cnts : List Ad → Nat
 | [] => 0
 | a :: es => a.cnt + Ad.cnts es
end
mutual
theorem Ad.cnt_tr : ∀ a : Ad, a.tr.count = a.cnt
 | .mk p kd tx n ks => by rw [Ad.tr, zq3, Ad.cnt, Ad.cnts_tr ks]
theorem Ad.cnts_tr : ∀ es : List Ad, Tr.counts (Ad.trs es) = Ad.cnts es
 | [] => by rw [Ad.trs, Ad.cnts, zqv]
 | a :: es => by rw [Ad.trs, zqz, Ad.cnts, Ad.cnt_tr a, Ad.cnts_tr es]
end
mutual
theorem Ad.ads_len : ∀ a : Ad, a.ads.length = a.cnt
 | .mk p kd tx n ks => by rw [Ad.ads, List.length_cons, Ad.adss_len ks, Ad.cnt, Nat.add_comm]
theorem Ad.adss_len : ∀ es : List Ad, (Ad.adss es).length = Ad.cnts es
 | [] => by rw [Ad.adss, Ad.cnts]; rfl
 | a :: es => by rw [Ad.adss, List.length_append, Ad.ads_len a, Ad.adss_len es, Ad.cnts]
end
theorem adss_app : ∀ a b : List Ad, Ad.adss (a ++ b) = Ad.adss a ++ Ad.adss b
 | [], b => by rw [Ad.adss]; rfl
 | x :: a, b => by rw [List.cons_append, Ad.adss, Ad.adss, adss_app a b, List.append_assoc]
theorem cnts_app : ∀ a b : List Ad, Ad.cnts (a ++ b) = Ad.cnts a + Ad.cnts b
 | [], b => by rw [Ad.cnts, List.nil_append, Nat.zero_add]
 | x :: a, b => by rw [List.cons_append, Ad.cnts, Ad.cnts, cnts_app a b, Nat.add_assoc]
theorem cnt_pos (a : Ad) : 1 ≤ a.cnt := by cases a with | mk p kd tx n ks => rw [Ad.cnt]; omega
theorem cnts_len : ∀ es : List Ad, es.length ≤ Ad.cnts es
 | [] => Nat.zero_le _
 | a :: es => by
  have h1 := cnt_pos a; have h2 := cnts_len es; rw [Ad.cnts, List.length_cons]; omega
theorem cnts_mem : ∀ (es : List Ad) (a : Ad), a ∈ es → a.cnt ≤ Ad.cnts es
 | [], _, h => absurd h (by simp)
 | x :: es, a, h => by
  rw [Ad.cnts]
  rcases List.mem_cons.1 h with rfl | h
  ·
   omega
  ·
   have := cnts_mem es a h; omega
theorem cnt_eq (a : Ad) : a.cnt = 1 + Ad.cnts a.ks := by cases a with | mk p kd tx n ks => rw [Ad.cnt]; rfl
theorem ads_eq (a : Ad) : a.ads = a.p :: Ad.adss a.ks := by cases a with | mk p kd tx n ks => rw [Ad.ads]; rfl
mutual
def wk {α : Type} (f : α → Ad → α × Bool) : α → Ad → α
 | a, .mk p kd tx n ks => if (f a (.mk p kd tx n ks)).2 then wks f (f a (.mk p kd tx n ks)).1 ks else (f a (.mk p kd tx n ks)).1
def wks {α : Type} (f : α → Ad → α × Bool) : α → List Ad → α
 | a, [] => a
 | a, k :: ks => wks f (wk f a k) ks
end
theorem wk_eq {α : Type} (f : α → Ad → α × Bool) (a : α) (t : Ad) : wk f a t = if (f a t).2 then wks f (f a t).1 t.ks else (f a t).1 := by
 cases t with
 | mk p kd tx n ks => rw [wk]; rfl
theorem wks_app {α : Type} (f : α → Ad → α × Bool) : ∀ (l m : List Ad) (a : α), wks f a (l ++ m) = wks f (wks f a l) m
 | [], m, a => by rw [List.nil_append, wks]
 | k :: l, m, a => by rw [List.cons_append, wks, wks, wks_app f l m]
theorem wks_take {α : Type} (f : α → Ad → α × Bool) (l : List Ad) (a : α) (k : Nat) (hk : k < l.length) : wks f a (l.take (k + 1)) = wk f (wks f a (l.take k)) l[k] := by
 rw [List.take_succ_eq_append_getElem hk, wks_app, wks, wks]
theorem walkG {α : Type} (F : Nat) (x : Value) (I : Nat → Prop) (Rl : World → World → Prop) (Inv : α → World → Prop) (f : α → Ad → α × Bool) (P : α → List Ad → Prop)
  (hen : ∀ args W, (callFunc F args).run Tryz.prog W = .ok (.enter F args) W) (hfn : ∀ W : World, (binOp .eql 54 (.func (.func F) #[] #[x]) .nilFunc).run Tryz.prog W = .ok (.bool false) W)
  (htr : ∀ a b c, Rl a b → Rl b c → Rl a c) (hsy : ∀ w w', Rl w w' → Stay I w w' ∧ w.heap.size ≤ w'.heap.size)
  (hP : ∀ a t ts, P a (t :: ts) → P (f a t).1 ((if (f a t).2 then t.ks else []) ++ ts))
  (hst : ∀ a t ts w, P a (t :: ts) → Inv a w → AAt I w t → Calls Tryz.prog F #[nPtr t.p, x] w fun e w' => e = .returned (.bool (f a t).2) ∧ Inv (f a t).1 w' ∧ Rl w w') :
  ∀ (m : Nat) (t : Ad), t.cnt ≤ m → m ≤ 90000 → ∀ (ts : List Ad) (a : α) (w : World), P a (t :: ts) → Inv a w → AAt I w t →
   Calls Tryz.prog 31 #[nPtr t.p, .func (.func F) #[] #[x]] w fun e w' => e = .returned (.tuple #[]) ∧ Inv (wk f a t) w' ∧ P (wk f a t) ts ∧ Rl w w' := by
 intro m
 induction m with
 | zero => intro t ht; have := cnt_pos t; omega
 | succ m ih =>
  intro t ht hm ts a w hp0 hi hnt; obtain ⟨hIp, hpl, _, _, v, f3, hrow, hri⟩ := hnt.cells; have hlen : (t.ks.map Ad.p).length = t.ks.length := List.length_map _; obtain ⟨ua, uc, hu⟩ := zjj hrow; subst hu
  rw [hlen] at f3; have HC := qh (hst a t ts w hp0 hi hnt); have HP0 := qh (hP a t ts hp0); have HW := qh (wk_eq f a t); have HKS := qh hnt.parts; have HROW := qh hrow; have HRI := qh hri; have HIH := qh (ih)
  have HHT := qh ht; have HHM := qh hm; have HF3 := qh f3; have HPL := qh hpl; have HIP := qh hIp; have HLEN := qh hlen; have HTR := qh htr; have HSY := qh hsy
  have hkb : t.ks.length ≤ 90000 := by have h1 := cnts_len t.ks; have h2 := cnt_eq t; omega
  clear hst hP hi hnt hrow hri ih ht hm f3 hpl hIp hlen htr hsy hp0; obtain ⟨p, hp⟩ : ∃ p, p = t.p := ⟨_, rfl⟩; rw [← hp] at HC HF3 HPL HIP ⊢; clear hp
  cases hx : (f a t).2 with
  | false =>
   rw [hx] at HC HP0 HW; clear hx; go_enter Tryz.func31, Tryz.ntmps31; go_wp2_with fail; refine cm HC.out ?_; rintro e w1 ⟨rfl, hg1, ha1⟩; have HG1 := qh hg1; have HA1 := qh ha1; clear HC hg1 ha1; go_wp2_with fail
   exact bodyPost_ret (v := .tuple #[]) (by simp [results, Tryz.results31, go_sem]) rfl ⟨rfl, by rw [HW.out]; exact HG1.out, by rw [HW.out]; exact HP0.out, HA1.out⟩
  | true =>
   rw [hx] at HC HP0 HW; clear hx; obtain ⟨a1, ha1⟩ : ∃ a1, a1 = (f a t).1 := ⟨_, rfl⟩; rw [← ha1] at HC HP0 HW; clear ha1; go_enter Tryz.func31, Tryz.ntmps31; go_wp2_with fail; refine cm HC.out ?_
   rintro e w1 ⟨rfl, hg1, ha1⟩; obtain ⟨hs1, hz1⟩ := zzq HSY _ _ ha1; have g3 : w1.cell? ⟨p, 3, none⟩ = some (.slice ua t.ks.length uc) := by rw [World.cell?_of_block (w := w) (hs1 p HIP.out HPL.out)]; exact zzq HF3
   have hpl1 : p < w1.heap.size := Nat.lt_of_lt_of_le HPL.out hz1; have HG1 := qh hg1; have HA1 := qh ha1; clear HC hg1 ha1 hs1 hz1; go_wp2_with fail
   go_loopw [23] (fun i wr => ∃ k : Nat, k ≤ t.ks.length ∧ i = .int .i64 k ∧ Inv (wks f a1 (t.ks.take k)) wr ∧ P (wks f a1 (t.ks.take k)) (t.ks.drop k ++ ts) ∧ Rl w wr) (fun i _ => t.ks.length - (intOf i).toNat)
   case atStart => exact ⟨0, Nat.zero_le _, rfl, by rw [List.take_zero, wks]; exact HG1.out, by rw [List.take_zero, wks]; exact HP0.out, HA1.out⟩
   case round =>
    obtain ⟨k, hk, rfl, hg, hpk, hap⟩ := hrel; have HGK := qh hg; have HPK := qh hpk; have HAK := qh hap; clear hg hap hpk
    by_cases hlt : k < t.ks.length
    ·
     obtain ⟨g, cap, hv, hcell⟩ := zv2 HROW.out (by rw [HLEN.out]; omega)
     simp only [Value.slice.injEq] at hv; obtain ⟨rfl, _, rfl⟩ := hv; have hkp : k < (t.ks.map Ad.p).length := by rw [HLEN.out]; exact hlt
     have hgb := zzq HRI g rfl; have hgl := (zx6 HROW.out g rfl).1; obtain ⟨hs2, hz2⟩ := zzq HSY _ _ HAK.out; obtain ⟨q, hq⟩ : ∃ q, q = (t.ks[k]).p := ⟨_, rfl⟩
     have hck : wr.cell? ⟨g, k, none⟩ = some (nPtr q) := by
      rw [World.cell?_of_block (w := w) (a := ⟨g, k, none⟩) (hs2 g hgb hgl), hcell k hkp, List.getElem_map, hq]
     have hnk : AAt I wr t.ks[k] := AAt.later hs2 _ (zzq HKS _ (List.getElem_mem hlt)); have hgl2 : g < wr.heap.size := Nat.lt_of_lt_of_le hgl hz2; have hcn : (t.ks[k]).cnt ≤ m := by
      have h1 := cnts_mem t.ks _ (List.getElem_mem hlt); have h2 := cnt_eq t; have h3 := zzq HHT; omega
     have hpk := zzq HPK; rw [List.drop_eq_getElem_cons hlt, List.cons_append] at hpk; have HC := qh (HIH.out t.ks[k] hcn (by have := zzq HHM; omega) (t.ks.drop (k + 1) ++ ts) _ wr hpk HGK.out hnk)
     have HWK := qh (wks_take f t.ks a1 k hlt); rw [← hq] at HC; have hki : (k : Int) < (t.ks.length : Int) := by omega
     clear hcell hnk hcn hpk hs2 hz2 hq; go_wp2_with fail; refine cm HC.out ?_; rintro e w2 ⟨rfl, hc2, hp2, ha2⟩; have HC2 := qh hc2; have HP2 := qh hp2; have HA2 := qh (zzq HTR _ _ _ HAK.out ha2)
     clear hc2 ha2 hp2 HC hck; go_wp2_with fail
     go_roundw
     case rel => exact ⟨k + 1, by omega, by go_num, by rw [HWK.out]; exact HC2.out, by rw [HWK.out]; exact HP2.out, HA2.out⟩
     case measure => simp [intOf]; omega
    ·
     have hk2 : k = t.ks.length := by omega
     subst hk2; go_wp2_with fail
     go_end0
     have h1 := zzq HGK; have h2 := zzq HPK; rw [List.take_length] at h1 h2; rw [List.drop_length, List.nil_append] at h2; rw [HW.out]; exact ⟨rfl, h1, h2, HAK.out⟩
def mkP (e : (Nat × Value) × Nat) : MapEntry := { key := nPtr e.1.1, val := e.1.2, born := e.2 }
def mapP (l : List (Nat × Value)) : Array MapEntry := ((l.zipIdx).map mkP).toArray
def Cl (W : World) (p : Nat) : Prop := ∃ cs t, W.heap[p]? = some (.cells cs t (0, 0))
theorem sz49 (W : World) : (sizeOf 49).run Tryz.prog W = .ok 4 W := by kernel_rfl
theorem eq_ptr {W : World} {p q : Nat} (hp : Cl W p) (hq : Cl W q) : (Op.equal 22 (nPtr p) (nPtr q)).run Tryz.prog W = .ok (decide (p = q)) W := by
 obtain ⟨ca, ta, ha⟩ := hp
 obtain ⟨cb, tb, hb⟩ := hq
 have h22 := Tryz.underlying22
 show (Op.equalIn (9999 + 1) 22 (nPtr p) (nPtr q)).run Tryz.prog W = _
 rw [Op.equalIn, Sem.run_bind, run_underlying h22 W]
 simp only [Result.andThen_ok, Sem.run_bind, sz49]
 by_cases h : p = q
 ·
  subst h; rw [decide_eq_true rfl]; exact run_sameAddr_same _ _
 ·
  rw [decide_eq_false h]; exact run_sameAddr_other W (a := ⟨p, 0, none⟩) (b := ⟨q, 0, none⟩) (fun e => h (by cases e; rfl)) ha hb
theorem find_ptr {W : World} {p : Nat} (hp : Cl W p) : ∀ (l : List (Nat × Value)) (n i : Nat), (∀ e ∈ l, Cl W e.1) →
  ∃ o, (Instr.findAsking 22 (nPtr p) ((l.zipIdx n).map mkP) i).run Tryz.prog W = .ok o W ∧ o.map (·.2) = (l.find? (fun e => decide (p = e.1))).map (·.2)
 | [], _, _, _ => ⟨none, rfl, rfl⟩
 | e :: l, n, i, h => by
  have h1 := eq_ptr hp (h e (by simp)); simp only [List.zipIdx_cons, List.map_cons, Instr.findAsking, mkP, Sem.run_bind, h1, Result.andThen_ok, List.find?_cons]
  cases hd : decide (p = e.1)
  ·
   simp only [Bool.false_eq_true, if_false]; exact find_ptr hp l (n + 1) (i + 1) (fun e he => h e (by simp [he]))
  ·
   exact ⟨some (i, e.2), rfl, rfl⟩
theorem key_ptr {W : World} {p : Nat} (hp : Cl W p) (l : List (Nat × Value)) (h : ∀ e ∈ l, Cl W e.1) :
  ∃ o, (Instr.findKey 22 (nPtr p) (mapP l).toList).run Tryz.prog W = .ok o W ∧ o.map (·.2) = (l.find? (fun e => decide (p = e.1))).map (·.2) := by
 have h22 := Tryz.underlying22
 cases l with
 | nil =>
  refine ⟨none, ?_, rfl⟩; unfold Instr.findKey; rw [Sem.run_bind, run_underlying h22 W]; rfl
 | cons e l =>
  obtain ⟨o, h1, h2⟩ := find_ptr hp (e :: l) 0 0 h; refine ⟨o, ?_, h2⟩; unfold Instr.findKey; rw [Sem.run_bind, run_underlying h22 W]; simp only [Result.andThen_ok, mapP]; exact h1
theorem lookup_ptr (m k : Nat) (l : List (Nat × Value)) (p : Nat) (W : World) (hm : W.heap[m]? = some (.map (mapP l) k)) (hp : Cl W p) (hl : ∀ e ∈ l, Cl W e.1) :
  (Instr.lookup 44 (.map (some m)) (nPtr p) false).run Tryz.prog W = .ok (((l.find? (fun e => decide (p = e.1))).map (·.2)).getD (.int .i64 0)) W := by
 obtain ⟨o, h3, h2⟩ := key_ptr hp l hl
 have h22 := Tryz.underlying22
 have h44 := Tryz.underlying44
 have hz : (zeroValue 3).run Tryz.prog W = .ok (.int .i64 0) W := by kernel_rfl
 unfold Instr.lookup
 rw [Sem.run_bind, run_underlying h44 W]
 have hck : ∀ b, (Instr.checkKey b 10000 22 (nPtr p)).run Tryz.prog W = .ok () W := by
  intro b; rw [Instr.checkKey, Sem.run_bind, run_underlying h22 W]; rfl
 have hg : (getObj m).run Tryz.prog W = .ok (.map (mapP l) k) W := by simp [getObj, Sem.run, hm]
 simp only [Result.andThen_ok, Sem.run_bind, hg, Sem.run_pure, hck, h3]
 cases o with
 | none =>
  cases hf : l.find? (fun e => decide (p = e.1)) with
  | none => simp [hz]
  | some x => rw [hf] at h2; simp at h2
 | some y =>
  cases hf : l.find? (fun e => decide (p = e.1)) with
  | none => rw [hf] at h2; simp at h2
  | some x => rw [hf] at h2; simp at h2; simp [h2]
theorem mapP_snoc (l : List (Nat × Value)) (k : Nat) (v : Value) : (mapP l).push { key := nPtr k, val := v, born := l.length } = mapP (l ++ [(k, v)]) := by
 unfold mapP
 rw [List.zipIdx_append, List.map_append]
 simp [mkP, List.zipIdx]
theorem update_ptr (m : Nat) (l : List (Nat × Value)) (p : Nat) (v : Value) (W : World) (hm : W.heap[m]? = some (.map (mapP l) l.length)) (hp : Cl W p) (hl : ∀ e ∈ l, Cl W e.1) (hn : l.find? (fun e => decide (p = e.1)) = none) :
  (Instr.mapUpdate 44 (.map (some m)) (nPtr p) v).run Tryz.prog W = .ok () (zjx W m (.map (mapP (l ++ [(p, v)])) (l.length + 1))) := by
 obtain ⟨o, h3, h2⟩ := key_ptr hp l hl
 have h22 := Tryz.underlying22
 have h44 := Tryz.underlying44
 have ho : o = none := by
  rw [hn] at h2
  cases o with
  | none => rfl
  | some y => simp at h2
 subst ho
 have hck : ∀ b, (Instr.checkKey b 10000 22 (nPtr p)).run Tryz.prog W = .ok () W := by
  intro b; rw [Instr.checkKey, Sem.run_bind, run_underlying h22 W]; rfl
 have hg : (getObj m).run Tryz.prog W = .ok (.map (mapP l) l.length) W := by simp [getObj, Sem.run, hm]
 unfold Instr.mapUpdate
 rw [Sem.run_bind, run_underlying h44 W]
 simp only [Result.andThen_ok, Sem.run_bind, hg, hck, h3]
 rw [mapP_snoc]
 simp [setObj, Sem.run, hm, zjx]
theorem len_ptr (l : List (Nat × Value)) : (mapP l).size = l.length := by simp [mapP]
end Go.Proofs.YtoimgcjbcbhclaaGreatDoor
