/-
  The document's parser: all parts together, at every bound.
-/
import Derived.Test.YtoimgcjbcbhclaaGreatDoorRn27
import Derived.Test.YtoimgcjbcbhclaaGreatDoorRn28
import Derived.Test.YtoimgcjbcbhclaaGreatDoorRn29
import Derived.Test.YtoimgcjbcbhclaaGreatDoorRn30
import Derived.Test.YtoimgcjbcbhclaaGreatDoorRn31
namespace Go.Proofs.YtoimgcjbcbhclaaGreatDoor.Old
open Go.RowKit
theorem rest_any {c : PC} {F : Fns} (hF : RCt c F) (hN : ∃ k, FNx c.l k F) (hK : FOk F) : RestC c F where
 choice := by
  intro w d i r hd hf hs ho h; unfold zy2 at hs; rw [tx_of (by decide) hf, show zk9 tIf = 7 from by decide +kernel] at hs; exact rst_if hF hN hK w d i r hd hf hs ho h
 attempt := by
  intro w d i r hd hf hs ho h; unfold zw2 at hs; have hm : zz0 c.l tTry i = .ok () (i + 1) := by unfold zz0; rw [if_pos hf]
  rw [hm, zzv] at hs
  cases hb : zq0 c.l F d (i + 1) with
  | out => rw [hb] at hs; exact absurd hs ho
  | bad er pl => exact rst_try_a hF hN hK w d i r hd er pl hf hb hs ho h
  | ok b j =>
   by_cases hc : fx c.l j = zj5
   ·
    by_cases hno : ∃ k3 b2 k4, zq0 c.l F d k3 = .ok b2 k4 ∧ ∃ s k1 k2, zz0 c.l zxk (j + 1) = .ok () k1 ∧ zjq c.l k1 = .ok s k2 ∧ zz0 c.l zjy k2 = .ok () k3
    ·
     obtain ⟨k3, b2, k4, h4, s, k1, k2, h1, h2, h3⟩ := hno
     by_cases hf0 : fx c.l k4 = zxz
     ·
      exact rst_try_f hF hN hK w d i r hd b j s k1 k2 k3 k4 b2 hf hb hc h1 h2 h3 h4 hf0 hs ho h
     ·
      exact rst_try_e hF hN hK w d i r hd b j s k1 k2 k3 k4 b2 hf hb hc h1 h2 h3 h4 hf0 hs ho h
    ·
     exact rst_try_d hF hN hK w d i r hd b j hf hb hc (fun k3 b2 k4 h4 s k1 k2 h1 h2 h3 => hno ⟨k3, b2, k4, h4, s, k1, k2, h1, h2, h3⟩) hs ho h
   ·
    by_cases hf0 : fx c.l j = zxz
    ·
     exact rst_try_c hF hN hK w d i r hd b j hf hb hc hf0 hs ho h
    ·
     exact rst_try_b hF hN hK w d i r hd b j hf hb hc hf0 hs ho h
 decl := by
  intro w d i r hd hf hs ho h
  rcases hf with hf | hf | hf
  ·
   exact rst_var hF hN hK w d i r hd hf hs ho h
  ·
   exact rst_let hF hN hK w d i r hd hf hs ho h
  ·
   exact rst_const hF hN hK w d i r hd hf hs ho h
theorem rfns_all {c : PC} (hE : Ends c.l) (k : Nat) : RCt c (rfns c.l k) := rfns_does hE (fun _ hF hN hK => rest_any hF hN hK) k
end Go.Proofs.YtoimgcjbcbhclaaGreatDoor.Old
namespace Go.Proofs.YtoimgcjbcbhclaaGreatDoor
def Imp {α : Type} (r r' : PR α) : Prop := ∀ x j, r = .ok x j → r' = .ok x j ∨ r' = .out
theorem Imp.refl {α : Type} (r : PR α) : Imp r r := fun _ _ h => Or.inl h
theorem Imp.out {α : Type} (r : PR α) : Imp r .out := fun _ _ _ => Or.inr rfl
theorem Imp.bad {α : Type} {r : PR α} {er : Int} {p : Nat} : Imp (.bad er p) r := fun _ _ h => by cases h
theorem Imp.bind {α β : Type} {r r' : PR α} {f f' : α → Nat → PR β} (h : Imp r r') (hf : ∀ x j, Imp (f x j) (f' x j)) : Imp (r.bind f) (r'.bind f') := by
 intro x j e
 cases r with
 | ok y k =>
  rcases h y k rfl with h1 | h1
  ·
   rw [h1]; exact hf y k x j e
  ·
   rw [h1]; exact Or.inr rfl
 | bad er p => cases e
 | out => cases e
theorem Imp.bind_r {α β : Type} {r : PR α} {f f' : α → Nat → PR β} (hf : ∀ x j, Imp (f x j) (f' x j)) : Imp (r.bind f) (r.bind f') := Imp.bind (Imp.refl r) hf
structure FImp (F G : Fns) : Prop where
 st : ∀ d i, Imp (F.st d i) (G.st d i)
 vl : ∀ d i, Imp (F.vl d i) (G.vl d i)
 pr : ∀ b d i, 2 ≤ b → b ≤ 8 → Imp (F.pr b d i) (G.pr b d i)
 sg : ∀ d i, Imp (F.sg d i) (G.sg d i)
theorem zmw {α β : Type} {r : PR α} {f : α → Nat → PR β} {x : β} {j : Nat} (h : r.bind f = .ok x j) : ∃ y k, r = .ok y k ∧ f y k = .ok x j := by
 cases r with
 | ok y k => exact ⟨y, k, rfl, h⟩
 | bad er p => cases h
 | out => cases h
section
variable {l : List Tk}
theorem zvw {f g : Nat → Nat → PR Tr} {d i : Nat} (h : Imp (f (d + 1) i) (g (d + 1) i)) : Imp (zq2 l f d i) (zq2 l g d i) := by
 unfold zq2
 split
 ·
  exact Imp.refl _
 ·
  exact h
theorem blockLoop_imp {F G : Fns} (h : FImp F G) (d : Nat) : ∀ n n' acc i, Imp (zx7 l F d n acc i) (zx7 l G d n' acc i) := by
 intro n
 induction n with
 | zero => intro n' acc i x j e; cases e
 | succ n ih =>
  intro n' acc i
  cases n' with
  | zero => exact Imp.out _
  | succ n' =>
   unfold zx7
   split
   ·
    exact Imp.refl _
   ·
    exact Imp.bind (zvw (h.st _ _)) fun t i1 => ih n' _ i1
theorem zd0 {F G : Fns} (h : FImp F G) (d i : Nat) : Imp (zq0 l F d i) (zq0 l G d i) := by
 unfold zq0
 exact Imp.bind_r fun _ i1 => Imp.bind (blockLoop_imp h d _ _ [] i1) fun ts i2 => Imp.refl _
theorem rlistLoop_imp {shut : ByteArray} {begins : Nat → Bool} {part part' : Nat → PR Tr} (hp : ∀ i, Imp (part i) (part' i)) :
  ∀ n n' acc i, acc.length ≠ 0 → ∀ x j, zx1 l shut part n acc i = .ok x j →
   (if fx l i = shut then PR.ok acc (i + 1) else (zz0 l zh5 i).bind fun _ i2 => zvz l shut begins part' n' acc i2) = .ok x j ∨
   (if fx l i = shut then PR.ok acc (i + 1) else (zz0 l zh5 i).bind fun _ i2 => zvz l shut begins part' n' acc i2) = .out := by
 intro n
 induction n with
 | zero => intro n' acc i _ x j e; cases e
 | succ n ih =>
  intro n' acc i ha x j e; unfold zx1 at e
  split at e
  ·
   rename_i hf
   rw [if_pos hf]; exact Or.inl e
  ·
   rename_i hf
   rw [if_neg hf]; obtain ⟨_, i1, e1, e2⟩ := zmw e; rw [e1]
   split at e2
   ·
    cases e2
   ·
    rename_i h8
    obtain ⟨t, i2, e3, e4⟩ := zmw e2; change zvz l shut begins part' n' acc i1 = .ok x j ∨ zvz l shut begins part' n' acc i1 = .out
    cases n' with
    | zero => exact Or.inr rfl
    | succ n' =>
     unfold zvz; rw [if_neg (fun h => h8 h.1)]
     rcases hp i1 t i2 e3 with h1 | h1
     ·
      rw [h1]; exact ih n' (acc ++ [t]) i2 (by simp) x j e4
     ·
      rw [h1]; exact Or.inr rfl
theorem rlist_imp {opn shut : ByteArray} {begins : Nat → Bool} {part part' : Nat → PR Tr} (hp : ∀ i, Imp (part i) (part' i)) (n n' i : Nat) :
  Imp ((zz0 l opn i).bind fun _ i1 => zx1 l shut part n [] i1) (zg9 l opn shut begins part' n' i) := by
 unfold zg9
 refine Imp.bind_r fun _ i1 => ?_
 intro x j e
 cases n with
 | zero => cases e
 | succ n =>
  unfold zx1 at e
  split at e
  ·
   rename_i hf
   rw [if_pos hf]; exact Or.inl e
  ·
   rename_i hf
   rw [if_neg hf]; rw [if_pos (by rfl)] at e; have e' : (part i1).bind (fun t i2 => zx1 l shut part n ([] ++ [t]) i2) = .ok x j := e; obtain ⟨t, i2, e3, e4⟩ := zmw e'
   cases n' with
   | zero => exact Or.inr rfl
   | succ n' =>
    unfold zvz; rw [if_neg (fun h => by cases h.1)]
    rcases hp i1 t i2 e3 with h1 | h1
    ·
     rw [h1]; exact rlistLoop_imp hp n n' ([] ++ [t]) i2 (by simp) x j e4
    ·
     rw [h1]; exact Or.inr rfl
theorem rparamsP_imp {F G : Fns} (i : Nat) : Imp (zgx l F i) (zyw l G i) := by
 unfold zgx zyw
 rw [← zyx]
 exact Imp.bind (rlist_imp (fun _ => Imp.refl _) _ _ _) fun _ _ => Imp.refl _
theorem propP_imp {F G : Fns} (h : FImp F G) (d i : Nat) : Imp (zd8 l F d i) (zd8 l G d i) := by
 unfold zd8
 exact Imp.bind_r fun _ _ => Imp.bind_r fun _ i2 => Imp.bind (zvw (h.vl _ _)) fun _ _ => Imp.refl _
theorem robjectP_imp {F G : Fns} (h : FImp F G) (d i : Nat) : Imp (zd4 l F d i) (zd9 l G d i) := by
 unfold zd4 zd9
 rw [← zyx]
 exact Imp.bind (rlist_imp (fun i => propP_imp h d i) _ _ _) fun _ _ => Imp.refl _
theorem zd7 {F G : Fns} (h : FImp F G) (kd : Int) (s : ByteArray) (d i : Nat) : Imp (zvv l F kd s d i) (zw0 l G kd s d i) := by
 unfold zvv zw0
 exact Imp.bind (rparamsP_imp i) fun _ i1 => Imp.bind (zd0 h d i1) fun _ _ => Imp.refl _
theorem rlambdaP_imp {F G : Fns} (h : FImp F G) (d i : Nat) : Imp (zd5 l F d i) (zfq l G d i) := by
 unfold zd5 zfq
 refine Imp.bind_r fun _ i1 => ?_
 split
 ·
  exact Imp.bind_r fun _ _ => zd7 h _ _ _ _
 ·
  exact zd7 h _ _ _ _
theorem rfuncP_imp {F G : Fns} (h : FImp F G) (d i : Nat) : Imp (rfuncP l F d i) (funcP l G d i) := by
 unfold rfuncP funcP
 exact Imp.bind_r fun _ i1 => Imp.bind_r fun _ _ => zd7 h _ _ _ _
theorem zm7 {F G : Fns} (h : FImp F G) (d i : Nat) : Imp (zv4 l F d i) (zv4 l G d i) := by
 unfold zv4
 exact Imp.bind_r fun _ i1 => Imp.bind (zvw (h.vl _ _)) fun _ _ => Imp.refl _
theorem fx_none {i : Nat} (h2 : (tkA l i).kd ≠ 2) (h5 : (tkA l i).kd ≠ 5) : fx l i = zzx := by
 unfold fx
 rw [if_neg (by simp [h2, h5])]
theorem litK_sg {x : ByteArray} (h : 0 < litK x) : ∃ s, sgP 0 x = some s ∧ s.kd = litK x ∧ zxy vlKeys x = none := by
 unfold litK zxy at h ⊢
 cases hf : lits.find? (fun e => decide (x = e.1)) with
 | none => rw [hf] at h; exact absurd h (by decide)
 | some e =>
  have h1 := List.find?_some hf; have h2 := List.mem_of_find?_eq_some hf; have hx : x = e.1 := by simpa using h1
  have key : ∀ e ∈ lits, ∃ s, sgP 0 e.1 = some s ∧ s.kd = e.2 ∧ (vlKeys.find? (fun y => decide (e.1 = y.1))).map (·.2) = none := by
   intro e he
   rcases List.mem_cons.1 he with rfl | he
   ·
    exact ⟨_, rfl, rfl, rfl⟩
   rcases List.mem_cons.1 he with rfl | he
   ·
    exact ⟨_, rfl, rfl, rfl⟩
   rcases List.mem_cons.1 he with rfl | he
   ·
    exact ⟨_, rfl, rfl, rfl⟩
   rcases List.mem_cons.1 he with rfl | he
   ·
    exact ⟨_, rfl, rfl, rfl⟩
   cases he
  obtain ⟨s, k1, k2, k3⟩ := key e h2; exact ⟨s, by rw [hx]; exact k1, by simpa using k2, by rw [hx]; exact k3⟩
theorem raloneP_imp {F G : Fns} (h : FImp F G) (d i : Nat) : Imp (zf9 l F d i) (zh8 l G d i) := by
 have kn : zxy vlKeys zzx = none := by decide +kernel
 have sn : sgP 0 zzx = none := by decide +kernel
 unfold zf9
 split
 ·
  rename_i hk
  have hf := fx_none (l := l) (i := i) (by rw [hk]; decide) (by rw [hk]; decide)
  unfold zh8; rw [hf, kn, sn]; simp only; rw [if_pos hk]; exact Imp.refl _
 ·
  rename_i h1
  split
  ·
   rename_i hk
   have hf := fx_none (l := l) (i := i) (by rw [hk]; decide) (by rw [hk]; decide)
   unfold zh8; rw [hf, kn, sn]; simp only; rw [if_neg h1, if_neg (by rw [hk]; decide), if_pos hk]
   exact Imp.refl _
  ·
   split
   ·
    rename_i h3 hk
    have hf := fx_none (l := l) (i := i) (by rw [hk]; decide) (by rw [hk]; decide)
    unfold zh8; rw [hf, kn, sn]; simp only; rw [if_neg h1, if_pos hk]; exact Imp.refl _
   ·
    split
    ·
     rename_i hf
     have k0 : zxy vlKeys zxk = some 0 := by decide +kernel
     unfold zh8; rw [hf, k0]; exact zm7 h d i
    ·
     split
     ·
      rename_i hf
      have k0 : zxy vlKeys zzw = some 2 := by decide +kernel
      unfold zh8; rw [hf, k0]; exact rlambdaP_imp h d i
     ·
      split
      ·
       rename_i hf
       have k0 : zxy vlKeys zz4 = some 1 := by decide +kernel
       unfold zh8; rw [hf, k0]; exact robjectP_imp h d i
      ·
       split
       ·
        rename_i hk
        have hf : fx l i = (tkA l i).tx := by unfold fx; rw [if_pos (by simp [hk.1])]
        obtain ⟨s, k1, k2, k3⟩ := litK_sg hk.2; unfold zh8; rw [hf, k3, k1]; simp only; rw [k2]; exact Imp.refl _
       ·
        exact Imp.bad
theorem raskedLoop_imp {F G : Fns} (h : FImp F G) (d : Nat) : ∀ n n' t i, Imp (zk5 l F d n t i) (zwx l G d n' t i) := by
 intro n
 induction n with
 | zero => intro n' t i x j e; cases e
 | succ n ih =>
  intro n' t i
  cases n' with
  | zero => exact Imp.out _
  | succ n' =>
   unfold zk5 zwx
   split
   ·
    exact Imp.bind_r fun _ _ => ih n' _ _
   ·
    split
    ·
     rename_i hf
     have hm : zz0 l zxk i = .ok () (i + 1) := by unfold zz0; rw [if_pos hf]
     have hr : rargsP l F d (i + 1) = (zz0 l zxk i).bind fun _ i1 => zx1 l zjy (argP l F d) F.fuel [] i1 := by rw [hm]; rfl
     rw [hr]; exact Imp.bind (rlist_imp (fun i => zvw (h.vl _ _)) _ _ _) fun _ _ => ih n' _ _
    ·
     exact Imp.refl _
theorem raskedP_imp {F G : Fns} (h : FImp F G) (d i : Nat) : Imp (zg1 l F d i) (zd1 l G d i) := by
 unfold zg1 zd1
 exact Imp.bind (raloneP_imp h d i) fun t i1 => raskedLoop_imp h d _ _ t i1
theorem rsingleP_imp {F G : Fns} (h : FImp F G) (d i : Nat) : Imp (zb3 l F d i) (zd3 l G d i) := by
 unfold zb3 zd3
 cases sgP 1 (fx l i) with
 | some s => exact Imp.bind (zvw (h.sg _ _)) fun _ _ => Imp.refl _
 | none => exact raskedP_imp h d i
theorem valueP_imp {F G : Fns} (h : FImp F G) (d i : Nat) : Imp (zb7 l F d i) (zb7 l G d i) := by
 unfold zb7
 refine Imp.bind (h.pr 2 d i (by decide) (by decide)) fun t i1 => ?_
 split
 ·
  split
  ·
   exact Imp.bind (zvw (h.vl _ _)) fun _ _ => Imp.refl _
  ·
   exact Imp.refl _
 ·
  exact Imp.refl _
theorem exprP_imp {F G : Fns} (h : FImp F G) (d i : Nat) : Imp (zn0 l F d i) (zn0 l G d i) := by
 unfold zn0
 exact Imp.bind (zvw (h.vl _ _)) fun _ _ => Imp.refl _
theorem declP_imp {F G : Fns} (h : FImp F G) (d i : Nat) : Imp (zf0 l F d i) (zf0 l G d i) := by
 unfold zf0
 refine Imp.bind_r fun s i1 => ?_
 split
 ·
  exact Imp.refl _
 ·
  split
  ·
   exact Imp.bind (zvw (h.vl _ _)) fun _ _ => Imp.refl _
  ·
   exact Imp.refl _
theorem behindP_imp {F G : Fns} (h : FImp F G) (d i : Nat) : Imp (zvy l F d i) (zvy l G d i) := by
 unfold zvy
 exact Imp.bind (zm7 h d _) fun _ _ => Imp.bind (zvw (h.st _ _)) fun _ _ => Imp.refl _
theorem choiceP_imp {F G : Fns} (h : FImp F G) (d i : Nat) : Imp (zy2 l F d i) (zy2 l G d i) := by
 unfold zy2
 refine Imp.bind (zm7 h d _) fun _ _ => Imp.bind (zvw (h.st _ _)) fun _ _ => ?_
 split
 ·
  exact Imp.bind (zvw (h.st _ _)) fun _ _ => Imp.refl _
 ·
  exact Imp.refl _
theorem givingP_imp {F G : Fns} (h : FImp F G) (d i : Nat) : Imp (zw9 l F d i) (zw9 l G d i) := by
 unfold zw9
 split
 ·
  exact Imp.bind (zvw (h.vl _ _)) fun _ _ => Imp.refl _
 ·
  exact Imp.refl _
theorem catchP_imp {F G : Fns} (h : FImp F G) (d i : Nat) : Imp (zy3 l F d i) (zy3 l G d i) := by
 unfold zy3
 split
 ·
  exact Imp.bind_r fun _ _ => Imp.bind_r fun _ _ => Imp.bind_r fun _ _ => Imp.bind (zd0 h d _) fun _ _ => Imp.refl _
 ·
  exact Imp.refl _
theorem finallyP_imp {F G : Fns} (h : FImp F G) (d i : Nat) : Imp (zxw l F d i) (zxw l G d i) := by
 unfold zxw
 split
 ·
  exact Imp.bind (zd0 h d _) fun _ _ => Imp.refl _
 ·
  exact Imp.refl _
theorem attemptP_imp {F G : Fns} (h : FImp F G) (d i : Nat) : Imp (zw2 l F d i) (zw2 l G d i) := by
 unfold zw2
 exact Imp.bind_r fun _ _ => Imp.bind (zd0 h d _) fun _ _ => Imp.bind (catchP_imp h d _) fun _ _ => Imp.bind (finallyP_imp h d _) fun _ _ => Imp.refl _
theorem rstatementP_imp {F G : Fns} (h : FImp F G) (d i : Nat) : Imp (zkj l F d i) (zvx l G d i) := by
 unfold zkj zvx
 cases zxy stKeys (fx l i) with
 | none => exact exprP_imp h d i
 | some q =>
  show Imp (rpartP l F d q i) (partP l G d q i)
  match q with
  | 0 => exact declP_imp h d i
  | 1 => exact rfuncP_imp h d i
  | 2 => exact zd0 h d i
  | 3 => exact Imp.refl _
  | 4 => exact choiceP_imp h d i
  | 5 => exact behindP_imp h d i
  | 6 => exact givingP_imp h d i
  | _ + 7 => exact attemptP_imp h d i
def NoSg (l : List Tk) : Prop := ∀ i, (tkA l i).kd = 2 → sgP 2 (tkA l i).tx = none
def EndAt (l : List Tk) (b : Int) (j : Nat) : Prop := ∀ s, sgP 2 (fx l j) = some s → s.str < b
def lvAt (b : Nat) : ByteArray := lvls.getD (b - 2) zzx
theorem sgP2_mem {x : ByteArray} {s : Sg} (h : sgP 2 x = some s) : s ∈ sgs ∧ s.parts = 2 ∧ x = s.tx := by
 unfold sgP at h
 rw [Option.filter_eq_some_iff] at h
 obtain ⟨h1, h2⟩ := h
 unfold sgOf at h1
 exact ⟨List.mem_of_find?_eq_some h1, by simpa using h2, by simpa using List.find?_some h1⟩
theorem fits_sg : ∀ b, 2 ≤ b → b ≤ 7 → ∀ x, x ≠ tPM → zny (lvAt b) x = true → ∃ s, sgP 2 x = some s ∧ s.str = (b : Int) ∧ s.kd = opK x := by
 intro b h1 h2 x hx h
 have hb : b = 2 ∨ b = 3 ∨ b = 4 ∨ b = 5 ∨ b = 6 ∨ b = 7 := by omega
 unfold zny at h
 rcases hb with rfl | rfl | rfl | rfl | rfl | rfl
 ·
  have : x = tOr := by have h' : (decide (x = tOr) || false) = true := h; simpa using h'
  subst this; exact ⟨_, rfl, rfl, rfl⟩
 ·
  have : x = tAnd := by have h' : (decide (x = tAnd) || false) = true := h; simpa using h'
  subst this; exact ⟨_, rfl, rfl, rfl⟩
 ·
  have : x = tSame := by have h' : (decide (x = tSame) || false) = true := h; simpa using h'
  subst this; exact ⟨_, rfl, rfl, rfl⟩
 ·
  have : x = tLess := by have h' : (decide (x = tLess) || false) = true := h; simpa using h'
  subst this; exact ⟨_, rfl, rfl, rfl⟩
 ·
  have h' : (decide (x = tPM) || (true && (decide (x = tAdd) || decide (x = tSub)))) = true := h; simp only [Bool.true_and, Bool.or_eq_true, decide_eq_true_eq] at h'
  rcases h' with h' | h' | h'
  ·
   exact absurd h' hx
  all_goals
   subst h'; exact ⟨_, rfl, rfl, rfl⟩
 ·
  have : x = tMul := by have h' : (decide (x = tMul) || false) = true := h; simpa using h'
  subst this; exact ⟨_, rfl, rfl, rfl⟩
theorem sg_fits {x : ByteArray} {s : Sg} (h : sgP 2 x = some s) : 2 ≤ s.str ∧ s.str ≤ 7 ∧ zny (lvAt s.str.toNat) x = true := by
 obtain ⟨h1, h2, h3⟩ := sgP2_mem h
 have key : ∀ s ∈ sgs, s.parts = 2 → 2 ≤ s.str ∧ s.str ≤ 7 ∧ zny (lvAt s.str.toNat) s.tx = true := by decide +kernel
 rw [h3]
 exact key s h1 h2
def NoPM (l : List Tk) : Prop := ∀ i, (tkA l i).kd = 5 → (tkA l i).tx ≠ tPM
def Reach (l : List Tk) (G : Fns) (d : Nat) (b : Int) (t : Tr) (i : Nat) (x : Tr) (j : Nat) : Prop :=
 ∀ n, (∃ m, zk7 l G b d n t i = zk7 l G b d m x j) ∨ zk7 l G b d n t i = .out
theorem Reach.refl {G : Fns} {d : Nat} {b : Int} (t : Tr) (i : Nat) : Reach l G d b t i t i := fun n => Or.inl ⟨n, rfl⟩
theorem Reach.trans {G : Fns} {d : Nat} {b : Int} {t x y : Tr} {i j k : Nat} (h : Reach l G d b t i x j) (h2 : Reach l G d b x j y k) : Reach l G d b t i y k := by
 intro n
 rcases h n with ⟨m, e⟩ | e
 ·
  rw [e]; exact h2 m
 ·
  exact Or.inr e
theorem Reach.step {G : Fns} {d : Nat} {b : Int} {t u : Tr} {i j : Nat} {s : Sg} (hs : sgP 2 (fx l i) = some s) (hb : b ≤ s.str) (hu : G.pr (s.str + 1) d (i + 1) = .ok u j) : Reach l G d b t i (.mk s.kd zzx 0 [t, u]) j := by
 intro n
 cases n with
 | zero => exact Or.inr rfl
 | succ n =>
  refine Or.inl ⟨n, ?_⟩
  conv => lhs; unfold zk7
  rw [hs]; simp only; rw [if_neg (by omega), hu]; rfl
theorem Reach.stuck {G : Fns} {d : Nat} {b : Int} {t : Tr} {i : Nat} {s : Sg} (hs : sgP 2 (fx l i) = some s) (hb : b ≤ s.str) (hu : G.pr (s.str + 1) d (i + 1) = .out) (x : Tr) (j : Nat) : Reach l G d b t i x j := by
 intro n
 refine Or.inr ?_
 cases n with
 | zero => rfl
 | succ n =>
  unfold zk7; rw [hs]; simp only; rw [if_neg (by omega), hu]; rfl
variable (hN : NoSg l) (hPM : NoPM l)
include hN hPM
theorem fits_iff {i b : Nat} (h1 : 2 ≤ b) (h2 : b ≤ 7) : (∃ s, sgP 2 (fx l i) = some s ∧ s.str = (b : Int) ∧ s.kd = opK (tkA l i).tx) ↔ ((tkA l i).kd = 5 ∧ zny (lvAt b) (tkA l i).tx = true) := by
 constructor
 ·
  rintro ⟨s, hs, hb, hk⟩; have hne : fx l i ≠ zzx := by
   intro e; rw [e] at hs; have : sgP 2 zzx = none := by decide +kernel
   rw [this] at hs; cases hs
  have hk2 : (tkA l i).kd = 2 ∨ (tkA l i).kd = 5 := by
   by_cases h : (tkA l i).kd = 2 ∨ (tkA l i).kd = 5
   ·
    exact h
   ·
    exact absurd (fx_none (fun e => h (Or.inl e)) (fun e => h (Or.inr e))) hne
  have hf : fx l i = (tkA l i).tx := by unfold fx; rw [if_pos (by simpa using hk2)]
  rw [hf] at hs
  rcases hk2 with h | h
  ·
   rw [hN i h] at hs; cases hs
  ·
   refine ⟨h, ?_⟩; have := (sg_fits hs).2.2; rw [hb] at this; simpa using this
 ·
  rintro ⟨h5, hf⟩; have he : fx l i = (tkA l i).tx := by unfold fx; rw [if_pos (by simp [h5])]
  rw [he]; exact fits_sg b h1 h2 _ (hPM i h5) hf
theorem rpairLoop_reach {G : Fns} {d b : Nat} {sub : Nat → PR Tr} (h1 : 2 ≤ b) (h2 : b ≤ 7) (hp : ∀ i, Imp (sub i) (G.pr ((b : Int) + 1) d i)) (he : ∀ i u j, sub i = .ok u j → EndAt l ((b : Int) + 1) j) :
  ∀ n t i, EndAt l ((b : Int) + 1) i → ∀ x j, zj2 l sub (lvAt b) n t i = .ok x j → (∀ b' : Int, b' ≤ (b : Int) → Reach l G d b' t i x j) ∧ EndAt l (b : Int) j := by
 intro n
 induction n with
 | zero => intro t i _ x j e; cases e
 | succ n ih =>
  intro t i hE x j e; unfold zj2 at e
  split at e
  ·
   rename_i hf
   obtain ⟨s, hs, hsb, hsk⟩ := (fits_iff hN hPM h1 h2).2 hf; obtain ⟨u, i1, e1, e2⟩ := zmw e; have hE1 := he _ _ _ e1; rw [← hsk] at e2; obtain ⟨r1, r2⟩ := ih _ i1 hE1 x j e2; refine ⟨fun b' hb' => ?_, r2⟩
   rcases hp _ _ _ e1 with hu | hu
   ·
    rw [← hsb] at hu; exact (Reach.step hs (by omega) hu).trans (r1 b' hb')
   ·
    rw [← hsb] at hu; exact Reach.stuck hs (by omega) hu x j
  ·
   rename_i hf
   cases e; refine ⟨fun b' _ => Reach.refl _ _, fun s hs => ?_⟩; have h3 := hE s hs
   by_cases hsb : s.str = (b : Int)
   ·
    exfalso; refine hf ((fits_iff hN hPM h1 h2).1 ⟨s, hs, hsb, ?_⟩); have hne : fx l i ≠ zzx := by
     intro e; rw [e] at hs; have : sgP 2 zzx = none := by decide +kernel
     rw [this] at hs; cases hs
    have hfx : fx l i = (tkA l i).tx := by
     unfold fx at hne ⊢
     split
     ·
      rfl
     ·
      rename_i hc; rw [if_neg hc] at hne; exact absurd rfl hne
    obtain ⟨m1, m2, m3⟩ := sgP2_mem hs; have key : ∀ s ∈ sgs, s.parts = 2 → s.kd = opK s.tx := by decide +kernel
    rw [← hfx, m3]; exact key s m1 m2
   ·
    omega
theorem rpairs_reach {F G : Fns} {d : Nat} (hs : ∀ i, Imp (F.sg d i) (G.sg d i)) (hp : ∀ (b : Nat) i, 3 ≤ b → b ≤ 8 → Imp (zkx l F d (lvls.drop (b - 2)) i) (G.pr (b : Int) d i)) :
  ∀ c b, b + c = 8 → 2 ≤ b → ∀ i x j, zkx l F d (lvls.drop (b - 2)) i = .ok x j →
   (∀ b' : Int, b' ≤ (b : Int) → ∀ n, (∃ m, (G.sg d i).bind (fun t i1 => zk7 l G b' d n t i1) = zk7 l G b' d m x j) ∨ (G.sg d i).bind (fun t i1 => zk7 l G b' d n t i1) = .out) ∧ EndAt l (b : Int) j := by
 intro c
 induction c with
 | zero =>
  intro b hb h2 i x j e; have hb8 : b = 8 := by omega
  subst hb8; have e' : F.sg d i = .ok x j := e; refine ⟨fun b' _ n => ?_, fun s h => ?_⟩
  ·
   rcases hs i x j e' with h | h
   ·
    rw [h]; exact Or.inl ⟨n, rfl⟩
   ·
    rw [h]; exact Or.inr rfl
  ·
   have := (sg_fits h).2.1; omega
 | succ c ih =>
  intro b hb h2 i x j e; have hlv : lvls.drop (b - 2) = lvAt b :: lvls.drop (b + 1 - 2) := by
   have hb' : b = 2 ∨ b = 3 ∨ b = 4 ∨ b = 5 ∨ b = 6 ∨ b = 7 := by omega
   rcases hb' with rfl | rfl | rfl | rfl | rfl | rfl <;> rfl
  rw [hlv] at e; unfold zkx at e; obtain ⟨t, i1, e1, e2⟩ := zmw e; obtain ⟨r1, r2⟩ := ih (b + 1) (by omega) (by omega) i t i1 e1; have hcast : (((b + 1 : Nat)) : Int) = (b : Int) + 1 := by omega
  rw [hcast] at r1 r2; obtain ⟨q1, q2⟩ := rpairLoop_reach hN hPM (G := G) (d := d) h2 (by omega) (fun i2 => by have := hp (b + 1) i2 (by omega) (by omega); rw [hcast] at this; exact this)
   (fun i2 u j2 e3 => by have := (ih (b + 1) (by omega) (by omega) i2 u j2 e3).2; rw [hcast] at this; exact this) _ t i1 r2 x j e2
  refine ⟨fun b' hb' n => ?_, q2⟩
  rcases r1 b' (by omega) n with ⟨m, em⟩ | em
  ·
   rw [em]; exact q1 b' hb' m
  ·
   exact Or.inr em
theorem rpr_imp {F G : Fns} {d : Nat} (hs : ∀ i, Imp (F.sg d i) (G.sg d i)) (hp : ∀ (b : Nat) i, 3 ≤ b → b ≤ 8 → Imp (zkx l F d (lvls.drop (b - 2)) i) (G.pr (b : Int) d i)) (b : Int) (h2 : 2 ≤ b) (h8 : b ≤ 8) (i : Nat) :
  Imp (rpr l F b d i) (pairP l G b d i) := by
 intro x j e
 obtain ⟨b, rfl⟩ := Int.eq_ofNat_of_zero_le (a := b) (by omega)
 have e' : zkx l F d (lvls.drop (b - 2)) i = .ok x j := by
  unfold rpr at e; rw [show ((b : Int) - 2).toNat = b - 2 by omega] at e; exact e
 obtain ⟨r1, r2⟩ := rpairs_reach hN hPM hs hp (8 - b) b (by omega) (by omega) i x j e'
 unfold pairP
 rcases r1 (b : Int) (Int.le_refl _) G.fuel with ⟨m, em⟩ | em
 ·
  rw [em]
  cases m with
  | zero => exact Or.inr rfl
  | succ m =>
   unfold zk7
   cases hsg : sgP 2 (fx l j) with
   | none => exact Or.inl rfl
   | some s =>
    simp only; rw [if_pos (r2 s hsg)]; exact Or.inl rfl
 ·
  exact Or.inr em
theorem rfns_imp : ∀ k' k, FImp (rfns l k) (fns l k') := by
 intro k'
 induction k' with
 | zero => intro k; exact ⟨fun _ _ => Imp.out _, fun _ _ => Imp.out _, fun _ _ _ _ _ => Imp.out _, fun _ _ => Imp.out _⟩
 | succ k' ih =>
  intro k
  cases k with
  | zero => exact ⟨fun _ _ _ _ h => (by cases h), fun _ _ _ _ h => (by cases h), fun _ _ _ _ _ _ _ h => (by cases h), fun _ _ _ _ h => (by cases h)⟩
  | succ k =>
   have h := ih k; refine ⟨fun d i => rstatementP_imp h d i, fun d i => valueP_imp h d i, fun b d i h2 h8 => ?_, fun d i => rsingleP_imp h d i⟩; refine rpr_imp hN hPM (fun i => h.sg d i) (fun b i h3 h8 => ?_) b h2 h8 i
   have := (ih (k + 1)).pr (b : Int) d i (by omega) (by omega); have e : (rfns l (k + 1)).pr (b : Int) d i = zkx l (rfns l k) d (lvls.drop (b - 2)) i := by
    show rpr l (rfns l k) (b : Int) d i = _
    unfold rpr; rw [show ((b : Int) - 2).toNat = b - 2 by omega]
   rw [e] at this; exact this
theorem rprog_imp (k k' : Nat) : Imp (zh2 l (rfns l k)) (zh2 l (fns l k')) := by
 have h := rfns_imp hN hPM k' k
 have loop : ∀ n n' acc i, Imp (zjv l (rfns l k) n acc i) (zjv l (fns l k') n' acc i) := by
  intro n
  induction n with
  | zero => intro n' acc i x j e; cases e
  | succ n ih =>
   intro n' acc i
   cases n' with
   | zero => exact Imp.out _
   | succ n' =>
    unfold zjv
    split
    ·
     exact Imp.refl _
    ·
     exact Imp.bind (zvw (h.st _ _)) fun t i1 => ih n' _ i1
 unfold zh2
 exact Imp.bind (loop _ _ [] 0) fun _ _ => Imp.refl _
end
end Go.Proofs.YtoimgcjbcbhclaaGreatDoor
set_option maxRecDepth 100000
set_option maxHeartbeats 16000000
namespace Go.Proofs.YtoimgcjbcbhclaaGreatDoor
open Go.RowKit
abbrev F25 : Obj := .cells #[.int .i64 0, .int .i64 0] 86
theorem zw3 : (Tryz.prog.info? 167).map (fun i => (i.zero, i.size, i.bytes)) = some (some zwv, 4, 40) := by kernel_rfl
theorem own_below {E : TypeId} {wr w3 : World} {B : Nat} {v : Value} {n : Nat} {xs : List Value} (hb : Below wr.heap.size wr w3) (h : wr.ownsRow B E 4 v n xs) : w3.ownsRow B E 4 v n xs := by
 obtain ⟨hl, h0 | ⟨g, cap, cur, hv, hge, hh, hr⟩⟩ := h
 ·
  exact ⟨hl, Or.inl h0⟩
 ·
  exact ⟨hl, Or.inr ⟨g, cap, cur, hv, hge, by rw [hb.block g (Array.getElem?_eq_some_iff.1 hh).1]; exact hh, hr⟩⟩
theorem own_base {E : TypeId} {w : World} {B B' : Nat} {v : Value} {n : Nat} {xs : List Value} (hb : B' ≤ B) (h : w.ownsRow B E 4 v n xs) : w.ownsRow B' E 4 v n xs := by
 obtain ⟨hl, h0 | ⟨g, cap, cur, hv, hge, hr⟩⟩ := h
 ·
  exact ⟨hl, Or.inl h0⟩
 ·
  exact ⟨hl, Or.inr ⟨g, cap, cur, hv, by omega, hr⟩⟩
theorem own_grown {E : TypeId} {B : Nat} {W0 wx w1 : World} {v : Value} {n : Nat} {xs : List Value} (hB : Below B W0 wx) (hsz : B ≤ wx.heap.size) (hown : wx.ownsRow B E 4 v n xs) (hg : wx.grownBy w1 v.ownBlock) :
  Below B W0 w1 := hB.grown hg hsz (fun k hk => by
  obtain ⟨_, ⟨rfl, _⟩ | ⟨g, cap, cur, rfl, hge, _⟩⟩ := hown
  ·
   simp [Value.ownBlock] at hk
  ·
   simp [Value.ownBlock] at hk; omega)
structure RInv (w : World) (acc : List Tk) (v : Value) (wr : World) : Prop where
 own : wr.ownsRow (w.heap.size + 1) 167 4 v acc.length (zj1 acc)
 bel : Below (w.heap.size + 1) (w.alloc F25) wr
theorem RInv.size {w : World} {acc : List Tk} {v : Value} {wr : World} (h : RInv w acc v wr) : w.heap.size + 1 ≤ wr.heap.size := by
 have := h.bel.size; simp at this; exact this
theorem RInv.app {w : World} {acc : List Tk} {v v' : Value} {wr w1 : World} {t : Tk} (h : RInv w acc v wr) (o : Obj) (hown' : w1.ownsRow (w.heap.size + 1) 167 4 v' (acc.length + 1) (zj1 acc ++ zb5 t))
  (hg : (wr.alloc o).grownBy w1 v.ownBlock) : RInv w (acc ++ [t]) v' w1 := by
 have hz := h.size
 exact ⟨by rw [zd2, List.length_append]; exact hown', own_grown (h.bel.alloc hz o) (by simp; omega) (h.own.alloc o) hg⟩
def UPost (r : TR) (w : World) (e : Ending) (w' : World) : Prop :=
 match r with
 | .ok l => ∃ v, e = .returned (.tuple #[v, .agg #[.int .i64 0, .int .i64 (-1)]]) ∧ w'.ownsRow w.heap.size 167 4 v l.length (zj1 l) ∧ Below w.heap.size w w'
 | .bad er p => e = .returned (.tuple #[.slice none 0 0, .agg #[.int .i64 er, .int .i64 (p : Int)]]) ∧ Below w.heap.size w w'
theorem RInv.out {w : World} {acc : List Tk} {v : Value} {wr : World} (h : RInv w acc v wr) (v0 v1 : Value) :
  Below w.heap.size w ((wr.setCell ⟨w.heap.size, 0, none⟩ v0).setCell ⟨w.heap.size, 1, none⟩ v1) := by
 have b0 : Below w.heap.size w (w.alloc F25) := qb.alloc qv _
 exact ((b0.trans (h.bel.mono (by omega))).setCell qv _).setCell qv _
theorem RInv.cells {w : World} {acc : List Tk} {v : Value} {wr : World} (h : RInv w acc v wr) :
  wr.cell? ⟨w.heap.size, 0, none⟩ = some (.int .i64 0) ∧ wr.cell? ⟨w.heap.size, 1, none⟩ = some (.int .i64 0) ∧ wr.frozen? ⟨w.heap.size, 0, none⟩ = false ∧ wr.frozen? ⟨w.heap.size, 1, none⟩ = false := by
 have c := fun o => h.bel.cell (p := ⟨w.heap.size, o, none⟩) (by simp)
 have f := fun o => h.bel.frozen (p := ⟨w.heap.size, o, none⟩) (by simp)
 refine ⟨?_, ?_, ?_, ?_⟩
 ·
  rw [c]; simp
 ·
  rw [c]; simp
 all_goals
  rw [f]; simp
theorem RInv.later {w : World} {acc : List Tk} {v : Value} {wr w3 : World} (h : RInv w acc v wr) (hb : Below wr.heap.size wr w3) : RInv w acc v w3 :=
 ⟨own_below hb h.own, h.bel.trans (hb.mono h.size)⟩
structure RefLists (ws : List ByteArray) (w : World) : Prop where
 lw : ws.length = 19
 hw : ∃ a cap, w.cell? ⟨4, 0, none⟩ = some (.slice (some a) 19 cap) ∧ ∀ i, i < ws.length → w.cell? (a.add i) = some (.string (ws.getD i ByteArray.empty))
 f0 : w.cell? ⟨1, 0, none⟩ = some (.int .i64 0)
 f1 : w.cell? ⟨1, 1, none⟩ = some (.int .i64 (-1))
theorem zw8 {w : World} {a : Addr} {v : Value} (h : w.cell? a = some v) : a.block < w.heap.size := by
 unfold World.cell? at h
 by_cases hb : a.block < w.heap.size
 ·
  exact hb
 ·
  rw [Array.getElem?_eq_none (by omega)] at h; simp at h
theorem RefLists.later {ws : List ByteArray} {w w' : World} (h : RefLists ws w) (hb : Below w.heap.size w w') : RefLists ws w' := by
 obtain ⟨a, cap, h2, h3⟩ := h.hw
 exact ⟨h.lw, ⟨a, cap, by rw [hb.cell (zw8 h2)]; exact h2, fun i hi => by rw [hb.cell (zw8 (h3 i hi))]; exact h3 i hi⟩, by rw [hb.cell (zw8 h.f0)]; exact h.f0, by rw [hb.cell (zw8 h.f1)]; exact h.f1⟩
theorem RefLists.word {ws : List ByteArray} {w : World} (h : RefLists ws w) (s : ByteArray) : Calls Tryz.prog 135 #[.string s] w fun e w' => e = .returned (.bool (isIn ws s)) ∧ w' = w := by
 obtain ⟨a, cap, h2, h3⟩ := h.hw
 exact refIsWord_any a cap ws s w h.lw h2 h3
theorem RInv.lists {ws : List ByteArray} {w : World} {acc : List Tk} {v : Value} {wr : World} (h : RInv w acc v wr) (hL : RefLists ws w) : RefLists ws wr := by
 have b0 : Below w.heap.size w (w.alloc F25) := qb.alloc qv _
 exact hL.later (b0.trans (h.bel.mono (by omega)))
def zbw : Code → Option Code
 | .loop c => some c
 | .seq a b => match zbw a with
  | some c => some c
  | none => zbw b
 | .block _ c => zbw c
 | .scope c => zbw c
 | .cond _ a b => match zbw a with
  | some c => some c
  | none => zbw b
 | _ => none
noncomputable def zh4 : Code := ((Tryz.f109.body.bind zbw).getD .skip)
def fr (s : ByteArray) (H : Nat) (v i : Value) (f : Nat → Value) : Act := ⟨#[.string s, undef, f 2, .pointer (some ⟨H, 0, none⟩), v, i, f 6, f 7, f 8, f 9, f 10, f 11, f 12, f 13, undef, f 15, .string s, .int .i64 (s.size : Int), .bool (decide (3000 < (s.size : Int))), undef, f 20, f 21, f 22, f 23, f 24, f 25, f 26, f 27, f 28, f 29, f 30, f 31, f 32, f 33, f 34, f 35, f 36, f 37, f 38, f 39, f 40, f 41, f 42, f 43, f 44, f 45, f 46, f 47, f 48, f 49, f 50, f 51, f 52, f 53, f 54, f 55, f 56, f 57, f 58, f 59, f 60, f 61, f 62, f 63, f 64, f 65, f 66, f 67, f 68, f 69, f 70, f 71, f 72, f 73, f 74, f 75, f 76, f 77, f 78, f 79, f 80, f 81, f 82, f 83, f 84, f 85, f 86, f 87, f 88, f 89, f 90, f 91, f 92, f 93, f 94, f 95, f 96, f 97, f 98, f 99, f 100, f 101, f 102, f 103, f 104, f 105, f 106, f 107, f 108, f 109, f 110, f 111, f 112, f 113, f 114, f 115, f 116, f 117, f 118, f 119, f 120, f 121, f 122, f 123, f 124, f 125, f 126, f 127, f 128, f 129, f 130, f 131, f 132, f 133, f 134, f 135, f 136, f 137, f 138, f 139, f 140, f 141, f 142, f 143, f 144, f 145, f 146, f 147, f 148, f 149, f 150, f 151, f 152, f 153, f 154, f 155, f 156, f 157, f 158, f 159, f 160, f 161, f 162, f 163, f 164, f 165, f 166, f 167, f 168, f 169, f 170, f 171, f 172, f 173, f 174, f 175, f 176, f 177, f 178, f 179, f 180, f 181, f 182, f 183, f 184, f 185, f 186, f 187, f 188, f 189, f 190, f 191, f 192, f 193, f 194, f 195, f 196, f 197, f 198, f 199, f 200, f 201, f 202, f 203, f 204, f 205, f 206, f 207, f 208, f 209, f 210, f 211, f 212, f 213, f 214, f 215, f 216, f 217, f 218, f 219, f 220, f 221, f 222, f 223, f 224, f 225, f 226, f 227, f 228, f 229, f 230, f 231, f 232, f 233, f 234, f 235, undef, undef, undef, undef, undef, undef, undef], []⟩
def mu6 (s : ByteArray) (a : Act) (_w : World) : Nat := s.size - (intOf (a.tmps.getD 5 undef)).toNat
def WI (ws : List ByteArray) (s : ByteArray) (w : World) (r : TR) (a : Act) (wr : World) : Prop :=
 ∃ (j : Nat) (acc : List Tk) (v : Value) (f : Nat → Value), j ≤ s.size ∧ acc.length ≤ j ∧ zj7 ws signsS s (zz3 gapB s j) acc = r ∧ RInv w acc v wr ∧ a = fr s w.heap.size v (.int .i64 (j : Int)) f
theorem znx {ws : List ByteArray} {s : ByteArray} {w : World} {r : TR} {a : Act} {wr : World} (j : Nat) (acc : List Tk) (v : Value) (h1 : j ≤ s.size) (h2 : acc.length ≤ j) (h3 : zj7 ws signsS s (zz3 gapB s j) acc = r) (h4 : RInv w acc v wr)
  (h5 : a = fr s w.heap.size v (.int .i64 (j : Int)) (fun k => a.tmps.getD k undef)) : WI ws s w r a wr := ⟨j, acc, v, _, h1, h2, h3, h4, h5⟩
abbrev Q6 (ws : List ByteArray) (s : ByteArray) (w : World) (r : TR) (K : Act → World → Prop) (n : Nat) : Exit → Act → World → Prop :=
 Exit.then (fun a' w'' => WI ws s w r a' w'' ∧ mu6 s a' w'' < n) (Exit.inBlock 0 (Exit.then K (bodyPost Tryz.prog Tryz.f109 (UPost r w))))
end Go.Proofs.YtoimgcjbcbhclaaGreatDoor
