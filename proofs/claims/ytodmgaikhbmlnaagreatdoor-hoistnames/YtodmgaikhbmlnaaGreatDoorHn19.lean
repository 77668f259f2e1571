/-
  The document's parser: statements of every kind, but for three that are asked as premises; all parts together, at every bound.
-/
import Derived.Test.YtodmgaikhbmlnaaGreatDoorHn18
set_option maxRecDepth 100000
set_option maxHeartbeats 16000000
namespace Go.Proofs.YtodmgaikhbmlnaaGreatDoor
open Go.RowKit
theorem rpart_kd {l : List Tk} {F : Fns} {d q i j : Nat} {t : Tr} (h : rpartP l F d q i = .ok t j) : t.kd ≠ 15 := by
 by_cases hq : q = 1
 ·
  subst hq; have h' : rfuncP l F d i = .ok t j := h; unfold rfuncP at h'; obtain ⟨_, _, _, h'⟩ := zq8 h'; obtain ⟨s, _, _, h'⟩ := zq8 h'; unfold zv1 at h'; obtain ⟨ps, _, _, h'⟩ := zq8 h'
  obtain ⟨b, _, _, h'⟩ := zq8 h'
  cases h'
  show (5 : Int) ≠ 15
  decide
 ·
  have he : rpartP l F d q i = partP l F d q i := by
   match q with
   | 0 => rfl
   | 1 => exact absurd rfl hq
   | 2 => rfl
   | 3 => rfl
   | 4 => rfl
   | 5 => rfl
   | 6 => rfl
   | n + 7 => rfl
  rw [he] at h; exact part_kd h
theorem rfns_ok (l : List Tk) : ∀ k, FOk (rfns l k) := by
 intro k
 cases k with
 | zero => intro d i t j h; cases h
 | succ k =>
  intro d i t j h h15; have h' : zky l (rfns l k) d i = .ok t j := h; unfold zky at h'
  split at h'
  ·
   exact absurd h15 (rpart_kd h')
  ·
   unfold zp4 at h'; obtain ⟨v, _, _, h'⟩ := zq8 h'; obtain ⟨_, _, _, h'⟩ := zq8 h'
   cases h'
   exact ⟨v, [], rfl⟩
structure RestC (c : PC) (F : Fns) : Prop where
 choice : ∀ w d i r, d ≤ 30 → fx c.l i = tIf → r = zy5 c.l F d i → r ≠ .out → Ps c w i 0 (-1) → Calls Tryz.prog 47 #[pPtr c, .int .i64 (d : Int)] w (zj6 c w (NV w.heap.size) ZN r)
 attempt : ∀ w d i r, d ≤ 30 → fx c.l i = tTry → r = zw4 c.l F d i → r ≠ .out → Ps c w i 0 (-1) → Calls Tryz.prog 47 #[pPtr c, .int .i64 (d : Int)] w (zj6 c w (NV w.heap.size) ZN r)
 decl : ∀ w d i r, d ≤ 30 → (fx c.l i = tVar ∨ fx c.l i = tLet ∨ fx c.l i = zq1) → r = zgq c.l F d i → r ≠ .out → Ps c w i 0 (-1) → Calls Tryz.prog 47 #[pPtr c, .int .i64 (d : Int)] w (zj6 c w (NV w.heap.size) ZN r)
theorem zh3 {l : List Tk} {F : Fns} {d i : Nat} {r : PR Tr} {s : ByteArray} (q : Nat) (hf : fx l i = s) (hk : zx1 stKeys s = some q) (hs : r = zky l F d i) : r = rpartP l F d q i := by
 unfold zky at hs
 rw [hf, hk] at hs
 exact hs
theorem tx_of {l : List Tk} {i : Nat} {s : ByteArray} (hs : s ≠ zzx) (hf : fx l i = s) : (tkA l i).tx = s := ((fx_is hs).1 hf).2
theorem rst_any {c : PC} {F : Fns} (hF : RCt c F) (hN : ∃ k, FNx c.l k F) (hK : FOk F) (hR : RestC c F) (w : World) (d i : Nat) (r : PR Tr) (hd : d ≤ 30) (hs : r = zky c.l F d i) (ho : r ≠ .out) (h : Ps c w i 0 (-1)) :
  Calls Tryz.prog 47 #[pPtr c, .int .i64 (d : Int)] w (zj6 c w (NV w.heap.size) ZN r) := by
 by_cases n0 : fx c.l i = zz4
 ·
  exact rst_block hF hN hK w d i r hd n0 (zh3 2 n0 (by decide +kernel) hs) ho h
 by_cases n1 : fx c.l i = zqz
 ·
  have h1 : r = (zz0 c.l zqz i).bind fun _ i1 => .ok (.mk 16 zzx 0 []) i1 := zh3 3 n1 (by decide +kernel) hs; unfold zz0 at h1; rw [if_pos n1] at h1; exact rst_empty hF hN hK w d i r hd n1 h1 ho h
 by_cases n2 : fx c.l i = zzw
 ·
  have h1 : r = (zz0 c.l zzw i).bind fun _ i1 => (zjq c.l i1).bind fun s i2 => zv1 c.l F 5 s d i2 := zh3 1 n2 (by decide +kernel) hs; unfold zz0 at h1; rw [if_pos n2] at h1
  exact rst_func hF hN hK w d i r hd n2 h1 ho h
 by_cases n3 : fx c.l i = tIf
 ·
  exact hR.choice w d i r hd n3 (zh3 4 n3 (by decide +kernel) hs) ho h
 by_cases n4 : fx c.l i = zjz
 ·
  have h1 : r = zv3 c.l F d i := zh3 5 n4 (by decide +kernel) hs; unfold zv3 at h1; rw [tx_of (by decide) n4, show zvj zjz = 8 from by decide +kernel] at h1; exact rst_while hF hN hK w d i r hd n4 h1 ho h
 by_cases n5 : fx c.l i = zv4
 ·
  have h1 : r = zv3 c.l F d i := zh3 5 n5 (by decide +kernel) hs; unfold zv3 at h1; rw [tx_of (by decide) n5, show zvj zv4 = 9 from by decide +kernel] at h1; exact rst_with hF hN hK w d i r hd n5 h1 ho h
 by_cases n6 : fx c.l i = tTry
 ·
  exact hR.attempt w d i r hd n6 (zh3 7 n6 (by decide +kernel) hs) ho h
 by_cases n7 : fx c.l i = tVar
 ·
  exact hR.decl w d i r hd (Or.inl n7) (zh3 0 n7 (by decide +kernel) hs) ho h
 by_cases n8 : fx c.l i = tLet
 ·
  exact hR.decl w d i r hd (Or.inr (Or.inl n8)) (zh3 0 n8 (by decide +kernel) hs) ho h
 by_cases n9 : fx c.l i = zq1
 ·
  exact hR.decl w d i r hd (Or.inr (Or.inr n9)) (zh3 0 n9 (by decide +kernel) hs) ho h
 by_cases n10 : fx c.l i = zw6
 ·
  have h1 : r = zyx c.l F d i := zh3 6 n10 (by decide +kernel) hs; unfold zyx at h1; rw [tx_of (by decide) n10, show zvj zw6 = 10 from by decide +kernel] at h1
  have h2 : ((10 : Int) = 11 ∨ ¬ fx c.l (i + 1) = zqz) ↔ ¬ fx c.l (i + 1) = zqz := ⟨fun h => h.resolve_left (by decide), Or.inr⟩; simp only [h2] at h1; exact rst_return hF hN hK w d i r hd n10 h1 ho h
 by_cases n11 : fx c.l i = zf9
 ·
  have h1 : r = zyx c.l F d i := zh3 6 n11 (by decide +kernel) hs; unfold zyx at h1; rw [tx_of (by decide) n11, show zvj zf9 = 11 from by decide +kernel, if_pos (Or.inl rfl)] at h1
  exact rst_throw hF hN hK w d i r hd n11 h1 ho h
 have hno : zx1 stKeys (fx c.l i) = none := by
  unfold zx1 stKeys; simp [n0, n1, n2, n3, n4, n5, n6, n7, n8, n9, n10, n11]
 unfold zky at hs
 rw [hno] at hs
 exact rst_expr hF hN hK w d i r hd n0 n1 n2 n3 n4 n5 n6 n7 n8 n9 n10 n11 hs ho h
theorem rst_limit (c : PC) (w : World) (i : Nat) (h : Ps c w i 0 (-1)) :
  Calls Tryz.prog 47 #[pPtr c, .int .i64 31] w (zj6 c w (NV w.heap.size) ZN (badF (α := Tr) c.l 4 i)) := by
 have HC := qh (zwv c w i 4 (by decide) h)
 clear h
 go_enter Tryz.func47, Tryz.ntmps47
 go_wp2_with fail
 refine cm HC.out ?_
 rintro e w2 ⟨⟨v, rfl, q, rfl⟩, hp, he, ha⟩
 have HP2 := qh hp
 have HA2 := qh ha
 clear hp ha HC
 go_wp2_with fail
 go_ret
 exact ⟨⟨_, rfl, _, rfl⟩, HP2.out, he, HA2.out⟩
theorem rvalue_limit (c : PC) (w : World) (i : Nat) (h : Ps c w i 0 (-1)) :
  Calls Tryz.prog 107 #[pPtr c, .int .i64 31] w (zj6 c w (NV w.heap.size) ZN (badF (α := Tr) c.l 4 i)) := by
 have HC := qh (zvx h)
 have HC2 := qh (zwv c w i 4 (by decide) h)
 clear h
 go_enter Tryz.func107, Tryz.ntmps107
 go_wp2_with fail
 refine cm HC.out ?_
 rintro e w1 ⟨rfl, rfl⟩
 clear HC
 go_wp2_with fail
 refine cm HC2.out ?_
 rintro e w2 ⟨⟨v, rfl, q, rfl⟩, hp, he, ha⟩
 have HP2 := qh hp
 have HA2 := qh ha
 clear hp ha HC2
 go_wp2_with fail
 go_ret
 exact ⟨⟨_, rfl, _, rfl⟩, HP2.out, he, HA2.out⟩
theorem rfns_does {c : PC} (hE : Ends c.l) (hR : ∀ F, RCt c F → (∃ k, FNx c.l k F) → FOk F → RestC c F) : ∀ k, RCt c (rfns c.l k) := by
 intro k
 induction k with
 | zero =>
  refine ⟨?_, ?_, ?_, ?_⟩
  ·
   intro w d i r hd hs ho h; unfold zq4 at hs
   by_cases h30 : d = 30
   ·
    rw [if_pos h30] at hs; subst h30; rw [hs]; exact rst_limit c w i h
   ·
    rw [if_neg h30] at hs; exact absurd hs ho
  ·
   intro w d i r hd hs ho h; unfold zq4 at hs
   by_cases h30 : d = 30
   ·
    rw [if_pos h30] at hs; subst h30; rw [hs]; exact rvalue_limit c w i h
   ·
    rw [if_neg h30] at hs; exact absurd hs ho
  ·
   intro w d i r g hd hs ho _ _ _; exact absurd hs ho
  ·
   intro w d i r hd hs ho _; exact absurd hs ho
 | succ k ih =>
  have hN : ∃ k', FNx c.l k' (rfns c.l k) := ⟨k, rfns_nx hE k⟩; have hK := rfns_ok c.l k; refine ⟨?_, ?_, ?_, ?_⟩
  ·
   intro w d i r hd hs ho h
   by_cases h30 : d = 30
   ·
    subst h30; have h1 : r = badF c.l 4 i := by unfold zq4 at hs; rw [if_pos rfl] at hs; exact hs
    rw [h1]; exact rst_limit c w i h
   ·
    have h1 : r = zky c.l (rfns c.l k) (d + 1) i := by unfold zq4 at hs; rw [if_neg h30] at hs; exact hs
    have h2 := rst_any ih hN hK (hR _ ih hN hK) w (d + 1) i r (by omega) h1 ho h; have h3 : (((d + 1 : Nat) : Nat) : Int) = (d : Int) + 1 := by omega
    rw [h3] at h2; exact h2
  ·
   intro w d i r hd hs ho h; exact rvalue_any ih w d i r hd hs ho h
  ·
   intro w d i r g hd hs ho h hk hg; exact rpr_any ih w d i r g hd hs ho h hk hg
  ·
   intro w d i r hd hs ho h; exact rsingle_any ih hN hK w d i r hd hs ho h
theorem zn0 {B N z4 n : Nat} {w5 X : World} {kd z : Int} {tx : ByteArray} {ks : List Tr} {ps : List Nat} (hBN : B ≤ N) (hN : N < z4) (hX : ∀ b, b ≠ N → X.heap[b]? = w5.heap[b]?) (hz : X.heap.size = w5.heap.size) (h5 : z4 ≤ w5.heap.size)
  (nb : X.heap[N]? = some (zzk kd tx z (.slice (some ⟨w5.heap.size, 0, none⟩) n n))) (hk : NAts (fun b => z4 ≤ b) w5 ks ps) (hn : n = ps.length) (cs : Array Value) (hc : cs.toList = ps.map nPtr) (hl : ps.length ≤ maxLen) : Open B (X.alloc (.cells cs 22)) (.mk kd tx z ks) N (.slice (some ⟨w5.heap.size, 0, none⟩) n n) ps := by
 subst hn
 have hcs : cs.size = ps.length * 1 := by rw [← Array.length_toList, hc]; simp
 have ho := World.ownsRow_lit (base := B) (e := 22) (size := 1) X cs ps.length (by omega) hl hcs
 rw [hz, hc] at ho
 refine ⟨hBN, by rw [Below.heap_alloc _ _ _ (by omega)]; exact nb, ho, ?_, ?_⟩
 ·
  intro e; simp only [Value.ownBlock, Option.some.injEq] at e; omega
 ·
  have hs : Stay (fun b => z4 ≤ b ∧ b < w5.heap.size) w5 (X.alloc (.cells cs 22)) := fun b hb hl => by rw [Below.heap_alloc _ _ _ (by omega)]; exact hX b (by have : z4 ≤ b := hb.1; omega)
  have h1 := NAts.mono (J := fun b => z4 ≤ b ∧ b < w5.heap.size) (fun b hb hl => ⟨hb, hl⟩) _ _ hk; exact NAts.mono (fun b hb _ => by
   have h2 : z4 ≤ b ∧ b < w5.heap.size := hb; refine ⟨by omega, by omega, fun e => ?_⟩; simp only [Value.ownBlock, Option.some.injEq] at e; omega) _ _ (NAts.later hs _ _ h1)
theorem Open.nv {B : Nat} {w : World} {t : Tr} {p : Nat} {u : Value} {ps : List Nat} (h : Open B w t p u ps) : NV B w t (nPtr p) := h.ev.nv
theorem Open.stay {R B : Nat} {w w' : World} {t : Tr} {p : Nat} {u : Value} {ps : List Nat} (h : Open B w t p u ps) (ha : Ap R w.heap.size w w') (hB : R < B) : Open B w' t p u ps :=
 ⟨h.low, by rw [ha.block p (zzq h.blk) (by have := h.low; omega)]; exact h.blk, zj4 (I := fun b => B ≤ b) (Stay.of_ap ha hB fun _ h => h) (fun g hg => (zxj h.row g hg).2) h.row, h.own, NAts.later (Stay.of_ap ha hB fun _ h => h.1) _ _ h.kids⟩
theorem Open.grows {B : Nat} {w1 w2 w3 : World} {t : Tr} {p : Nat} {u v : Value} {ps : List Nat} (h : Open B w1 t p u ps) (hb : Below B w1 w2) (hB : B ≤ w2.heap.size) (hgr : w2.grownBy w3 u.ownBlock) : Below B w1 (w3.setCell ⟨p, 3, none⟩ v) :=
 (hb.grown hgr hB (fun k hk => (zxj h.row k hk).2)).setCell (p := ⟨p, 3, none⟩) h.low _
theorem Open.push {B : Nat} {w2 w3 : World} {t x : Tr} {p q g cap n : Nat} {u : Value} {ps : List Nat} (h : Open B w2 t p u ps) (hx : NAts (fun b => B ≤ b ∧ b ≠ p ∧ u.ownBlock ≠ some b) w2 [x] [q]) (hn : n = t.kids.length + 1)
  (hown : w3.ownsRow B 22 1 (.slice (some ⟨g, 0, none⟩) n cap) n (ps.map nPtr ++ [nPtr q])) (hgr : w2.grownBy w3 u.ownBlock) (hg : u.ownBlock = some g ∨ g = w2.heap.size) :
  EV B (w3.setCell ⟨p, 3, none⟩ (.slice (some ⟨g, 0, none⟩) n cap)) (.mk t.kd t.tx t.n (t.kids ++ [x])) (nPtr p) :=
 ev_push h.low h.blk h.own h.kids hx (by rw [List.map_append]; exact hown) (by rw [hn]; simp [NAts.length _ _ h.kids]) hgr hg
theorem Open.apart2 {B Z : Nat} {w w1 : World} {t : Tr} {p : Nat} {u : Value} {ps : List Nat} (h : Open B w t p u ps) (hB : B ≤ w.heap.size) (hZ : w.heap.size ≤ Z) {us : List Tr} {qs : List Nat} (hn : NAts (fun b => Z ≤ b) w1 us qs) :
  NAts (fun b => B ≤ b ∧ b ≠ p ∧ u.ownBlock ≠ some b) w1 us qs :=
 NAts.mono (fun b hb _ => by
  have h1 : Z ≤ b := hb; have h2 := zzq h.blk; exact ⟨by omega, by omega, fun e => by have := (zxj h.row b e).1; omega⟩) _ _ hn
theorem Open.alloc {B : Nat} {w : World} {t : Tr} {p : Nat} {u : Value} {ps : List Nat} (h : Open B w t p u ps) (o : Obj) : Open B (w.alloc o) t p u ps :=
 ⟨h.low, by rw [Below.heap_alloc _ _ _ (zzq h.blk)]; exact h.blk, h.row.alloc _, h.own, NAts.later (fun b _ hl => Below.heap_alloc w _ b hl) _ _ h.kids⟩
theorem NAts.alloc {I : Nat → Prop} {w : World} {ts : List Tr} {ps : List Nat} (h : NAts I w ts ps) (o : Obj) : NAts I (w.alloc o) ts ps := NAts.later (fun b _ hl => Below.heap_alloc w _ b hl) _ _ h
theorem Open.push2 {B : Nat} {w1 w3 : World} {t x : Tr} {p q g cap n : Nat} {u : Value} {ps : List Nat} (h : Open B w1 t p u ps) (hx : NAts (fun b => B ≤ b ∧ b ≠ p ∧ u.ownBlock ≠ some b) w1 [x] [q]) (hn : n = t.kids.length + 1)
  (hown : w3.ownsRow B 22 1 (.slice (some ⟨g, 0, none⟩) n cap) n (ps.map nPtr ++ [nPtr q])) (hgr : (w1.alloc (.cells #[nPtr q] 22)).grownBy w3 u.ownBlock) (hg : u.ownBlock = some g ∨ g = w1.heap.size + 1) :
  EV B (w3.setCell ⟨p, 3, none⟩ (.slice (some ⟨g, 0, none⟩) n cap)) (.mk t.kd t.tx t.n (t.kids ++ [x])) (nPtr p) :=
 (h.alloc _).push (NAts.alloc hx _) hn hown hgr (hg.imp id fun e => by simp [e])
theorem Open.of_ev {B N : Nat} {w : World} {t : Tr} {kd n : Int} {tx : ByteArray} {v : Value} (h : EV B w t (nPtr N)) (hb : w.heap[N]? = some (zzk kd tx n v)) : ∃ ps, Open B w t N v ps := by
 obtain ⟨p, u, ps, he, ho⟩ := h.opens
 have h1 : N = p := by simpa [nPtr] using he
 subst h1
 have h2 := ho.blk
 rw [hb] at h2
 have h3 : v = u := by
  have h4 := h2; simp at h4; exact h4.2.2.2
 subst h3
 exact ⟨ps, ho⟩
structure CallOk (c : PC) (w : World) (Z : Nat) (t : Tr) (u : Value) (qs : List Nat) (x : Tr) (j : Nat) (wc : World) (pc : Nat) : Prop where
 ap : Ap c.P w.heap.size w wc
 ps : Ps c wc j 0 (-1)
 op : Open w.heap.size wc t w.heap.size u qs
 nd : NAts (fun b => Z ≤ b) wc [x] [pc]
 sz : Z ≤ wc.heap.size
structure CallBad (c : PC) (w : World) (t : Tr) (u : Value) (qs : List Nat) (er pl : Int) (wc : World) (pc : Nat) : Prop where
 ap : Ap c.P w.heap.size w wc
 ps : ∃ j, Ps c wc j er pl
 op : Open w.heap.size wc t w.heap.size u qs
 he : er ≠ 0
theorem rst_if {c : PC} {F : Fns} (hF : RCt c F) (hN : ∃ k, FNx c.l k F) (hK : FOk F) (w : World) (d i : Nat) (r : PR Tr) (hd : d ≤ 30) (hf : fx c.l i = tIf) (hs : r = (zv8 c.l F d (i + 1)).bind fun v i1 => (zq4 c.l F.st d i1).bind fun s i2 => if fx c.l i2 = zmv then (zq4 c.l F.st d (i2 + 1)).bind fun s2 i3 => .ok (.mk 7 zzx 0 [v, s, s2]) i3 else .ok (.mk 7 zzx 0 [v, s]) i2) (ho : r ≠ .out) (h : Ps c w i 0 (-1)) :
  Calls Tryz.prog 47 #[pPtr c, .int .i64 (d : Int)] w (zj6 c w (NV w.heap.size) ZN r) := by
 have HLT := qh h.rlt
 have HLO := qh h.base.size
 have HO := qh ho
 have HF := qh hF
 have HNN := qh hN
 have HKK := qh hK
 have hdd : decide ((30 : Int) < (d : Int)) = false := decide_eq_false (by omega)
 have n0 : ¬ fx c.l i = zz4 := by rw [hf]; decide
 have n1 : ¬ fx c.l i = zqz := by rw [hf]; decide
 have n2 : ¬ fx c.l i = zzw := by rw [hf]; decide
 have HS0 := qh (Stn.new h)
 have hc := zzy c (w.alloc nd0) i zz4 (by decide) HS0.out.ps
 rw [decide_eq_false n0] at hc
 have HC := qh hc
 clear hc
 clear h
 go_enter Tryz.func47, Tryz.ntmps47
 go_wp2_with fail
 refine cm HC.out ?_
 rintro e w1 ⟨rfl, hb⟩
 have HS1 := qh (HS0.out.below hb)
 clear hb HC HS0
 have HC := qh (zz1 c w1 i zqz (by decide) n1 HS1.out.ps)
 go_wp2_with fail
 refine cm HC.out ?_
 rintro e w2 ⟨rfl, hb⟩
 have HS2 := qh (HS1.out.below hb)
 clear hb HC HS1
 have HC := qh (zz1 c w2 i zzw (by decide) n2 HS2.out.ps)
 go_wp2_with fail
 refine cm HC.out ?_
 rintro e w3 ⟨rfl, hb⟩
 have HS3 := qh (HS2.out.below hb)
 clear hb HC HS2
 have HC := qh (zxx c w3 i tIf (by decide) hf HS3.out.ps)
 go_wp2_with fail
 refine cm HC.out ?_
 rintro e w4 ⟨rfl, hp, ha⟩
 have HS4 := qh (HS3.out.on HLT.out hp ha)
 clear hp ha HC HS3
 have HQ := qh hs
 clear ho hs hF hN hK
 obtain ⟨i0, hi0, hz0, hz1, hz2⟩ := info_parts zkw
 have HK2 := qh (HS4.out.kind HLO.out 7)
 have hPN : c.P < w.heap.size := zzz HLT
 have nb := HS4.out.nd
 obtain ⟨c0, c1, c2, c3, cf⟩ := zzj nb
 have cf0 := cf 0
 have cf3 := cf 3
 have hnl := zzq nb
 clear nb
 cases hr : zv8 c.l F d (i + 1) with
 | out => rw [hr] at HQ; exact absurd HQ.out HO.out
 | bad er pl =>
  have HC := qh (zb1 HF.out _ d (i + 1) _ hd hr.symm (by nofun) HK2.out.ps); rw [hr] at HQ; have hq : r = .bad er pl := zzz HQ; subst hq; clear hr HQ; go_wp2_with fail; refine cm HC.out ?_
  rintro e wh ⟨⟨v, rfl, q, rfl⟩, ⟨j, hp1⟩, he, ha⟩; have nb0 := (ha.block _ (zzq HK2.out.nd) (by have := zzz HLT; omega)).trans HK2.out.nd
  have hA0 := HK2.out.ap.next ha; have HC2 := qh (zby c wh j er pl (d : Int) he hp1); have HNB := qh nb0; have HA0 := qh hA0; clear hp1 ha HC nb0 hA0 c0 c1 c2 c3 cf cf0 cf3 hnl; go_wp2_with fail
  refine cm HC2.out ?_; rintro e wv ⟨⟨v, rfl, q2, rfl⟩, ⟨j2, hp2⟩, _, ha2⟩; have nb := (ha2.block _ (zzq HNB.out) (by have := zzz HLT; omega)).trans HNB.out
  obtain ⟨c0, c1, c2, c3, cf⟩ := zzj nb; have cf3 := cf 3; have hnl := zzq nb; have hA := HA0.out.next ha2
  have HB : Hid (Below w.heap.size wv ((wv.setCell ⟨w.heap.size, 3, none⟩ (.slice (some ⟨wv.heap.size, 0, none⟩) 2 2)).alloc (.cells #[nPtr q, nPtr q2] 22))) := ((Below.refl w.heap.size wv).setCell (p := ⟨w.heap.size, 3, none⟩) qv _).alloc (by simp; omega) _
  have HA := qh (hA.trans (Ap.of HB.out)); have HP := qh (hp2.ap HB.out HLO.out); clear hp2 ha2 HC2 nb hA; have HC3 := qh (zv7 c _ j2 er pl he zmv HP.out); go_wp2_with fail; refine cm HC3.out ?_
  rintro e wz ⟨rfl, hb⟩; have HA9 := qh (HA.out.next (Ap.of hb)); have HP9 := qh (HP.out.later hb); clear hb HC3 c0 c1 c2 c3 cf cf3 hnl; go_wp2_with fail; go_ret; exact ⟨⟨_, rfl, _, rfl⟩, ⟨j2, HP9.out⟩, he, HA9.out⟩
 | ok t j =>
  have HC := qh (zb1 HF.out _ d (i + 1) _ hd hr.symm (by nofun) HK2.out.ps); rw [hr] at HQ
  have HQ2 : Hid (r = (zq4 c.l F.st d j).bind fun s i2 => if fx c.l i2 = zmv then (zq4 c.l F.st d (i2 + 1)).bind fun s2 i3 => .ok (.mk 7 zzx 0 [t, s, s2]) i3 else .ok (.mk 7 zzx 0 [t, s]) i2) := zzz HQ
  clear hr HQ; go_wp2_with fail; refine cm HC.out ?_; rintro e wh ⟨⟨v, rfl, q, rfl, hn⟩, hp1, ha⟩; have HNB := qh ((ha.block _ (zzq HK2.out.nd) (by have := zzz HLT; omega)).trans HK2.out.nd)
  have HA0 := qh (HK2.out.ap.next ha); have HP0 := qh hp1; have HN0 := qh hn; have HZ0 := qh ha.size; clear hp1 ha HC hn c0 c1 c2 c3 cf cf0 cf3 hnl
  cases hr : zq4 c.l F.st d j with
  | out => rw [hr] at HQ2; exact absurd HQ2.out HO.out
  | bad er pl =>
   have HC2 := qh (zkx HF.out wh d j _ hd hr.symm (by nofun) HP0.out); rw [hr] at HQ2; have hq : r = .bad er pl := zzz HQ2; subst hq; clear hr HQ2; go_wp2_with fail; refine cm HC2.out ?_
   rintro e wv ⟨⟨v, rfl, q2, rfl⟩, ⟨j2, hp2⟩, he, ha2⟩; have nb := (ha2.block _ (zzq HNB.out) (by have := zzz HLT; omega)).trans HNB.out
   obtain ⟨c0, c1, c2, c3, cf⟩ := zzj nb; have cf3 := cf 3; have hnl := zzq nb; have hA := HA0.out.next ha2
   have HB : Hid (Below w.heap.size wv ((wv.setCell ⟨w.heap.size, 3, none⟩ (.slice (some ⟨wv.heap.size, 0, none⟩) 2 2)).alloc (.cells #[nPtr q, nPtr q2] 22))) := ((Below.refl w.heap.size wv).setCell (p := ⟨w.heap.size, 3, none⟩) qv _).alloc (by simp; omega) _
   have HA := qh (hA.trans (Ap.of HB.out)); have HP := qh (hp2.ap HB.out HLO.out); clear hp2 ha2 HC2 nb hA; have HC3 := qh (zv7 c _ j2 er pl he zmv HP.out); go_wp2_with fail; refine cm HC3.out ?_
   rintro e wz ⟨rfl, hb⟩; have HA9 := qh (HA.out.next (Ap.of hb)); have HP9 := qh (HP.out.later hb); clear hb HC3 c0 c1 c2 c3 cf cf3 hnl; go_wp2_with fail; go_ret; exact ⟨⟨_, rfl, _, rfl⟩, ⟨j2, HP9.out⟩, he, HA9.out⟩
  | ok s j2 =>
   have HC2 := qh (zkx HF.out wh d j _ hd hr.symm (by nofun) HP0.out); rw [hr] at HQ2
   have HQ3 : Hid (r = if fx c.l j2 = zmv then (zq4 c.l F.st d (j2 + 1)).bind fun s2 i3 => .ok (.mk 7 zzx 0 [t, s, s2]) i3 else .ok (.mk 7 zzx 0 [t, s]) j2) := zzz HQ2; clear hr HQ2; go_wp2_with fail
   refine cm HC2.out ?_; rintro e wv ⟨⟨v, rfl, q2, rfl, hn2⟩, hp2, ha2⟩; have nb := (ha2.block _ (zzq HNB.out) (by have := zzz HLT; omega)).trans HNB.out
   obtain ⟨c0, c1, c2, c3, cf⟩ := zzj nb; have cf3 := cf 3; have hnl := zzq nb; have hA := HA0.out.next ha2
   have HB : Hid (Below w.heap.size wv ((wv.setCell ⟨w.heap.size, 3, none⟩ (.slice (some ⟨wv.heap.size, 0, none⟩) 2 2)).alloc (.cells #[nPtr q, nPtr q2] 22))) := ((Below.refl w.heap.size wv).setCell (p := ⟨w.heap.size, 3, none⟩) qv _).alloc (by simp; omega) _
   have HA := qh (hA.trans (Ap.of HB.out)); have HP := qh (hp2.ap HB.out HLO.out); have HZW := qh (zzq HK2.out.nd)
   have n1' := zb9 (NV.later ⟨q, rfl, HN0.out⟩ ha2 (by have h1 := zzz HLT; have h2 := zzz HZW; omega))
   have n2' := NAt.mono (J := fun b => _ ≤ b) (fun b hb _ => Nat.le_trans HZ0.out hb) _ _ hn2
   have HOP : Hid (Open w.heap.size ((wv.setCell ⟨w.heap.size, 3, none⟩ (.slice (some ⟨wv.heap.size, 0, none⟩) 2 2)).alloc (.cells #[nPtr q, nPtr q2] 22)) (.mk 7 zzx 0 [t, s]) w.heap.size (.slice (some ⟨wv.heap.size, 0, none⟩) 2 2) [q, q2]) := zn0 qv HZW.out (set1 wv w.heap.size _) (by simp) (Nat.le_trans HZ0.out ha2.size) (by rw [zqq nb]; rfl) (NAts.cons n1' (NAts.cons n2' NAts.nil)) rfl #[nPtr q, nPtr q2] rfl (by simp [maxLen])
   clear hp2 ha2 HC2 nb hA hn2 n1' n2'
   by_cases hx : fx c.l j2 = zmv
   ·
    rw [if_pos hx] at HQ3; have HC3 := qh (zxx c _ j2 zmv (by decide) hx HP.out); clear hx; go_wp2_with fail; refine cm HC3.out ?_; rintro e w6 ⟨rfl, hp6, ha6⟩; have HP6 := qh hp6
    have HA6 := qh (HA.out.next ha6); have HO6 := qh (HOP.out.stay ha6 HLT.out); clear hp6 ha6 HC3 c0 c1 c2 c3 cf cf3 hnl HOP HA HP; obtain ⟨hc3, hcf, hcl⟩ := HO6.out.cell
    cases hr : zq4 c.l F.st d (j2 + 1) with
    | out => rw [hr] at HQ3; exact absurd HQ3.out HO.out
    | bad er pl =>
     have HC := qh (zkx HF.out w6.drew d (j2 + 1) _ hd hr.symm (by nofun) HP6.out.drew); rw [hr] at HQ3; have hq : r = .bad er pl := zzz HQ3; subst hq; clear hr HQ3; go_wp2_with fail
     refine wp_region_any (by kernel_rfl) ?_; change wpAny _ _ _ _ _ _ _ (World.drew _); refine wt 0 (nPtr w.heap.size) ?_; refine wt 1 (nPtr w.heap.size) ?_; refine wt 2 (nPtr w.heap.size) ?_
     refine wt 3 (.pointer (some ⟨w.heap.size, 3, none⟩)) ?_; refine wt 5 (pPtr c) ?_; refine wt 6 (.int .i64 (d : Int)) ?_; refine wr2 4 7 (fun K hK => ?_) fun K hK => ?_
     ·
      go_simp; refine hK _ _ ?_; clear hK K; refine wr1 7 fun K hK => ?_; go_simp; refine cm HC.out ?_; rintro e wc ⟨⟨vc, rfl, pc, rfl⟩, ⟨jc, hpc⟩, he, ha⟩; have HAc := qh (HA6.out.drew.next ha); have HPc := qh hpc
      have HOc := qh (HO6.out.stay (((Ap.refl c.P w6.heap.size w6).drew).next ha) HLT.out); obtain ⟨gc3, gcf, gcl⟩ := HOc.out.cell; clear ha hpc; refine hK _ _ ?_; clear hK K; refine wr1 8 fun K hK => ?_; go_simp
      refine hK _ _ ?_; clear hK K; have hown := HOc.out.row; have HOWN := qh hown; have hsz := HAc.out.size; clear hown; refine wr1 9 fun K hK => ?_
      refine step_append_lies _ rfl _ _ 36 rfl w.heap.size 22 i0 (.pointer none) 1 8 Tryz.underlying36 hi0 hz0 hz1 hz2 rfl (by decide) _ _ _ rfl (HOWN.out.alloc _) ⟨wc.heap.size, 0, none⟩ 1 1 [nPtr pc] rfl rfl (zq3 wc pc _ rfl) (zxy pc) (by decide) (by simp [maxLen]) (by simp) (by simp; omega) (wc.heap.size + 1) (by simp) ?_
      intro g cap w3 hown3 hgr3 hg3 _; refine hK _ _ ?_; clear hK K
      have HBW : ∀ v, Hid (Below w.heap.size wc (w3.setCell ⟨w.heap.size, 3, none⟩ v)) := fun v => HOc.out.grows ((Below.refl _ wc).alloc hsz _) (by simp; omega) hgr3
      have hp3 : w3.cell? ⟨w.heap.size, 3, none⟩ = wc.cell? ⟨w.heap.size, 3, none⟩ ∧ w3.frozen? ⟨w.heap.size, 3, none⟩ = wc.frozen? ⟨w.heap.size, 3, none⟩ := by
       have hbb : w3.heap[w.heap.size]? = wc.heap[w.heap.size]? := (hgr3.block w.heap.size (by simp; omega) (fun e => HOc.out.own e.symm)).trans (Below.heap_alloc wc _ w.heap.size gcl)
       exact ⟨World.cell?_of_block (w := wc) hbb, World.frozen?_of_block (w := wc) hbb⟩
      obtain ⟨hp3c, hp3f⟩ := hp3; rw [gc3] at hp3c; rw [gcf 3] at hp3f; clear hown3 hgr3 hg3; refine wt 10 (nPtr w.heap.size) ?_; refine wt 11 (.pointer (some ⟨w.heap.size, 3, none⟩)) ?_; refine wr1 12 fun K hK => ?_
      go_simp; refine hK _ _ ?_; clear hK K hp3c hp3f gc3 gcf gcl HOWN hcf hc3 hcl; refine wpAny_done (by kernel_rfl) ?_ _; go_simp; go_wp2_with fail; go_ret
      exact ⟨⟨_, rfl, _, rfl⟩, ⟨jc, HPc.out.ap (zzz (HBW _)) HLO.out⟩, he, HAc.out.trans (Ap.of (zzz (HBW _)))⟩
     ·
      go_simp; refine cm HC.out ?_; rintro e wc ⟨⟨vc, rfl, pc, rfl⟩, ⟨jc, hpc⟩, he, ha⟩; have HAc := qh (HA6.out.drew.next ha); have HPc := qh hpc
      have HOc := qh (HO6.out.stay (((Ap.refl c.P w6.heap.size w6).drew).next ha) HLT.out); obtain ⟨gc3, gcf, gcl⟩ := HOc.out.cell; clear ha hpc; refine hK _ _ ?_; clear hK K
      refine wr2 4 8 (fun K hK => ?_) fun K hK => ?_
      ·
       go_simp; refine hK _ _ ?_; clear hK K; refine wr1 8 fun K hK => ?_; go_simp; refine hK _ _ ?_; clear hK K; have hown := HOc.out.row; have HOWN := qh hown; have hsz := HAc.out.size; clear hown
       refine wr1 9 fun K hK => ?_
       refine step_append_lies _ rfl _ _ 36 rfl w.heap.size 22 i0 (.pointer none) 1 8 Tryz.underlying36 hi0 hz0 hz1 hz2 rfl (by decide) _ _ _ rfl (HOWN.out.alloc _) ⟨wc.heap.size, 0, none⟩ 1 1 [nPtr pc] rfl rfl (zq3 wc pc _ rfl) (zxy pc) (by decide) (by simp [maxLen]) (by simp) (by simp; omega) (wc.heap.size + 1) (by simp) ?_
       intro g cap w3 hown3 hgr3 hg3 _; refine hK _ _ ?_; clear hK K
       have HBW : ∀ v, Hid (Below w.heap.size wc (w3.setCell ⟨w.heap.size, 3, none⟩ v)) := fun v => HOc.out.grows ((Below.refl _ wc).alloc hsz _) (by simp; omega) hgr3
       have hp3 : w3.cell? ⟨w.heap.size, 3, none⟩ = wc.cell? ⟨w.heap.size, 3, none⟩ ∧ w3.frozen? ⟨w.heap.size, 3, none⟩ = wc.frozen? ⟨w.heap.size, 3, none⟩ := by
        have hbb : w3.heap[w.heap.size]? = wc.heap[w.heap.size]? := (hgr3.block w.heap.size (by simp; omega) (fun e => HOc.out.own e.symm)).trans (Below.heap_alloc wc _ w.heap.size gcl)
        exact ⟨World.cell?_of_block (w := wc) hbb, World.frozen?_of_block (w := wc) hbb⟩
       obtain ⟨hp3c, hp3f⟩ := hp3; rw [gc3] at hp3c; rw [gcf 3] at hp3f; clear hown3 hgr3 hg3; refine wt 10 (nPtr w.heap.size) ?_; refine wt 11 (.pointer (some ⟨w.heap.size, 3, none⟩)) ?_; refine wr1 12 fun K hK => ?_
       go_simp; refine hK _ _ ?_; clear hK K hp3c hp3f gc3 gcf gcl HOWN hcf hc3 hcl; refine wpAny_done (by kernel_rfl) ?_ _; go_simp; go_wp2_with fail; go_ret
       exact ⟨⟨_, rfl, _, rfl⟩, ⟨jc, HPc.out.ap (zzz (HBW _)) HLO.out⟩, he, HAc.out.trans (Ap.of (zzz (HBW _)))⟩
      ·
       go_simp; refine hK _ _ ?_; clear hK K; refine wr1 4 fun K hK => ?_; go_simp; refine hK _ _ ?_; clear hK K; have hown := HOc.out.row; have HOWN := qh hown; have hsz := HAc.out.size; clear hown
       refine wr1 9 fun K hK => ?_
       refine step_append_lies _ rfl _ _ 36 rfl w.heap.size 22 i0 (.pointer none) 1 8 Tryz.underlying36 hi0 hz0 hz1 hz2 rfl (by decide) _ _ _ rfl (HOWN.out.alloc _) ⟨wc.heap.size, 0, none⟩ 1 1 [nPtr pc] rfl rfl (zq3 wc pc _ rfl) (zxy pc) (by decide) (by simp [maxLen]) (by simp) (by simp; omega) (wc.heap.size + 1) (by simp) ?_
       intro g cap w3 hown3 hgr3 hg3 _; refine hK _ _ ?_; clear hK K
       have HBW : ∀ v, Hid (Below w.heap.size wc (w3.setCell ⟨w.heap.size, 3, none⟩ v)) := fun v => HOc.out.grows ((Below.refl _ wc).alloc hsz _) (by simp; omega) hgr3
       have hp3 : w3.cell? ⟨w.heap.size, 3, none⟩ = wc.cell? ⟨w.heap.size, 3, none⟩ ∧ w3.frozen? ⟨w.heap.size, 3, none⟩ = wc.frozen? ⟨w.heap.size, 3, none⟩ := by
        have hbb : w3.heap[w.heap.size]? = wc.heap[w.heap.size]? := (hgr3.block w.heap.size (by simp; omega) (fun e => HOc.out.own e.symm)).trans (Below.heap_alloc wc _ w.heap.size gcl)
        exact ⟨World.cell?_of_block (w := wc) hbb, World.frozen?_of_block (w := wc) hbb⟩
       obtain ⟨hp3c, hp3f⟩ := hp3; rw [gc3] at hp3c; rw [gcf 3] at hp3f; clear hown3 hgr3 hg3; refine wt 10 (nPtr w.heap.size) ?_; refine wt 11 (.pointer (some ⟨w.heap.size, 3, none⟩)) ?_; refine wr1 12 fun K hK => ?_
       go_simp; refine hK _ _ ?_; clear hK K hp3c hp3f gc3 gcf gcl HOWN hcf hc3 hcl; refine wpAny_done (by kernel_rfl) ?_ _; go_simp; go_wp2_with fail; go_ret
       exact ⟨⟨_, rfl, _, rfl⟩, ⟨jc, HPc.out.ap (zzz (HBW _)) HLO.out⟩, he, HAc.out.trans (Ap.of (zzz (HBW _)))⟩
    | ok s2 j3 =>
     have HC := qh (zkx HF.out w6.drew d (j2 + 1) _ hd hr.symm (by nofun) HP6.out.drew); rw [hr] at HQ3; have hq : r = .ok (.mk 7 zzx 0 [t, s, s2]) j3 := zzz HQ3; subst hq; clear hr HQ3
     go_wp2_with fail; refine wp_region_any (by kernel_rfl) ?_; change wpAny _ _ _ _ _ _ _ (World.drew _); refine wt 0 (nPtr w.heap.size) ?_; refine wt 1 (nPtr w.heap.size) ?_; refine wt 2 (nPtr w.heap.size) ?_
     refine wt 3 (.pointer (some ⟨w.heap.size, 3, none⟩)) ?_; refine wt 5 (pPtr c) ?_; refine wt 6 (.int .i64 (d : Int)) ?_; refine wr2 4 7 (fun K hK => ?_) fun K hK => ?_
     ·
      go_simp; refine hK _ _ ?_; clear hK K; refine wr1 7 fun K hK => ?_; go_simp; refine cm HC.out ?_; rintro e wc ⟨⟨vc, rfl, pc, rfl, hnc⟩, hpc, ha⟩; have HAc := qh (HA6.out.drew.next ha); have HPc := qh hpc
      have HOc := qh (HO6.out.stay (((Ap.refl c.P w6.heap.size w6).drew).next ha) HLT.out); have HNc := qh (HO6.out.apart2 HA6.out.size qv (NAts.cons hnc NAts.nil)); obtain ⟨gc3, gcf, gcl⟩ := HOc.out.cell
      clear ha hpc hnc; refine hK _ _ ?_; clear hK K; refine wr1 8 fun K hK => ?_; go_simp; refine hK _ _ ?_; clear hK K; have hown := HOc.out.row; have HOWN := qh hown; have hsz := HAc.out.size; clear hown
      refine wr1 9 fun K hK => ?_
      refine step_append_lies _ rfl _ _ 36 rfl w.heap.size 22 i0 (.pointer none) 1 8 Tryz.underlying36 hi0 hz0 hz1 hz2 rfl (by decide) _ _ _ rfl (HOWN.out.alloc _) ⟨wc.heap.size, 0, none⟩ 1 1 [nPtr pc] rfl rfl (zq3 wc pc _ rfl) (zxy pc) (by decide) (by simp [maxLen]) (by simp) (by simp; omega) (wc.heap.size + 1) (by simp) ?_
      intro g cap w3 hown3 hgr3 hg3 _; refine hK _ _ ?_; clear hK K; have HEV := qh (Open.push2 HOc.out HNc.out rfl hown3 hgr3 hg3)
      have HBW : ∀ v, Hid (Below w.heap.size wc (w3.setCell ⟨w.heap.size, 3, none⟩ v)) := fun v => HOc.out.grows ((Below.refl _ wc).alloc hsz _) (by simp; omega) hgr3
      have hp3 : w3.cell? ⟨w.heap.size, 3, none⟩ = wc.cell? ⟨w.heap.size, 3, none⟩ ∧ w3.frozen? ⟨w.heap.size, 3, none⟩ = wc.frozen? ⟨w.heap.size, 3, none⟩ := by
       have hbb : w3.heap[w.heap.size]? = wc.heap[w.heap.size]? := (hgr3.block w.heap.size (by simp; omega) (fun e => HOc.out.own e.symm)).trans (Below.heap_alloc wc _ w.heap.size gcl)
       exact ⟨World.cell?_of_block (w := wc) hbb, World.frozen?_of_block (w := wc) hbb⟩
      obtain ⟨hp3c, hp3f⟩ := hp3; rw [gc3] at hp3c; rw [gcf 3] at hp3f; clear hown3 hgr3 hg3; refine wt 10 (nPtr w.heap.size) ?_; refine wt 11 (.pointer (some ⟨w.heap.size, 3, none⟩)) ?_; refine wr1 12 fun K hK => ?_
      go_simp; refine hK _ _ ?_; clear hK K hp3c hp3f gc3 gcf gcl HOWN hcf hc3 hcl; refine wpAny_done (by kernel_rfl) ?_ _; go_simp; go_wp2_with fail; go_ret
      exact ⟨⟨_, rfl, HEV.out.nv⟩, HPc.out.ap (zzz (HBW _)) HLO.out, HAc.out.trans (Ap.of (zzz (HBW _)))⟩
     ·
      go_simp; refine cm HC.out ?_; rintro e wc ⟨⟨vc, rfl, pc, rfl, hnc⟩, hpc, ha⟩; have HAc := qh (HA6.out.drew.next ha); have HPc := qh hpc
      have HOc := qh (HO6.out.stay (((Ap.refl c.P w6.heap.size w6).drew).next ha) HLT.out); have HNc := qh (HO6.out.apart2 HA6.out.size qv (NAts.cons hnc NAts.nil)); obtain ⟨gc3, gcf, gcl⟩ := HOc.out.cell
      clear ha hpc hnc; refine hK _ _ ?_; clear hK K; refine wr2 4 8 (fun K hK => ?_) fun K hK => ?_
      ·
       go_simp; refine hK _ _ ?_; clear hK K; refine wr1 8 fun K hK => ?_; go_simp; refine hK _ _ ?_; clear hK K; have hown := HOc.out.row; have HOWN := qh hown; have hsz := HAc.out.size; clear hown
       refine wr1 9 fun K hK => ?_
       refine step_append_lies _ rfl _ _ 36 rfl w.heap.size 22 i0 (.pointer none) 1 8 Tryz.underlying36 hi0 hz0 hz1 hz2 rfl (by decide) _ _ _ rfl (HOWN.out.alloc _) ⟨wc.heap.size, 0, none⟩ 1 1 [nPtr pc] rfl rfl (zq3 wc pc _ rfl) (zxy pc) (by decide) (by simp [maxLen]) (by simp) (by simp; omega) (wc.heap.size + 1) (by simp) ?_
       intro g cap w3 hown3 hgr3 hg3 _; refine hK _ _ ?_; clear hK K; have HEV := qh (Open.push2 HOc.out HNc.out rfl hown3 hgr3 hg3)
       have HBW : ∀ v, Hid (Below w.heap.size wc (w3.setCell ⟨w.heap.size, 3, none⟩ v)) := fun v => HOc.out.grows ((Below.refl _ wc).alloc hsz _) (by simp; omega) hgr3
       have hp3 : w3.cell? ⟨w.heap.size, 3, none⟩ = wc.cell? ⟨w.heap.size, 3, none⟩ ∧ w3.frozen? ⟨w.heap.size, 3, none⟩ = wc.frozen? ⟨w.heap.size, 3, none⟩ := by
        have hbb : w3.heap[w.heap.size]? = wc.heap[w.heap.size]? := (hgr3.block w.heap.size (by simp; omega) (fun e => HOc.out.own e.symm)).trans (Below.heap_alloc wc _ w.heap.size gcl)
        exact ⟨World.cell?_of_block (w := wc) hbb, World.frozen?_of_block (w := wc) hbb⟩
       obtain ⟨hp3c, hp3f⟩ := hp3; rw [gc3] at hp3c; rw [gcf 3] at hp3f; clear hown3 hgr3 hg3; refine wt 10 (nPtr w.heap.size) ?_; refine wt 11 (.pointer (some ⟨w.heap.size, 3, none⟩)) ?_; refine wr1 12 fun K hK => ?_
       go_simp; refine hK _ _ ?_; clear hK K hp3c hp3f gc3 gcf gcl HOWN hcf hc3 hcl; refine wpAny_done (by kernel_rfl) ?_ _; go_simp; go_wp2_with fail; go_ret
       exact ⟨⟨_, rfl, HEV.out.nv⟩, HPc.out.ap (zzz (HBW _)) HLO.out, HAc.out.trans (Ap.of (zzz (HBW _)))⟩
      ·
       go_simp; refine hK _ _ ?_; clear hK K; refine wr1 4 fun K hK => ?_; go_simp; refine hK _ _ ?_; clear hK K; have hown := HOc.out.row; have HOWN := qh hown; have hsz := HAc.out.size; clear hown
       refine wr1 9 fun K hK => ?_
       refine step_append_lies _ rfl _ _ 36 rfl w.heap.size 22 i0 (.pointer none) 1 8 Tryz.underlying36 hi0 hz0 hz1 hz2 rfl (by decide) _ _ _ rfl (HOWN.out.alloc _) ⟨wc.heap.size, 0, none⟩ 1 1 [nPtr pc] rfl rfl (zq3 wc pc _ rfl) (zxy pc) (by decide) (by simp [maxLen]) (by simp) (by simp; omega) (wc.heap.size + 1) (by simp) ?_
       intro g cap w3 hown3 hgr3 hg3 _; refine hK _ _ ?_; clear hK K; have HEV := qh (Open.push2 HOc.out HNc.out rfl hown3 hgr3 hg3)
       have HBW : ∀ v, Hid (Below w.heap.size wc (w3.setCell ⟨w.heap.size, 3, none⟩ v)) := fun v => HOc.out.grows ((Below.refl _ wc).alloc hsz _) (by simp; omega) hgr3
       have hp3 : w3.cell? ⟨w.heap.size, 3, none⟩ = wc.cell? ⟨w.heap.size, 3, none⟩ ∧ w3.frozen? ⟨w.heap.size, 3, none⟩ = wc.frozen? ⟨w.heap.size, 3, none⟩ := by
        have hbb : w3.heap[w.heap.size]? = wc.heap[w.heap.size]? := (hgr3.block w.heap.size (by simp; omega) (fun e => HOc.out.own e.symm)).trans (Below.heap_alloc wc _ w.heap.size gcl)
        exact ⟨World.cell?_of_block (w := wc) hbb, World.frozen?_of_block (w := wc) hbb⟩
       obtain ⟨hp3c, hp3f⟩ := hp3; rw [gc3] at hp3c; rw [gcf 3] at hp3f; clear hown3 hgr3 hg3; refine wt 10 (nPtr w.heap.size) ?_; refine wt 11 (.pointer (some ⟨w.heap.size, 3, none⟩)) ?_; refine wr1 12 fun K hK => ?_
       go_simp; refine hK _ _ ?_; clear hK K hp3c hp3f gc3 gcf gcl HOWN hcf hc3 hcl; refine wpAny_done (by kernel_rfl) ?_ _; go_simp; go_wp2_with fail; go_ret
       exact ⟨⟨_, rfl, HEV.out.nv⟩, HPc.out.ap (zzz (HBW _)) HLO.out, HAc.out.trans (Ap.of (zzz (HBW _)))⟩
   ·
    rw [if_neg hx] at HQ3; have hq : r = .ok (.mk 7 zzx 0 [t, s]) j2 := zzz HQ3; subst hq; have HC3 := qh (zz1 c _ j2 zmv (by decide) hx HP.out); clear hx HQ3; go_wp2_with fail; refine cm HC3.out ?_
    rintro e wz ⟨rfl, hb⟩; have HA9 := qh (HA.out.next (Ap.of hb)); have HP9 := qh (HP.out.later hb); have HN9 := qh (HOP.out.stay (Ap.of hb) HLT.out).nv; clear hb HC3 c0 c1 c2 c3 cf cf3 hnl; go_wp2_with fail; go_ret
    exact ⟨⟨_, rfl, HN9.out⟩, HP9.out, HA9.out⟩
structure Stx (c : PC) (w : World) (k : Int) (tx : ByteArray) (i : Nat) (W : World) : Prop where
 ps : Ps c W i 0 (-1)
 nd : W.heap[w.heap.size]? = some (zzk k tx 0 (.slice none 0 0))
 ap : Ap c.P w.heap.size w W
theorem Stx.below {c : PC} {w : World} {k : Int} {tx : ByteArray} {i : Nat} {W W' : World} (h : Stx c w k tx i W) (hb : Below W.heap.size W W') : Stx c w k tx i W' := ⟨h.ps.later hb, (hb.block _ (zzq h.nd)).trans h.nd, h.ap.next (Ap.of hb)⟩
theorem Stk.on {c : PC} {w : World} {k : Int} {i j : Nat} {W W' : World} (h : Stk c w k i W) (hP : c.P < w.heap.size) (hp : Ps c W' j 0 (-1)) (ha : Ap c.P W.heap.size W W') : Stk c w k j W' := ⟨hp, (ha.block _ (zzq h.nd) (by omega)).trans h.nd, h.ap.next ha⟩
theorem Stx.on {c : PC} {w : World} {k : Int} {tx : ByteArray} {i j : Nat} {W W' : World} (h : Stx c w k tx i W) (hP : c.P < w.heap.size) (hp : Ps c W' j 0 (-1)) (ha : Ap c.P W.heap.size W W') : Stx c w k tx j W' := ⟨hp, (ha.block _ (zzq h.nd) (by omega)).trans h.nd, h.ap.next ha⟩
theorem Stk.text {c : PC} {w : World} {k : Int} {i : Nat} {W : World} (h : Stk c w k i W) (hlo : c.lo ≤ w.heap.size) (tx : ByteArray) : Stx c w k tx i (W.setCell ⟨w.heap.size, 1, none⟩ (.string tx)) :=
 ⟨h.ps.ap ((Below.refl w.heap.size W).setCell (p := ⟨w.heap.size, 1, none⟩) qv _) hlo, by rw [zqq h.nd]; rfl, h.ap.setCell (p := ⟨w.heap.size, 1, none⟩) (Or.inl qv) _⟩
def dcs : List (ByteArray × Int) := [(tVar, 2), (tLet, 3), (zq1, 4)]
def dcK (s : ByteArray) : Int := (zx1 dcs s).getD 0
theorem dc_abc (s : ByteArray) : zx1 [(tVar, 2), (tLet, 3), (zq1, 4)] s = zx1 dcs s := by
 by_cases h1 : s = tVar
 ·
  subst h1; decide +kernel
 by_cases h2 : s = tLet
 ·
  subst h2; decide +kernel
 by_cases h3 : s = zq1
 ·
  subst h3; decide +kernel
 simp [zx1, dcs, h1, h2, h3]
theorem dc_acb (s : ByteArray) : zx1 [(tVar, 2), (zq1, 4), (tLet, 3)] s = zx1 dcs s := by
 by_cases h1 : s = tVar
 ·
  subst h1; decide +kernel
 by_cases h2 : s = tLet
 ·
  subst h2; decide +kernel
 by_cases h3 : s = zq1
 ·
  subst h3; decide +kernel
 simp [zx1, dcs, h1, h2, h3]
theorem dc_bac (s : ByteArray) : zx1 [(tLet, 3), (tVar, 2), (zq1, 4)] s = zx1 dcs s := by
 by_cases h1 : s = tVar
 ·
  subst h1; decide +kernel
 by_cases h2 : s = tLet
 ·
  subst h2; decide +kernel
 by_cases h3 : s = zq1
 ·
  subst h3; decide +kernel
 simp [zx1, dcs, h1, h2, h3]
theorem dc_bca (s : ByteArray) : zx1 [(tLet, 3), (zq1, 4), (tVar, 2)] s = zx1 dcs s := by
 by_cases h1 : s = tVar
 ·
  subst h1; decide +kernel
 by_cases h2 : s = tLet
 ·
  subst h2; decide +kernel
 by_cases h3 : s = zq1
 ·
  subst h3; decide +kernel
 simp [zx1, dcs, h1, h2, h3]
theorem dc_cab (s : ByteArray) : zx1 [(zq1, 4), (tVar, 2), (tLet, 3)] s = zx1 dcs s := by
 by_cases h1 : s = tVar
 ·
  subst h1; decide +kernel
 by_cases h2 : s = tLet
 ·
  subst h2; decide +kernel
 by_cases h3 : s = zq1
 ·
  subst h3; decide +kernel
 simp [zx1, dcs, h1, h2, h3]
theorem dc_cba (s : ByteArray) : zx1 [(zq1, 4), (tLet, 3), (tVar, 2)] s = zx1 dcs s := by
 by_cases h1 : s = tVar
 ·
  subst h1; decide +kernel
 by_cases h2 : s = tLet
 ·
  subst h2; decide +kernel
 by_cases h3 : s = zq1
 ·
  subst h3; decide +kernel
 simp [zx1, dcs, h1, h2, h3]
theorem decl_made (W : World) : ∃ ma mb mc mab mac mba mbc mca mcb mabc macb mbac mbca mcab mcba : Array MapEntry,
  (Instr.makeMap 98 none).run Tryz.prog W = .ok (.map (some W.heap.size)) (W.alloc (.map #[] 0))
  ∧ (Instr.mapUpdate 98 (.map (some W.heap.size)) (.string tVar) (.int .i64 2)).run Tryz.prog (W.alloc (.map #[] 0)) = .ok () (W.alloc (.map ma 1))
  ∧ (Instr.mapUpdate 98 (.map (some W.heap.size)) (.string tLet) (.int .i64 3)).run Tryz.prog (W.alloc (.map #[] 0)) = .ok () (W.alloc (.map mb 1))
  ∧ (Instr.mapUpdate 98 (.map (some W.heap.size)) (.string zq1) (.int .i64 4)).run Tryz.prog (W.alloc (.map #[] 0)) = .ok () (W.alloc (.map mc 1))
  ∧ (Instr.mapUpdate 98 (.map (some W.heap.size)) (.string tLet) (.int .i64 3)).run Tryz.prog (W.alloc (.map ma 1)) = .ok () (W.alloc (.map mab 2))
  ∧ (Instr.mapUpdate 98 (.map (some W.heap.size)) (.string zq1) (.int .i64 4)).run Tryz.prog (W.alloc (.map ma 1)) = .ok () (W.alloc (.map mac 2))
  ∧ (Instr.mapUpdate 98 (.map (some W.heap.size)) (.string tVar) (.int .i64 2)).run Tryz.prog (W.alloc (.map mb 1)) = .ok () (W.alloc (.map mba 2))
  ∧ (Instr.mapUpdate 98 (.map (some W.heap.size)) (.string zq1) (.int .i64 4)).run Tryz.prog (W.alloc (.map mb 1)) = .ok () (W.alloc (.map mbc 2))
  ∧ (Instr.mapUpdate 98 (.map (some W.heap.size)) (.string tVar) (.int .i64 2)).run Tryz.prog (W.alloc (.map mc 1)) = .ok () (W.alloc (.map mca 2))
  ∧ (Instr.mapUpdate 98 (.map (some W.heap.size)) (.string tLet) (.int .i64 3)).run Tryz.prog (W.alloc (.map mc 1)) = .ok () (W.alloc (.map mcb 2))
  ∧ (Instr.mapUpdate 98 (.map (some W.heap.size)) (.string zq1) (.int .i64 4)).run Tryz.prog (W.alloc (.map mab 2)) = .ok () (W.alloc (.map mabc 3))
  ∧ (Instr.mapUpdate 98 (.map (some W.heap.size)) (.string tLet) (.int .i64 3)).run Tryz.prog (W.alloc (.map mac 2)) = .ok () (W.alloc (.map macb 3))
  ∧ (Instr.mapUpdate 98 (.map (some W.heap.size)) (.string zq1) (.int .i64 4)).run Tryz.prog (W.alloc (.map mba 2)) = .ok () (W.alloc (.map mbac 3))
  ∧ (Instr.mapUpdate 98 (.map (some W.heap.size)) (.string tVar) (.int .i64 2)).run Tryz.prog (W.alloc (.map mbc 2)) = .ok () (W.alloc (.map mbca 3))
  ∧ (Instr.mapUpdate 98 (.map (some W.heap.size)) (.string tLet) (.int .i64 3)).run Tryz.prog (W.alloc (.map mca 2)) = .ok () (W.alloc (.map mcab 3))
  ∧ (Instr.mapUpdate 98 (.map (some W.heap.size)) (.string tVar) (.int .i64 2)).run Tryz.prog (W.alloc (.map mcb 2)) = .ok () (W.alloc (.map mcba 3))
  ∧ (∀ s, (Instr.lookup 98 (.map (some W.heap.size)) (.string s) false).run Tryz.prog (W.alloc (.map mabc 3)) = .ok (.int .i64 (dcK s)) (W.alloc (.map mabc 3)))
  ∧ (∀ s, (Instr.lookup 98 (.map (some W.heap.size)) (.string s) false).run Tryz.prog (W.alloc (.map macb 3)) = .ok (.int .i64 (dcK s)) (W.alloc (.map macb 3)))
  ∧ (∀ s, (Instr.lookup 98 (.map (some W.heap.size)) (.string s) false).run Tryz.prog (W.alloc (.map mbac 3)) = .ok (.int .i64 (dcK s)) (W.alloc (.map mbac 3)))
  ∧ (∀ s, (Instr.lookup 98 (.map (some W.heap.size)) (.string s) false).run Tryz.prog (W.alloc (.map mbca 3)) = .ok (.int .i64 (dcK s)) (W.alloc (.map mbca 3)))
  ∧ (∀ s, (Instr.lookup 98 (.map (some W.heap.size)) (.string s) false).run Tryz.prog (W.alloc (.map mcab 3)) = .ok (.int .i64 (dcK s)) (W.alloc (.map mcab 3)))
  ∧ (∀ s, (Instr.lookup 98 (.map (some W.heap.size)) (.string s) false).run Tryz.prog (W.alloc (.map mcba 3)) = .ok (.int .i64 (dcK s)) (W.alloc (.map mcba 3))) :=
 ⟨zx6 (zj0 [(tVar, 2)]), zx6 (zj0 [(tLet, 3)]), zx6 (zj0 [(zq1, 4)]), zx6 (zj0 [(tVar, 2), (tLet, 3)]), zx6 (zj0 [(tVar, 2), (zq1, 4)]), zx6 (zj0 [(tLet, 3), (tVar, 2)]), zx6 (zj0 [(tLet, 3), (zq1, 4)]), zx6 (zj0 [(zq1, 4), (tVar, 2)]), zx6 (zj0 [(zq1, 4), (tLet, 3)]), zx6 (zj0 [(tVar, 2), (tLet, 3), (zq1, 4)]), zx6 (zj0 [(tVar, 2), (zq1, 4), (tLet, 3)]), zx6 (zj0 [(tLet, 3), (tVar, 2), (zq1, 4)]), zx6 (zj0 [(tLet, 3), (zq1, 4), (tVar, 2)]), zx6 (zj0 [(zq1, 4), (tVar, 2), (tLet, 3)]), zx6 (zj0 [(zq1, 4), (tLet, 3), (tVar, 2)]),
  mkMap 98 W,
  zx2 98 3 W (zj0 []) tVar _ 0 _ _ rfl rfl rfl Tryz.underlying98 (by decide +kernel),
  zx2 98 3 W (zj0 []) tLet _ 0 _ _ rfl rfl rfl Tryz.underlying98 (by decide +kernel),
  zx2 98 3 W (zj0 []) zq1 _ 0 _ _ rfl rfl rfl Tryz.underlying98 (by decide +kernel),
  zx2 98 3 W (zj0 [(tVar, 2)]) tLet _ 1 _ _ rfl rfl rfl Tryz.underlying98 (by decide +kernel),
  zx2 98 3 W (zj0 [(tVar, 2)]) zq1 _ 1 _ _ rfl rfl rfl Tryz.underlying98 (by decide +kernel),
  zx2 98 3 W (zj0 [(tLet, 3)]) tVar _ 1 _ _ rfl rfl rfl Tryz.underlying98 (by decide +kernel),
  zx2 98 3 W (zj0 [(tLet, 3)]) zq1 _ 1 _ _ rfl rfl rfl Tryz.underlying98 (by decide +kernel),
  zx2 98 3 W (zj0 [(zq1, 4)]) tVar _ 1 _ _ rfl rfl rfl Tryz.underlying98 (by decide +kernel),
  zx2 98 3 W (zj0 [(zq1, 4)]) tLet _ 1 _ _ rfl rfl rfl Tryz.underlying98 (by decide +kernel),
  zx2 98 3 W (zj0 [(tVar, 2), (tLet, 3)]) zq1 _ 2 _ _ rfl rfl rfl Tryz.underlying98 (by decide +kernel),
  zx2 98 3 W (zj0 [(tVar, 2), (zq1, 4)]) tLet _ 2 _ _ rfl rfl rfl Tryz.underlying98 (by decide +kernel),
  zx2 98 3 W (zj0 [(tLet, 3), (tVar, 2)]) zq1 _ 2 _ _ rfl rfl rfl Tryz.underlying98 (by decide +kernel),
  zx2 98 3 W (zj0 [(tLet, 3), (zq1, 4)]) tVar _ 2 _ _ rfl rfl rfl Tryz.underlying98 (by decide +kernel),
  zx2 98 3 W (zj0 [(zq1, 4), (tVar, 2)]) tLet _ 2 _ _ rfl rfl rfl Tryz.underlying98 (by decide +kernel),
  zx2 98 3 W (zj0 [(zq1, 4), (tLet, 3)]) tVar _ 2 _ _ rfl rfl rfl Tryz.underlying98 (by decide +kernel),
  fun s => (zhy W.heap.size 3 [(tVar, 2), (tLet, 3), (zq1, 4)] s _ (zqx _ _)).trans (by rw [dc_abc s]; rfl),
  fun s => (zhy W.heap.size 3 [(tVar, 2), (zq1, 4), (tLet, 3)] s _ (zqx _ _)).trans (by rw [dc_acb s]; rfl),
  fun s => (zhy W.heap.size 3 [(tLet, 3), (tVar, 2), (zq1, 4)] s _ (zqx _ _)).trans (by rw [dc_bac s]; rfl),
  fun s => (zhy W.heap.size 3 [(tLet, 3), (zq1, 4), (tVar, 2)] s _ (zqx _ _)).trans (by rw [dc_bca s]; rfl),
  fun s => (zhy W.heap.size 3 [(zq1, 4), (tVar, 2), (tLet, 3)] s _ (zqx _ _)).trans (by rw [dc_cab s]; rfl),
  fun s => (zhy W.heap.size 3 [(zq1, 4), (tLet, 3), (tVar, 2)] s _ (zqx _ _)).trans (by rw [dc_cba s]; rfl)⟩
def TokS (c : PC) (w W : World) : Prop := W.heap[c.P]? = w.heap[c.P]? ∧ W.heap[c.tb]? = w.heap[c.tb]?
theorem TokS.cell {c : PC} {w W : World} (h : TokS c w W) (o : Nat) : W.cell? ⟨c.P, o, none⟩ = w.cell? ⟨c.P, o, none⟩ := World.cell?_of_block (w := w) h.1
theorem TokS.tok {c : PC} {w W : World} (h : TokS c w W) (o : Nat) : W.cell? ⟨c.tb, o, none⟩ = w.cell? ⟨c.tb, o, none⟩ := World.cell?_of_block (w := w) h.2
theorem TokS.alloc {c : PC} {w W : World} (h : TokS c w W) (hp : c.P < W.heap.size) (ht : c.tb < W.heap.size) (o : Obj) : TokS c w (W.alloc o) := ⟨(Below.heap_alloc W o _ hp).trans h.1, (Below.heap_alloc W o _ ht).trans h.2⟩
theorem TokS.set {c : PC} {w W : World} (h : TokS c w W) {N o : Nat} {v : Value} (hp : c.P ≠ N) (ht : c.tb ≠ N) : TokS c w (W.setCell ⟨N, o, none⟩ v) := ⟨(Below.heap_setCell W ⟨N, o, none⟩ v _ hp).trans h.1, (Below.heap_setCell W ⟨N, o, none⟩ v _ ht).trans h.2⟩
theorem viaM {G : Array MapEntry → Prop} {goal : Prop} (h1 : (∀ m, G m) → goal) (h2 : ∀ m, G m) : goal := h1 h2
theorem Stn.decl {c : PC} {w : World} {i : Nat} {W W0 : World} (h : Stn c w i W) (hlo : c.lo ≤ w.heap.size) (h0 : W0 = W.drew) (o : Obj) (k : Int) : Stk c w k i ((W0.setCell ⟨w.heap.size, 0, none⟩ (.int .i64 k)).alloc o) := by
 subst h0
 exact ((h.below (Below.refl W.heap.size W).drew).kind hlo k).below (qb.alloc qv o)
end Go.Proofs.YtodmgaikhbmlnaaGreatDoor
