/-
  Same: a program's part is the same as itself, wherever both lie.
-/
import Derived.Test.YtoimgcjbcbhclaaGreatDoorRn15
set_option maxRecDepth 100000
set_option maxHeartbeats 16000000
namespace Go.Proofs.YtoimgcjbcbhclaaGreatDoor
open Go.RowKit
structure SameAt (p q g h k L c1 c2 a b : Nat) (W : World) : Prop where
 x3 : W.cell? ⟨p, 3, none⟩ = some (.slice (some ⟨g, 0, none⟩) L c1)
 y3 : W.cell? ⟨q, 3, none⟩ = some (.slice (some ⟨h, 0, none⟩) L c2)
 xk : W.cell? ⟨g, k, none⟩ = some (nPtr a)
 yk : W.cell? ⟨h, k, none⟩ = some (nPtr b)
theorem same_any (I J : Nat → Prop) : ∀ (m : Nat) (t : Tr), t.count ≤ m → t.count ≤ 100000 → ∀ (p q : Nat) (w : World), NAt I w t p → NAt J w t q →
  Calls Tryz.prog 16 #[nPtr p, nPtr q] w fun e w' => e = .returned (.bool true) ∧ Below w.heap.size w w' := by
 intro m
 induction m with
 | zero =>
  intro t ht
  cases t with
  | mk kd tx nn ks => rw [zq3] at ht; omega
 | succ m ih =>
  intro t ht hbd p q w hnp hnq; obtain ⟨u, ps, hblk, hrow, hri, hks⟩ := hnp.opens2; obtain ⟨v, qs, hblq, hroq, hrj, hkq⟩ := hnq.opens2; have hlen := NAts.length _ _ hks; have hleq := NAts.length _ _ hkq
  have htc : t.count = 1 + Tr.counts t.kids := by cases t with | mk kd tx nn ks => exact zq3 _ _ _ _
  obtain ⟨f0, f1, f2, f3, _⟩ := zzj hblk; obtain ⟨g0, g1, g2, g3, _⟩ := zzj hblq; obtain ⟨ua, uc, hu⟩ := zjj hrow; subst hu; obtain ⟨va, vc, hv⟩ := zjj hroq; subst hv; rw [hlen] at f3
  rw [hleq] at g3; have hkb : t.kids.length ≤ 100000 := by have := zdw t.kids; omega
  obtain ⟨kd, hkd⟩ : ∃ kd, kd = t.kd := ⟨_, rfl⟩; obtain ⟨tx, htx⟩ : ∃ tx, tx = t.tx := ⟨_, rfl⟩; obtain ⟨nn, hnn⟩ : ∃ nn, nn = t.n := ⟨_, rfl⟩; rw [← hkd] at f0 g0; rw [← htx] at f1 g1; rw [← hnn] at f2 g2
  have HKS := qh hks; have HKQ := qh hkq; have HROW := qh hrow; have HROQ := qh hroq; have HIH := qh ih; have HTC := qh htc; have HHT := qh ht; have HBD := qh hbd; have HLE := qh hlen
  have HLQ := qh hleq; have HP := qh (zzz hblk); have HQ := qh (zzz hblq); have HF3 := qh f3; have HG3 := qh g3; clear hri hrj hks hkq hrow hroq ih htc ht hbd hblk hblq hnp hnq hkd htx hnn hlen hleq
  go_enter Tryz.func16, Tryz.ntmps16; go_wp2_with fail
  go_region
  go_wp2_with fail
  go_loopw [64] (fun i wr => ∃ k : Nat, k ≤ t.kids.length ∧ i = .int .i64 k ∧ Below w.heap.size w wr) (fun i _ => t.kids.length - (intOf i).toNat)
  case atStart => exact ⟨0, Nat.zero_le _, rfl, qb.drew⟩
  case round =>
   obtain ⟨k, hk, rfl, hb⟩ := hrel; have HB := qh hb; clear hb f0 f1 f2 f3 g0 g1 g2 g3
   by_cases hlt : k < t.kids.length
   ·
    obtain ⟨g, cap, hv, hcell⟩ := zv2 HROW.out (by have := zzq HLE; omega)
    simp only [Value.slice.injEq] at hv; obtain ⟨rfl, _, rfl⟩ := hv; obtain ⟨h, cbp, hv, hcelq⟩ := zv2 HROQ.out (by have := zzq HLQ; omega)
    simp only [Value.slice.injEq] at hv; obtain ⟨rfl, _, rfl⟩ := hv; obtain ⟨hkp, hnk⟩ := NAts.get _ _ HKS.out k hlt; obtain ⟨hkq, hnl⟩ := NAts.get _ _ HKQ.out k hlt; have hgl : g < w.heap.size := (zx6 HROW.out g rfl).1
    have hhl : h < w.heap.size := (zx6 HROQ.out h rfl).1; have hbb := zzq HB; have hnk2 : NAt I wr.drew t.kids[k] ps[k] := NAt.later (fun x _ hl => (hbb.drew).block x hl) _ _ hnk
    have hnl2 : NAt J wr.drew t.kids[k] qs[k] := NAt.later (fun x _ hl => (hbb.drew).block x hl) _ _ hnl; have hst : SameAt p q g h k t.kids.length uc vc ps[k] qs[k] wr.drew :=
     ⟨by rw [World.cell?_of_block (w := w) ((hbb.drew).block p HP.out)]; exact HF3.out, by rw [World.cell?_of_block (w := w) ((hbb.drew).block q HQ.out)]; exact HG3.out, by rw [World.cell?_of_block (w := w) ((hbb.drew).block g hgl)]; exact hcell k hkp, by rw [World.cell?_of_block (w := w) ((hbb.drew).block h hhl)]; exact hcelq k hkq⟩
    have hle := zmj t.kids k hlt; have h1 := zzq HTC; have h2 := zzq HHT; have h3 := zzq HBD; have HC := qh (HIH.out t.kids[k] (by omega) (by omega) ps[k] qs[k] wr.drew hnk2 hnl2)
    obtain ⟨a, ha⟩ : ∃ a, a = ps[k] := ⟨_, rfl⟩; obtain ⟨b, hb⟩ : ∃ b, b = qs[k] := ⟨_, rfl⟩; rw [← ha, ← hb] at hst HC; have HST := qh hst; have hki : (k : Int) < (t.kids.length : Int) := by omega
    have HX : Hid (∀ w2, Below wr.drew.heap.size wr.drew w2 → SameAt p q g h k t.kids.length uc vc a b w2 ∧ Below w.heap.size w w2) := fun w2 h2 => by
     have h3 : Below w.heap.size w w2 := hbb.drew.trans (h2.mono hbb.drew.size); refine ⟨⟨?_, ?_, ?_, ?_⟩, h3⟩
     ·
      rw [World.cell?_of_block (w := w) (h3.block p HP.out)]; exact zzq HF3
     ·
      rw [World.cell?_of_block (w := w) (h3.block q HQ.out)]; exact zzq HG3
     ·
      rw [World.cell?_of_block (w := w) (h3.block g hgl)]; rw [ha]; exact hcell k hkp
     ·
      rw [World.cell?_of_block (w := w) (h3.block h hhl)]; rw [hb]; exact hcelq k hkq
    clear hcell hcelq hnk hnl hnk2 hnl2 hle h1 h2 h3 ha hb hst hbb; go_wp2_with fail; refine wp_region_held (S := SameAt p q g h k t.kids.length uc vc a b) (by kernel_rfl) ?_; change wpAnyH _ _ _ _ _ _ _ _ (World.drew _)
    refine wh 0 (nPtr p) HST.out ?_; refine wh 1 (nPtr p) HST.out ?_; refine wh 2 (.pointer (some ⟨p, 3, none⟩)) HST.out ?_
    refine wg 3 (.slice (some ⟨g, 0, none⟩) t.kids.length uc) rfl (Or.inl ⟨by kernel_rfl, fun W hW => by have hh := SameAt.x3 hW; go_simp⟩) HST.out ?_
    refine wh 4 (.int .i64 (k : Int)) HST.out ?_; refine wh 5 (.pointer (some ⟨g, k, none⟩)) HST.out ?_; refine wg 6 (nPtr a) rfl (Or.inl ⟨by kernel_rfl, fun W hW => by have hh := SameAt.xk hW; go_simp⟩) HST.out ?_
    refine wh 7 (nPtr q) HST.out ?_; refine wh 8 (nPtr q) HST.out ?_; refine wh 9 (.pointer (some ⟨q, 3, none⟩)) HST.out ?_
    refine wg 10 (.slice (some ⟨h, 0, none⟩) t.kids.length vc) rfl (Or.inl ⟨by kernel_rfl, fun W hW => by have hh := SameAt.y3 hW; go_simp⟩) HST.out ?_
    refine wh 11 (.int .i64 (k : Int)) HST.out ?_; refine wh 12 (.pointer (some ⟨h, k, none⟩)) HST.out ?_; refine wg 13 (nPtr b) rfl (Or.inl ⟨by kernel_rfl, fun W hW => by have hh := SameAt.yk hW; go_simp⟩) HST.out ?_
    refine wq1 14 fun K hK => ?_; go_simp; refine cm HC.out ?_; rintro e w2 ⟨rfl, hb2⟩; obtain ⟨hs2, hb3⟩ := HX.out w2 hb2; have HS2 := qh hs2; have HB3 := qh hb3; clear hs2 hb2 hb3 HC
    refine hK.out _ _ HS2.out (fun _ => ?_); clear hK K; refine wh 15 (.bool false) HS2.out ?_; refine wpAnyH_done (by kernel_rfl) ?_ _; go_simp; go_wp2_with fail
    go_roundw
    case rel => exact ⟨k + 1, by omega, by go_num, HB3.out⟩
    case measure => simp [intOf]; omega
   ·
    have hk2 : k = t.kids.length := by omega
    subst hk2; go_wp2_with fail; go_ret; exact ⟨rfl, HB.out⟩
end Go.Proofs.YtoimgcjbcbhclaaGreatDoor
namespace Go.Proofs.YtoimgcjbcbhclaaGreatDoor.Old
open Go.RowKit
mutual
def NAt (I : Nat → Prop) (w : World) : Tr → Nat → Prop
 | .mk kd tx n ks, p => I p ∧ ∃ v ps, w.heap[p]? = some (zzk kd tx n v) ∧ KRow I w v ps ∧ NAts I w ks ps
def NAts (I : Nat → Prop) (w : World) : List Tr → List Nat → Prop
 | [], ps => ps = []
 | t :: ts, ps => ∃ p ps', ps = p :: ps' ∧ NAt I w t p ∧ NAts I w ts ps'
end
mutual
theorem NAt.later {I : Nat → Prop} {w w' : World} (ha : Stay I w w') : ∀ (t : Tr) (p : Nat), NAt I w t p → NAt I w' t p
 | .mk kd tx n ks, p, h => by
  rw [NAt] at h ⊢; obtain ⟨hp, v, ps, hb, hr, hk⟩ := h; exact ⟨hp, v, ps, by rw [ha p hp (zzz hb)]; exact hb, ⟨zx2 ha hr.2 hr.1, hr.2⟩, NAts.later ha ks ps hk⟩
theorem NAts.later {I : Nat → Prop} {w w' : World} (ha : Stay I w w') : ∀ (ts : List Tr) (ps : List Nat), NAts I w ts ps → NAts I w' ts ps
 | [], ps, h => by rw [NAts] at h ⊢; exact h
 | t :: ts, ps, h => by
  rw [NAts] at h ⊢; obtain ⟨p, ps', rfl, h1, h2⟩ := h; exact ⟨p, ps', rfl, NAt.later ha t p h1, NAts.later ha ts ps' h2⟩
end
mutual
theorem NAt.mono {I J : Nat → Prop} {w : World} (hJ : ∀ b, I b → b < w.heap.size → J b) : ∀ (t : Tr) (p : Nat), NAt I w t p → NAt J w t p
 | .mk kd tx n ks, p, h => by
  rw [NAt] at h ⊢; obtain ⟨hp, v, ps, hb, hr, hk⟩ := h; exact ⟨hJ p hp (zzz hb), v, ps, hb, ⟨hr.1, fun g hg => hJ g (hr.2 g hg) (zx6 hr.1 g hg).1⟩, NAts.mono hJ ks ps hk⟩
theorem NAts.mono {I J : Nat → Prop} {w : World} (hJ : ∀ b, I b → b < w.heap.size → J b) : ∀ (ts : List Tr) (ps : List Nat), NAts I w ts ps → NAts J w ts ps
 | [], ps, h => by rw [NAts] at h ⊢; exact h
 | t :: ts, ps, h => by
  rw [NAts] at h ⊢; obtain ⟨p, ps', rfl, h1, h2⟩ := h; exact ⟨p, ps', rfl, NAt.mono hJ t p h1, NAts.mono hJ ts ps' h2⟩
end
theorem NAts.length {I : Nat → Prop} {w : World} : ∀ (ts : List Tr) (ps : List Nat), NAts I w ts ps → ps.length = ts.length
 | [], ps, h => by rw [NAts] at h; rw [h]; rfl
 | t :: ts, ps, h => by
  rw [NAts] at h; obtain ⟨p, ps', rfl, h1, h2⟩ := h; simp [NAts.length ts ps' h2]
theorem NAts.nil {I : Nat → Prop} {w : World} : NAts I w [] [] := by rw [NAts]
theorem NAts.cons {I : Nat → Prop} {w : World} {t : Tr} {p : Nat} {ts : List Tr} {ps : List Nat} (h : NAt I w t p) (h2 : NAts I w ts ps) : NAts I w (t :: ts) (p :: ps) := by
 rw [NAts]; exact ⟨p, ps, rfl, h, h2⟩
theorem NAts.append {I : Nat → Prop} {w : World} {us : List Tr} {qs : List Nat} (hu : NAts I w us qs) : ∀ (ts : List Tr) (ps : List Nat), NAts I w ts ps → NAts I w (ts ++ us) (ps ++ qs)
 | [], ps, h => by rw [NAts] at h; subst h; exact hu
 | t' :: ts, ps, h => by
  rw [NAts] at h; obtain ⟨p', ps', rfl, h1, h2⟩ := h; exact NAts.cons h1 (NAts.append hu ts ps' h2)
def NV (B : Nat) (w : World) (t : Tr) (v : Value) : Prop := ∃ p, v = nPtr p ∧ NAt (fun b => B ≤ b) w t p
def EV (B : Nat) (w : World) (t : Tr) (v : Value) : Prop :=
 ∃ p u ps, v = nPtr p ∧ B ≤ p ∧ w.heap[p]? = some (zzk t.kd t.tx t.n u) ∧ w.ownsRow B 22 1 u ps.length (ps.map nPtr) ∧ u.ownBlock ≠ some p ∧ NAts (fun b => B ≤ b ∧ b ≠ p ∧ u.ownBlock ≠ some b) w t.kids ps
def KV (B : Nat) (w : World) (ts : List Tr) (v : Value) : Prop :=
 ∃ ps, w.ownsRow B 22 1 v ps.length (ps.map nPtr) ∧ NAts (fun b => B ≤ b ∧ v.ownBlock ≠ some b) w ts ps
theorem EV.nv {B : Nat} {w : World} {t : Tr} {v : Value} (h : EV B w t v) : NV B w t v := by
 obtain ⟨p, u, ps, rfl, hp, hb, hr, _, hk⟩ := h
 cases t with
 | mk kd tx n ks =>
  refine ⟨p, rfl, ?_⟩; rw [NAt]; exact ⟨hp, u, ps, hb, ⟨owns_zero hr, fun g hg => (zx6 hr g hg).2⟩, NAts.mono (fun b hb _ => hb.1) _ _ hk⟩
theorem NV.later {R B : Nat} {w w' : World} {t : Tr} {v : Value} (h : NV B w t v) (ha : Ap R w.heap.size w w') (hB : R < B) : NV B w' t v := by
 obtain ⟨p, rfl, hp⟩ := h
 exact ⟨p, rfl, NAt.later (Stay.of_ap ha hB fun _ h => h) _ _ hp⟩
theorem NV.mono {B B' : Nat} {w : World} {t : Tr} {v : Value} (h : NV B w t v) (hB : B' ≤ B) : NV B' w t v := by
 obtain ⟨p, rfl, hp⟩ := h
 exact ⟨p, rfl, NAt.mono (fun b h _ => Nat.le_trans hB h) _ _ hp⟩
theorem EV.later {R B : Nat} {w w' : World} {t : Tr} {v : Value} (h : EV B w t v) (ha : Ap R w.heap.size w w') (hB : R < B) : EV B w' t v := by
 obtain ⟨p, u, ps, rfl, hp, hb, hr, hu, hk⟩ := h
 exact ⟨p, u, ps, rfl, hp, by rw [ha.block p (zzz hb) (by omega)]; exact hb, zx2 (I := fun b => B ≤ b) (Stay.of_ap ha hB fun _ h => h) (fun g hg => (zx6 hr g hg).2) hr, hu, NAts.later (Stay.of_ap ha hB fun _ h => h.1) _ _ hk⟩
theorem EV.mono {B B' : Nat} {w : World} {t : Tr} {v : Value} (h : EV B w t v) (hB : B' ≤ B) : EV B' w t v := by
 obtain ⟨p, u, ps, rfl, hp, hb, hr, hu, hk⟩ := h
 refine ⟨p, u, ps, rfl, by omega, hb, ?_, hu, NAts.mono (fun b h _ => ⟨by omega, h.2⟩) _ _ hk⟩
 refine ⟨hr.1, ?_⟩
 rcases hr.2 with hn | ⟨g, cap, cur, hv, hb, rest⟩
 ·
  exact Or.inl hn
 ·
  exact Or.inr ⟨g, cap, cur, hv, by omega, rest⟩
theorem KV.later {R B : Nat} {w w' : World} {ts : List Tr} {v : Value} (h : KV B w ts v) (ha : Ap R w.heap.size w w') (hB : R < B) : KV B w' ts v := by
 obtain ⟨ps, hr, hk⟩ := h
 exact ⟨ps, zx2 (I := fun b => B ≤ b) (Stay.of_ap ha hB fun _ h => h) (fun g hg => (zx6 hr g hg).2) hr, NAts.later (Stay.of_ap ha hB fun _ h => h.1) _ _ hk⟩
theorem KV.nil (B : Nat) (w : World) : KV B w [] (.slice none 0 0) := ⟨[], ⟨rfl, Or.inl ⟨rfl, rfl⟩⟩, NAts.nil⟩
theorem EV.new {B : Nat} {w : World} {ts : List Tr} {v : Value} (h : KV B w ts v) (hB : B ≤ w.heap.size) (kd : Int) (tx : ByteArray) (n : Int) :
  EV B (w.alloc (zzk kd tx n v)) (.mk kd tx n ts) (nPtr w.heap.size) := by
 obtain ⟨ps, hr, hk⟩ := h
 have hs : ∀ I, Stay I w (w.alloc (zzk kd tx n v)) := fun I b _ hl => Below.heap_alloc w _ b hl
 refine ⟨w.heap.size, v, ps, rfl, hB, zqx _ _, zx2 (I := fun _ => True) (hs _) (fun _ _ => trivial) hr, fun h => ?_, NAts.later (hs _) _ _ (NAts.mono (fun b h hl => ⟨h.1, by omega, h.2⟩) _ _ hk)⟩
 exact absurd (zx6 hr _ h).1 (by omega)
theorem KV.row {B : Nat} {w : World} {ts : List Tr} {ps : List Nat} (h : NAts (fun b => B ≤ b) w ts ps) (hB : B ≤ w.heap.size) (hl : ps.length ≤ maxLen) (cs : Array Value) (hc : cs.toList = ps.map nPtr) :
  KV B (w.alloc (.cells cs 22)) ts (.slice (some ⟨w.heap.size, 0, none⟩) ps.length ps.length) := by
 have hs : ∀ I, Stay I w (w.alloc (.cells cs 22)) := fun I b _ hl => Below.heap_alloc w _ b hl
 have hz : cs.size = ps.length := by rw [← Array.length_toList, hc, List.length_map]
 refine ⟨ps, ⟨by simp, Or.inr ⟨w.heap.size, ps.length, cs, rfl, hB, zqx _ _, Nat.le_refl _, hl, by omega, ?_⟩⟩, NAts.later (hs _) _ _ (NAts.mono (fun b h hl => ⟨h, fun e => by simp only [Value.ownBlock, Option.some.injEq] at e; omega⟩) _ _ h)⟩
 rw [hc]
 exact List.take_of_length_le (by simp)
theorem EV.text {B : Nat} {w : World} {t : Tr} {p : Nat} (h : EV B w t (nPtr p)) (s : ByteArray) : EV B (w.setCell ⟨p, 1, none⟩ (.string s)) (.mk t.kd s t.n t.kids) (nPtr p) := by
 obtain ⟨p', u, ps, he, hp, hb, hr, hu, hk⟩ := h
 have : p' = p := by simpa [nPtr] using he.symm
 subst this
 have hs : ∀ b, b ≠ p' → (w.setCell ⟨p', 1, none⟩ (.string s)).heap[b]? = w.heap[b]? := fun b hb => Below.heap_setCell w ⟨p', 1, none⟩ _ b hb
 refine ⟨p', u, ps, rfl, hp, by rw [zz8 hb]; rfl, ?_, hu, NAts.later (fun b h _ => hs b h.2.1) _ _ hk⟩
 exact zx2 (I := fun b => b ≠ p') (fun b h _ => hs b h) (fun g hg e => hu (by rw [hg, e])) hr
theorem NAt.opens {I : Nat → Prop} {w : World} {t : Tr} {p : Nat} (h : NAt I w t p) : ∃ u ps, w.heap[p]? = some (zzk t.kd t.tx t.n u) ∧ w.ownsRow 0 22 1 u ps.length (ps.map nPtr) ∧ NAts I w t.kids ps := by
 cases t with
 | mk kd tx n ks =>
  rw [NAt] at h; obtain ⟨_, u, ps, h1, h2, h3⟩ := h; exact ⟨u, ps, h1, h2.1, h3⟩
theorem made {c : Ctx} {w W : World} {j d : Nat} {ts : List Tr} {ps : List Nat} (hR : Rdr c W j d) (hA : Ap c.R w.heap.size w W) (hn : NAts (From w.heap.size) W ts ps) (hl : ps.length ≤ maxLen) (cs : Array Value) (hc : cs.toList = ps.map nPtr) (n : Nat) (hlen : ps.length = n) (kd : Int) (tx : ByteArray) (q : Nat) (hq : q = W.heap.size + 1) :
  EV w.heap.size ((W.alloc (.cells cs 22)).alloc (zzk kd tx 0 (.slice (some ⟨W.heap.size, 0, none⟩) n n))) (.mk kd tx 0 ts) (nPtr q) ∧
  Rdr c ((W.alloc (.cells cs 22)).alloc (zzk kd tx 0 (.slice (some ⟨W.heap.size, 0, none⟩) n n))) j d ∧
  Ap c.R w.heap.size w ((W.alloc (.cells cs 22)).alloc (zzk kd tx 0 (.slice (some ⟨W.heap.size, 0, none⟩) n n))) := by
 subst hlen
 have hs : q = (W.alloc (.cells cs 22)).heap.size := by rw [hq]; simp
 rw [hs]
 exact ⟨EV.new (KV.row hn hA.size hl cs hc) (by simp; have := hA.size; omega) kd tx 0, (hR.alloc _).alloc _, (hA.alloc hA.size _).alloc (by simp; have := hA.size; omega) _⟩
theorem KV.shape {B : Nat} {w : World} {ts : List Tr} {v : Value} (h : KV B w ts v) : ∃ a cap, v = .slice a ts.length cap := by
 obtain ⟨ps, hr, hk⟩ := h
 rw [← NAts.length _ _ hk]
 exact zjj hr
theorem KV.own {B : Nat} {w : World} {ts : List Tr} {v : Value} (h : KV B w ts v) (g : Nat) (hg : v.ownBlock = some g) : g < w.heap.size ∧ B ≤ g := by
 obtain ⟨ps, hr, _⟩ := h
 exact zx6 hr g hg
theorem KV.mono {B B' : Nat} {w : World} {ts : List Tr} {v : Value} (h : KV B w ts v) (hB : B' ≤ B) : KV B' w ts v := by
 obtain ⟨ps, hr, hk⟩ := h
 refine ⟨ps, ⟨hr.1, ?_⟩, NAts.mono (fun b h _ => ⟨by omega, h.2⟩) _ _ hk⟩
 rcases hr.2 with hn | ⟨g, cap, cur, hv, hb, rest⟩
 ·
  exact Or.inl hn
 ·
  exact Or.inr ⟨g, cap, cur, hv, by omega, rest⟩
theorem zfx {B : Nat} {w1 w3 : World} {ts us : List Tr} {v : Value} {ps qs : List Nat} {g cap n : Nat} {o : Obj} (hk : NAts (fun b => B ≤ b ∧ v.ownBlock ≠ some b) w1 ts ps)
  (ht : NAts (fun b => B ≤ b ∧ v.ownBlock ≠ some b) w1 us qs) (hown : w3.ownsRow B 22 1 (.slice (some ⟨g, 0, none⟩) n cap) n ((ps ++ qs).map nPtr)) (hn : n = (ps ++ qs).length) (hgr : (w1.alloc o).grownBy w3 v.ownBlock)
  (hg : v.ownBlock = some g ∨ g = w1.heap.size + 1) : KV B w3 (ts ++ us) (.slice (some ⟨g, 0, none⟩) n cap) := by
 subst hn
 refine ⟨ps ++ qs, hown, ?_⟩
 have hs : Stay (fun b => B ≤ b ∧ b ≠ g ∧ v.ownBlock ≠ some b) w1 w3 := by
  intro b hb hl; have h1 : Below w1.heap.size w1 (w1.alloc o) := qb.alloc qv _; rw [← h1.block b hl]; exact hgr.block b (by simp; omega) (fun e => hb.2.2 e.symm)
 have h0 := NAts.mono (J := fun b => B ≤ b ∧ b ≠ g ∧ v.ownBlock ≠ some b) (fun b hb hl => ⟨hb.1, fun e => by (rcases hg with hg | hg); (exact hb.2 (by rw [hg, e])); omega, hb.2⟩) _ _ (NAts.append ht _ _ hk)
 exact NAts.mono (fun b hb _ => ⟨hb.1, fun e => by simp only [Value.ownBlock, Option.some.injEq] at e; exact hb.2.1 e.symm⟩) _ _ (NAts.later hs _ _ h0)
theorem zhv {B : Nat} {w w1 : World} {ts : List Tr} {v : Value} {t : Tr} {p : Nat} (hk : KV B w ts v) (hB : B ≤ w.heap.size) (hn : NAt (From w.heap.size) w1 t p) : NAt (fun b => B ≤ b ∧ v.ownBlock ≠ some b) w1 t p :=
 NAt.mono (fun b hb _ => ⟨Nat.le_trans hB hb, fun e => by have := (hk.own b e).1; have : w.heap.size ≤ b := hb; omega⟩) _ _ hn
theorem NAts.get {I : Nat → Prop} {w : World} : ∀ (ts : List Tr) (ps : List Nat), NAts I w ts ps → ∀ k, (hk : k < ts.length) → ∃ hp : k < ps.length, NAt I w ts[k] ps[k]
 | [], _, _, k, hk => absurd hk (by simp)
 | t :: ts, ps, h, k, hk => by
  rw [NAts] at h; obtain ⟨p, ps', rfl, h1, h2⟩ := h
  cases k with
  | zero => exact ⟨by simp, h1⟩
  | succ k =>
   obtain ⟨hp, hn⟩ := NAts.get ts ps' h2 k (by simpa using hk); exact ⟨by simpa using hp, by simpa using hn⟩
theorem NAt.opens2 {I : Nat → Prop} {w : World} {t : Tr} {p : Nat} (h : NAt I w t p) : ∃ u ps, w.heap[p]? = some (zzk t.kd t.tx t.n u) ∧ w.ownsRow 0 22 1 u ps.length (ps.map nPtr) ∧ (∀ g, u.ownBlock = some g → I g) ∧ NAts I w t.kids ps := by
 cases t with
 | mk kd tx n ks =>
  rw [NAt] at h; obtain ⟨_, u, ps, h1, h2, h3⟩ := h; exact ⟨u, ps, h1, h2.1, h2.2, h3⟩
structure Open (B : Nat) (w : World) (t : Tr) (p : Nat) (u : Value) (ps : List Nat) : Prop where
 low : B ≤ p
 blk : w.heap[p]? = some (zzk t.kd t.tx t.n u)
 row : w.ownsRow B 22 1 u ps.length (ps.map nPtr)
 own : u.ownBlock ≠ some p
 kids : NAts (fun b => B ≤ b ∧ b ≠ p ∧ u.ownBlock ≠ some b) w t.kids ps
theorem EV.opens {B : Nat} {w : World} {t : Tr} {v : Value} (h : EV B w t v) : ∃ p u ps, v = nPtr p ∧ Open B w t p u ps := by
 obtain ⟨p, u, ps, rfl, h1, h2, h3, h4, h5⟩ := h
 exact ⟨p, u, ps, rfl, h1, h2, h3, h4, h5⟩
theorem Open.ev {B : Nat} {w : World} {t : Tr} {p : Nat} {u : Value} {ps : List Nat} (h : Open B w t p u ps) : EV B w t (nPtr p) := ⟨p, u, ps, rfl, h.low, h.blk, h.row, h.own, h.kids⟩
theorem Open.later {c : Ctx} {B : Nat} {w w' : World} {t : Tr} {p : Nat} {u : Value} {ps : List Nat} (h : Open B w t p u ps) (ha : Ap c.R w.heap.size w w') (hB : c.R < B) : Open B w' t p u ps :=
 ⟨h.low, by rw [ha.block p (zzz h.blk) (by have := h.low; omega)]; exact h.blk, zx2 (I := fun b => B ≤ b) (Stay.of_ap ha hB fun _ h => h) (fun g hg => (zx6 h.row g hg).2) h.row, h.own, NAts.later (Stay.of_ap ha hB fun _ h => h.1) _ _ h.kids⟩
theorem Open.cell {B : Nat} {w : World} {t : Tr} {p : Nat} {u : Value} {ps : List Nat} (h : Open B w t p u ps) : w.cell? ⟨p, 3, none⟩ = some u ∧ (∀ o, w.frozen? ⟨p, o, none⟩ = false) ∧ p < w.heap.size :=
 ⟨(zzj h.blk).2.2.2.1, (zzj h.blk).2.2.2.2, zzz h.blk⟩
theorem Open.shape {B : Nat} {w : World} {t : Tr} {p : Nat} {u : Value} {ps : List Nat} (h : Open B w t p u ps) : ∃ a cap, u = .slice a t.kids.length cap := by
 rw [← NAts.length _ _ h.kids]; exact zjj h.row
theorem ev_push {B : Nat} {w0 w3 : World} {kd n : Int} {tx : ByteArray} {ts us : List Tr} {ps qs : List Nat} {p g m cap : Nat} {u : Value} (hB : B ≤ p) (hb : w0.heap[p]? = some (zzk kd tx n u)) (hu : u.ownBlock ≠ some p)
  (hk : NAts (fun b => B ≤ b ∧ b ≠ p ∧ u.ownBlock ≠ some b) w0 ts ps) (hq : NAts (fun b => B ≤ b ∧ b ≠ p ∧ u.ownBlock ≠ some b) w0 us qs)
  (hown : w3.ownsRow B 22 1 (.slice (some ⟨g, 0, none⟩) m cap) m ((ps ++ qs).map nPtr)) (hm : m = (ps ++ qs).length) (hgr : w0.grownBy w3 u.ownBlock) (hg : u.ownBlock = some g ∨ g = w0.heap.size) :
  EV B (w3.setCell ⟨p, 3, none⟩ (.slice (some ⟨g, 0, none⟩) m cap)) (.mk kd tx n (ts ++ us)) (nPtr p) := by
 subst hm
 have hlt := zzz hb
 have hgp : g ≠ p := by
  rcases hg with hg | hg
  ·
   exact fun e => hu (by rw [hg, e])
  ·
   omega
 have h3 : w3.heap[p]? = some (zzk kd tx n u) := by rw [hgr.block p hlt (fun e => hu e.symm)]; exact hb
 have hset : ∀ b, b ≠ p → (w3.setCell ⟨p, 3, none⟩ (.slice (some ⟨g, 0, none⟩) (ps ++ qs).length cap)).heap[b]? = w3.heap[b]? := fun b hb => Below.heap_setCell w3 ⟨p, 3, none⟩ _ b hb
 refine ⟨p, .slice (some ⟨g, 0, none⟩) (ps ++ qs).length cap, ps ++ qs, rfl, hB, by rw [zz8 h3]; rfl, ?_, fun e => hgp (by simpa [Value.ownBlock] using e), ?_⟩
 ·
  exact zx2 (I := fun b => b = g) (fun b hb _ => hset b (by rw [hb]; exact hgp)) (fun g' hg' => by simpa [Value.ownBlock] using hg'.symm) hown
 ·
  have h0 := NAts.mono (J := fun b => B ≤ b ∧ b ≠ p ∧ b ≠ g ∧ u.ownBlock ≠ some b) (fun b hb hl => ⟨hb.1, hb.2.1, fun e => by (rcases hg with hg | hg); (exact hb.2.2 (by rw [hg, e])); omega, hb.2.2⟩) _ _ (NAts.append hq _ _ hk)
  have hs : Stay (fun b => B ≤ b ∧ b ≠ p ∧ b ≠ g ∧ u.ownBlock ≠ some b) w0 (w3.setCell ⟨p, 3, none⟩ (.slice (some ⟨g, 0, none⟩) (ps ++ qs).length cap)) := by
   intro b hb hl; rw [hset b hb.2.1]; exact hgr.block b hl (fun e => hb.2.2.2 e.symm)
  exact NAts.mono (fun b hb _ => ⟨hb.1, hb.2.1, fun e => by simp only [Value.ownBlock, Option.some.injEq] at e; exact hb.2.2.1 e.symm⟩) _ _ (NAts.later hs _ _ h0)
theorem Open.cap {B : Nat} {w : World} {t : Tr} {p : Nat} {ua : Option Addr} {n uc : Nat} {ps : List Nat} (h : Open B w t p (.slice ua n uc) ps) (hp : 0 < t.kids.length) : n ≤ uc ∧ ∃ g, ua = some ⟨g, 0, none⟩ := by
 have hl := NAts.length _ _ h.kids
 rcases h.row.2 with hn | ⟨g, cap, cur, hv, _, _, h1, _⟩
 ·
  omega
 ·
  simp only [Value.slice.injEq] at hv; obtain ⟨rfl, rfl, rfl⟩ := hv; exact ⟨h1, g, rfl⟩
set_option maxRecDepth 100000 in
set_option maxHeartbeats 1000000 in
theorem same_any (I J : Nat → Prop) : ∀ (m : Nat) (t : Tr), t.count ≤ m → t.count ≤ 100000 → ∀ (p q : Nat) (w : World), NAt I w t p → NAt J w t q →
  Calls Tryz.prog 16 #[nPtr p, nPtr q] w fun e w' => e = .returned (.bool true) ∧ Below w.heap.size w w' := by
 intro m
 induction m with
 | zero =>
  intro t ht
  cases t with
  | mk kd tx nn ks => rw [zq3] at ht; omega
 | succ m ih =>
  intro t ht hbd p q w hnp hnq; obtain ⟨u, ps, hblk, hrow, hri, hks⟩ := hnp.opens2; obtain ⟨v, qs, hblq, hroq, hrj, hkq⟩ := hnq.opens2; have hlen := NAts.length _ _ hks; have hleq := NAts.length _ _ hkq
  have htc : t.count = 1 + Tr.counts t.kids := by cases t with | mk kd tx nn ks => exact zq3 _ _ _ _
  obtain ⟨f0, f1, f2, f3, _⟩ := zzj hblk; obtain ⟨g0, g1, g2, g3, _⟩ := zzj hblq; obtain ⟨ua, uc, hu⟩ := zjj hrow; subst hu; obtain ⟨va, vc, hv⟩ := zjj hroq; subst hv; rw [hlen] at f3
  rw [hleq] at g3; have hkb : t.kids.length ≤ 100000 := by have := zdw t.kids; omega
  obtain ⟨kd, hkd⟩ : ∃ kd, kd = t.kd := ⟨_, rfl⟩; obtain ⟨tx, htx⟩ : ∃ tx, tx = t.tx := ⟨_, rfl⟩; obtain ⟨nn, hnn⟩ : ∃ nn, nn = t.n := ⟨_, rfl⟩; rw [← hkd] at f0 g0; rw [← htx] at f1 g1; rw [← hnn] at f2 g2
  have HKS := qh hks; have HKQ := qh hkq; have HROW := qh hrow; have HROQ := qh hroq; have HIH := qh ih; have HTC := qh htc; have HHT := qh ht; have HBD := qh hbd; have HLE := qh hlen
  have HLQ := qh hleq; have HP := qh (zzz hblk); have HQ := qh (zzz hblq); have HF3 := qh f3; have HG3 := qh g3; clear hri hrj hks hkq hrow hroq ih htc ht hbd hblk hblq hnp hnq hkd htx hnn hlen hleq
  go_enter Tryz.func16, Tryz.ntmps16; go_wp2_with fail
  go_region
  go_wp2_with fail
  go_loopw [64] (fun i wr => ∃ k : Nat, k ≤ t.kids.length ∧ i = .int .i64 k ∧ Below w.heap.size w wr) (fun i _ => t.kids.length - (intOf i).toNat)
  case atStart => exact ⟨0, Nat.zero_le _, rfl, qb.drew⟩
  case round =>
   obtain ⟨k, hk, rfl, hb⟩ := hrel; have HB := qh hb; clear hb f0 f1 f2 f3 g0 g1 g2 g3
   by_cases hlt : k < t.kids.length
   ·
    obtain ⟨g, cap, hv, hcell⟩ := zv2 HROW.out (by have := zzq HLE; omega)
    simp only [Value.slice.injEq] at hv; obtain ⟨rfl, _, rfl⟩ := hv; obtain ⟨h, cbp, hv, hcelq⟩ := zv2 HROQ.out (by have := zzq HLQ; omega)
    simp only [Value.slice.injEq] at hv; obtain ⟨rfl, _, rfl⟩ := hv; obtain ⟨hkp, hnk⟩ := NAts.get _ _ HKS.out k hlt; obtain ⟨hkq, hnl⟩ := NAts.get _ _ HKQ.out k hlt; have hgl : g < w.heap.size := (zx6 HROW.out g rfl).1
    have hhl : h < w.heap.size := (zx6 HROQ.out h rfl).1; have hbb := zzq HB; have hnk2 : NAt I wr.drew t.kids[k] ps[k] := NAt.later (fun x _ hl => (hbb.drew).block x hl) _ _ hnk
    have hnl2 : NAt J wr.drew t.kids[k] qs[k] := NAt.later (fun x _ hl => (hbb.drew).block x hl) _ _ hnl; have hst : SameAt p q g h k t.kids.length uc vc ps[k] qs[k] wr.drew :=
     ⟨by rw [World.cell?_of_block (w := w) ((hbb.drew).block p HP.out)]; exact HF3.out, by rw [World.cell?_of_block (w := w) ((hbb.drew).block q HQ.out)]; exact HG3.out, by rw [World.cell?_of_block (w := w) ((hbb.drew).block g hgl)]; exact hcell k hkp, by rw [World.cell?_of_block (w := w) ((hbb.drew).block h hhl)]; exact hcelq k hkq⟩
    have hle := zmj t.kids k hlt; have h1 := zzq HTC; have h2 := zzq HHT; have h3 := zzq HBD; have HC := qh (HIH.out t.kids[k] (by omega) (by omega) ps[k] qs[k] wr.drew hnk2 hnl2)
    obtain ⟨a, ha⟩ : ∃ a, a = ps[k] := ⟨_, rfl⟩; obtain ⟨b, hb⟩ : ∃ b, b = qs[k] := ⟨_, rfl⟩; rw [← ha, ← hb] at hst HC; have HST := qh hst; have hki : (k : Int) < (t.kids.length : Int) := by omega
    have HX : Hid (∀ w2, Below wr.drew.heap.size wr.drew w2 → SameAt p q g h k t.kids.length uc vc a b w2 ∧ Below w.heap.size w w2) := fun w2 h2 => by
     have h3 : Below w.heap.size w w2 := hbb.drew.trans (h2.mono hbb.drew.size); refine ⟨⟨?_, ?_, ?_, ?_⟩, h3⟩
     ·
      rw [World.cell?_of_block (w := w) (h3.block p HP.out)]; exact zzq HF3
     ·
      rw [World.cell?_of_block (w := w) (h3.block q HQ.out)]; exact zzq HG3
     ·
      rw [World.cell?_of_block (w := w) (h3.block g hgl)]; rw [ha]; exact hcell k hkp
     ·
      rw [World.cell?_of_block (w := w) (h3.block h hhl)]; rw [hb]; exact hcelq k hkq
    clear hcell hcelq hnk hnl hnk2 hnl2 hle h1 h2 h3 ha hb hst hbb; go_wp2_with fail; refine wp_region_held (S := SameAt p q g h k t.kids.length uc vc a b) (by kernel_rfl) ?_; change wpAnyH _ _ _ _ _ _ _ _ (World.drew _)
    refine wh 0 (nPtr p) HST.out ?_; refine wh 1 (nPtr p) HST.out ?_; refine wh 2 (.pointer (some ⟨p, 3, none⟩)) HST.out ?_
    refine wg 3 (.slice (some ⟨g, 0, none⟩) t.kids.length uc) rfl (Or.inl ⟨by kernel_rfl, fun W hW => by have hh := SameAt.x3 hW; go_simp⟩) HST.out ?_
    refine wh 4 (.int .i64 (k : Int)) HST.out ?_; refine wh 5 (.pointer (some ⟨g, k, none⟩)) HST.out ?_; refine wg 6 (nPtr a) rfl (Or.inl ⟨by kernel_rfl, fun W hW => by have hh := SameAt.xk hW; go_simp⟩) HST.out ?_
    refine wh 7 (nPtr q) HST.out ?_; refine wh 8 (nPtr q) HST.out ?_; refine wh 9 (.pointer (some ⟨q, 3, none⟩)) HST.out ?_
    refine wg 10 (.slice (some ⟨h, 0, none⟩) t.kids.length vc) rfl (Or.inl ⟨by kernel_rfl, fun W hW => by have hh := SameAt.y3 hW; go_simp⟩) HST.out ?_
    refine wh 11 (.int .i64 (k : Int)) HST.out ?_; refine wh 12 (.pointer (some ⟨h, k, none⟩)) HST.out ?_; refine wg 13 (nPtr b) rfl (Or.inl ⟨by kernel_rfl, fun W hW => by have hh := SameAt.yk hW; go_simp⟩) HST.out ?_
    refine wq1 14 fun K hK => ?_; go_simp; refine cm HC.out ?_; rintro e w2 ⟨rfl, hb2⟩; obtain ⟨hs2, hb3⟩ := HX.out w2 hb2; have HS2 := qh hs2; have HB3 := qh hb3; clear hs2 hb2 hb3 HC
    refine hK.out _ _ HS2.out (fun _ => ?_); clear hK K; refine wh 15 (.bool false) HS2.out ?_; refine wpAnyH_done (by kernel_rfl) ?_ _; go_simp; go_wp2_with fail
    go_roundw
    case rel => exact ⟨k + 1, by omega, by go_num, HB3.out⟩
    case measure => simp [intOf]; omega
   ·
    have hk2 : k = t.kids.length := by omega
    subst hk2; go_wp2_with fail; go_ret; exact ⟨rfl, HB.out⟩
end Go.Proofs.YtoimgcjbcbhclaaGreatDoor.Old
