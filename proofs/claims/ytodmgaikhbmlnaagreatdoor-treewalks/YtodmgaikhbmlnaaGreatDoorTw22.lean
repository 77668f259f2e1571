/-
  A node that is being read grows by a part behind its own.
-/
import Derived.Test.YtodmgaikhbmlnaaGreatDoorTw19
set_option maxRecDepth 100000
set_option maxHeartbeats 16000000
namespace Go.Proofs.YtodmgaikhbmlnaaGreatDoor
open Go.RowKit
theorem st_open {B N z4 n : Nat} {w5 X : World} {kd z : Int} {tx : ByteArray} {ks : List Tr} {ps : List Nat} (hBN : B ≤ N) (hN : N < z4) (hX : ∀ b, b ≠ N → X.heap[b]? = w5.heap[b]?) (hz : X.heap.size = w5.heap.size) (h5 : z4 ≤ w5.heap.size)
  (nb : X.heap[N]? = some (nodeObj kd tx z (.slice (some ⟨w5.heap.size, 0, none⟩) n n))) (hk : NAts (fun b => z4 ≤ b) w5 ks ps) (hn : n = ps.length) (cs : Array Value) (hc : cs.toList = ps.map nPtr) (hl : ps.length ≤ maxLen) : Open B (X.alloc (.cells cs 22)) (.mk kd tx z ks) N (.slice (some ⟨w5.heap.size, 0, none⟩) n n) ps := by
 subst hn
 have hcs : cs.size = ps.length * 1 := by rw [← Array.length_toList, hc]; simp
 have ho := World.ownsRow_lit (base := B) (e := 22) (size := 1) X cs ps.length (by omega) hl hcs
 rw [hz, hc] at ho
 refine ⟨hBN, by rw [Below.heap_alloc _ _ _ (by omega)]; exact nb, ho, ?_, ?_⟩
 ·
  intro e; simp only [Value.ownBlock, Option.some.injEq] at e; omega
 ·
  have hs : Stay (fun b => z4 ≤ b ∧ b < w5.heap.size) w5 (X.alloc (.cells cs 22)) := fun b hb hl => by rw [Below.heap_alloc _ _ _ (by omega)]; exact hX b (by have : z4 ≤ b := hb.1; omega)
  have h1 := NAts.mono (J := fun b => z4 ≤ b ∧ b < w5.heap.size) (fun b hb hl => ⟨hb, hl⟩) _ _ hk; exact NAts.mono (fun b hb _ => by
   have h2 : z4 ≤ b ∧ b < w5.heap.size := hb; refine ⟨by omega, by omega, fun e => ?_⟩; simp only [Value.ownBlock, Option.some.injEq] at e; omega) _ _ (NAts.later hs _ _ h1)
theorem Open.nv {B : Nat} {w : World} {t : Tr} {p : Nat} {u : Value} {ps : List Nat} (h : Open B w t p u ps) : NV B w t (nPtr p) := h.ev.nv
theorem Open.stay {R B : Nat} {w w' : World} {t : Tr} {p : Nat} {u : Value} {ps : List Nat} (h : Open B w t p u ps) (ha : Ap R w.heap.size w w') (hB : R < B) : Open B w' t p u ps :=
 ⟨h.low, by rw [ha.block p (lt_of_heap h.blk) (by have := h.low; omega)]; exact h.blk, owns_stay (I := fun b => B ≤ b) (Stay.of_ap ha hB fun _ h => h) (fun g hg => (own_lt h.row g hg).2) h.row, h.own, NAts.later (Stay.of_ap ha hB fun _ h => h.1) _ _ h.kids⟩
theorem Open.grows {B : Nat} {w1 w2 w3 : World} {t : Tr} {p : Nat} {u v : Value} {ps : List Nat} (h : Open B w1 t p u ps) (hb : Below B w1 w2) (hB : B ≤ w2.heap.size) (hgr : w2.grownBy w3 u.ownBlock) : Below B w1 (w3.setCell ⟨p, 3, none⟩ v) :=
 (hb.grown hgr hB (fun k hk => (own_lt h.row k hk).2)).setCell (p := ⟨p, 3, none⟩) h.low _
theorem Open.push {B : Nat} {w2 w3 : World} {t x : Tr} {p q g cap n : Nat} {u : Value} {ps : List Nat} (h : Open B w2 t p u ps) (hx : NAts (fun b => B ≤ b ∧ b ≠ p ∧ u.ownBlock ≠ some b) w2 [x] [q]) (hn : n = t.kids.length + 1)
  (hown : w3.ownsRow B 22 1 (.slice (some ⟨g, 0, none⟩) n cap) n (ps.map nPtr ++ [nPtr q])) (hgr : w2.grownBy w3 u.ownBlock) (hg : u.ownBlock = some g ∨ g = w2.heap.size) :
  EV B (w3.setCell ⟨p, 3, none⟩ (.slice (some ⟨g, 0, none⟩) n cap)) (.mk t.kd t.tx t.n (t.kids ++ [x])) (nPtr p) :=
 ev_push h.low h.blk h.own h.kids hx (by rw [List.map_append]; exact hown) (by rw [hn]; simp [NAts.length _ _ h.kids]) hgr hg
theorem Open.apart2 {B Z : Nat} {w w1 : World} {t : Tr} {p : Nat} {u : Value} {ps : List Nat} (h : Open B w t p u ps) (hB : B ≤ w.heap.size) (hZ : w.heap.size ≤ Z) {us : List Tr} {qs : List Nat} (hn : NAts (fun b => Z ≤ b) w1 us qs) :
  NAts (fun b => B ≤ b ∧ b ≠ p ∧ u.ownBlock ≠ some b) w1 us qs :=
 NAts.mono (fun b hb _ => by
  have h1 : Z ≤ b := hb; have h2 := lt_of_heap h.blk; exact ⟨by omega, by omega, fun e => by have := (own_lt h.row b e).1; omega⟩) _ _ hn
theorem Open.alloc {B : Nat} {w : World} {t : Tr} {p : Nat} {u : Value} {ps : List Nat} (h : Open B w t p u ps) (o : Obj) : Open B (w.alloc o) t p u ps :=
 ⟨h.low, by rw [Below.heap_alloc _ _ _ (lt_of_heap h.blk)]; exact h.blk, h.row.alloc _, h.own, NAts.later (fun b _ hl => Below.heap_alloc w _ b hl) _ _ h.kids⟩
theorem NAts.alloc {I : Nat → Prop} {w : World} {ts : List Tr} {ps : List Nat} (h : NAts I w ts ps) (o : Obj) : NAts I (w.alloc o) ts ps := NAts.later (fun b _ hl => Below.heap_alloc w _ b hl) _ _ h
theorem Open.push2 {B : Nat} {w1 w3 : World} {t x : Tr} {p q g cap n : Nat} {u : Value} {ps : List Nat} (h : Open B w1 t p u ps) (hx : NAts (fun b => B ≤ b ∧ b ≠ p ∧ u.ownBlock ≠ some b) w1 [x] [q]) (hn : n = t.kids.length + 1)
  (hown : w3.ownsRow B 22 1 (.slice (some ⟨g, 0, none⟩) n cap) n (ps.map nPtr ++ [nPtr q])) (hgr : (w1.alloc (.cells #[nPtr q] 22)).grownBy w3 u.ownBlock) (hg : u.ownBlock = some g ∨ g = w1.heap.size + 1) :
  EV B (w3.setCell ⟨p, 3, none⟩ (.slice (some ⟨g, 0, none⟩) n cap)) (.mk t.kd t.tx t.n (t.kids ++ [x])) (nPtr p) :=
 (h.alloc _).push (NAts.alloc hx _) hn hown hgr (hg.imp id fun e => by simp [e])
theorem Open.of_ev {B N : Nat} {w : World} {t : Tr} {kd n : Int} {tx : ByteArray} {v : Value} (h : EV B w t (nPtr N)) (hb : w.heap[N]? = some (nodeObj kd tx n v)) : ∃ ps, Open B w t N v ps := by
 obtain ⟨p, u, ps, he, ho⟩ := h.opens
 have h1 : N = p := by simpa [nPtr] using he
 subst h1
 have h2 := ho.blk
 rw [hb] at h2
 have h3 : v = u := by
  have h4 := h2; simp at h4; exact h4.2.2.2
 subst h3
 exact ⟨ps, ho⟩
structure CallOk (c : PC) (w : World) (Z : Nat) (t : Tr) (u : Value) (qs : List Nat) (x : Tr) (j : Nat) (wc : World) (pc : Nat) : Prop where
 ap : Ap c.P w.heap.size w wc
 ps : Ps c wc j 0 (-1)
 op : Open w.heap.size wc t w.heap.size u qs
 nd : NAts (fun b => Z ≤ b) wc [x] [pc]
 sz : Z ≤ wc.heap.size
structure CallBad (c : PC) (w : World) (t : Tr) (u : Value) (qs : List Nat) (er pl : Int) (wc : World) (pc : Nat) : Prop where
 ap : Ap c.P w.heap.size w wc
 ps : ∃ j, Ps c wc j er pl
 op : Open w.heap.size wc t w.heap.size u qs
 he : er ≠ 0
end Go.Proofs.YtodmgaikhbmlnaaGreatDoor
