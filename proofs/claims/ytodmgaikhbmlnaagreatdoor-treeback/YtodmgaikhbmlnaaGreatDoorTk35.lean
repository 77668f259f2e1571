/-
  Functions and statements that the writer puts.
-/
import Derived.Test.YtodmgaikhbmlnaaGreatDoorTk34
set_option maxRecDepth 100000
set_option maxHeartbeats 16000000
namespace Go.Proofs.YtodmgaikhbmlnaaGreatDoor
open Go.RowKit

theorem isE_ne {tx : ByteArray} (h : tx ≠ noText) : tx.toList.isEmpty = false := by
  have h1 := tl_ne h
  cases h2 : tx.toList with
  | nil => rw [h2] at h1; simp [ByteArray.toList_eq] at h1
  | cons a l => rfl

theorem hdx_at {B b m : Nat} {s : WS} {w : World} (kd : Int) (h : Wt B b m s w) : Calls Tryz.prog 116 #[.int .i64 kd] w fun e w' => e = .returned (.string (hdText kd)) ∧ Below w.heap.size w w' := by
  obtain ⟨t, fr, h5⟩ := h.heads.2
  exact headText_any kd w t fr h5

theorem wrFun_none {B b m : Nat} (kd : Int) (n : Int) (t0 t1 : Tr) (s s1 s2 : WS) (hl0 : s.1.length + sumT [tFunction] ≤ 100000000) (h1 : ∀ w v, Wt B b m (putsS [tFunction] s) w → RB B w t0.kids v → Calls Tryz.prog 177 #[wPtr b, .string tOpen, .string tShut, v] w (WPost B b m s1 w)) (h2 : ∀ w p, Wt B b m s1 w → NB B w t1 p → Calls Tryz.prog 119 #[wPtr b, nPtr p] w (WPost B b m s2 w)) :
    ∀ w p, Wt B b m s w → NB B w (.mk kd noText n [t0, t1]) p → Calls Tryz.prog 118 #[wPtr b, nPtr p] w (WPost B b m s2 w) := by
  have HH1 := hide h1
  have HH2 := hide h2
  clear h1 h2
  intro w p hW hN
  have HW0 := hide hW
  have HN := hide hN
  have HK0 := hide (Kp.refl B b w)
  clear hW hN
  go_enter Tryz.func118, Tryz.ntmps118
  go_wp2_with fail
  refine Calls.mono (put_at (s := s) (w := w) [tFunction] _ 1 rfl #[.string tFunction] rfl (by exact new_at (by simp)) (by exact (unhide HW0).alloc _) (by exact (unhide HK0).alloc (unhide HW0).size _) hl0) ?_
  intro e w1 hp
  obtain ⟨rfl, g1, g2⟩ := hp
  have HW1 := hide g1
  have HK1 := hide g2
  clear g1 g2 HW0 HK0
  obtain ⟨d0, d1, d2⟩ := ((unhide HN).later (unhide HK1).below).cells
  simp only [Tr.kd, Tr.tx, Tr.n] at d0 d1 d2
  have hpl : p < w1.heap.size := by have h1 := (unhide HN).lt; have h2 := (unhide HW1).size; simp at h2 ⊢; omega
  obtain ⟨g2, cc2, q2, rr2, hg2, rk2, hq2⟩ := ((unhide HN).later (unhide HK1).below).kid 0 (by simp [Tr.kids])
  simp only [Tr.kids, List.length_cons, List.length_nil] at rr2
  have HQ2 : Hid (NB B w1 t0 q2) := hq2
  have hgl2 : g2 < w1.heap.size := by have h2 := (unhide HW1).size; simp at h2 ⊢; omega
  clear hq2
  have hq0 := (unhide HQ2)
  obtain ⟨u, c3, hrb⟩ := hq0.rowV
  have hq0l : q2 < w1.heap.size := by have h1 := hq0.lt; have h2 := (unhide HW1).size; omega
  have HC := hide ((unhide HH1) w1 _ (unhide HW1) hrb)
  obtain ⟨a, c, rfl, hrow⟩ := hrb
  clear hrow hq0
  go_wp2_with fail
  refine Calls.mono HC.out ?_
  intro e w3 hp
  obtain ⟨rfl, g1, g2⟩ := hp
  have HW3 := hide g1
  have HK3 := hide ((unhide HK1).trans g2)
  clear g1 g2 HC HW1 HK1
  clear d0 d1 d2 hpl rr2 hg2 rk2 HQ2 hgl2 c3 hq0l
  obtain ⟨d0, d1, d2⟩ := ((unhide HN).later (unhide HK3).below).cells
  simp only [Tr.kd, Tr.tx, Tr.n] at d0 d1 d2
  have hpl : p < w3.heap.size := by have h1 := (unhide HN).lt; have h2 := (unhide HW3).size; simp at h2 ⊢; omega
  obtain ⟨g4, cc4, q4, rr4, hg4, rk4, hq4⟩ := ((unhide HN).later (unhide HK3).below).kid 1 (by simp [Tr.kids])
  simp only [Tr.kids, List.length_cons, List.length_nil] at rr4
  have HQ4 : Hid (NB B w3 t1 q4) := hq4
  have hgl4 : g4 < w3.heap.size := by have h2 := (unhide HW3).size; simp at h2 ⊢; omega
  clear hq4
  have HC := hide ((unhide HH2) w3 q4 (unhide HW3) (unhide HQ4))
  go_wp2_with fail
  refine Calls.mono HC.out ?_
  intro e w5 hp
  obtain ⟨rfl, g1, g2⟩ := hp
  have HW5 := hide g1
  have HK5 := hide ((unhide HK3).trans g2)
  clear g1 g2 HC HW3 HK3
  clear d0 d1 d2 hpl rr4 hg4 rk4 HQ4 hgl4
  go_wp2_with fail
  go_end0
  exact ⟨rfl, unhide HW5, unhide HK5⟩

theorem wrFun_name {B b m : Nat} (kd : Int) (tx : ByteArray) (n : Int) (t0 t1 : Tr) (s s1 s2 : WS) (hn : tx ≠ noText) (hl0 : s.1.length + sumT [tFunction] ≤ 100000000) (hl1 : (putsS [tFunction] s).1.length + sumT [tx] ≤ 100000000) (h1 : ∀ w v, Wt B b m (putsS [tx] (putsS [tFunction] s)) w → RB B w t0.kids v → Calls Tryz.prog 177 #[wPtr b, .string tOpen, .string tShut, v] w (WPost B b m s1 w)) (h2 : ∀ w p, Wt B b m s1 w → NB B w t1 p → Calls Tryz.prog 119 #[wPtr b, nPtr p] w (WPost B b m s2 w)) :
    ∀ w p, Wt B b m s w → NB B w (.mk kd tx n [t0, t1]) p → Calls Tryz.prog 118 #[wPtr b, nPtr p] w (WPost B b m s2 w) := by
  have HH1 := hide h1
  have HH2 := hide h2
  clear h1 h2
  intro w p hW hN
  have HW0 := hide hW
  have HN := hide hN
  have HK0 := hide (Kp.refl B b w)
  clear hW hN
  go_enter Tryz.func118, Tryz.ntmps118
  go_wp2_with fail
  refine Calls.mono (put_at (s := s) (w := w) [tFunction] _ 1 rfl #[.string tFunction] rfl (by exact new_at (by simp)) (by exact (unhide HW0).alloc _) (by exact (unhide HK0).alloc (unhide HW0).size _) hl0) ?_
  intro e w1 hp
  obtain ⟨rfl, g1, g2⟩ := hp
  have HW1 := hide g1
  have HK1 := hide g2
  clear g1 g2 HW0 HK0
  obtain ⟨d0, d1, d2⟩ := ((unhide HN).later (unhide HK1).below).cells
  simp only [Tr.kd, Tr.tx, Tr.n] at d0 d1 d2
  have hpl : p < w1.heap.size := by have h1 := (unhide HN).lt; have h2 := (unhide HW1).size; simp at h2 ⊢; omega
  skip
  have hb := isE_ne hn
  clear hn
  go_wp2_with fail
  clear d0 d1 d2 hpl
  clear hb
  refine Calls.mono (put_at (s := putsS [tFunction] s) (w := w) [tx] _ 1 rfl #[.string tx] rfl (by exact new_at (by simp)) (by exact (unhide HW1).alloc _) (by exact (unhide HK1).alloc (unhide HW1).size _) hl1) ?_
  intro e w2 hp
  obtain ⟨rfl, g1, g2⟩ := hp
  have HW2 := hide g1
  have HK2 := hide g2
  clear g1 g2 HW1 HK1
  obtain ⟨d0, d1, d2⟩ := ((unhide HN).later (unhide HK2).below).cells
  simp only [Tr.kd, Tr.tx, Tr.n] at d0 d1 d2
  have hpl : p < w2.heap.size := by have h1 := (unhide HN).lt; have h2 := (unhide HW2).size; simp at h2 ⊢; omega
  obtain ⟨g3, cc3, q3, rr3, hg3, rk3, hq3⟩ := ((unhide HN).later (unhide HK2).below).kid 0 (by simp [Tr.kids])
  simp only [Tr.kids, List.length_cons, List.length_nil] at rr3
  have HQ3 : Hid (NB B w2 t0 q3) := hq3
  have hgl3 : g3 < w2.heap.size := by have h2 := (unhide HW2).size; simp at h2 ⊢; omega
  clear hq3
  have hq0 := (unhide HQ3)
  obtain ⟨u, c3, hrb⟩ := hq0.rowV
  have hq0l : q3 < w2.heap.size := by have h1 := hq0.lt; have h2 := (unhide HW2).size; omega
  have HC := hide ((unhide HH1) w2 _ (unhide HW2) hrb)
  obtain ⟨a, c, rfl, hrow⟩ := hrb
  clear hrow hq0
  go_wp2_with fail
  refine Calls.mono HC.out ?_
  intro e w4 hp
  obtain ⟨rfl, g1, g2⟩ := hp
  have HW4 := hide g1
  have HK4 := hide ((unhide HK2).trans g2)
  clear g1 g2 HC HW2 HK2
  clear d0 d1 d2 hpl rr3 hg3 rk3 HQ3 hgl3 c3 hq0l
  obtain ⟨d0, d1, d2⟩ := ((unhide HN).later (unhide HK4).below).cells
  simp only [Tr.kd, Tr.tx, Tr.n] at d0 d1 d2
  have hpl : p < w4.heap.size := by have h1 := (unhide HN).lt; have h2 := (unhide HW4).size; simp at h2 ⊢; omega
  obtain ⟨g5, cc5, q5, rr5, hg5, rk5, hq5⟩ := ((unhide HN).later (unhide HK4).below).kid 1 (by simp [Tr.kids])
  simp only [Tr.kids, List.length_cons, List.length_nil] at rr5
  have HQ5 : Hid (NB B w4 t1 q5) := hq5
  have hgl5 : g5 < w4.heap.size := by have h2 := (unhide HW4).size; simp at h2 ⊢; omega
  clear hq5
  have HC := hide ((unhide HH2) w4 q5 (unhide HW4) (unhide HQ5))
  go_wp2_with fail
  refine Calls.mono HC.out ?_
  intro e w6 hp
  obtain ⟨rfl, g1, g2⟩ := hp
  have HW6 := hide g1
  have HK6 := hide ((unhide HK4).trans g2)
  clear g1 g2 HC HW4 HK4
  clear d0 d1 d2 hpl rr5 hg5 rk5 HQ5 hgl5
  go_wp2_with fail
  go_end0
  exact ⟨rfl, unhide HW6, unhide HK6⟩

theorem wrBehind2 {B b m : Nat} (kd : Int) (tx hx : ByteArray) (n : Int) (t0 t1 : Tr) (s s1 s2 : WS) (hx0 : hx = hdText kd) (hl0 : s.1.length + sumT [hx, tOpen] ≤ 100000000) (h0 : VC B b m t0 1 (putsS [hx, tOpen] s) s1) (hl1 : s1.1.length + sumT [tShut] ≤ 100000000) (h1 : SC B b m t1 (putsS [tShut] s1) s2) :
    ∀ w p, Wt B b m s w → NB B w (.mk kd tx n [t0, t1]) p → Calls Tryz.prog 120 #[wPtr b, nPtr p] w (WPost B b m s2 w) := by
  have HH0 := hide h0
  have HH1 := hide h1
  clear h0 h1
  intro w p hW hN
  have HW0 := hide hW
  have HN := hide hN
  have HK0 := hide (Kp.refl B b w)
  clear hW hN
  obtain ⟨d0, d1, d2⟩ := ((unhide HN).later (unhide HK0).below).cells
  simp only [Tr.kd, Tr.tx, Tr.n] at d0 d1 d2
  have hpl : p < w.heap.size := by have h1 := (unhide HN).lt; have h2 := (unhide HW0).size; simp at h2 ⊢; omega
  have HC := hide (hdx_at kd (unhide HW0))
  rw [← hx0] at HC
  clear hx0
  go_enter Tryz.func120, Tryz.ntmps120
  go_wp2_with fail
  refine Calls.mono HC.out ?_
  rintro e w1 ⟨rfl, hb⟩
  have HW1 := hide ((unhide HW0).below hb)
  have HK1 := hide ((unhide HK0).trans (Kp.of (b := b) (unhide HW0).size hb))
  clear hb HC HW0 HK0
  clear d0 d1 d2 hpl
  go_wp2_with fail
  refine Calls.mono (put_at (s := s) (w := w) [hx, tOpen] _ 2 rfl #[.string hx, .string tOpen] rfl (by exact new_at (by simp)) (by exact (unhide HW1).alloc _) (by exact (unhide HK1).alloc (unhide HW1).size _) hl0) ?_
  intro e w2 hp
  obtain ⟨rfl, g1, g2⟩ := hp
  have HW2 := hide g1
  have HK2 := hide g2
  clear g1 g2 HW1 HK1
  obtain ⟨d0, d1, d2⟩ := ((unhide HN).later (unhide HK2).below).cells
  simp only [Tr.kd, Tr.tx, Tr.n] at d0 d1 d2
  have hpl : p < w2.heap.size := by have h1 := (unhide HN).lt; have h2 := (unhide HW2).size; simp at h2 ⊢; omega
  obtain ⟨g3, cc3, q3, rr3, hg3, rk3, hq3⟩ := ((unhide HN).later (unhide HK2).below).kid 0 (by simp [Tr.kids])
  simp only [Tr.kids, List.length_cons, List.length_nil] at rr3
  have HQ3 : Hid (NB B w2 t0 q3) := hq3
  have hgl3 : g3 < w2.heap.size := by have h2 := (unhide HW2).size; simp at h2 ⊢; omega
  clear hq3
  have HC := hide ((unhide HH0) w2 q3 (unhide HW2) (unhide HQ3))
  go_wp2_with fail
  refine Calls.mono HC.out ?_
  intro e w4 hp
  obtain ⟨rfl, g1, g2⟩ := hp
  have HW4 := hide g1
  have HK4 := hide ((unhide HK2).trans g2)
  clear g1 g2 HC HW2 HK2
  clear d0 d1 d2 hpl rr3 hg3 rk3 HQ3 hgl3
  go_wp2_with fail
  refine Calls.mono (put_at (s := s1) (w := w) [tShut] _ 1 rfl #[.string tShut] rfl (by exact new_at (by simp)) (by exact (unhide HW4).alloc _) (by exact (unhide HK4).alloc (unhide HW4).size _) hl1) ?_
  intro e w5 hp
  obtain ⟨rfl, g1, g2⟩ := hp
  have HW5 := hide g1
  have HK5 := hide g2
  clear g1 g2 HW4 HK4
  obtain ⟨d0, d1, d2⟩ := ((unhide HN).later (unhide HK5).below).cells
  simp only [Tr.kd, Tr.tx, Tr.n] at d0 d1 d2
  have hpl : p < w5.heap.size := by have h1 := (unhide HN).lt; have h2 := (unhide HW5).size; simp at h2 ⊢; omega
  obtain ⟨g6, cc6, q6, rr6, hg6, rk6, hq6⟩ := ((unhide HN).later (unhide HK5).below).kid 1 (by simp [Tr.kids])
  simp only [Tr.kids, List.length_cons, List.length_nil] at rr6
  have HQ6 : Hid (NB B w5 t1 q6) := hq6
  have hgl6 : g6 < w5.heap.size := by have h2 := (unhide HW5).size; simp at h2 ⊢; omega
  clear hq6
  have HC := hide ((unhide HH1) w5 q6 (unhide HW5) (unhide HQ6))
  go_wp2_with fail
  refine Calls.mono HC.out ?_
  intro e w7 hp
  obtain ⟨rfl, g1, g2⟩ := hp
  have HW7 := hide g1
  have HK7 := hide ((unhide HK5).trans g2)
  clear g1 g2 HC HW5 HK5
  clear d0 d1 d2 hpl rr6 hg6 rk6 HQ6 hgl6
  obtain ⟨d0, d1, d2⟩ := ((unhide HN).later (unhide HK7).below).cells
  simp only [Tr.kd, Tr.tx, Tr.n] at d0 d1 d2
  have hpl : p < w7.heap.size := by have h1 := (unhide HN).lt; have h2 := (unhide HW7).size; simp at h2 ⊢; omega
  obtain ⟨g8, cc8, q8, rr8, hg8, rk8, hq8⟩ := ((unhide HN).later (unhide HK7).below).kid 0 (by simp [Tr.kids])
  simp only [Tr.kids, List.length_cons, List.length_nil] at rr8
  have HQ8 : Hid (NB B w7 t0 q8) := hq8
  have hgl8 : g8 < w7.heap.size := by have h2 := (unhide HW7).size; simp at h2 ⊢; omega
  clear hq8
  go_wp2_with fail
  go_end0
  exact ⟨rfl, unhide HW7, unhide HK7⟩

theorem wrBehind3 {B b m : Nat} (kd : Int) (tx hx : ByteArray) (n : Int) (t0 t1 t2 : Tr) (s s1 s2 s3 : WS) (hx0 : hx = hdText kd) (hl0 : s.1.length + sumT [hx, tOpen] ≤ 100000000) (h0 : VC B b m t0 1 (putsS [hx, tOpen] s) s1) (hl1 : s1.1.length + sumT [tShut] ≤ 100000000) (h1 : SC B b m t1 (putsS [tShut] s1) s2) (hl2 : s2.1.length + sumT [tElse] ≤ 100000000) (h2 : SC B b m t2 (putsS [tElse] s2) s3) :
    ∀ w p, Wt B b m s w → NB B w (.mk kd tx n [t0, t1, t2]) p → Calls Tryz.prog 120 #[wPtr b, nPtr p] w (WPost B b m s3 w) := by
  have HH0 := hide h0
  have HH1 := hide h1
  have HH2 := hide h2
  clear h0 h1 h2
  intro w p hW hN
  have HW0 := hide hW
  have HN := hide hN
  have HK0 := hide (Kp.refl B b w)
  clear hW hN
  obtain ⟨d0, d1, d2⟩ := ((unhide HN).later (unhide HK0).below).cells
  simp only [Tr.kd, Tr.tx, Tr.n] at d0 d1 d2
  have hpl : p < w.heap.size := by have h1 := (unhide HN).lt; have h2 := (unhide HW0).size; simp at h2 ⊢; omega
  have HC := hide (hdx_at kd (unhide HW0))
  rw [← hx0] at HC
  clear hx0
  go_enter Tryz.func120, Tryz.ntmps120
  go_wp2_with fail
  refine Calls.mono HC.out ?_
  rintro e w1 ⟨rfl, hb⟩
  have HW1 := hide ((unhide HW0).below hb)
  have HK1 := hide ((unhide HK0).trans (Kp.of (b := b) (unhide HW0).size hb))
  clear hb HC HW0 HK0
  clear d0 d1 d2 hpl
  go_wp2_with fail
  refine Calls.mono (put_at (s := s) (w := w) [hx, tOpen] _ 2 rfl #[.string hx, .string tOpen] rfl (by exact new_at (by simp)) (by exact (unhide HW1).alloc _) (by exact (unhide HK1).alloc (unhide HW1).size _) hl0) ?_
  intro e w2 hp
  obtain ⟨rfl, g1, g2⟩ := hp
  have HW2 := hide g1
  have HK2 := hide g2
  clear g1 g2 HW1 HK1
  obtain ⟨d0, d1, d2⟩ := ((unhide HN).later (unhide HK2).below).cells
  simp only [Tr.kd, Tr.tx, Tr.n] at d0 d1 d2
  have hpl : p < w2.heap.size := by have h1 := (unhide HN).lt; have h2 := (unhide HW2).size; simp at h2 ⊢; omega
  obtain ⟨g3, cc3, q3, rr3, hg3, rk3, hq3⟩ := ((unhide HN).later (unhide HK2).below).kid 0 (by simp [Tr.kids])
  simp only [Tr.kids, List.length_cons, List.length_nil] at rr3
  have HQ3 : Hid (NB B w2 t0 q3) := hq3
  have hgl3 : g3 < w2.heap.size := by have h2 := (unhide HW2).size; simp at h2 ⊢; omega
  clear hq3
  have HC := hide ((unhide HH0) w2 q3 (unhide HW2) (unhide HQ3))
  go_wp2_with fail
  refine Calls.mono HC.out ?_
  intro e w4 hp
  obtain ⟨rfl, g1, g2⟩ := hp
  have HW4 := hide g1
  have HK4 := hide ((unhide HK2).trans g2)
  clear g1 g2 HC HW2 HK2
  clear d0 d1 d2 hpl rr3 hg3 rk3 HQ3 hgl3
  go_wp2_with fail
  refine Calls.mono (put_at (s := s1) (w := w) [tShut] _ 1 rfl #[.string tShut] rfl (by exact new_at (by simp)) (by exact (unhide HW4).alloc _) (by exact (unhide HK4).alloc (unhide HW4).size _) hl1) ?_
  intro e w5 hp
  obtain ⟨rfl, g1, g2⟩ := hp
  have HW5 := hide g1
  have HK5 := hide g2
  clear g1 g2 HW4 HK4
  obtain ⟨d0, d1, d2⟩ := ((unhide HN).later (unhide HK5).below).cells
  simp only [Tr.kd, Tr.tx, Tr.n] at d0 d1 d2
  have hpl : p < w5.heap.size := by have h1 := (unhide HN).lt; have h2 := (unhide HW5).size; simp at h2 ⊢; omega
  obtain ⟨g6, cc6, q6, rr6, hg6, rk6, hq6⟩ := ((unhide HN).later (unhide HK5).below).kid 1 (by simp [Tr.kids])
  simp only [Tr.kids, List.length_cons, List.length_nil] at rr6
  have HQ6 : Hid (NB B w5 t1 q6) := hq6
  have hgl6 : g6 < w5.heap.size := by have h2 := (unhide HW5).size; simp at h2 ⊢; omega
  clear hq6
  have HC := hide ((unhide HH1) w5 q6 (unhide HW5) (unhide HQ6))
  go_wp2_with fail
  refine Calls.mono HC.out ?_
  intro e w7 hp
  obtain ⟨rfl, g1, g2⟩ := hp
  have HW7 := hide g1
  have HK7 := hide ((unhide HK5).trans g2)
  clear g1 g2 HC HW5 HK5
  clear d0 d1 d2 hpl rr6 hg6 rk6 HQ6 hgl6
  obtain ⟨d0, d1, d2⟩ := ((unhide HN).later (unhide HK7).below).cells
  simp only [Tr.kd, Tr.tx, Tr.n] at d0 d1 d2
  have hpl : p < w7.heap.size := by have h1 := (unhide HN).lt; have h2 := (unhide HW7).size; simp at h2 ⊢; omega
  obtain ⟨g8, cc8, q8, rr8, hg8, rk8, hq8⟩ := ((unhide HN).later (unhide HK7).below).kid 0 (by simp [Tr.kids])
  simp only [Tr.kids, List.length_cons, List.length_nil] at rr8
  have HQ8 : Hid (NB B w7 t0 q8) := hq8
  have hgl8 : g8 < w7.heap.size := by have h2 := (unhide HW7).size; simp at h2 ⊢; omega
  clear hq8
  go_wp2_with fail
  clear d0 d1 d2 hpl rr8 hg8 rk8 HQ8 hgl8
  refine Calls.mono (put_at (s := s2) (w := w) [tElse] _ 1 rfl #[.string tElse] rfl (by exact new_at (by simp)) (by exact (unhide HW7).alloc _) (by exact (unhide HK7).alloc (unhide HW7).size _) hl2) ?_
  intro e w9 hp
  obtain ⟨rfl, g1, g2⟩ := hp
  have HW9 := hide g1
  have HK9 := hide g2
  clear g1 g2 HW7 HK7
  obtain ⟨d0, d1, d2⟩ := ((unhide HN).later (unhide HK9).below).cells
  simp only [Tr.kd, Tr.tx, Tr.n] at d0 d1 d2
  have hpl : p < w9.heap.size := by have h1 := (unhide HN).lt; have h2 := (unhide HW9).size; simp at h2 ⊢; omega
  obtain ⟨g10, cc10, q10, rr10, hg10, rk10, hq10⟩ := ((unhide HN).later (unhide HK9).below).kid 2 (by simp [Tr.kids])
  simp only [Tr.kids, List.length_cons, List.length_nil] at rr10
  have HQ10 : Hid (NB B w9 t2 q10) := hq10
  have hgl10 : g10 < w9.heap.size := by have h2 := (unhide HW9).size; simp at h2 ⊢; omega
  clear hq10
  have HC := hide ((unhide HH2) w9 q10 (unhide HW9) (unhide HQ10))
  go_wp2_with fail
  refine Calls.mono HC.out ?_
  intro e w11 hp
  obtain ⟨rfl, g1, g2⟩ := hp
  have HW11 := hide g1
  have HK11 := hide ((unhide HK9).trans g2)
  clear g1 g2 HC HW9 HK9
  clear d0 d1 d2 hpl rr10 hg10 rk10 HQ10 hgl10
  go_wp2_with fail
  go_end0
  exact ⟨rfl, unhide HW11, unhide HK11⟩


/-- What 'block' does with a part. -/
def BC (B b m : Nat) (t : Tr) (s s' : WS) : Prop :=
  ∀ w p, Wt B b m s w → NB B w t p → Calls Tryz.prog 119 #[wPtr b, nPtr p] w (WPost B b m s' w)

theorem wrTry {B b m : Nat} (t : Tr) (s0 : WS) (f : Nat → WS) (hkl : t.kids.length ≤ 100000) (h0 : f 0 = putsS [tTry] s0)
    (hst : ∀ j (hj : j < t.kids.length), (t.kids[j].kd = 6 ∧ BC B b m t.kids[j] (f j) (f (j + 1)))
      ∨ (∃ tx u, t.kids[j] = .mk 13 tx 0 [u] ∧ (f j).1.length + sumT [tCatch, tOpen, tx, tShut] ≤ 100000000 ∧ BC B b m u (putsS [tCatch, tOpen, tx, tShut] (f j)) (f (j + 1)))
      ∨ (∃ u, t.kids[j] = .mk 14 noText 0 [u] ∧ (f j).1.length + sumT [tFinally] ≤ 100000000 ∧ BC B b m u (putsS [tFinally] (f j)) (f (j + 1))))
    (hl0 : s0.1.length + sumT [tTry] ≤ 100000000) :
    ∀ w p, Wt B b m s0 w → NB B w t p → Calls Tryz.prog 121 #[wPtr b, nPtr p] w (WPost B b m (f t.kids.length) w) := by
  have HST := hide hst
  have H0 := hide h0
  clear hst h0
  intro w p hW hN
  have HW0 := hide hW
  have HN := hide hN
  have HK0 := hide (Kp.refl B b w)
  clear hW hN
  go_enter Tryz.func121, Tryz.ntmps121
  go_wp2_with fail
  refine Calls.mono (put_at (s := s0) (w := w) [tTry] _ 1 rfl #[.string tTry] rfl (by exact new_at (by simp)) (by exact (unhide HW0).alloc _) (by exact (unhide HK0).alloc (unhide HW0).size _) hl0) ?_
  intro e w1 hp
  obtain ⟨rfl, g1, g2⟩ := hp
  have HW1 : Hid (Wt B b m (f 0) w1) := by rw [unhide H0]; exact g1
  have HK1 := hide g2
  clear g1 g2 HW0 HK0
  obtain ⟨v, c3, hrb⟩ := (unhide HN).rowV
  replace c3 := (unhide HK1).cellB (unhide HN).lt c3
  obtain ⟨a, c, rfl, hrow⟩ := hrb
  have hpl : p < w1.heap.size := by have h1 := (unhide HN).lt; have h2 := (unhide HW1).size; omega
  have HROW := hide hrow
  clear hrow
  go_wp2_with fail
  clear c3
  go_loopw [14] (fun i wr => ∃ k : Nat, k ≤ t.kids.length ∧ i = .int .i64 k ∧ Wt B b m (f k) wr ∧ Kp B b w wr) (fun i _ => t.kids.length - (intOf i).toNat)
  case atStart => exact ⟨0, Nat.zero_le _, rfl, unhide HW1, unhide HK1⟩
  case round =>
    obtain ⟨k, hk, rfl, hw, hkp⟩ := hrel
    have HW := hide hw
    have HK := hide hkp
    clear hw hkp
    by_cases hlt : k < t.kids.length
    · obtain ⟨g, o, q, rfl, hgB, rk, hnk⟩ := (unhide HROW) k hlt
      have rk2 : wr.cell? ⟨g, o + k, none⟩ = some (nPtr q) := (unhide HK).cellB hgB rk
      have HQ := hide hnk
      have hgl : g < wr.heap.size := by have h2 := (unhide HW).size; omega
      have hql : q < wr.heap.size := by have h1 := hnk.lt; have h2 := (unhide HW).size; omega
      have hcs := (unhide HST) k hlt
      clear rk hnk
      generalize t.kids[k] = u at HQ hcs
      rcases hcs with ⟨hkd, hbc⟩ | ⟨tx, x, rfl, hl1, hbc⟩ | ⟨x, rfl, hl1, hbc⟩
      · obtain ⟨d0, _, _⟩ := ((unhide HQ).later (unhide HK).below).cells
        rw [hkd] at d0
        have HC := hide (hbc wr q (unhide HW) ((unhide HQ).later (unhide HK).below))
        clear hbc hkd
        go_wp2_with fail
        refine Calls.mono HC.out ?_
        intro e w7 hp
        obtain ⟨rfl, g1, g2⟩ := hp
        have HW7 := hide g1
        have HK7 := hide ((unhide HK).trans g2)
        clear g1 g2 HC
        go_wp2_with fail
        go_roundw
        case rel => exact ⟨k + 1, by omega, by go_num, unhide HW7, unhide HK7⟩
        case measure => simp [intOf]; omega
      · obtain ⟨d0, d1, _⟩ := ((unhide HQ).later (unhide HK).below).cells
        simp only [Tr.kd, Tr.tx] at d0 d1
        have HBC := hide hbc
        clear hbc
        go_wp2_with fail
        refine Calls.mono (put_at (s := f k) (w := w) [tCatch, tOpen, tx, tShut] _ 4 rfl #[.string tCatch, .string tOpen, .string tx, .string tShut] rfl (by exact new_at (by simp)) (by exact (unhide HW).alloc _) (by exact (unhide HK).alloc (unhide HW).size _) hl1) ?_
        intro e w3 hp
        obtain ⟨rfl, g1, g2⟩ := hp
        have HW3 := hide g1
        have HK3 := hide g2
        clear g1 g2 d0 d1 rk2
        obtain ⟨d0, d1, _⟩ := ((unhide HQ).later (unhide HK3).below).cells
        simp only [Tr.kd, Tr.tx] at d0 d1
        obtain ⟨g6, cc6, q6, rr6, hg6, rk6, hq6⟩ := ((unhide HQ).later (unhide HK3).below).kid 0 (by simp [Tr.kids])
        replace rr6 : w3.cell? ⟨q, 3, none⟩ = some (.slice (some ⟨g6, 0, none⟩) 1 cc6) := rr6
        have HC := hide ((unhide HBC) w3 q6 (unhide HW3) hq6)
        have hql3 : q < w3.heap.size := by have h1 := (unhide HQ).lt; have h2 := (unhide HW3).size; omega
        have hgl3 : g6 < w3.heap.size := by have h2 := (unhide HW3).size; omega
        clear hq6
        go_wp2_with fail
        refine Calls.mono HC.out ?_
        intro e w7 hp
        obtain ⟨rfl, g1, g2⟩ := hp
        have HW7 := hide g1
        have HK7 := hide ((unhide HK3).trans g2)
        clear g1 g2 HC
        go_wp2_with fail
        go_roundw
        case rel => exact ⟨k + 1, by omega, by go_num, unhide HW7, unhide HK7⟩
        case measure => simp [intOf]; omega
      · obtain ⟨d0, d1, _⟩ := ((unhide HQ).later (unhide HK).below).cells
        simp only [Tr.kd, Tr.tx] at d0 d1
        have HBC := hide hbc
        clear hbc
        go_wp2_with fail
        refine Calls.mono (put_at (s := f k) (w := w) [tFinally] _ 1 rfl #[.string tFinally] rfl (by exact new_at (by simp)) (by exact (unhide HW).alloc _) (by exact (unhide HK).alloc (unhide HW).size _) hl1) ?_
        intro e w3 hp
        obtain ⟨rfl, g1, g2⟩ := hp
        have HW3 := hide g1
        have HK3 := hide g2
        clear g1 g2 d0 d1 rk2
        obtain ⟨d0, d1, _⟩ := ((unhide HQ).later (unhide HK3).below).cells
        simp only [Tr.kd, Tr.tx] at d0 d1
        obtain ⟨g6, cc6, q6, rr6, hg6, rk6, hq6⟩ := ((unhide HQ).later (unhide HK3).below).kid 0 (by simp [Tr.kids])
        replace rr6 : w3.cell? ⟨q, 3, none⟩ = some (.slice (some ⟨g6, 0, none⟩) 1 cc6) := rr6
        have HC := hide ((unhide HBC) w3 q6 (unhide HW3) hq6)
        have hql3 : q < w3.heap.size := by have h1 := (unhide HQ).lt; have h2 := (unhide HW3).size; omega
        have hgl3 : g6 < w3.heap.size := by have h2 := (unhide HW3).size; omega
        clear hq6
        go_wp2_with fail
        refine Calls.mono HC.out ?_
        intro e w7 hp
        obtain ⟨rfl, g1, g2⟩ := hp
        have HW7 := hide g1
        have HK7 := hide ((unhide HK3).trans g2)
        clear g1 g2 HC
        go_wp2_with fail
        go_roundw
        case rel => exact ⟨k + 1, by omega, by go_num, unhide HW7, unhide HK7⟩
        case measure => simp [intOf]; omega
    · have hk2 : k = t.kids.length := by omega
      subst hk2
      go_wp2_with fail
      go_end0
      exact ⟨rfl, unhide HW, unhide HK⟩

theorem st_decl0 {B b m : Nat} (kd : Int) (tx : ByteArray) (n : Int) (s s2 : WS) (hk : kd = 2 ∨ kd = 3 ∨ kd = 4) (hl0 : s.1.length + sumT [hdText kd, tx] ≤ 100000000) (h : ∀ w p, Wt B b m (putsS [hdText kd, tx] s) w → NB B w (.mk kd tx n []) p → Calls Tryz.prog 117 #[wPtr b, nPtr p] w (WPost B b m s2 w)) :
    SC B b m (.mk kd tx n []) s s2 := by
  have HH := hide h
  clear h
  intro w p hW hN
  have HW0 := hide hW
  have HN := hide hN
  have HK0 := hide (Kp.refl B b w)
  have HHD := hide (fun (W : World) (hWt : Wt B b m s W) => hdx_at kd hWt)
  obtain ⟨hx, hhx⟩ : ∃ hx, hx = hdText kd := ⟨_, rfl⟩
  rw [← hhx] at HH HHD hl0
  clear hW hN hhx
  obtain ⟨d0, d1, d2⟩ := (unhide HN).cells
  simp only [Tr.kd, Tr.tx, Tr.n] at d0 d1 d2
  have hpB := (unhide HN).lt
  have hpl : p < w.heap.size := by have h2 := (unhide HW0).size; omega
  go_enter Tryz.func55, Tryz.ntmps55
  rcases hk with rfl | rfl | rfl
  all_goals
    go_wp2_with fail
    have hS0 : Kp B b w w.drew := (Kp.refl B b w).drew
    refine wp_region_held (S := fun X => Kp B b w X) (by kernel_rfl) ?_
    change wpAnyH _ _ _ _ _ _ _ _ (World.drew _)
    refine wh 0 (wPtr b) hS0 ?_
    refine wh 1 (nPtr p) hS0 ?_
    refine wh 2 (nPtr p) hS0 ?_
    refine wh 3 (.pointer (some ⟨p, 0, none⟩)) hS0 ?_
    refine wg 4 _ rfl (Or.inl ⟨by kernel_rfl, fun X hX => by have hh := hX.cellB hpB d0; go_simp; first | rfl | exact rfl⟩) hS0 ?_
    refine wh 6 (nPtr p) hS0 ?_
    refine wh 7 (nPtr p) hS0 ?_
    refine wh 8 (.pointer (some ⟨p, 1, none⟩)) hS0 ?_
    refine wh 9 (.string tx) hS0 ?_ (hy := Or.inl ⟨by kernel_rfl, fun X hX => by have hh := hX.cellB hpB d1; go_simp⟩)
    refine wq1 5 fun K hK => ?_
    go_simp
    refine Calls.mono ((unhide HHD) w.drew (unhide HW0).drew) ?_
    rintro e w1 ⟨rfl, hb1⟩
    have hS1 : Kp B b w w1 := hS0.trans (Kp.of (unhide HW0).drew.size hb1)
    have hW1 := (unhide HW0).drew.below hb1
    refine hK.out _ _ hS1 (fun _ => ?_)
    clear hK K hb1
    refine wq1 10 fun K hK => ?_
    go_simp
    refine hK.out _ _ (hS1.alloc hW1.size _) (fun _ => ?_)
    clear hK K
    refine wq1 11 fun K hK => ?_
    go_simp
    refine Calls.mono (put_at (s := s) (w := w) [hx, tx] _ 2 rfl #[.string hx, .string tx] rfl (by exact new_at (by simp)) (by exact hW1.alloc _) (by exact hS1.alloc hW1.size _) hl0) ?_
    rintro e w2 ⟨rfl, g1, g2⟩
    refine hK.out _ _ g2 (fun _ => ?_)
    clear hK K
    refine wpAnyH_done (by kernel_rfl) ?_ _
    go_simp
    have HW2 := hide g1
    have HK2 := hide g2
    clear g1 g2 hS1 hS0 hW1
    obtain ⟨v, c3, hrb⟩ := ((unhide HN).later (unhide HK2).below).rowV
    obtain ⟨a, c, rfl, hrow⟩ := hrb
    replace c3 : w2.cell? ⟨p, 3, none⟩ = some (.slice a 0 c) := c3
    have hpl2 : p < w2.heap.size := by have h2 := (unhide HW2).size; omega
    clear hrow
    have HQ := hide ((unhide HN).later (unhide HK2).below)
    have HC := hide ((unhide HH) w2 p (unhide HW2) (unhide HQ))
    go_wp2_with fail
    refine Calls.mono HC.out ?_
    intro e w5 hp
    obtain ⟨rfl, g1, g2⟩ := hp
    have HW5 := hide g1
    have HK5 := hide ((unhide HK2).trans g2)
    clear g1 g2 HC
    go_wp2_with fail
    go_end0
    exact ⟨rfl, unhide HW5, unhide HK5⟩

theorem st_decl1 {B b m : Nat} (kd : Int) (tx : ByteArray) (n : Int) (t0 : Tr) (s s2 : WS) (hk : kd = 2 ∨ kd = 3 ∨ kd = 4) (hl0 : s.1.length + sumT [hdText kd, tx] ≤ 100000000) (hl1 : (putsS [hdText kd, tx] s).1.length + sumT [tEq] ≤ 100000000) (h : ∀ w p, Wt B b m (putsS [tEq] (putsS [hdText kd, tx] s)) w → NB B w (.mk kd tx n [t0]) p → Calls Tryz.prog 117 #[wPtr b, nPtr p] w (WPost B b m s2 w)) :
    SC B b m (.mk kd tx n [t0]) s s2 := by
  have HH := hide h
  clear h
  intro w p hW hN
  have HW0 := hide hW
  have HN := hide hN
  have HK0 := hide (Kp.refl B b w)
  have HHD := hide (fun (W : World) (hWt : Wt B b m s W) => hdx_at kd hWt)
  obtain ⟨hx, hhx⟩ : ∃ hx, hx = hdText kd := ⟨_, rfl⟩
  rw [← hhx] at HH HHD hl0 hl1
  clear hW hN hhx
  obtain ⟨d0, d1, d2⟩ := (unhide HN).cells
  simp only [Tr.kd, Tr.tx, Tr.n] at d0 d1 d2
  have hpB := (unhide HN).lt
  have hpl : p < w.heap.size := by have h2 := (unhide HW0).size; omega
  go_enter Tryz.func55, Tryz.ntmps55
  rcases hk with rfl | rfl | rfl
  all_goals
    go_wp2_with fail
    have hS0 : Kp B b w w.drew := (Kp.refl B b w).drew
    refine wp_region_held (S := fun X => Kp B b w X) (by kernel_rfl) ?_
    change wpAnyH _ _ _ _ _ _ _ _ (World.drew _)
    refine wh 0 (wPtr b) hS0 ?_
    refine wh 1 (nPtr p) hS0 ?_
    refine wh 2 (nPtr p) hS0 ?_
    refine wh 3 (.pointer (some ⟨p, 0, none⟩)) hS0 ?_
    refine wg 4 _ rfl (Or.inl ⟨by kernel_rfl, fun X hX => by have hh := hX.cellB hpB d0; go_simp; first | rfl | exact rfl⟩) hS0 ?_
    refine wh 6 (nPtr p) hS0 ?_
    refine wh 7 (nPtr p) hS0 ?_
    refine wh 8 (.pointer (some ⟨p, 1, none⟩)) hS0 ?_
    refine wh 9 (.string tx) hS0 ?_ (hy := Or.inl ⟨by kernel_rfl, fun X hX => by have hh := hX.cellB hpB d1; go_simp⟩)
    refine wq1 5 fun K hK => ?_
    go_simp
    refine Calls.mono ((unhide HHD) w.drew (unhide HW0).drew) ?_
    rintro e w1 ⟨rfl, hb1⟩
    have hS1 : Kp B b w w1 := hS0.trans (Kp.of (unhide HW0).drew.size hb1)
    have hW1 := (unhide HW0).drew.below hb1
    refine hK.out _ _ hS1 (fun _ => ?_)
    clear hK K hb1
    refine wq1 10 fun K hK => ?_
    go_simp
    refine hK.out _ _ (hS1.alloc hW1.size _) (fun _ => ?_)
    clear hK K
    refine wq1 11 fun K hK => ?_
    go_simp
    refine Calls.mono (put_at (s := s) (w := w) [hx, tx] _ 2 rfl #[.string hx, .string tx] rfl (by exact new_at (by simp)) (by exact hW1.alloc _) (by exact hS1.alloc hW1.size _) hl0) ?_
    rintro e w2 ⟨rfl, g1, g2⟩
    refine hK.out _ _ g2 (fun _ => ?_)
    clear hK K
    refine wpAnyH_done (by kernel_rfl) ?_ _
    go_simp
    have HW2 := hide g1
    have HK2 := hide g2
    clear g1 g2 hS1 hS0 hW1
    obtain ⟨v, c3, hrb⟩ := ((unhide HN).later (unhide HK2).below).rowV
    obtain ⟨a, c, rfl, hrow⟩ := hrb
    replace c3 : w2.cell? ⟨p, 3, none⟩ = some (.slice a 1 c) := c3
    have hpl2 : p < w2.heap.size := by have h2 := (unhide HW2).size; omega
    clear hrow
    go_wp2_with fail
    refine Calls.mono (put_at (s := putsS [hx, tx] s) (w := w) [tEq] _ 1 rfl #[.string tEq] rfl (by exact new_at (by simp)) (by exact (unhide HW2).alloc _) (by exact (unhide HK2).alloc (unhide HW2).size _) hl1) ?_
    intro e w3 hp
    obtain ⟨rfl, g1, g2⟩ := hp
    have HW3 := hide g1
    have HK3 := hide g2
    clear g1 g2 c3
    have HQ := hide ((unhide HN).later (unhide HK3).below)
    have HC := hide ((unhide HH) w3 p (unhide HW3) (unhide HQ))
    go_wp2_with fail
    refine Calls.mono HC.out ?_
    intro e w5 hp
    obtain ⟨rfl, g1, g2⟩ := hp
    have HW5 := hide g1
    have HK5 := hide ((unhide HK3).trans g2)
    clear g1 g2 HC
    go_wp2_with fail
    go_end0
    exact ⟨rfl, unhide HW5, unhide HK5⟩

theorem st_give {B b m : Nat} (kd : Int) (tx : ByteArray) (n : Int) (ks : List Tr) (s s2 : WS) (hk : kd = 10 ∨ kd = 11) (hl0 : s.1.length + sumT [hdText kd] ≤ 100000000) (h : ∀ w p, Wt B b m (putsS [hdText kd] s) w → NB B w (.mk kd tx n ks) p → Calls Tryz.prog 117 #[wPtr b, nPtr p] w (WPost B b m s2 w)) :
    SC B b m (.mk kd tx n ks) s s2 := by
  have HH := hide h
  clear h
  intro w p hW hN
  have HW0 := hide hW
  have HN := hide hN
  have HK0 := hide (Kp.refl B b w)
  clear hW hN
  obtain ⟨d0, d1, d2⟩ := ((unhide HN).later (unhide HK0).below).cells
  simp only [Tr.kd, Tr.tx, Tr.n] at d0 d1 d2
  have hpl : p < w.heap.size := by have h1 := (unhide HN).lt; have h2 := (unhide HW0).size; simp at h2 ⊢; omega
  have HC := hide (hdx_at kd (unhide HW0))
  obtain ⟨hx, hhx⟩ : ∃ hx, hx = hdText kd := ⟨_, rfl⟩
  rw [← hhx] at HH HC hl0
  clear hhx
  go_enter Tryz.func55, Tryz.ntmps55
  rcases hk with rfl | rfl
  all_goals
    go_wp2_with fail
    refine Calls.mono HC.out ?_
    rintro e w1 ⟨rfl, hb⟩
    have HW1 := hide ((unhide HW0).below hb)
    have HK1 := hide ((unhide HK0).trans (Kp.of (b := b) (unhide HW0).size hb))
    clear hb HC HW0 HK0
    clear d0 d1 d2 hpl
    go_wp2_with fail
    refine Calls.mono (put_at (s := s) (w := w) [hx] _ 1 rfl #[.string hx] rfl (by exact new_at (by simp)) (by exact (unhide HW1).alloc _) (by exact (unhide HK1).alloc (unhide HW1).size _) hl0) ?_
    intro e w2 hp
    obtain ⟨rfl, g1, g2⟩ := hp
    have HW2 := hide g1
    have HK2 := hide g2
    clear g1 g2 HW1 HK1
    have HQ := hide ((unhide HN).later (unhide HK2).below)
    have HC := hide ((unhide HH) w2 p (unhide HW2) (unhide HQ))
    go_wp2_with fail
    refine Calls.mono HC.out ?_
    intro e w3 hp
    obtain ⟨rfl, g1, g2⟩ := hp
    have HW3 := hide g1
    have HK3 := hide ((unhide HK2).trans g2)
    clear g1 g2 HC HW2 HK2
    go_wp2_with fail
    go_end0
    exact ⟨rfl, unhide HW3, unhide HK3⟩

theorem wrEmpty {B b m : Nat} (s : WS) (hl : s.1.length + 2 ≤ 100000000) : ∀ w, Wt B b m s w → Calls Tryz.prog 123 #[wPtr b] w (WPost B b m (emptyW s) w) := by
  intro w hW
  have HW0 := hide hW
  have HC := hide (opened_any (unhide HW0).wr)
  have hbl := hW.wr.lt
  clear hW
  cases hop : openedB s.2 with
  | true =>
    rw [hop] at HC
    have HE : Hid (emptyW s = closeS tSemi s) := by unfold emptyW; rw [hop]; rfl
    clear hop
    go_enter Tryz.func123, Tryz.ntmps123
    go_wp2_with fail
    refine Calls.mono HC.out ?_
    rintro e w1 ⟨rfl, rfl⟩
    clear HC
    have HC := hide (close_any tSemi (unhide HW0).wr (by show _ + 1 ≤ _; omega))
    go_wp2_with fail
    refine Calls.mono HC.out ?_
    rintro e w2 ⟨rfl, h1, hk1⟩
    have HW2 : Hid (Wt B b m (closeS tSemi s) w2) := (unhide HW0).later h1 hk1
    have HK2 := hide hk1
    clear h1 hk1 HC
    go_wp2_with fail
    go_end0
    exact ⟨rfl, by rw [unhide HE]; exact unhide HW2, unhide HK2⟩
  | false =>
    rw [hop] at HC
    have HE : Hid (emptyW s = closeS tSemi (blankS s)) := by unfold emptyW; rw [hop]; rfl
    clear hop
    go_enter Tryz.func123, Tryz.ntmps123
    go_wp2_with fail
    refine Calls.mono HC.out ?_
    rintro e w1 ⟨rfl, rfl⟩
    clear HC
    have HC := hide (writeByte_any 32 (unhide HW0).wr (by omega))
    go_wp2_with fail
    refine Calls.mono HC.out ?_
    rintro e w2 ⟨rfl, h1, hk1⟩
    have HW2 : Hid (Wt B b m (blankS s) w2) := (unhide HW0).later h1 hk1
    have HK2 := hide hk1
    clear h1 hk1 HC
    have HC := hide (close_any tSemi (unhide HW2).wr (by unfold blankS; simp; show _ + 1 + 1 ≤ _; omega))
    go_wp2_with fail
    refine Calls.mono HC.out ?_
    rintro e w3 ⟨rfl, h1, hk1⟩
    have HW3 : Hid (Wt B b m (closeS tSemi (blankS s)) w3) := (unhide HW2).later h1 hk1
    have HK3 := hide ((unhide HK2).trans hk1)
    clear h1 hk1 HC
    go_wp2_with fail
    go_end0
    exact ⟨rfl, by rw [unhide HE]; exact unhide HW3, unhide HK3⟩

theorem st_empty {B b m : Nat} (tx : ByteArray) (n : Int) (ks : List Tr) (s s' : WS) (h : ∀ w, Wt B b m s w → Calls Tryz.prog 123 #[wPtr b] w (WPost B b m s' w)) : SC B b m (.mk 16 tx n ks) s s' := by
  have HH := hide h
  clear h
  intro w p hW hN
  have HW0 := hide hW
  have HN := hide hN
  have HK0 := hide (Kp.refl B b w)
  clear hW hN
  obtain ⟨d0, d1, d2⟩ := ((unhide HN).later (unhide HK0).below).cells
  simp only [Tr.kd, Tr.tx, Tr.n] at d0 d1 d2
  have hpl : p < w.heap.size := by have h1 := (unhide HN).lt; have h2 := (unhide HW0).size; simp at h2 ⊢; omega
  have HC := hide ((unhide HH) w (unhide HW0))
  go_enter Tryz.func55, Tryz.ntmps55
  go_wp2_with fail
  refine Calls.mono HC.out ?_
  intro e w1 hp
  obtain ⟨rfl, g1, g2⟩ := hp
  have HW1 := hide g1
  have HK1 := hide ((unhide HK0).trans g2)
  clear g1 g2 HC HW0 HK0
  clear d0 d1 d2 hpl
  go_wp2_with fail
  go_end0
  exact ⟨rfl, unhide HW1, unhide HK1⟩

end Go.Proofs.YtodmgaikhbmlnaaGreatDoor
