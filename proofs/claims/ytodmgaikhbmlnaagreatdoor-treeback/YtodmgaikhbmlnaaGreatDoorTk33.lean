/-
  Statements that the writer puts; a program's text.
-/
import Derived.Test.YtodmgaikhbmlnaaGreatDoorTk30
set_option maxRecDepth 100000
set_option maxHeartbeats 16000000
namespace Go.Proofs.YtodmgaikhbmlnaaGreatDoor
open Go.RowKit

theorem wrPar_any {B b m : Nat} (t : Tr) (s s' : WS) (h : VC B b m t 1 (putsS [tOpen] s) s') (hl1 : s.1.length + sumT [tOpen] ≤ 100000000) (hl2 : s'.1.length + sumT [tShut] ≤ 100000000) :
    ∀ w p, Wt B b m s w → NB B w t p → Calls Tryz.prog 179 #[wPtr b, nPtr p] w (WPost B b m (putsS [tShut] s') w) := by
  have HH := hide h
  clear h
  intro w p hW hN
  have HW0 := hide hW
  have HN := hide hN
  have HK0 := hide (Kp.refl B b w)
  clear hW hN
  go_enter Tryz.func179, Tryz.ntmps179
  go_wp2_with fail
  refine Calls.mono (put_at (s := s) (w := w) [tOpen] _ 1 rfl #[.string tOpen] rfl (by exact new_at (by simp)) (by exact (unhide HW0).alloc _) (by exact (unhide HK0).alloc (unhide HW0).size _) hl1) ?_
  intro e w1 hp
  obtain ⟨rfl, g1, g2⟩ := hp
  have HW1 := hide g1
  have HK1 := hide g2
  clear g1 g2 HW0 HK0
  have HQ := hide ((unhide HN).later (unhide HK1).below)
  have HC := hide ((unhide HH) w1 p (unhide HW1) (unhide HQ))
  go_wp2_with fail
  refine Calls.mono HC.out ?_
  intro e w2 hp
  obtain ⟨rfl, g1, g2⟩ := hp
  have HW2 := hide g1
  have HK2 := hide ((unhide HK1).trans g2)
  clear g1 g2 HC HW1 HK1
  go_wp2_with fail
  refine Calls.mono (put_at (s := s') (w := w) [tShut] _ 1 rfl #[.string tShut] rfl (by exact new_at (by simp)) (by exact (unhide HW2).alloc _) (by exact (unhide HK2).alloc (unhide HW2).size _) hl2) ?_
  intro e w3 hp
  obtain ⟨rfl, g1, g2⟩ := hp
  have HW3 := hide g1
  have HK3 := hide g2
  clear g1 g2 HW2 HK2
  go_wp2_with fail
  go_end0
  exact ⟨rfl, unhide HW3, unhide HK3⟩

theorem expr_plain {B b m : Nat} (tx : ByteArray) (n : Int) (t0 : Tr) (ks : List Tr) (s s' : WS) (hop : opensW t0.count t0 = false) (hok : okT t0) (h : VC B b m t0 1 s s') (hl : s'.1.length + sumT [tSemi] ≤ 100000000) :
    ∀ w p, Wt B b m s w → NB B w (.mk 15 tx n (t0 :: ks)) p → Calls Tryz.prog 122 #[wPtr b, nPtr p] w (WPost B b m (putsS [tSemi] s') w) := by
  have HHOP := hide hop
  have HHOK := hide hok
  have HH := hide h
  clear hop hok h
  intro w p hW hN
  have HW0 := hide hW
  have HN := hide hN
  have HK0 := hide (Kp.refl B b w)
  clear hW hN
  obtain ⟨g1, cc1, q1, rr1, hg1, rk1, hq1⟩ := ((unhide HN).later (unhide HK0).below).kid 0 (by simp [Tr.kids])
  simp only [Tr.kids, List.length_cons] at rr1
  have HQ1 : Hid (NB B w t0 q1) := hq1
  have hgl1 : g1 < w.heap.size := by have h2 := (unhide HW0).size; simp at h2 ⊢; omega
  clear hq1
  have HC := hide (opens_any t0 q1 (unhide HW0) (unhide HQ1) (unhide HHOK))
  rw [unhide HHOP] at HC
  go_enter Tryz.func122, Tryz.ntmps122
  go_wp2_with fail
  refine Calls.mono HC.out ?_
  rintro e w9 ⟨rfl, hb⟩
  have HW9 := hide ((unhide HW0).below hb)
  have HK9 := hide ((unhide HK0).trans (Kp.of (b := b) (unhide HW0).size hb))
  have HQ9 := hide ((unhide HQ1).later (hb.mono (unhide HW0).size))
  clear hb HC
  clear rr1 hg1 rk1 HQ1 hgl1
  have HC := hide ((unhide HH) w9 q1 (unhide HW9) (unhide HQ9))
  go_wp2_with fail
  refine Calls.mono HC.out ?_
  intro e w2 hp
  obtain ⟨rfl, g1, g2⟩ := hp
  have HW2 := hide g1
  have HK2 := hide ((unhide HK9).trans g2)
  clear g1 g2 HC HW9 HK9
  go_wp2_with fail
  refine Calls.mono (put_at (s := s') (w := w) [tSemi] _ 1 rfl #[.string tSemi] rfl (by exact new_at (by simp)) (by exact (unhide HW2).alloc _) (by exact (unhide HK2).alloc (unhide HW2).size _) hl) ?_
  intro e w3 hp
  obtain ⟨rfl, g1, g2⟩ := hp
  have HW3 := hide g1
  have HK3 := hide g2
  clear g1 g2 HW2 HK2
  go_wp2_with fail
  go_end0
  exact ⟨rfl, unhide HW3, unhide HK3⟩

theorem expr_par {B b m : Nat} (tx : ByteArray) (n : Int) (t0 : Tr) (ks : List Tr) (s s' : WS) (hop : opensW t0.count t0 = true) (hok : okT t0) (h : ∀ w p, Wt B b m s w → NB B w t0 p → Calls Tryz.prog 179 #[wPtr b, nPtr p] w (WPost B b m s' w)) (hl : s'.1.length + sumT [tSemi] ≤ 100000000) :
    ∀ w p, Wt B b m s w → NB B w (.mk 15 tx n (t0 :: ks)) p → Calls Tryz.prog 122 #[wPtr b, nPtr p] w (WPost B b m (putsS [tSemi] s') w) := by
  have HHOP := hide hop
  have HHOK := hide hok
  have HH := hide h
  clear hop hok h
  intro w p hW hN
  have HW0 := hide hW
  have HN := hide hN
  have HK0 := hide (Kp.refl B b w)
  clear hW hN
  obtain ⟨g1, cc1, q1, rr1, hg1, rk1, hq1⟩ := ((unhide HN).later (unhide HK0).below).kid 0 (by simp [Tr.kids])
  simp only [Tr.kids, List.length_cons] at rr1
  have HQ1 : Hid (NB B w t0 q1) := hq1
  have hgl1 : g1 < w.heap.size := by have h2 := (unhide HW0).size; simp at h2 ⊢; omega
  clear hq1
  have HC := hide (opens_any t0 q1 (unhide HW0) (unhide HQ1) (unhide HHOK))
  rw [unhide HHOP] at HC
  go_enter Tryz.func122, Tryz.ntmps122
  go_wp2_with fail
  refine Calls.mono HC.out ?_
  rintro e w9 ⟨rfl, hb⟩
  have HW9 := hide ((unhide HW0).below hb)
  have HK9 := hide ((unhide HK0).trans (Kp.of (b := b) (unhide HW0).size hb))
  have HQ9 := hide ((unhide HQ1).later (hb.mono (unhide HW0).size))
  clear hb HC
  clear rr1 hg1 rk1 HQ1 hgl1
  have HC := hide ((unhide HH) w9 q1 (unhide HW9) (unhide HQ9))
  go_wp2_with fail
  refine Calls.mono HC.out ?_
  intro e w2 hp
  obtain ⟨rfl, g1, g2⟩ := hp
  have HW2 := hide g1
  have HK2 := hide ((unhide HK9).trans g2)
  clear g1 g2 HC HW9 HK9
  go_wp2_with fail
  refine Calls.mono (put_at (s := s') (w := w) [tSemi] _ 1 rfl #[.string tSemi] rfl (by exact new_at (by simp)) (by exact (unhide HW2).alloc _) (by exact (unhide HK2).alloc (unhide HW2).size _) hl) ?_
  intro e w3 hp
  obtain ⟨rfl, g1, g2⟩ := hp
  have HW3 := hide g1
  have HK3 := hide g2
  clear g1 g2 HW2 HK2
  go_wp2_with fail
  go_end0
  exact ⟨rfl, unhide HW3, unhide HK3⟩

theorem st_func {B b m : Nat} (tx : ByteArray) (n : Int) (ks : List Tr) (s s' : WS) (h : ∀ w p, Wt B b m s w → NB B w (.mk 5 tx n ks) p → Calls Tryz.prog 118 #[wPtr b, nPtr p] w (WPost B b m s' w)) : SC B b m (.mk 5 tx n ks) s s' := by
  have HH := hide h
  clear h
  intro w p hW hN
  have HW0 := hide hW
  have HN := hide hN
  have HK0 := hide (Kp.refl B b w)
  clear hW hN
  obtain ⟨d0, d1, d2⟩ := ((unhide HN).later (unhide HK0).below).cells
  simp only [Tr.kd, Tr.tx, Tr.n] at d0 d1 d2
  have hpl : p < w.heap.size := by have h1 := (unhide HN).lt; have h2 := (unhide HW0).size; simp at h2 ⊢; omega
  have HC := hide ((unhide HH) w p (unhide HW0) (unhide HN))
  go_enter Tryz.func55, Tryz.ntmps55
  go_wp2_with fail
  refine Calls.mono HC.out ?_
  intro e w1 hp
  obtain ⟨rfl, g1, g2⟩ := hp
  have HW1 := hide g1
  have HK1 := hide ((unhide HK0).trans g2)
  clear g1 g2 HC HW0 HK0
  clear d0 d1 d2 hpl
  go_wp2_with fail
  go_end0
  exact ⟨rfl, unhide HW1, unhide HK1⟩

theorem st_block {B b m : Nat} (tx : ByteArray) (n : Int) (ks : List Tr) (s s' : WS) (h : ∀ w p, Wt B b m s w → NB B w (.mk 6 tx n ks) p → Calls Tryz.prog 119 #[wPtr b, nPtr p] w (WPost B b m s' w)) : SC B b m (.mk 6 tx n ks) s s' := by
  have HH := hide h
  clear h
  intro w p hW hN
  have HW0 := hide hW
  have HN := hide hN
  have HK0 := hide (Kp.refl B b w)
  clear hW hN
  obtain ⟨d0, d1, d2⟩ := ((unhide HN).later (unhide HK0).below).cells
  simp only [Tr.kd, Tr.tx, Tr.n] at d0 d1 d2
  have hpl : p < w.heap.size := by have h1 := (unhide HN).lt; have h2 := (unhide HW0).size; simp at h2 ⊢; omega
  have HC := hide ((unhide HH) w p (unhide HW0) (unhide HN))
  go_enter Tryz.func55, Tryz.ntmps55
  go_wp2_with fail
  refine Calls.mono HC.out ?_
  intro e w1 hp
  obtain ⟨rfl, g1, g2⟩ := hp
  have HW1 := hide g1
  have HK1 := hide ((unhide HK0).trans g2)
  clear g1 g2 HC HW0 HK0
  clear d0 d1 d2 hpl
  go_wp2_with fail
  go_end0
  exact ⟨rfl, unhide HW1, unhide HK1⟩

theorem st_if {B b m : Nat} (tx : ByteArray) (n : Int) (ks : List Tr) (s s' : WS) (h : ∀ w p, Wt B b m s w → NB B w (.mk 7 tx n ks) p → Calls Tryz.prog 120 #[wPtr b, nPtr p] w (WPost B b m s' w)) : SC B b m (.mk 7 tx n ks) s s' := by
  have HH := hide h
  clear h
  intro w p hW hN
  have HW0 := hide hW
  have HN := hide hN
  have HK0 := hide (Kp.refl B b w)
  clear hW hN
  obtain ⟨d0, d1, d2⟩ := ((unhide HN).later (unhide HK0).below).cells
  simp only [Tr.kd, Tr.tx, Tr.n] at d0 d1 d2
  have hpl : p < w.heap.size := by have h1 := (unhide HN).lt; have h2 := (unhide HW0).size; simp at h2 ⊢; omega
  have HC := hide ((unhide HH) w p (unhide HW0) (unhide HN))
  go_enter Tryz.func55, Tryz.ntmps55
  go_wp2_with fail
  refine Calls.mono HC.out ?_
  intro e w1 hp
  obtain ⟨rfl, g1, g2⟩ := hp
  have HW1 := hide g1
  have HK1 := hide ((unhide HK0).trans g2)
  clear g1 g2 HC HW0 HK0
  clear d0 d1 d2 hpl
  go_wp2_with fail
  go_end0
  exact ⟨rfl, unhide HW1, unhide HK1⟩

theorem st_while {B b m : Nat} (tx : ByteArray) (n : Int) (ks : List Tr) (s s' : WS) (h : ∀ w p, Wt B b m s w → NB B w (.mk 8 tx n ks) p → Calls Tryz.prog 120 #[wPtr b, nPtr p] w (WPost B b m s' w)) : SC B b m (.mk 8 tx n ks) s s' := by
  have HH := hide h
  clear h
  intro w p hW hN
  have HW0 := hide hW
  have HN := hide hN
  have HK0 := hide (Kp.refl B b w)
  clear hW hN
  obtain ⟨d0, d1, d2⟩ := ((unhide HN).later (unhide HK0).below).cells
  simp only [Tr.kd, Tr.tx, Tr.n] at d0 d1 d2
  have hpl : p < w.heap.size := by have h1 := (unhide HN).lt; have h2 := (unhide HW0).size; simp at h2 ⊢; omega
  have HC := hide ((unhide HH) w p (unhide HW0) (unhide HN))
  go_enter Tryz.func55, Tryz.ntmps55
  go_wp2_with fail
  refine Calls.mono HC.out ?_
  intro e w1 hp
  obtain ⟨rfl, g1, g2⟩ := hp
  have HW1 := hide g1
  have HK1 := hide ((unhide HK0).trans g2)
  clear g1 g2 HC HW0 HK0
  clear d0 d1 d2 hpl
  go_wp2_with fail
  go_end0
  exact ⟨rfl, unhide HW1, unhide HK1⟩

theorem st_with {B b m : Nat} (tx : ByteArray) (n : Int) (ks : List Tr) (s s' : WS) (h : ∀ w p, Wt B b m s w → NB B w (.mk 9 tx n ks) p → Calls Tryz.prog 120 #[wPtr b, nPtr p] w (WPost B b m s' w)) : SC B b m (.mk 9 tx n ks) s s' := by
  have HH := hide h
  clear h
  intro w p hW hN
  have HW0 := hide hW
  have HN := hide hN
  have HK0 := hide (Kp.refl B b w)
  clear hW hN
  obtain ⟨d0, d1, d2⟩ := ((unhide HN).later (unhide HK0).below).cells
  simp only [Tr.kd, Tr.tx, Tr.n] at d0 d1 d2
  have hpl : p < w.heap.size := by have h1 := (unhide HN).lt; have h2 := (unhide HW0).size; simp at h2 ⊢; omega
  have HC := hide ((unhide HH) w p (unhide HW0) (unhide HN))
  go_enter Tryz.func55, Tryz.ntmps55
  go_wp2_with fail
  refine Calls.mono HC.out ?_
  intro e w1 hp
  obtain ⟨rfl, g1, g2⟩ := hp
  have HW1 := hide g1
  have HK1 := hide ((unhide HK0).trans g2)
  clear g1 g2 HC HW0 HK0
  clear d0 d1 d2 hpl
  go_wp2_with fail
  go_end0
  exact ⟨rfl, unhide HW1, unhide HK1⟩

theorem st_try {B b m : Nat} (tx : ByteArray) (n : Int) (ks : List Tr) (s s' : WS) (h : ∀ w p, Wt B b m s w → NB B w (.mk 12 tx n ks) p → Calls Tryz.prog 121 #[wPtr b, nPtr p] w (WPost B b m s' w)) : SC B b m (.mk 12 tx n ks) s s' := by
  have HH := hide h
  clear h
  intro w p hW hN
  have HW0 := hide hW
  have HN := hide hN
  have HK0 := hide (Kp.refl B b w)
  clear hW hN
  obtain ⟨d0, d1, d2⟩ := ((unhide HN).later (unhide HK0).below).cells
  simp only [Tr.kd, Tr.tx, Tr.n] at d0 d1 d2
  have hpl : p < w.heap.size := by have h1 := (unhide HN).lt; have h2 := (unhide HW0).size; simp at h2 ⊢; omega
  have HC := hide ((unhide HH) w p (unhide HW0) (unhide HN))
  go_enter Tryz.func55, Tryz.ntmps55
  go_wp2_with fail
  refine Calls.mono HC.out ?_
  intro e w1 hp
  obtain ⟨rfl, g1, g2⟩ := hp
  have HW1 := hide g1
  have HK1 := hide ((unhide HK0).trans g2)
  clear g1 g2 HC HW0 HK0
  clear d0 d1 d2 hpl
  go_wp2_with fail
  go_end0
  exact ⟨rfl, unhide HW1, unhide HK1⟩

theorem st_expr {B b m : Nat} (tx : ByteArray) (n : Int) (ks : List Tr) (s s' : WS) (h : ∀ w p, Wt B b m s w → NB B w (.mk 15 tx n ks) p → Calls Tryz.prog 122 #[wPtr b, nPtr p] w (WPost B b m s' w)) : SC B b m (.mk 15 tx n ks) s s' := by
  have HH := hide h
  clear h
  intro w p hW hN
  have HW0 := hide hW
  have HN := hide hN
  have HK0 := hide (Kp.refl B b w)
  clear hW hN
  obtain ⟨d0, d1, d2⟩ := ((unhide HN).later (unhide HK0).below).cells
  simp only [Tr.kd, Tr.tx, Tr.n] at d0 d1 d2
  have hpl : p < w.heap.size := by have h1 := (unhide HN).lt; have h2 := (unhide HW0).size; simp at h2 ⊢; omega
  have HC := hide ((unhide HH) w p (unhide HW0) (unhide HN))
  go_enter Tryz.func55, Tryz.ntmps55
  go_wp2_with fail
  refine Calls.mono HC.out ?_
  intro e w1 hp
  obtain ⟨rfl, g1, g2⟩ := hp
  have HW1 := hide g1
  have HK1 := hide ((unhide HK0).trans g2)
  clear g1 g2 HC HW0 HK0
  clear d0 d1 d2 hpl
  go_wp2_with fail
  go_end0
  exact ⟨rfl, unhide HW1, unhide HK1⟩

/-- A program's text, out of what is written of each of its statements: 'f j' is what stands behind j of them. -/
theorem text_any (tx : ByteArray) (n : Int) (ks : List Tr) (f : Nat → WS) (B p : Nat) (w : World) (hB : B = w.heap.size) (hN : NB B w (.mk 1 tx n ks) p) (hk0 : 0 < ks.length) (hkl : ks.length ≤ 100000) (t : TypeId) (fr : Nat × Nat) (hg : w.heap[4]? = some (.cells sgCells t fr)) (t5 : TypeId) (fr5 : Nat × Nat) (hg5 : w.heap[5]? = some (.cells hdCells t5 fr5)) (htb : TabW w) (h0 : f 0 = ([], noText))
    (hst : ∀ b m j (hj : j < ks.length), ∃ s', SC B b m ks[j] (f j) s' ∧ s'.1.length + 1 ≤ 100000000 ∧ f (j + 1) = endS s') (hl : (f ks.length).1.length ≤ 100000000) (hne : (f ks.length).1 ≠ []) :
    Calls Tryz.prog 16 #[nPtr p] w fun e w' => e = .returned (.string ⟨(f ks.length).1.toArray⟩) ∧ Below w.heap.size w w' := by
  have HST := hide hst
  have HN := hide hN
  have HL := hide hl
  have HNE := hide hne
  have H0 := hide h0
  have HC := hide (newWriter_any w t fr hg)
  obtain ⟨d0, _, _⟩ := hN.cells
  simp only [Tr.kd] at d0
  have hpl : p < w.heap.size := by have h1 := hN.lt; omega
  have HBE := hide hB
  have HG5 := hide hg5
  have HTB := hide htb
  clear hst hN hl hne hg h0 hB hg5 htb
  go_enter Tryz.func16, Tryz.ntmps16
  go_wp2_with fail
  refine Calls.mono HC.out ?_
  rintro e w1 ⟨b, m, rfl, hwr, hm, hne, hb⟩
  have HW1 : Hid (Wt B b m (f 0) w1) := by rw [unhide HBE, unhide H0]; exact ⟨hwr, hm, hne, ⟨lt_of_heap (unhide HG5), t5, fr5, by rw [hb.block 5 (lt_of_heap (unhide HG5))]; exact unhide HG5⟩, (unhide HTB).lt, (unhide HTB).later hb⟩
  have HB1 := hide hb
  have HN1 := hide ((unhide HN).later (by rw [unhide HBE]; exact hb))
  clear hwr hm hne hb HC d0 hpl
  obtain ⟨g, c, ps, r3, hgB, hpsl, hcell⟩ := (unhide HN1).row (by simpa [Tr.kids] using hk0)
  simp only [Tr.kids] at r3 hpsl
  have hpl : p < w1.heap.size := by have h1 := (unhide HN1).lt; have h2 := (unhide HW1).size; omega
  have HCELL := hide hcell
  have HPSL := hide hpsl
  have HGB := hide hgB
  clear hcell hpsl hgB
  go_wp2_with fail
  clear r3
  go_loopw [21] (fun i wr => ∃ k : Nat, k ≤ ks.length ∧ i = .int .i64 k ∧ Wt B b m (f k) wr ∧ Below B w1 wr) (fun i _ => ks.length - (intOf i).toNat)
  case atStart => exact ⟨0, Nat.zero_le _, rfl, unhide HW1, Below.refl _ _⟩
  case round =>
    obtain ⟨k, hk, rfl, hw, hbw⟩ := hrel
    have HW := hide hw
    have HBW := hide hbw
    clear hw hbw
    by_cases hlt : k < ks.length
    · obtain ⟨s', hsc, hls, hfn⟩ := (unhide HST) b m k hlt
      obtain ⟨rk, hnk⟩ := (unhide HCELL) k (by simpa [Tr.kids] using hlt) (by rw [unhide HPSL]; exact hlt)
      generalize ps[k]'(by rw [unhide HPSL]; exact hlt) = q at rk hnk
      have rk2 : wr.cell? ⟨g, k, none⟩ = some (nPtr q) := by rw [(unhide HBW).cell (p := ⟨g, k, none⟩) (unhide HGB)]; exact rk
      have HC := hide (hsc wr q (unhide HW) (hnk.later (unhide HBW)))
      have HFN := hide hfn
      have hgl : g < wr.heap.size := by have h1 := unhide HGB; have h2 := (unhide HW).size; omega
      clear hsc hfn rk hnk
      go_wp2_with fail
      refine Calls.mono HC.out ?_
      intro e w2 hp
      obtain ⟨rfl, g1, g2⟩ := hp
      have HW2 := hide g1
      have HB2 := hide ((unhide HBW).trans g2.below)
      clear g1 g2 HC rk2
      have HC := hide (endLine_any (unhide HW2).wr hls)
      go_wp2_with fail
      refine Calls.mono HC.out ?_
      rintro e w3 ⟨rfl, h3, k3⟩
      have HW3 : Hid (Wt B b m (f (k + 1)) w3) := by rw [unhide HFN]; exact (unhide HW2).later h3 k3
      have HB3 := hide ((unhide HB2).trans k3.below)
      clear h3 k3 HC
      go_wp2_with fail
      go_roundw
      case rel => exact ⟨k + 1, by omega, by go_num, unhide HW3, unhide HB3⟩
      case measure => simp [intOf]; omega
    · have hk2 : k = ks.length := by omega
      subst hk2
      have HC := hide (string_any (unhide HW).wr (unhide HNE) (unhide HL))
      go_wp2_with fail
      refine Calls.mono HC.out ?_
      rintro e w2 ⟨rfl, hb2⟩
      have HB2 : Hid (Below w.heap.size w w2) := by
        have h1 := (unhide HBW).trans hb2
        rw [unhide HBE] at h1
        exact (unhide HB1).trans h1
      clear hb2 HC
      go_wp2_with fail
      go_ret
      exact ⟨rfl, unhide HB2⟩
end Go.Proofs.YtodmgaikhbmlnaaGreatDoor
