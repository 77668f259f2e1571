/-
  Values that the writer puts, kind by kind.
-/
import Derived.Test.YtodmgaikhbmlnaaGreatDoorTk32
import Derived.Test.YtodmgaikhbmlnaaGreatDoorTk33
set_option maxRecDepth 100000
set_option maxHeartbeats 16000000
namespace Go.Proofs.YtodmgaikhbmlnaaGreatDoor
open Go.RowKit

/-- Behind the look at a kind that is a sign. -/
theorem kind_some {B b m : Nat} {s : WS} {w1 : World} (kd : Int) (g : Sg) (h : Wt B b m s w1) (hk : sgK kd = some g) :
    (Instr.lookup 85 (.map (some m)) (.int .i64 kd) true).run Tryz.prog w1.drew = .ok (.tuple #[.agg #[.string g.tx, .int .i64 g.kd, .int .i64 g.parts, .int .i64 g.str], .bool true]) w1.drew
    ∧ ∀ o, (Instr.lookup 85 (.map (some m)) (.int .i64 kd) true).run Tryz.prog (w1.alloc o).drew = .ok (.tuple #[.agg #[.string g.tx, .int .i64 g.kd, .int .i64 g.parts, .int .i64 g.str], .bool true]) (w1.alloc o).drew := by
  have h1 := look_kinds m kd w1.drew h.signs
  have h2 := fun o => look_kinds m kd (w1.alloc o).drew (h.alloc o).signs
  rw [hk] at h1 h2
  exact ⟨h1, h2⟩

theorem value_par {B b m : Nat} (t : Tr) (least : Int) (s s' : WS) (hst : strK t.kd < least) (h : ∀ w p, Wt B b m s w → NB B w t p → Calls Tryz.prog 179 #[wPtr b, nPtr p] w (WPost B b m s' w)) :
    VC B b m t least s s' := by
  have HH := hide h
  clear h
  intro w p hW hN
  have HW0 := hide hW
  have HN := hide hN
  have HK0 := hide (Kp.refl B b w)
  clear hW hN
  obtain ⟨d0, d1, d2⟩ := ((unhide HN).later (unhide HK0).below).cells
  have hpl : p < w.heap.size := by have h1 := (unhide HN).lt; have h2 := (unhide HW0).size; simp at h2 ⊢; omega
  go_enter Tryz.func176, Tryz.ntmps176
  have HC := hide (strength_any (unhide HW0).wr (unhide HW0).signs p t.kd d0 hpl)
  generalize strK t.kd = st at HC hst
  clear d0 d1 d2 hpl
  go_wp2_with fail
  refine Calls.mono HC.out ?_
  rintro e w1 ⟨rfl, hb⟩
  have HW1 := hide ((unhide HW0).below hb)
  have HK1 := hide ((unhide HK0).trans (Kp.of (b := b) (unhide HW0).size hb))
  clear hb HC HW0 HK0
  have HQ := hide ((unhide HN).later (unhide HK1).below)
  have HC := hide ((unhide HH) w1 p (unhide HW1) (unhide HQ))
  go_wp2_with fail
  refine Calls.mono HC.out ?_
  intro e w2 hp
  obtain ⟨rfl, g1, g2⟩ := hp
  have HW2 := hide g1
  have HK2 := hide ((unhide HK1).trans g2)
  clear g1 g2 HC HW1 HK1
  go_wp2_with fail
  go_end0
  exact ⟨rfl, unhide HW2, unhide HK2⟩

theorem value_sign {B b m : Nat} (kd : Int) (tx : ByteArray) (n : Int) (ks : List Tr) (g : Sg) (least : Int) (s s' : WS) (hst : ¬ strK kd < least) (hg : sgK kd = some g) (h : ∀ w p, Wt B b m s w → NB B w (.mk kd tx n ks) p → Calls Tryz.prog 229 #[wPtr b, nPtr p, .agg #[.string g.tx, .int .i64 g.kd, .int .i64 g.parts, .int .i64 g.str]] w (WPost B b m s' w)) :
    VC B b m (.mk kd tx n ks) least s s' := by
  have HH := hide h
  clear h
  intro w p hW hN
  have HW0 := hide hW
  have HN := hide hN
  have HK0 := hide (Kp.refl B b w)
  clear hW hN
  obtain ⟨d0, d1, d2⟩ := ((unhide HN).later (unhide HK0).below).cells
  simp only [Tr.kd, Tr.tx, Tr.n] at d0 d1 d2
  have hpl : p < w.heap.size := by have h1 := (unhide HN).lt; have h2 := (unhide HW0).size; simp at h2 ⊢; omega
  go_enter Tryz.func176, Tryz.ntmps176
  have HC := hide (strength_any (unhide HW0).wr (unhide HW0).signs p kd d0 hpl)
  generalize strK kd = st at HC hst
  clear d0 d1 d2 hpl
  go_wp2_with fail
  refine Calls.mono HC.out ?_
  rintro e w1 ⟨rfl, hb⟩
  have HW1 := hide ((unhide HW0).below hb)
  have HK1 := hide ((unhide HK0).trans (Kp.of (b := b) (unhide HW0).size hb))
  clear hb HC HW0 HK0
  obtain ⟨l1, l2⟩ := kind_some kd g (unhide HW1) hg
  obtain ⟨gx, gk, gp, gs⟩ := g
  simp only at l1 l2 HH
  obtain ⟨d0, d1, d2⟩ := ((unhide HN).later (unhide HK1).below).cells
  simp only [Tr.kd, Tr.tx, Tr.n] at d0 d1 d2
  have hpl : p < w1.heap.size := by have h1 := (unhide HN).lt; have h2 := (unhide HW1).size; simp at h2 ⊢; omega
  obtain ⟨e2, e3, ef⟩ := (unhide HW1).wr.cells
  have hbl := (unhide HW1).wr.lt
  have HW2 := hide ((unhide HW1).alloc (.cells #[.string gx, .int .i64 gk, .int .i64 gp, .int .i64 gs] 175)).drew
  have HK2 := hide ((unhide HK1).alloc (unhide HW1).size (.cells #[.string gx, .int .i64 gk, .int .i64 gp, .int .i64 gs] 175)).drew
  have HQ : Hid (NB B (w1.alloc (.cells #[.string gx, .int .i64 gk, .int .i64 gp, .int .i64 gs] 175)).drew (.mk kd tx n ks) p) := ((unhide HN).later (unhide HK1).below).later (((Below.refl B w1).alloc (unhide HW1).size (.cells #[.string gx, .int .i64 gk, .int .i64 gp, .int .i64 gs] 175)).drew)
  clear HW1 HK1 hg
  have HC := hide ((unhide HH) (w1.alloc (.cells #[.string gx, .int .i64 gk, .int .i64 gp, .int .i64 gs] 175)).drew p (unhide HW2) (unhide HQ))
  go_wp2_with fail
  go_region
  go_wp2_with fail
  refine Calls.mono HC.out ?_
  intro e w3 hp
  obtain ⟨rfl, g1, g2⟩ := hp
  have HW3 := hide g1
  have HK3 := hide ((unhide HK2).trans g2)
  clear g1 g2 HC HW2 HK2
  clear d0 d1 d2 hpl e2 e3 ef hbl l1 l2
  go_wp2_with fail
  go_end0
  exact ⟨rfl, unhide HW3, unhide HK3⟩

theorem value_str {B b m : Nat} (tx : ByteArray) (n : Int) (ks : List Tr) (least : Int) (s : WS) (hl : ¬ (10 : Int) < least) (hsz : tx.size ≤ 10000) (hlen : s.1.length + sumT [quoteB tx] ≤ 100000000) :
    VC B b m (.mk 18 tx n ks) least s (putsS [quoteB tx] s) := by
  intro w p hW hN
  have HW0 := hide hW
  have HN := hide hN
  have HK0 := hide (Kp.refl B b w)
  clear hW hN
  obtain ⟨d0, d1, d2⟩ := ((unhide HN).later (unhide HK0).below).cells
  simp only [Tr.kd, Tr.tx, Tr.n] at d0 d1 d2
  have hpl : p < w.heap.size := by have h1 := (unhide HN).lt; have h2 := (unhide HW0).size; simp at h2 ⊢; omega
  go_enter Tryz.func176, Tryz.ntmps176
  have hk : strK 18 = 10 := by decide +kernel
  have HC := hide (strength_any (unhide HW0).wr (unhide HW0).signs p 18 d0 hpl)
  rw [hk] at HC
  clear hk
  clear d0 d1 d2 hpl
  go_wp2_with fail
  refine Calls.mono HC.out ?_
  rintro e w1 ⟨rfl, hb⟩
  have HW1 := hide ((unhide HW0).below hb)
  have HK1 := hide ((unhide HK0).trans (Kp.of (b := b) (unhide HW0).size hb))
  clear hb HC HW0 HK0
  obtain ⟨l1, l2⟩ := kind_none 18 (unhide HW1) (by decide +kernel)
  obtain ⟨d0, d1, d2⟩ := ((unhide HN).later (unhide HK1).below).cells
  simp only [Tr.kd, Tr.tx, Tr.n] at d0 d1 d2
  have hpl : p < w1.heap.size := by have h1 := (unhide HN).lt; have h2 := (unhide HW1).size; simp at h2 ⊢; omega
  obtain ⟨e2, e3, ef⟩ := (unhide HW1).wr.cells
  have hbl := (unhide HW1).wr.lt
  have HW2 := hide ((unhide HW1).alloc (.cells #[.string ⟨#[]⟩, .int .i64 0, .int .i64 0, .int .i64 0] 175)).drew
  have HK2 := hide ((unhide HK1).alloc (unhide HW1).size (.cells #[.string ⟨#[]⟩, .int .i64 0, .int .i64 0, .int .i64 0] 175)).drew
  clear HW1 HK1
  have HC := hide (quoted_any tx (w1.alloc (.cells #[.string ⟨#[]⟩, .int .i64 0, .int .i64 0, .int .i64 0] 175)).drew hsz)
  go_wp2_with fail
  go_region
  go_wp2_with fail
  refine Calls.mono HC.out ?_
  rintro e w3 ⟨rfl, hb⟩
  have HW3 := hide ((unhide HW2).below hb)
  have HK3 := hide ((unhide HK2).trans (Kp.of (b := b) (unhide HW2).size hb))
  clear hb HC HW2 HK2
  clear d0 d1 d2 hpl e2 e3 ef hbl l1 l2
  go_wp2_with fail
  refine Calls.mono (put_at (s := s) (w := w) [quoteB tx] _ 1 rfl #[.string (quoteB tx)] rfl (by exact new_at (by simp)) (by exact (unhide HW3).alloc _) (by exact (unhide HK3).alloc (unhide HW3).size _) hlen) ?_
  intro e w4 hp
  obtain ⟨rfl, g1, g2⟩ := hp
  have HW4 := hide g1
  have HK4 := hide g2
  clear g1 g2 HW3 HK3
  go_wp2_with fail
  go_end0
  exact ⟨rfl, unhide HW4, unhide HK4⟩

theorem value_memb {B b m : Nat} (tx : ByteArray) (n : Int) (t0 : Tr) (least : Int) (s s1 : WS) (hl : ¬ (9 : Int) < least) (h0 : VC B b m t0 9 s s1) (hlen : s1.1.length + sumT [tDot, tx] ≤ 100000000) :
    VC B b m (.mk 36 tx n [t0]) least s (putsS [tDot, tx] s1) := by
  have HH0 := hide h0
  clear h0
  intro w p hW hN
  have HW0 := hide hW
  have HN := hide hN
  have HK0 := hide (Kp.refl B b w)
  clear hW hN
  obtain ⟨d0, d1, d2⟩ := ((unhide HN).later (unhide HK0).below).cells
  simp only [Tr.kd, Tr.tx, Tr.n] at d0 d1 d2
  have hpl : p < w.heap.size := by have h1 := (unhide HN).lt; have h2 := (unhide HW0).size; simp at h2 ⊢; omega
  go_enter Tryz.func176, Tryz.ntmps176
  have hk : strK 36 = 9 := by decide +kernel
  have HC := hide (strength_any (unhide HW0).wr (unhide HW0).signs p 36 d0 hpl)
  rw [hk] at HC
  clear hk
  clear d0 d1 d2 hpl
  go_wp2_with fail
  refine Calls.mono HC.out ?_
  rintro e w1 ⟨rfl, hb⟩
  have HW1 := hide ((unhide HW0).below hb)
  have HK1 := hide ((unhide HK0).trans (Kp.of (b := b) (unhide HW0).size hb))
  clear hb HC HW0 HK0
  obtain ⟨l1, l2⟩ := kind_none 36 (unhide HW1) (by decide +kernel)
  obtain ⟨d0, d1, d2⟩ := ((unhide HN).later (unhide HK1).below).cells
  simp only [Tr.kd, Tr.tx, Tr.n] at d0 d1 d2
  have hpl : p < w1.heap.size := by have h1 := (unhide HN).lt; have h2 := (unhide HW1).size; simp at h2 ⊢; omega
  obtain ⟨e2, e3, ef⟩ := (unhide HW1).wr.cells
  have hbl := (unhide HW1).wr.lt
  have HW2 := hide ((unhide HW1).alloc (.cells #[.string ⟨#[]⟩, .int .i64 0, .int .i64 0, .int .i64 0] 175)).drew
  have HK2 := hide ((unhide HK1).alloc (unhide HW1).size (.cells #[.string ⟨#[]⟩, .int .i64 0, .int .i64 0, .int .i64 0] 175)).drew
  obtain ⟨g3, cc3, q3, rr3, hg3, rk3, hq3⟩ := ((unhide HN).later (unhide HK1).below).kid 0 (by simp [Tr.kids])
  simp only [Tr.kids, List.length_cons, List.length_nil] at rr3
  have HQ3 : Hid (NB B w1 t0 q3) := hq3
  have hgl3 : g3 < w1.heap.size := by have h2 := (unhide HW1).size; simp at h2 ⊢; omega
  clear hq3
  have HQN : Hid (NB B (w1.alloc (.cells #[.string ⟨#[]⟩, .int .i64 0, .int .i64 0, .int .i64 0] 175)).drew t0 q3) := (unhide HQ3).later (((Below.refl B w1).alloc (unhide HW1).size (.cells #[.string ⟨#[]⟩, .int .i64 0, .int .i64 0, .int .i64 0] 175)).drew)
  clear HW1 HK1
  have HC := hide ((unhide HH0) (w1.alloc (.cells #[.string ⟨#[]⟩, .int .i64 0, .int .i64 0, .int .i64 0] 175)).drew q3 (unhide HW2) (unhide HQN))
  go_wp2_with fail
  go_region
  go_wp2_with fail
  refine Calls.mono HC.out ?_
  intro e w4 hp
  obtain ⟨rfl, g1, g2⟩ := hp
  have HW4 := hide g1
  have HK4 := hide ((unhide HK2).trans g2)
  clear g1 g2 HC HW2 HK2
  clear d0 d1 d2 hpl e2 e3 ef hbl l1 l2 rr3 hg3 rk3 HQ3 hgl3 HQN
  obtain ⟨d0, d1, d2⟩ := ((unhide HN).later (unhide HK4).below).cells
  simp only [Tr.kd, Tr.tx, Tr.n] at d0 d1 d2
  have hpl : p < w4.heap.size := by have h1 := (unhide HN).lt; have h2 := (unhide HW4).size; simp at h2 ⊢; omega
  go_wp2_with fail
  refine Calls.mono (put_at (s := s1) (w := w) [tDot, tx] _ 2 rfl #[.string tDot, .string tx] rfl (by exact new_at (by simp)) (by exact (unhide HW4).alloc _) (by exact (unhide HK4).alloc (unhide HW4).size _) hlen) ?_
  intro e w5 hp
  obtain ⟨rfl, g1, g2⟩ := hp
  have HW5 := hide g1
  have HK5 := hide g2
  clear g1 g2 HW4 HK4
  clear d0 d1 d2 hpl
  go_wp2_with fail
  go_end0
  exact ⟨rfl, unhide HW5, unhide HK5⟩

theorem value_lam {B b m : Nat} (tx : ByteArray) (n : Int) (ks : List Tr) (least : Int) (s s' : WS) (hl : ¬ (10 : Int) < least) (h : ∀ w p, Wt B b m s w → NB B w (.mk 37 tx n ks) p → Calls Tryz.prog 118 #[wPtr b, nPtr p] w (WPost B b m s' w)) :
    VC B b m (.mk 37 tx n ks) least s s' := by
  have HH := hide h
  clear h
  intro w p hW hN
  have HW0 := hide hW
  have HN := hide hN
  have HK0 := hide (Kp.refl B b w)
  clear hW hN
  obtain ⟨d0, d1, d2⟩ := ((unhide HN).later (unhide HK0).below).cells
  simp only [Tr.kd, Tr.tx, Tr.n] at d0 d1 d2
  have hpl : p < w.heap.size := by have h1 := (unhide HN).lt; have h2 := (unhide HW0).size; simp at h2 ⊢; omega
  go_enter Tryz.func176, Tryz.ntmps176
  have hk : strK 37 = 10 := by decide +kernel
  have HC := hide (strength_any (unhide HW0).wr (unhide HW0).signs p 37 d0 hpl)
  rw [hk] at HC
  clear hk
  clear d0 d1 d2 hpl
  go_wp2_with fail
  refine Calls.mono HC.out ?_
  rintro e w1 ⟨rfl, hb⟩
  have HW1 := hide ((unhide HW0).below hb)
  have HK1 := hide ((unhide HK0).trans (Kp.of (b := b) (unhide HW0).size hb))
  clear hb HC HW0 HK0
  obtain ⟨l1, l2⟩ := kind_none 37 (unhide HW1) (by decide +kernel)
  obtain ⟨d0, d1, d2⟩ := ((unhide HN).later (unhide HK1).below).cells
  simp only [Tr.kd, Tr.tx, Tr.n] at d0 d1 d2
  have hpl : p < w1.heap.size := by have h1 := (unhide HN).lt; have h2 := (unhide HW1).size; simp at h2 ⊢; omega
  obtain ⟨e2, e3, ef⟩ := (unhide HW1).wr.cells
  have hbl := (unhide HW1).wr.lt
  have HW2 := hide ((unhide HW1).alloc (.cells #[.string ⟨#[]⟩, .int .i64 0, .int .i64 0, .int .i64 0] 175)).drew
  have HK2 := hide ((unhide HK1).alloc (unhide HW1).size (.cells #[.string ⟨#[]⟩, .int .i64 0, .int .i64 0, .int .i64 0] 175)).drew
  have HQ : Hid (NB B (w1.alloc (.cells #[.string ⟨#[]⟩, .int .i64 0, .int .i64 0, .int .i64 0] 175)).drew (.mk 37 tx n ks) p) := ((unhide HN).later (unhide HK1).below).later (((Below.refl B w1).alloc (unhide HW1).size (.cells #[.string ⟨#[]⟩, .int .i64 0, .int .i64 0, .int .i64 0] 175)).drew)
  clear HW1 HK1
  have HC := hide ((unhide HH) (w1.alloc (.cells #[.string ⟨#[]⟩, .int .i64 0, .int .i64 0, .int .i64 0] 175)).drew p (unhide HW2) (unhide HQ))
  go_wp2_with fail
  go_region
  go_wp2_with fail
  refine Calls.mono HC.out ?_
  intro e w3 hp
  obtain ⟨rfl, g1, g2⟩ := hp
  have HW3 := hide g1
  have HK3 := hide ((unhide HK2).trans g2)
  clear g1 g2 HC HW2 HK2
  clear d0 d1 d2 hpl e2 e3 ef hbl l1 l2
  go_wp2_with fail
  go_end0
  exact ⟨rfl, unhide HW3, unhide HK3⟩

theorem value_obj {B b m : Nat} (tx : ByteArray) (n : Int) (ks : List Tr) (least : Int) (s s' : WS) (hl : ¬ (10 : Int) < least) (h : ∀ w p, Wt B b m s w → NB B w (.mk 38 tx n ks) p → Calls Tryz.prog 231 #[wPtr b, nPtr p] w (WPost B b m s' w)) :
    VC B b m (.mk 38 tx n ks) least s s' := by
  have HH := hide h
  clear h
  intro w p hW hN
  have HW0 := hide hW
  have HN := hide hN
  have HK0 := hide (Kp.refl B b w)
  clear hW hN
  obtain ⟨d0, d1, d2⟩ := ((unhide HN).later (unhide HK0).below).cells
  simp only [Tr.kd, Tr.tx, Tr.n] at d0 d1 d2
  have hpl : p < w.heap.size := by have h1 := (unhide HN).lt; have h2 := (unhide HW0).size; simp at h2 ⊢; omega
  go_enter Tryz.func176, Tryz.ntmps176
  have hk : strK 38 = 10 := by decide +kernel
  have HC := hide (strength_any (unhide HW0).wr (unhide HW0).signs p 38 d0 hpl)
  rw [hk] at HC
  clear hk
  clear d0 d1 d2 hpl
  go_wp2_with fail
  refine Calls.mono HC.out ?_
  rintro e w1 ⟨rfl, hb⟩
  have HW1 := hide ((unhide HW0).below hb)
  have HK1 := hide ((unhide HK0).trans (Kp.of (b := b) (unhide HW0).size hb))
  clear hb HC HW0 HK0
  obtain ⟨l1, l2⟩ := kind_none 38 (unhide HW1) (by decide +kernel)
  obtain ⟨d0, d1, d2⟩ := ((unhide HN).later (unhide HK1).below).cells
  simp only [Tr.kd, Tr.tx, Tr.n] at d0 d1 d2
  have hpl : p < w1.heap.size := by have h1 := (unhide HN).lt; have h2 := (unhide HW1).size; simp at h2 ⊢; omega
  obtain ⟨e2, e3, ef⟩ := (unhide HW1).wr.cells
  have hbl := (unhide HW1).wr.lt
  have HW2 := hide ((unhide HW1).alloc (.cells #[.string ⟨#[]⟩, .int .i64 0, .int .i64 0, .int .i64 0] 175)).drew
  have HK2 := hide ((unhide HK1).alloc (unhide HW1).size (.cells #[.string ⟨#[]⟩, .int .i64 0, .int .i64 0, .int .i64 0] 175)).drew
  have HQ : Hid (NB B (w1.alloc (.cells #[.string ⟨#[]⟩, .int .i64 0, .int .i64 0, .int .i64 0] 175)).drew (.mk 38 tx n ks) p) := ((unhide HN).later (unhide HK1).below).later (((Below.refl B w1).alloc (unhide HW1).size (.cells #[.string ⟨#[]⟩, .int .i64 0, .int .i64 0, .int .i64 0] 175)).drew)
  clear HW1 HK1
  have HC := hide ((unhide HH) (w1.alloc (.cells #[.string ⟨#[]⟩, .int .i64 0, .int .i64 0, .int .i64 0] 175)).drew p (unhide HW2) (unhide HQ))
  go_wp2_with fail
  go_region
  go_wp2_with fail
  refine Calls.mono HC.out ?_
  intro e w3 hp
  obtain ⟨rfl, g1, g2⟩ := hp
  have HW3 := hide g1
  have HK3 := hide ((unhide HK2).trans g2)
  clear g1 g2 HC HW2 HK2
  clear d0 d1 d2 hpl e2 e3 ef hbl l1 l2
  go_wp2_with fail
  go_end0
  exact ⟨rfl, unhide HW3, unhide HK3⟩

theorem value_prop {B b m : Nat} (tx : ByteArray) (n : Int) (t0 : Tr) (least : Int) (s s1 : WS) (hl : ¬ (10 : Int) < least) (hlen : s.1.length + sumT [tx, tColon] ≤ 100000000) (h0 : VC B b m t0 1 (putsS [tx, tColon] s) s1) :
    VC B b m (.mk 39 tx n [t0]) least s s1 := by
  have HH0 := hide h0
  clear h0
  intro w p hW hN
  have HW0 := hide hW
  have HN := hide hN
  have HK0 := hide (Kp.refl B b w)
  clear hW hN
  obtain ⟨d0, d1, d2⟩ := ((unhide HN).later (unhide HK0).below).cells
  simp only [Tr.kd, Tr.tx, Tr.n] at d0 d1 d2
  have hpl : p < w.heap.size := by have h1 := (unhide HN).lt; have h2 := (unhide HW0).size; simp at h2 ⊢; omega
  go_enter Tryz.func176, Tryz.ntmps176
  have hk : strK 39 = 10 := by decide +kernel
  have HC := hide (strength_any (unhide HW0).wr (unhide HW0).signs p 39 d0 hpl)
  rw [hk] at HC
  clear hk
  clear d0 d1 d2 hpl
  go_wp2_with fail
  refine Calls.mono HC.out ?_
  rintro e w1 ⟨rfl, hb⟩
  have HW1 := hide ((unhide HW0).below hb)
  have HK1 := hide ((unhide HK0).trans (Kp.of (b := b) (unhide HW0).size hb))
  clear hb HC HW0 HK0
  obtain ⟨l1, l2⟩ := kind_none 39 (unhide HW1) (by decide +kernel)
  obtain ⟨d0, d1, d2⟩ := ((unhide HN).later (unhide HK1).below).cells
  simp only [Tr.kd, Tr.tx, Tr.n] at d0 d1 d2
  have hpl : p < w1.heap.size := by have h1 := (unhide HN).lt; have h2 := (unhide HW1).size; simp at h2 ⊢; omega
  obtain ⟨e2, e3, ef⟩ := (unhide HW1).wr.cells
  have hbl := (unhide HW1).wr.lt
  have HW2 := hide ((unhide HW1).alloc (.cells #[.string ⟨#[]⟩, .int .i64 0, .int .i64 0, .int .i64 0] 175)).drew
  have HK2 := hide ((unhide HK1).alloc (unhide HW1).size (.cells #[.string ⟨#[]⟩, .int .i64 0, .int .i64 0, .int .i64 0] 175)).drew
  have HWi := hide ((unhide HW1).alloc (.cells #[.string ⟨#[]⟩, .int .i64 0, .int .i64 0, .int .i64 0] 175))
  have HKi := hide ((unhide HK1).alloc (unhide HW1).size (.cells #[.string ⟨#[]⟩, .int .i64 0, .int .i64 0, .int .i64 0] 175))
  go_wp2_with fail
  go_region
  go_wp2_with fail
  refine Calls.mono (put_at (s := s) (w := w) [tx, tColon] _ 2 rfl #[.string tx, .string tColon] rfl (by exact new_at (by simp)) (by exact ((unhide HWi).alloc _).drew) (by exact ((unhide HKi).alloc (unhide HWi).size _).drew) hlen) ?_
  intro e w3 hp
  obtain ⟨rfl, g1, g2⟩ := hp
  have HW3 := hide g1
  have HK3 := hide g2
  clear g1 g2 HW1 HK1
  clear d0 d1 d2 hpl e2 e3 ef hbl l1 l2
  obtain ⟨d0, d1, d2⟩ := ((unhide HN).later (unhide HK3).below).cells
  simp only [Tr.kd, Tr.tx, Tr.n] at d0 d1 d2
  have hpl : p < w3.heap.size := by have h1 := (unhide HN).lt; have h2 := (unhide HW3).size; simp at h2 ⊢; omega
  obtain ⟨g4, cc4, q4, rr4, hg4, rk4, hq4⟩ := ((unhide HN).later (unhide HK3).below).kid 0 (by simp [Tr.kids])
  simp only [Tr.kids, List.length_cons, List.length_nil] at rr4
  have HQ4 : Hid (NB B w3 t0 q4) := hq4
  have hgl4 : g4 < w3.heap.size := by have h2 := (unhide HW3).size; simp at h2 ⊢; omega
  clear hq4
  have HC := hide ((unhide HH0) w3 q4 (unhide HW3) (unhide HQ4))
  go_wp2_with fail
  refine Calls.mono HC.out ?_
  intro e w5 hp
  obtain ⟨rfl, g1, g2⟩ := hp
  have HW5 := hide g1
  have HK5 := hide ((unhide HK3).trans g2)
  clear g1 g2 HC HW3 HK3
  clear d0 d1 d2 hpl rr4 hg4 rk4 HQ4 hgl4
  go_wp2_with fail
  go_end0
  exact ⟨rfl, unhide HW5, unhide HK5⟩

theorem RB.tail {B : Nat} {w : World} {t : Tr} {ts : List Tr} {a : Option Addr} {c : Nat} (h : RB B w (t :: ts) (.slice a (ts.length + 1) c)) : ∃ g o, a = some ⟨g, o, none⟩ ∧ RB B w ts (.slice (some ⟨g, o + 1, none⟩) ts.length (c - 1)) := by
  obtain ⟨a', c', he, hr⟩ := h
  cases he
  obtain ⟨g, o, q, rfl, hg, _, _⟩ := hr 0 (by simp)
  refine ⟨g, o, rfl, _, _, rfl, fun j hj => ?_⟩
  obtain ⟨g2, o2, q2, h1, h2, h3, h4⟩ := hr (j + 1) (by simpa using hj)
  cases h1
  exact ⟨g, o + 1, q2, rfl, h2, by rw [Nat.add_right_comm, Nat.add_assoc]; exact h3, h4⟩
theorem NB.capLe {B : Nat} {w : World} {t : Tr} {p : Nat} (h : NB B w t p) {a : Option Addr} {n c : Nat} (hc : w.cell? ⟨p, 3, none⟩ = some (.slice a n c)) : n ≤ c := by
  obtain ⟨u, ps, hb, hr, hI, hk⟩ := NAt.opens2 h
  obtain ⟨_, _, _, h3, _⟩ := node_cells hb
  rw [hc] at h3
  cases h3
  rcases hr.2 with ⟨he, _⟩ | ⟨g, cap, cur, he, _, _, h1, _⟩
  · cases he; exact Nat.le_refl _
  · cases he; exact h1

theorem value_call {B b m : Nat} (tx : ByteArray) (n : Int) (t0 : Tr) (ts : List Tr) (least : Int) (s s1 s2 : WS) (hl : ¬ (9 : Int) < least) (hkl : ts.length ≤ 100) (h0 : VC B b m t0 9 s s1) (h1 : ∀ w v, Wt B b m s1 w → RB B w ts v → Calls Tryz.prog 177 #[wPtr b, .string tOpen, .string tShut, v] w (WPost B b m s2 w)) :
    VC B b m (.mk 35 tx n (t0 :: ts)) least s s2 := by
  have HH0 := hide h0
  have HH1 := hide h1
  clear h0 h1
  intro w p hW hN
  have HW0 := hide hW
  have HN := hide hN
  have HK0 := hide (Kp.refl B b w)
  clear hW hN
  obtain ⟨d0, d1, d2⟩ := ((unhide HN).later (unhide HK0).below).cells
  simp only [Tr.kd, Tr.tx, Tr.n] at d0 d1 d2
  have hpl : p < w.heap.size := by have h1 := (unhide HN).lt; have h2 := (unhide HW0).size; simp at h2 ⊢; omega
  go_enter Tryz.func176, Tryz.ntmps176
  have hk : strK 35 = 9 := by decide +kernel
  have HC := hide (strength_any (unhide HW0).wr (unhide HW0).signs p 35 d0 hpl)
  rw [hk] at HC
  clear hk
  clear d0 d1 d2 hpl
  go_wp2_with fail
  refine Calls.mono HC.out ?_
  rintro e w1 ⟨rfl, hb⟩
  have HW1 := hide ((unhide HW0).below hb)
  have HK1 := hide ((unhide HK0).trans (Kp.of (b := b) (unhide HW0).size hb))
  clear hb HC HW0 HK0
  obtain ⟨l1, l2⟩ := kind_none 35 (unhide HW1) (by decide +kernel)
  obtain ⟨d0, d1, d2⟩ := ((unhide HN).later (unhide HK1).below).cells
  simp only [Tr.kd, Tr.tx, Tr.n] at d0 d1 d2
  have hpl : p < w1.heap.size := by have h1 := (unhide HN).lt; have h2 := (unhide HW1).size; simp at h2 ⊢; omega
  obtain ⟨e2, e3, ef⟩ := (unhide HW1).wr.cells
  have hbl := (unhide HW1).wr.lt
  have HW2 := hide ((unhide HW1).alloc (.cells #[.string ⟨#[]⟩, .int .i64 0, .int .i64 0, .int .i64 0] 175)).drew
  have HK2 := hide ((unhide HK1).alloc (unhide HW1).size (.cells #[.string ⟨#[]⟩, .int .i64 0, .int .i64 0, .int .i64 0] 175)).drew
  obtain ⟨g4, cc4, q4, rr4, hg4, rk4, hq4⟩ := ((unhide HN).later (unhide HK1).below).kid 0 (by simp [Tr.kids])
  simp only [Tr.kids, List.length_cons] at rr4
  have HQ4 : Hid (NB B w1 t0 q4) := hq4
  have hgl4 : g4 < w1.heap.size := by have h2 := (unhide HW1).size; simp at h2 ⊢; omega
  clear hq4
  have HQN : Hid (NB B (w1.alloc (.cells #[.string ⟨#[]⟩, .int .i64 0, .int .i64 0, .int .i64 0] 175)).drew t0 q4) := (unhide HQ4).later (((Below.refl B w1).alloc (unhide HW1).size (.cells #[.string ⟨#[]⟩, .int .i64 0, .int .i64 0, .int .i64 0] 175)).drew)
  clear HW1 HK1
  have HC := hide ((unhide HH0) (w1.alloc (.cells #[.string ⟨#[]⟩, .int .i64 0, .int .i64 0, .int .i64 0] 175)).drew q4 (unhide HW2) (unhide HQN))
  go_wp2_with fail
  go_region
  go_wp2_with fail
  refine Calls.mono HC.out ?_
  intro e w5 hp
  obtain ⟨rfl, g1, g2⟩ := hp
  have HW5 := hide g1
  have HK5 := hide ((unhide HK2).trans g2)
  clear g1 g2 HC HW2 HK2
  clear d0 d1 d2 hpl e2 e3 ef hbl l1 l2 rr4 hg4 rk4 HQ4 hgl4 HQN
  obtain ⟨d0, d1, d2⟩ := ((unhide HN).later (unhide HK5).below).cells
  simp only [Tr.kd, Tr.tx, Tr.n] at d0 d1 d2
  have hpl : p < w5.heap.size := by have h1 := (unhide HN).lt; have h2 := (unhide HW5).size; simp at h2 ⊢; omega
  obtain ⟨v, c3, hrb⟩ := ((unhide HN).later (unhide HK5).below).rowV
  simp only [Tr.kids] at hrb
  obtain ⟨a, c, rfl, hrow⟩ := id hrb
  clear hrow
  simp only [List.length_cons] at c3 hrb
  obtain ⟨g, o, rfl, hrb2⟩ := hrb.tail
  have hcap := ((unhide HN).later (unhide HK5).below).capLe c3
  have HRB := hide hrb2
  clear hrb hrb2
  by_cases hc1 : c = 1
  · subst hc1
    obtain rfl : ts = [] := List.eq_nil_of_length_eq_zero (by omega)
    have HC := hide ((unhide HH1) w5 (.slice (some ⟨g, o, none⟩) 0 0) (unhide HW5) ⟨_, _, rfl, fun j hj => absurd hj (by simp)⟩)
    go_wp2_with fail
    refine Calls.mono HC.out ?_
    intro e w6 hp
    obtain ⟨rfl, g1, g2⟩ := hp
    have HW6 := hide g1
    have HK6 := hide ((unhide HK5).trans g2)
    clear g1 g2 HC HW5 HK5
    clear d0 d1 d2 hpl
    go_wp2_with fail
    go_end0
    exact ⟨rfl, unhide HW6, unhide HK6⟩
  · have HC := hide ((unhide HH1) w5 _ (unhide HW5) (unhide HRB))
    go_wp2_with fail
    refine Calls.mono HC.out ?_
    intro e w6 hp
    obtain ⟨rfl, g1, g2⟩ := hp
    have HW6 := hide g1
    have HK6 := hide ((unhide HK5).trans g2)
    clear g1 g2 HC HW5 HK5
    clear d0 d1 d2 hpl
    go_wp2_with fail
    go_end0
    exact ⟨rfl, unhide HW6, unhide HK6⟩

end Go.Proofs.YtodmgaikhbmlnaaGreatDoor
