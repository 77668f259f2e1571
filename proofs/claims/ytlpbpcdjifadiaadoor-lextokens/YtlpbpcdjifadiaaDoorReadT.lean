/-
  The walk of read: which reader is asked is told by the first byte; what it tells is handed on.
-/
import Derived.Test.YtlpbpcdjifadiaaDoorReadB
import Derived.Test.YtlpbpcdjifadiaaDoorReadS
namespace Go.Proofs.YtlpbpcdjifadiaaDoor
open Go.RowKit

/-- What stands at a place. -/
def rdTok (ws gs : List ByteArray) (s : ByteArray) (k : Nat) : Rd :=
  if letB ((bt s k).toNat : Int) = true then rdName ws s k
  else if digB ((bt s k).toNat : Int) = true then rdNum s k
  else if bt s k = 39 then rdStr s k
  else rdSign gs s k

/-- The two lists lie where the program's variables are. -/
structure Lists (ws gs : List ByteArray) (w : World) : Prop where
  lw : ws.length = 19
  lg : gs.length = 19
  zg : ∀ i, i < 19 → (gs.getD i ByteArray.empty).size ≤ 3
  hw : ∃ t fr, w.heap[1]? = some (.cells (ws.map Value.string).toArray t fr)
  hg : ∃ t fr, w.heap[3]? = some (.cells (gs.map Value.string).toArray t fr)

theorem Lists.lt {ws gs : List ByteArray} {w : World} (h : Lists ws gs w) : 3 < w.heap.size := by
  obtain ⟨t, fr, hg⟩ := h.hg
  exact (Array.getElem?_eq_some_iff.1 hg).1

theorem Lists.later {ws gs : List ByteArray} {w w' : World} (h : Lists ws gs w) (hb : Below w.heap.size w w') : Lists ws gs w' := by
  have hl := h.lt
  obtain ⟨t, fr, hw⟩ := h.hw
  obtain ⟨t2, fr2, hg⟩ := h.hg
  exact ⟨h.lw, h.lg, h.zg, ⟨t, fr, by rw [hb.block 1 (by omega)]; exact hw⟩, ⟨t2, fr2, by rw [hb.block 3 (by omega)]; exact hg⟩⟩

set_option maxRecDepth 100000 in
set_option maxHeartbeats 1000000 in
theorem read_name_ok (ws gs : List ByteArray) (s : ByteArray) (k : Nat) (kd n : Int) (tx : ByteArray) (e : Nat) (w : World) (hs : s.size ≤ 3000) (hk : k < s.size) (hL : Lists ws gs w) (hl : letB (s[k].toNat : Int) = true) (hr : rdName ws s k = .tok kd tx n e) :
    Calls Tryd.prog 21 #[.string s, .int .i64 (k : Int)] w (RPost k (.tok kd tx n e) w) := by
  have hL1 : Lists ws gs (w.alloc O35) := hL.later ((Below.refl _ _).alloc (Nat.le_refl _) _)
  have HLS := hide hL1
  have HR := hide hr
  have HL := hide hl
  clear hL hL1 hr hl
  go_enter Tryd.func21, Tryd.ntmps21
  go_wp2_with fail
  refine (letter_any _).mono ?_
  rintro e1 w1 ⟨x, rfl, ⟨f1, c1, rfl, ef1, hf1⟩, hbel⟩
  have HF1 := hide (hf1 w1 (Below.refl _ _))
  have HBEL := hide hbel
  clear hf1 hbel
  go_wp2_with fail
  refine Calls.mono (unhide HF1 _) ?_
  rw [unhide HL]
  rintro e2 w2 ⟨rfl, rfl⟩
  go_wp2_with fail
  have hLL := (unhide HLS).later (unhide HBEL)
  obtain ⟨t, fr, hg⟩ := hLL.hw
  have hc0 := readName_any ws s k w2 hs hk hLL.lw t fr hg
  rw [unhide HR] at hc0
  refine Calls.mono hc0 ?_
  clear hc0 hg hLL
  rintro e5 w5 ⟨rfl, hb5⟩
  have hbelA := (unhide HBEL).trans (hb5.mono (unhide HBEL).size)
  obtain ⟨hc, hf⟩ := bcell hbelA
  have HBELA := hide hbelA
  clear hbelA hb5
  go_wp2_with fail
  exact bodyPost_ret (v := .tuple #[.agg #[.int .i64 kd, .string tx, .int .i64 n, .int .i64 (k : Int)], .int .i64 (e : Int), .nilIface]) (by simp [results, Tryd.results21, go_sem, hc]) rfl ⟨rfl, good_end (unhide HBELA) _ _ _ _⟩

set_option maxRecDepth 100000 in
set_option maxHeartbeats 1000000 in
theorem read_num_ok (ws gs : List ByteArray) (s : ByteArray) (k : Nat) (kd n : Int) (tx : ByteArray) (e : Nat) (w : World) (hs : s.size ≤ 3000) (hk : k < s.size) (hL : Lists ws gs w) (hl : letB (s[k].toNat : Int) = false) (hd : digB (s[k].toNat : Int) = true) (hr : rdNum s k = .tok kd tx n e) :
    Calls Tryd.prog 21 #[.string s, .int .i64 (k : Int)] w (RPost k (.tok kd tx n e) w) := by
  have HD := hide hd
  clear hd
  have hL1 : Lists ws gs (w.alloc O35) := hL.later ((Below.refl _ _).alloc (Nat.le_refl _) _)
  have HLS := hide hL1
  have HR := hide hr
  have HL := hide hl
  clear hL hL1 hr hl
  go_enter Tryd.func21, Tryd.ntmps21
  go_wp2_with fail
  refine (letter_any _).mono ?_
  rintro e1 w1 ⟨x, rfl, ⟨f1, c1, rfl, ef1, hf1⟩, hbel⟩
  have HF1 := hide (hf1 w1 (Below.refl _ _))
  have HBEL := hide hbel
  clear hf1 hbel
  go_wp2_with fail
  refine Calls.mono (unhide HF1 _) ?_
  rw [unhide HL]
  rintro e2 w2 ⟨rfl, rfl⟩
  go_wp2_with fail
  refine (digit_any _).mono ?_
  rintro e3 w3 ⟨x3, rfl, ⟨f3, c3, rfl, ef3, hf3⟩, hbel3⟩
  have HF3 := hide (hf3 w3 (Below.refl _ _))
  have HBEL3 := hide ((unhide HBEL).trans (hbel3.mono (unhide HBEL).size))
  clear hf3 hbel3
  go_wp2_with fail
  refine Calls.mono (unhide HF3 _) ?_
  rw [unhide HD]
  rintro e4 w4 ⟨rfl, rfl⟩
  go_wp2_with fail
  have hc0 := readNum_any s k w4 hs hk (unhide HD)
  rw [unhide HR] at hc0
  refine Calls.mono hc0 ?_
  clear hc0
  rintro e5 w5 ⟨rfl, hb5⟩
  have hbelA := (unhide HBEL3).trans (hb5.mono (unhide HBEL3).size)
  obtain ⟨hc, hf⟩ := bcell hbelA
  have HBELA := hide hbelA
  clear hbelA hb5
  go_wp2_with fail
  exact bodyPost_ret (v := .tuple #[.agg #[.int .i64 kd, .string tx, .int .i64 n, .int .i64 (k : Int)], .int .i64 (e : Int), .nilIface]) (by simp [results, Tryd.results21, go_sem, hc]) rfl ⟨rfl, good_end (unhide HBELA) _ _ _ _⟩

set_option maxRecDepth 100000 in
set_option maxHeartbeats 1000000 in
theorem read_str_ok (ws gs : List ByteArray) (s : ByteArray) (k : Nat) (kd n : Int) (tx : ByteArray) (e : Nat) (w : World) (hs : s.size ≤ 3000) (hk : k < s.size) (hL : Lists ws gs w) (hl : letB (s[k].toNat : Int) = false) (hd : digB (s[k].toNat : Int) = false) (hq : (((s[k].toNat : Nat) : Int) == 39) = true) (hr : rdStr s k = .tok kd tx n e) :
    Calls Tryd.prog 21 #[.string s, .int .i64 (k : Int)] w (RPost k (.tok kd tx n e) w) := by
  have HD := hide hd
  clear hd
  have hL1 : Lists ws gs (w.alloc O35) := hL.later ((Below.refl _ _).alloc (Nat.le_refl _) _)
  have HLS := hide hL1
  have HR := hide hr
  have HL := hide hl
  clear hL hL1 hr hl
  go_enter Tryd.func21, Tryd.ntmps21
  go_wp2_with fail
  refine (letter_any _).mono ?_
  rintro e1 w1 ⟨x, rfl, ⟨f1, c1, rfl, ef1, hf1⟩, hbel⟩
  have HF1 := hide (hf1 w1 (Below.refl _ _))
  have HBEL := hide hbel
  clear hf1 hbel
  go_wp2_with fail
  refine Calls.mono (unhide HF1 _) ?_
  rw [unhide HL]
  rintro e2 w2 ⟨rfl, rfl⟩
  go_wp2_with fail
  refine (digit_any _).mono ?_
  rintro e3 w3 ⟨x3, rfl, ⟨f3, c3, rfl, ef3, hf3⟩, hbel3⟩
  have HF3 := hide (hf3 w3 (Below.refl _ _))
  have HBEL3 := hide ((unhide HBEL).trans (hbel3.mono (unhide HBEL).size))
  clear hf3 hbel3
  go_wp2_with fail
  refine Calls.mono (unhide HF3 _) ?_
  rw [unhide HD]
  rintro e4 w4 ⟨rfl, rfl⟩
  go_wp2_with fail
  have hc0 := readStr_any s k w4 hs hk
  rw [unhide HR] at hc0
  refine Calls.mono hc0 ?_
  clear hc0
  rintro e5 w5 ⟨rfl, hb5⟩
  have hbelA := (unhide HBEL3).trans (hb5.mono (unhide HBEL3).size)
  obtain ⟨hc, hf⟩ := bcell hbelA
  have HBELA := hide hbelA
  clear hbelA hb5
  go_wp2_with fail
  exact bodyPost_ret (v := .tuple #[.agg #[.int .i64 kd, .string tx, .int .i64 n, .int .i64 (k : Int)], .int .i64 (e : Int), .nilIface]) (by simp [results, Tryd.results21, go_sem, hc]) rfl ⟨rfl, good_end (unhide HBELA) _ _ _ _⟩

set_option maxRecDepth 100000 in
set_option maxHeartbeats 1000000 in
theorem read_sign_ok (ws gs : List ByteArray) (s : ByteArray) (k : Nat) (kd n : Int) (tx : ByteArray) (e : Nat) (w : World) (hs : s.size ≤ 3000) (hk : k < s.size) (hL : Lists ws gs w) (hl : letB (s[k].toNat : Int) = false) (hd : digB (s[k].toNat : Int) = false) (hq : (((s[k].toNat : Nat) : Int) == 39) = false) (hr : rdSign gs s k = .tok kd tx n e) :
    Calls Tryd.prog 21 #[.string s, .int .i64 (k : Int)] w (RPost k (.tok kd tx n e) w) := by
  have HD := hide hd
  clear hd
  have hL1 : Lists ws gs (w.alloc O35) := hL.later ((Below.refl _ _).alloc (Nat.le_refl _) _)
  have HLS := hide hL1
  have HR := hide hr
  have HL := hide hl
  clear hL hL1 hr hl
  go_enter Tryd.func21, Tryd.ntmps21
  go_wp2_with fail
  refine (letter_any _).mono ?_
  rintro e1 w1 ⟨x, rfl, ⟨f1, c1, rfl, ef1, hf1⟩, hbel⟩
  have HF1 := hide (hf1 w1 (Below.refl _ _))
  have HBEL := hide hbel
  clear hf1 hbel
  go_wp2_with fail
  refine Calls.mono (unhide HF1 _) ?_
  rw [unhide HL]
  rintro e2 w2 ⟨rfl, rfl⟩
  go_wp2_with fail
  refine (digit_any _).mono ?_
  rintro e3 w3 ⟨x3, rfl, ⟨f3, c3, rfl, ef3, hf3⟩, hbel3⟩
  have HF3 := hide (hf3 w3 (Below.refl _ _))
  have HBEL3 := hide ((unhide HBEL).trans (hbel3.mono (unhide HBEL).size))
  clear hf3 hbel3
  go_wp2_with fail
  refine Calls.mono (unhide HF3 _) ?_
  rw [unhide HD]
  rintro e4 w4 ⟨rfl, rfl⟩
  go_wp2_with fail
  have hLL := (unhide HLS).later (unhide HBEL3)
  obtain ⟨t, fr, hg⟩ := hLL.hg
  have hc0 := readSign_any gs s k w4 hs hk hLL.lg hLL.zg t fr hg
  rw [unhide HR] at hc0
  refine Calls.mono hc0 ?_
  clear hc0 hg hLL
  rintro e5 w5 ⟨rfl, hb5⟩
  have hbelA := (unhide HBEL3).trans (hb5.mono (unhide HBEL3).size)
  obtain ⟨hc, hf⟩ := bcell hbelA
  have HBELA := hide hbelA
  clear hbelA hb5
  go_wp2_with fail
  exact bodyPost_ret (v := .tuple #[.agg #[.int .i64 kd, .string tx, .int .i64 n, .int .i64 (k : Int)], .int .i64 (e : Int), .nilIface]) (by simp [results, Tryd.results21, go_sem, hc]) rfl ⟨rfl, good_end (unhide HBELA) _ _ _ _⟩

set_option maxRecDepth 100000 in
set_option maxHeartbeats 1000000 in
theorem read_name_bad (ws gs : List ByteArray) (s : ByteArray) (k : Nat) (er : Int) (p : Nat) (w : World) (hs : s.size ≤ 3000) (hk : k < s.size) (hL : Lists ws gs w) (hl : letB (s[k].toNat : Int) = true) (hr : rdName ws s k = .bad er p) :
    Calls Tryd.prog 21 #[.string s, .int .i64 (k : Int)] w (RPost k (.bad er p) w) := by
  have hL1 : Lists ws gs (w.alloc O35) := hL.later ((Below.refl _ _).alloc (Nat.le_refl _) _)
  have HLS := hide hL1
  have HR := hide hr
  have HL := hide hl
  clear hL hL1 hr hl
  go_enter Tryd.func21, Tryd.ntmps21
  go_wp2_with fail
  refine (letter_any _).mono ?_
  rintro e1 w1 ⟨x, rfl, ⟨f1, c1, rfl, ef1, hf1⟩, hbel⟩
  have HF1 := hide (hf1 w1 (Below.refl _ _))
  have HBEL := hide hbel
  clear hf1 hbel
  go_wp2_with fail
  refine Calls.mono (unhide HF1 _) ?_
  rw [unhide HL]
  rintro e2 w2 ⟨rfl, rfl⟩
  go_wp2_with fail
  have hLL := (unhide HLS).later (unhide HBEL)
  obtain ⟨t, fr, hg⟩ := hLL.hw
  have hc0 := readName_any ws s k w2 hs hk hLL.lw t fr hg
  rw [unhide HR] at hc0
  refine Calls.mono hc0 ?_
  clear hc0 hg hLL
  rintro e5 w5 ⟨b, rfl, hb, hlb, hbel5⟩
  have hbelA := (unhide HBEL).trans (hbel5.mono (unhide HBEL).size)
  have hlb2 := Nat.le_trans (unhide HBEL).size hlb
  obtain ⟨hc, hf⟩ := bcell hbelA
  have HBELA := hide hbelA
  have HBB := hide hb
  clear hbelA hbel5 hb hlb
  go_wp2_with fail
  exact bodyPost_ret (v := .tuple #[noTok, .int .i64 0, .iface 58 (.pointer (some ⟨b, 0, none⟩))]) (by simp [results, Tryd.results21, go_sem, hc]) rfl ⟨b, rfl, bad_end (unhide HBELA) hlb2 (unhide HBB) _ _ _ _⟩

set_option maxRecDepth 100000 in
set_option maxHeartbeats 1000000 in
theorem read_num_bad (ws gs : List ByteArray) (s : ByteArray) (k : Nat) (er : Int) (p : Nat) (w : World) (hs : s.size ≤ 3000) (hk : k < s.size) (hL : Lists ws gs w) (hl : letB (s[k].toNat : Int) = false) (hd : digB (s[k].toNat : Int) = true) (hr : rdNum s k = .bad er p) :
    Calls Tryd.prog 21 #[.string s, .int .i64 (k : Int)] w (RPost k (.bad er p) w) := by
  have HD := hide hd
  clear hd
  have hL1 : Lists ws gs (w.alloc O35) := hL.later ((Below.refl _ _).alloc (Nat.le_refl _) _)
  have HLS := hide hL1
  have HR := hide hr
  have HL := hide hl
  clear hL hL1 hr hl
  go_enter Tryd.func21, Tryd.ntmps21
  go_wp2_with fail
  refine (letter_any _).mono ?_
  rintro e1 w1 ⟨x, rfl, ⟨f1, c1, rfl, ef1, hf1⟩, hbel⟩
  have HF1 := hide (hf1 w1 (Below.refl _ _))
  have HBEL := hide hbel
  clear hf1 hbel
  go_wp2_with fail
  refine Calls.mono (unhide HF1 _) ?_
  rw [unhide HL]
  rintro e2 w2 ⟨rfl, rfl⟩
  go_wp2_with fail
  refine (digit_any _).mono ?_
  rintro e3 w3 ⟨x3, rfl, ⟨f3, c3, rfl, ef3, hf3⟩, hbel3⟩
  have HF3 := hide (hf3 w3 (Below.refl _ _))
  have HBEL3 := hide ((unhide HBEL).trans (hbel3.mono (unhide HBEL).size))
  clear hf3 hbel3
  go_wp2_with fail
  refine Calls.mono (unhide HF3 _) ?_
  rw [unhide HD]
  rintro e4 w4 ⟨rfl, rfl⟩
  go_wp2_with fail
  have hc0 := readNum_any s k w4 hs hk (unhide HD)
  rw [unhide HR] at hc0
  refine Calls.mono hc0 ?_
  clear hc0
  rintro e5 w5 ⟨b, rfl, hb, hlb, hbel5⟩
  have hbelA := (unhide HBEL3).trans (hbel5.mono (unhide HBEL3).size)
  have hlb2 := Nat.le_trans (unhide HBEL3).size hlb
  obtain ⟨hc, hf⟩ := bcell hbelA
  have HBELA := hide hbelA
  have HBB := hide hb
  clear hbelA hbel5 hb hlb
  go_wp2_with fail
  exact bodyPost_ret (v := .tuple #[noTok, .int .i64 0, .iface 58 (.pointer (some ⟨b, 0, none⟩))]) (by simp [results, Tryd.results21, go_sem, hc]) rfl ⟨b, rfl, bad_end (unhide HBELA) hlb2 (unhide HBB) _ _ _ _⟩

set_option maxRecDepth 100000 in
set_option maxHeartbeats 1000000 in
theorem read_str_bad (ws gs : List ByteArray) (s : ByteArray) (k : Nat) (er : Int) (p : Nat) (w : World) (hs : s.size ≤ 3000) (hk : k < s.size) (hL : Lists ws gs w) (hl : letB (s[k].toNat : Int) = false) (hd : digB (s[k].toNat : Int) = false) (hq : (((s[k].toNat : Nat) : Int) == 39) = true) (hr : rdStr s k = .bad er p) :
    Calls Tryd.prog 21 #[.string s, .int .i64 (k : Int)] w (RPost k (.bad er p) w) := by
  have HD := hide hd
  clear hd
  have hL1 : Lists ws gs (w.alloc O35) := hL.later ((Below.refl _ _).alloc (Nat.le_refl _) _)
  have HLS := hide hL1
  have HR := hide hr
  have HL := hide hl
  clear hL hL1 hr hl
  go_enter Tryd.func21, Tryd.ntmps21
  go_wp2_with fail
  refine (letter_any _).mono ?_
  rintro e1 w1 ⟨x, rfl, ⟨f1, c1, rfl, ef1, hf1⟩, hbel⟩
  have HF1 := hide (hf1 w1 (Below.refl _ _))
  have HBEL := hide hbel
  clear hf1 hbel
  go_wp2_with fail
  refine Calls.mono (unhide HF1 _) ?_
  rw [unhide HL]
  rintro e2 w2 ⟨rfl, rfl⟩
  go_wp2_with fail
  refine (digit_any _).mono ?_
  rintro e3 w3 ⟨x3, rfl, ⟨f3, c3, rfl, ef3, hf3⟩, hbel3⟩
  have HF3 := hide (hf3 w3 (Below.refl _ _))
  have HBEL3 := hide ((unhide HBEL).trans (hbel3.mono (unhide HBEL).size))
  clear hf3 hbel3
  go_wp2_with fail
  refine Calls.mono (unhide HF3 _) ?_
  rw [unhide HD]
  rintro e4 w4 ⟨rfl, rfl⟩
  go_wp2_with fail
  have hc0 := readStr_any s k w4 hs hk
  rw [unhide HR] at hc0
  refine Calls.mono hc0 ?_
  clear hc0
  rintro e5 w5 ⟨b, rfl, hb, hlb, hbel5⟩
  have hbelA := (unhide HBEL3).trans (hbel5.mono (unhide HBEL3).size)
  have hlb2 := Nat.le_trans (unhide HBEL3).size hlb
  obtain ⟨hc, hf⟩ := bcell hbelA
  have HBELA := hide hbelA
  have HBB := hide hb
  clear hbelA hbel5 hb hlb
  go_wp2_with fail
  exact bodyPost_ret (v := .tuple #[noTok, .int .i64 0, .iface 58 (.pointer (some ⟨b, 0, none⟩))]) (by simp [results, Tryd.results21, go_sem, hc]) rfl ⟨b, rfl, bad_end (unhide HBELA) hlb2 (unhide HBB) _ _ _ _⟩

set_option maxRecDepth 100000 in
set_option maxHeartbeats 1000000 in
theorem read_sign_bad (ws gs : List ByteArray) (s : ByteArray) (k : Nat) (er : Int) (p : Nat) (w : World) (hs : s.size ≤ 3000) (hk : k < s.size) (hL : Lists ws gs w) (hl : letB (s[k].toNat : Int) = false) (hd : digB (s[k].toNat : Int) = false) (hq : (((s[k].toNat : Nat) : Int) == 39) = false) (hr : rdSign gs s k = .bad er p) :
    Calls Tryd.prog 21 #[.string s, .int .i64 (k : Int)] w (RPost k (.bad er p) w) := by
  have HD := hide hd
  clear hd
  have hL1 : Lists ws gs (w.alloc O35) := hL.later ((Below.refl _ _).alloc (Nat.le_refl _) _)
  have HLS := hide hL1
  have HR := hide hr
  have HL := hide hl
  clear hL hL1 hr hl
  go_enter Tryd.func21, Tryd.ntmps21
  go_wp2_with fail
  refine (letter_any _).mono ?_
  rintro e1 w1 ⟨x, rfl, ⟨f1, c1, rfl, ef1, hf1⟩, hbel⟩
  have HF1 := hide (hf1 w1 (Below.refl _ _))
  have HBEL := hide hbel
  clear hf1 hbel
  go_wp2_with fail
  refine Calls.mono (unhide HF1 _) ?_
  rw [unhide HL]
  rintro e2 w2 ⟨rfl, rfl⟩
  go_wp2_with fail
  refine (digit_any _).mono ?_
  rintro e3 w3 ⟨x3, rfl, ⟨f3, c3, rfl, ef3, hf3⟩, hbel3⟩
  have HF3 := hide (hf3 w3 (Below.refl _ _))
  have HBEL3 := hide ((unhide HBEL).trans (hbel3.mono (unhide HBEL).size))
  clear hf3 hbel3
  go_wp2_with fail
  refine Calls.mono (unhide HF3 _) ?_
  rw [unhide HD]
  rintro e4 w4 ⟨rfl, rfl⟩
  go_wp2_with fail
  have hLL := (unhide HLS).later (unhide HBEL3)
  obtain ⟨t, fr, hg⟩ := hLL.hg
  have hc0 := readSign_any gs s k w4 hs hk hLL.lg hLL.zg t fr hg
  rw [unhide HR] at hc0
  refine Calls.mono hc0 ?_
  clear hc0 hg hLL
  rintro e5 w5 ⟨b, rfl, hb, hlb, hbel5⟩
  have hbelA := (unhide HBEL3).trans (hbel5.mono (unhide HBEL3).size)
  have hlb2 := Nat.le_trans (unhide HBEL3).size hlb
  obtain ⟨hc, hf⟩ := bcell hbelA
  have HBELA := hide hbelA
  have HBB := hide hb
  clear hbelA hbel5 hb hlb
  go_wp2_with fail
  exact bodyPost_ret (v := .tuple #[noTok, .int .i64 0, .iface 58 (.pointer (some ⟨b, 0, none⟩))]) (by simp [results, Tryd.results21, go_sem, hc]) rfl ⟨b, rfl, bad_end (unhide HBELA) hlb2 (unhide HBB) _ _ _ _⟩

theorem read_any (ws gs : List ByteArray) (s : ByteArray) (k : Nat) (w : World) (hs : s.size ≤ 3000) (hk : k < s.size) (hL : Lists ws gs w) :
    Calls Tryd.prog 21 #[.string s, .int .i64 (k : Int)] w (RPost k (rdTok ws gs s k) w) := by
  have hbt := bt_eq s k hk
  have hb := byte_eq s[k] 39
  unfold rdTok
  rw [hbt]
  cases hl : letB (s[k].toNat : Int)
  · rw [if_neg (by simp)]
    cases hd : digB (s[k].toNat : Int)
    · rw [if_neg (by simp)]
      by_cases hq : s[k] = 39
      · rw [if_pos hq]
        have hq2 : (((s[k].toNat : Nat) : Int) == 39) = true := by rw [hq]; rfl
        cases hr : rdStr s k with
        | tok kd tx n e => exact read_str_ok ws gs s k kd n tx e w hs hk hL hl hd hq2 hr
        | bad er p => exact read_str_bad ws gs s k er p w hs hk hL hl hd hq2 hr
      · rw [if_neg hq]
        have hq2 : (((s[k].toNat : Nat) : Int) == 39) = false := by rw [show (39 : Int) = (((39 : UInt8).toNat : Nat) : Int) from rfl, hb]; simp [hq]
        cases hr : rdSign gs s k with
        | tok kd tx n e => exact read_sign_ok ws gs s k kd n tx e w hs hk hL hl hd hq2 hr
        | bad er p => exact read_sign_bad ws gs s k er p w hs hk hL hl hd hq2 hr
    · rw [if_pos rfl]
      cases hr : rdNum s k with
      | tok kd tx n e => exact read_num_ok ws gs s k kd n tx e w hs hk hL hl hd hr
      | bad er p => exact read_num_bad ws gs s k er p w hs hk hL hl hd hr
  · rw [if_pos rfl]
    cases hr : rdName ws s k with
    | tok kd tx n e => exact read_name_ok ws gs s k kd n tx e w hs hk hL hl hr
    | bad er p => exact read_name_bad ws gs s k er p w hs hk hL hl hr

end Go.Proofs.YtlpbpcdjifadiaaDoor
