/-
  The walk of readString: what is said is gathered in a row of the call's own; each way out is a token or an error.
-/
import Derived.Test.YtodmgaikhbmlnaaGreatDoorTk1
set_option maxRecDepth 100000
set_option maxHeartbeats 16000000
namespace Go.Proofs.YtodmgaikhbmlnaaGreatDoor
open Go.RowKit

theorem info5 : (Tryz.prog.info? 5).map (fun i => (i.zero, i.size, i.bytes)) = some (some (.int .u8 0), 1, 1) := by kernel_rfl

theorem cells_snoc (l : List UInt8) (b : UInt8) : cellsOf (l ++ [b]) = cellsOf l ++ [.int .u8 (b.toNat : Int)] := by simp [cellsOf]

/-- The relation behind an append. -/
theorem rel_app {w wr w1 : World} {v v' : Value} {said : List UInt8} {b : UInt8} (o : Obj) (hB : Below (w.heap.size + 1) (w.alloc O35) wr) (hsz : w.heap.size + 1 ≤ wr.heap.size)
    (hown : wr.ownsRow (w.heap.size + 1) 5 1 v said.length (cellsOf said))
    (hown' : w1.ownsRow (w.heap.size + 1) 5 1 v' (said.length + 1) (cellsOf said ++ [.int .u8 (b.toNat : Int)])) (hg : (wr.alloc o).grownBy w1 v.ownBlock) :
    w1.ownsRow (w.heap.size + 1) 5 1 v' (said ++ [b]).length (cellsOf (said ++ [b])) ∧ Below (w.heap.size + 1) (w.alloc O35) w1 ∧ w.heap.size + 1 ≤ w1.heap.size := by
  have hb2 : Below (w.heap.size + 1) (w.alloc O35) (wr.alloc o) := hB.alloc hsz o
  have hB1 : Below (w.heap.size + 1) (w.alloc O35) w1 := hb2.grown hg (by simp; omega) (fun k hk => by
    obtain ⟨_, ⟨rfl, _⟩ | ⟨g, cap, cur, rfl, hge, _⟩⟩ := hown
    · simp [Value.ownBlock] at hk
    · simp [Value.ownBlock] at hk; omega)
  refine ⟨by rw [cells_snoc, List.length_append]; exact hown', hB1, ?_⟩
  have := hB1.size; simp at this; omega

theorem readStr_any (s : ByteArray) (k : Nat) (w : World) (hs : s.size ≤ 3000) (hk : k < s.size) :
    Calls Tryz.prog 154 #[.string s, .int .i64 (k : Int)] w (RPost k (rdStr s k) w) := by
  obtain ⟨i0, hi, hz0, hz1, hz2⟩ := info_parts info5
  obtain ⟨r, hr⟩ : ∃ r, strR s (k + 1) [] = r := ⟨_, rfl⟩
  have HR := hide hr
  obtain ⟨q, hq⟩ : ∃ q, rdStr s k = q := ⟨_, rfl⟩
  have HQ := hide hq
  rw [hq]
  clear hr hq
  go_enter Tryz.func154, Tryz.ntmps154
  go_wp2
  go_loopw [7, 8, 9, 10, 11] (fun v i _ _ _ wr => ∃ (j : Nat) (said : List UInt8), j ≤ s.size ∧ said.length ≤ j ∧ i = .int .i64 j ∧ strR s j said = r ∧ wr.ownsRow (w.heap.size + 1) 5 1 v said.length (cellsOf said) ∧ Below (w.heap.size + 1) (w.alloc O35) wr ∧ w.heap.size + 1 ≤ wr.heap.size) (fun _ i _ _ _ _ => s.size - (intOf i).toNat)
  case atStart => exact ⟨k + 1, [], by omega, by simp, by go_num, unhide HR, World.ownsRow_nil _ _ _ _, Below.refl _ _, by simp⟩
  case round =>
    obtain ⟨j, said, hj, hsl, rfl, he, hown, hB, hsz⟩ := hrel
    have HE := hide he
    have HOWN := hide hown
    have HB := hide hB
    clear he
    by_cases hlt : j < s.size
    · have hbt := bt_eq s j hlt
      obtain ⟨a, cap, rfl⟩ := row_shape hown
      clear hown hB
      have b1 := byte_eq s[j] 39
      have b2 := byte_eq s[j] 10
      have b3 := byte_eq s[j] 92
      by_cases c1 : s[j] = 39
      · -- the quote
        have t1 : (((s[j].toNat : Nat) : Int) == 39) = true := by rw [c1]; rfl
        have hst : r = .ok said (j + 1) := by rw [← unhide HE, strR_quote s j said hlt (by rw [hbt]; exact c1)]
        clear b1 b2 b3 c1 hbt
        by_cases h500 : 500 < said.length
        · have hq2 : q = .bad 4 k := by rw [← unhide HQ]; unfold rdStr; rw [unhide HR, hst]; simp [h500]
          clear hst HR HE
          subst hq2
          go_wp2_with fail
          refine (fail_any _ _ _).mono ?_
          rintro e4 w4 ⟨b, rfl, hb, hlb, hbel2⟩
          have hbelA := (unhide HB).trans (hbel2.mono hsz)
          have hbelB : Below (w.alloc O35).heap.size (w.alloc O35) w4 := by simpa using hbelA
          obtain ⟨hc, hf⟩ := bcell hbelB
          have HBB := hide hb
          have HBEL2 := hide hbelB
          have hlb2 : (w.alloc O35).heap.size ≤ b := by simp; omega
          clear hb hbelA hbelB hbel2 hlb
          go_wp2_with fail
          exact bodyPost_ret (v := .tuple #[noTok, .int .i64 0, .iface 129 (.pointer (some ⟨b, 0, none⟩))]) (by simp [results, Tryz.results154, go_sem, hc]) rfl ⟨b, rfl, bad_end (unhide HBEL2) hlb2 (unhide HBB) _ _ _ _⟩
        · have hq2 : q = .tok 4 (ofBytes said) 0 (j + 1) := by rw [← unhide HQ]; unfold rdStr; rw [unhide HR, hst]; simp [h500]
          clear hst HR HE
          subst hq2
          have hcv := row_text said (unhide HOWN)
          have hbelB : Below (w.alloc O35).heap.size (w.alloc O35) wr := by simpa using unhide HB
          obtain ⟨hc, hf⟩ := bcell hbelB
          have HBEL2 := hide hbelB
          clear hbelB
          go_wp2_with fail
          exact bodyPost_ret (v := .tuple #[.agg #[.int .i64 4, .string (ofBytes said), .int .i64 0, .int .i64 (k : Int)], .int .i64 ((j : Int) + 1), .nilIface]) (by simp [results, Tryz.results154, go_sem, hc]) rfl ⟨by simp, good_end (unhide HBEL2) _ _ _ _⟩
      · have t1 : (((s[j].toNat : Nat) : Int) == 39) = false := by rw [show (39 : Int) = (((39 : UInt8).toNat : Nat) : Int) from rfl, b1]; simp [c1]
        by_cases c2 : s[j] = 10
        · -- a line feed
          have t2 : (((s[j].toNat : Nat) : Int) == 10) = true := by rw [c2]; rfl
          have hst : r = .bad j := by rw [← unhide HE, strR_lf s j said hlt (by rw [hbt]; exact c2)]
          have hq2 : q = .bad 3 j := by rw [← unhide HQ]; unfold rdStr; rw [unhide HR, hst]
          clear b1 b2 b3 c1 c2 hbt hst HR HE
          subst hq2
          go_wp2_with fail
          refine (fail_any _ _ _).mono ?_
          rintro e4 w4 ⟨b, rfl, hb, hlb, hbel2⟩
          have hbelA := (unhide HB).trans (hbel2.mono hsz)
          have hbelB : Below (w.alloc O35).heap.size (w.alloc O35) w4 := by simpa using hbelA
          obtain ⟨hc, hf⟩ := bcell hbelB
          have HBB := hide hb
          have HBEL2 := hide hbelB
          have hlb2 : (w.alloc O35).heap.size ≤ b := by simp; omega
          clear hb hbelA hbelB hbel2 hlb
          go_wp2_with fail
          exact bodyPost_ret (v := .tuple #[noTok, .int .i64 0, .iface 129 (.pointer (some ⟨b, 0, none⟩))]) (by simp [results, Tryz.results154, go_sem, hc]) rfl ⟨b, rfl, bad_end (unhide HBEL2) hlb2 (unhide HBB) _ _ _ _⟩
        · have t2 : (((s[j].toNat : Nat) : Int) == 10) = false := by rw [show (10 : Int) = (((10 : UInt8).toNat : Nat) : Int) from rfl, b2]; simp [c2]
          by_cases c3 : s[j] = 92
          · -- a backslash
            have t3 : (((s[j].toNat : Nat) : Int) == 92) = true := by rw [c3]; rfl
            by_cases hlt2 : j + 1 < s.size
            · cases hm : esc (bt s (j + 1)) with
              | none =>
                have hst : r = .bad (j + 1) := by rw [← unhide HE, strR_noesc s j said hlt (by rw [hbt]; exact c3) (fun _ => hm)]
                have hq2 : q = .bad 3 (j + 1) := by rw [← unhide HQ]; unfold rdStr; rw [unhide HR, hst]
                have HM := hide hm
                clear b1 b2 b3 c1 c2 c3 hbt hst HR HE hm
                subst hq2
                go_wp2_with fail
                have hesc := escaped_in s (j + 1) wr hlt2
                rw [unhide HM] at hesc
                refine Calls.mono hesc ?_
                clear hesc
                rintro e3 w3 ⟨rfl, rfl⟩
                simp only [escV]
                go_wp2_with fail
                refine (fail_any _ _ _).mono ?_
                rintro e4 w4 ⟨b, rfl, hb, hlb, hbel2⟩
                have hbelA := (unhide HB).trans (hbel2.mono hsz)
                have hbelB : Below (w.alloc O35).heap.size (w.alloc O35) w4 := by simpa using hbelA
                obtain ⟨hc, hf⟩ := bcell hbelB
                have HBB := hide hb
                have HBEL2 := hide hbelB
                have hlb2 : (w.alloc O35).heap.size ≤ b := by simp; omega
                clear hb hbelA hbelB hbel2 hlb
                go_wp2_with fail
                exact bodyPost_ret (v := .tuple #[noTok, .int .i64 0, .iface 129 (.pointer (some ⟨b, 0, none⟩))]) (by simp [results, Tryz.results154, go_sem, hc]) rfl ⟨b, rfl, bad_end (unhide HBEL2) hlb2 (unhide HBB) _ _ _ _⟩
              | some m =>
                have hst : strR s (j + 2) (said ++ [m]) = r := by rw [← unhide HE, strR_esc s j said m hlt (by rw [hbt]; exact c3) hlt2 hm]
                have HST := hide hst
                have HM := hide hm
                clear b1 b2 b3 c1 c2 c3 hbt hst HE hm
                go_wp2_with fail
                have hesc := escaped_in s (j + 1) wr hlt2
                rw [unhide HM] at hesc
                refine Calls.mono hesc ?_
                clear hesc
                rintro e3 w3 ⟨rfl, rfl⟩
                simp only [escV]
                go_wp2_with (at_builtin; refine wpList_append_own _ rfl _ _ 82 rfl (w.heap.size + 1) 5 i0 (.int .u8 0) 1 1 Tryz.underlying82 hi hz0 hz1 hz2 rfl (by decide) _ _ _ rfl ((unhide HOWN).alloc _) ⟨w3.heap.size, 0, none⟩ 1 1 [.int .u8 (m.toNat : Int)] rfl rfl ?c1 ?c2 ?c3 ?c4 ?c5 ?_)
                case c1 =>
                  intro j u hj
                  match j, hj with
                  | 0, hj => simp at hj; subst hj; simp [Addr.add]
                case c2 => intro u hu; simp at hu; subst hu; rfl
                case c3 => unfold maxLen; omega
                case c4 => omega
                case c5 => simp; omega
                intro v' w1 hown' hgrow _
                have R := rel_app (b := m) _ (unhide HB) hsz (unhide HOWN) hown' hgrow
                have HRR := hide R
                clear hown' hgrow R
                go_wp2
                go_roundw
                case rel => exact ⟨j + 2, said ++ [m], by omega, by simp; omega, by go_num, unhide HST, (unhide HRR).1, (unhide HRR).2.1, (unhide HRR).2.2⟩
                case measure => simp [intOf]; omega
            · have hst : r = .bad (j + 1) := by rw [← unhide HE, strR_noesc s j said hlt (by rw [hbt]; exact c3) (fun h => absurd h hlt2)]
              have hq2 : q = .bad 3 (j + 1) := by rw [← unhide HQ]; unfold rdStr; rw [unhide HR, hst]
              clear b1 b2 b3 c1 c2 c3 hbt hst HR HE
              subst hq2
              go_wp2_with fail
              have hesc := escaped_out s (j + 1) wr (by omega)
              refine Calls.mono hesc ?_
              clear hesc
              rintro e3 w3 ⟨rfl, rfl⟩
              go_wp2_with fail
              refine (fail_any _ _ _).mono ?_
              rintro e4 w4 ⟨b, rfl, hb, hlb, hbel2⟩
              have hbelA := (unhide HB).trans (hbel2.mono hsz)
              have hbelB : Below (w.alloc O35).heap.size (w.alloc O35) w4 := by simpa using hbelA
              obtain ⟨hc, hf⟩ := bcell hbelB
              have HBB := hide hb
              have HBEL2 := hide hbelB
              have hlb2 : (w.alloc O35).heap.size ≤ b := by simp; omega
              clear hb hbelA hbelB hbel2 hlb
              go_wp2_with fail
              exact bodyPost_ret (v := .tuple #[noTok, .int .i64 0, .iface 129 (.pointer (some ⟨b, 0, none⟩))]) (by simp [results, Tryz.results154, go_sem, hc]) rfl ⟨b, rfl, bad_end (unhide HBEL2) hlb2 (unhide HBB) _ _ _ _⟩
          · -- a plain byte
            have t3 : (((s[j].toNat : Nat) : Int) == 92) = false := by rw [show (92 : Int) = (((92 : UInt8).toNat : Nat) : Int) from rfl, b3]; simp [c3]
            have hst : strR s (j + 1) (said ++ [s[j]]) = r := by rw [← unhide HE, strR_plain s j said hlt (by rw [hbt]; exact c1) (by rw [hbt]; exact c2) (by rw [hbt]; exact c3), hbt]
            have HST := hide hst
            clear b1 b2 b3 c1 c2 c3 hbt hst HE
            go_wp2_with (at_builtin; refine wpList_append_own _ rfl _ _ 82 rfl (w.heap.size + 1) 5 i0 (.int .u8 0) 1 1 Tryz.underlying82 hi hz0 hz1 hz2 rfl (by decide) _ _ _ rfl ((unhide HOWN).alloc _) ⟨wr.heap.size, 0, none⟩ 1 1 [.int .u8 (s[j].toNat : Int)] rfl rfl ?c1 ?c2 ?c3 ?c4 ?c5 ?_)
            case c1 =>
              intro j u hj
              match j, hj with
              | 0, hj => simp at hj; subst hj; simp [Addr.add]
            case c2 => intro u hu; simp at hu; subst hu; rfl
            case c3 => unfold maxLen; omega
            case c4 => omega
            case c5 => simp; omega
            intro v' w1 hown' hgrow _
            have R := rel_app (b := s[j]) _ (unhide HB) hsz (unhide HOWN) hown' hgrow
            have HRR := hide R
            clear hown' hgrow R
            go_wp2
            go_roundw
            case rel => exact ⟨j + 1, said ++ [s[j]], by omega, by simp; omega, by go_num, unhide HST, (unhide HRR).1, (unhide HRR).2.1, (unhide HRR).2.2⟩
            case measure => simp [intOf]; omega
    · have hst : r = .bad s.size := by rw [← unhide HE, strR_end s j said hlt]
      have hq2 : q = .bad 3 s.size := by rw [← unhide HQ]; unfold rdStr; rw [unhide HR, hst]
      clear hst HR HE hown hB
      subst hq2
      go_wp2_with fail
      refine (fail_any _ _ _).mono ?_
      rintro e4 w4 ⟨b, rfl, hb, hlb, hbel2⟩
      have hbelA := (unhide HB).trans (hbel2.mono hsz)
      have hbelB : Below (w.alloc O35).heap.size (w.alloc O35) w4 := by simpa using hbelA
      obtain ⟨hc, hf⟩ := bcell hbelB
      have HBB := hide hb
      have HBEL2 := hide hbelB
      have hlb2 : (w.alloc O35).heap.size ≤ b := by simp; omega
      clear hb hbelA hbelB hbel2 hlb
      go_wp2_with fail
      exact bodyPost_ret (v := .tuple #[noTok, .int .i64 0, .iface 129 (.pointer (some ⟨b, 0, none⟩))]) (by simp [results, Tryz.results154, go_sem, hc]) rfl ⟨b, rfl, bad_end (unhide HBEL2) hlb2 (unhide HBB) _ _ _ _⟩


/-- What stands at a place. -/
def rdTok (ws gs : List ByteArray) (s : ByteArray) (k : Nat) : Rd :=
  if letB ((bt s k).toNat : Int) = true then rdName ws s k
  else if digB ((bt s k).toNat : Int) = true then rdNum s k
  else if bt s k = 39 then rdStr s k
  else rdSign gs s k

/-- The two lists lie where the program's variables are. -/
structure Lists (ws gs : List ByteArray) (w : World) : Prop where
  lw : ws.length = 19
  lg : gs.length = 19
  zg : ∀ i, i < 19 → (gs.getD i ByteArray.empty).size ≤ 3
  hw : ∃ t fr, w.heap[2]? = some (.cells (ws.map Value.string).toArray t fr)
  hg : ∃ t fr, w.heap[6]? = some (.cells (gs.map Value.string).toArray t fr)

theorem Lists.lt {ws gs : List ByteArray} {w : World} (h : Lists ws gs w) : 2 < w.heap.size := by
  obtain ⟨t, fr, hg⟩ := h.hw
  exact (Array.getElem?_eq_some_iff.1 hg).1

theorem Lists.later {ws gs : List ByteArray} {w w' : World} (h : Lists ws gs w) (hb : Below w.heap.size w w') : Lists ws gs w' := by
  obtain ⟨t, fr, hw⟩ := h.hw
  obtain ⟨t2, fr2, hg⟩ := h.hg
  have hl := (Array.getElem?_eq_some_iff.1 hw).1
  have hl2 := (Array.getElem?_eq_some_iff.1 hg).1
  exact ⟨h.lw, h.lg, h.zg, ⟨t, fr, by rw [hb.block 2 (by omega)]; exact hw⟩, ⟨t2, fr2, by rw [hb.block 6 (by omega)]; exact hg⟩⟩

theorem read_name_ok (ws gs : List ByteArray) (s : ByteArray) (k : Nat) (kd n : Int) (tx : ByteArray) (e : Nat) (w : World) (hs : s.size ≤ 3000) (hk : k < s.size) (hL : Lists ws gs w) (hl : letB (s[k].toNat : Int) = true) (hr : rdName ws s k = .tok kd tx n e) :
    Calls Tryz.prog 109 #[.string s, .int .i64 (k : Int)] w (RPost k (.tok kd tx n e) w) := by
  have hL1 : Lists ws gs (w.alloc O35) := hL.later ((Below.refl _ _).alloc (Nat.le_refl _) _)
  have HLS := hide hL1
  have HR := hide hr
  have HL := hide hl
  clear hL hL1 hr hl
  go_enter Tryz.func109, Tryz.ntmps109
  go_wp2_with fail
  refine (letter_any _).mono ?_
  rintro e1 w1 ⟨x, rfl, ⟨f1, c1, rfl, ef1, hf1⟩, hbel⟩
  have HF1 := hide (hf1 w1 (Below.refl _ _))
  have HBEL := hide hbel
  clear hf1 hbel
  go_wp2_with fail
  refine Calls.mono (unhide HF1 _) ?_
  rw [unhide HL]
  rintro e2 w2 ⟨rfl, rfl⟩
  go_wp2_with fail
  have hLL := (unhide HLS).later (unhide HBEL)
  obtain ⟨t, fr, hg⟩ := hLL.hw
  have hc0 := readName_any ws s k w2 hs hk hLL.lw t fr hg
  rw [unhide HR] at hc0
  refine Calls.mono hc0 ?_
  clear hc0 hg hLL
  rintro e5 w5 ⟨rfl, hb5⟩
  have hbelA := (unhide HBEL).trans (hb5.mono (unhide HBEL).size)
  obtain ⟨hc, hf⟩ := bcell hbelA
  have HBELA := hide hbelA
  clear hbelA hb5
  go_wp2_with fail
  exact bodyPost_ret (v := .tuple #[.agg #[.int .i64 kd, .string tx, .int .i64 n, .int .i64 (k : Int)], .int .i64 (e : Int), .nilIface]) (by simp [results, Tryz.results109, go_sem, hc]) rfl ⟨rfl, good_end (unhide HBELA) _ _ _ _⟩

theorem read_num_ok (ws gs : List ByteArray) (s : ByteArray) (k : Nat) (kd n : Int) (tx : ByteArray) (e : Nat) (w : World) (hs : s.size ≤ 3000) (hk : k < s.size) (hL : Lists ws gs w) (hl : letB (s[k].toNat : Int) = false) (hd : digB (s[k].toNat : Int) = true) (hr : rdNum s k = .tok kd tx n e) :
    Calls Tryz.prog 109 #[.string s, .int .i64 (k : Int)] w (RPost k (.tok kd tx n e) w) := by
  have HD := hide hd
  clear hd
  have hL1 : Lists ws gs (w.alloc O35) := hL.later ((Below.refl _ _).alloc (Nat.le_refl _) _)
  have HLS := hide hL1
  have HR := hide hr
  have HL := hide hl
  clear hL hL1 hr hl
  go_enter Tryz.func109, Tryz.ntmps109
  go_wp2_with fail
  refine (letter_any _).mono ?_
  rintro e1 w1 ⟨x, rfl, ⟨f1, c1, rfl, ef1, hf1⟩, hbel⟩
  have HF1 := hide (hf1 w1 (Below.refl _ _))
  have HBEL := hide hbel
  clear hf1 hbel
  go_wp2_with fail
  refine Calls.mono (unhide HF1 _) ?_
  rw [unhide HL]
  rintro e2 w2 ⟨rfl, rfl⟩
  go_wp2_with fail
  refine (digit_any _).mono ?_
  rintro e3 w3 ⟨x3, rfl, ⟨f3, c3, rfl, ef3, hf3⟩, hbel3⟩
  have HF3 := hide (hf3 w3 (Below.refl _ _))
  have HBEL3 := hide ((unhide HBEL).trans (hbel3.mono (unhide HBEL).size))
  clear hf3 hbel3
  go_wp2_with fail
  refine Calls.mono (unhide HF3 _) ?_
  rw [unhide HD]
  rintro e4 w4 ⟨rfl, rfl⟩
  go_wp2_with fail
  have hc0 := readNum_any s k w4 hs hk (unhide HD)
  rw [unhide HR] at hc0
  refine Calls.mono hc0 ?_
  clear hc0
  rintro e5 w5 ⟨rfl, hb5⟩
  have hbelA := (unhide HBEL3).trans (hb5.mono (unhide HBEL3).size)
  obtain ⟨hc, hf⟩ := bcell hbelA
  have HBELA := hide hbelA
  clear hbelA hb5
  go_wp2_with fail
  exact bodyPost_ret (v := .tuple #[.agg #[.int .i64 kd, .string tx, .int .i64 n, .int .i64 (k : Int)], .int .i64 (e : Int), .nilIface]) (by simp [results, Tryz.results109, go_sem, hc]) rfl ⟨rfl, good_end (unhide HBELA) _ _ _ _⟩

theorem read_str_ok (ws gs : List ByteArray) (s : ByteArray) (k : Nat) (kd n : Int) (tx : ByteArray) (e : Nat) (w : World) (hs : s.size ≤ 3000) (hk : k < s.size) (hL : Lists ws gs w) (hl : letB (s[k].toNat : Int) = false) (hd : digB (s[k].toNat : Int) = false) (hq : (((s[k].toNat : Nat) : Int) == 39) = true) (hr : rdStr s k = .tok kd tx n e) :
    Calls Tryz.prog 109 #[.string s, .int .i64 (k : Int)] w (RPost k (.tok kd tx n e) w) := by
  have HD := hide hd
  clear hd
  have hL1 : Lists ws gs (w.alloc O35) := hL.later ((Below.refl _ _).alloc (Nat.le_refl _) _)
  have HLS := hide hL1
  have HR := hide hr
  have HL := hide hl
  clear hL hL1 hr hl
  go_enter Tryz.func109, Tryz.ntmps109
  go_wp2_with fail
  refine (letter_any _).mono ?_
  rintro e1 w1 ⟨x, rfl, ⟨f1, c1, rfl, ef1, hf1⟩, hbel⟩
  have HF1 := hide (hf1 w1 (Below.refl _ _))
  have HBEL := hide hbel
  clear hf1 hbel
  go_wp2_with fail
  refine Calls.mono (unhide HF1 _) ?_
  rw [unhide HL]
  rintro e2 w2 ⟨rfl, rfl⟩
  go_wp2_with fail
  refine (digit_any _).mono ?_
  rintro e3 w3 ⟨x3, rfl, ⟨f3, c3, rfl, ef3, hf3⟩, hbel3⟩
  have HF3 := hide (hf3 w3 (Below.refl _ _))
  have HBEL3 := hide ((unhide HBEL).trans (hbel3.mono (unhide HBEL).size))
  clear hf3 hbel3
  go_wp2_with fail
  refine Calls.mono (unhide HF3 _) ?_
  rw [unhide HD]
  rintro e4 w4 ⟨rfl, rfl⟩
  go_wp2_with fail
  have hc0 := readStr_any s k w4 hs hk
  rw [unhide HR] at hc0
  refine Calls.mono hc0 ?_
  clear hc0
  rintro e5 w5 ⟨rfl, hb5⟩
  have hbelA := (unhide HBEL3).trans (hb5.mono (unhide HBEL3).size)
  obtain ⟨hc, hf⟩ := bcell hbelA
  have HBELA := hide hbelA
  clear hbelA hb5
  go_wp2_with fail
  exact bodyPost_ret (v := .tuple #[.agg #[.int .i64 kd, .string tx, .int .i64 n, .int .i64 (k : Int)], .int .i64 (e : Int), .nilIface]) (by simp [results, Tryz.results109, go_sem, hc]) rfl ⟨rfl, good_end (unhide HBELA) _ _ _ _⟩

theorem read_sign_ok (ws gs : List ByteArray) (s : ByteArray) (k : Nat) (kd n : Int) (tx : ByteArray) (e : Nat) (w : World) (hs : s.size ≤ 3000) (hk : k < s.size) (hL : Lists ws gs w) (hl : letB (s[k].toNat : Int) = false) (hd : digB (s[k].toNat : Int) = false) (hq : (((s[k].toNat : Nat) : Int) == 39) = false) (hr : rdSign gs s k = .tok kd tx n e) :
    Calls Tryz.prog 109 #[.string s, .int .i64 (k : Int)] w (RPost k (.tok kd tx n e) w) := by
  have HD := hide hd
  clear hd
  have hL1 : Lists ws gs (w.alloc O35) := hL.later ((Below.refl _ _).alloc (Nat.le_refl _) _)
  have HLS := hide hL1
  have HR := hide hr
  have HL := hide hl
  clear hL hL1 hr hl
  go_enter Tryz.func109, Tryz.ntmps109
  go_wp2_with fail
  refine (letter_any _).mono ?_
  rintro e1 w1 ⟨x, rfl, ⟨f1, c1, rfl, ef1, hf1⟩, hbel⟩
  have HF1 := hide (hf1 w1 (Below.refl _ _))
  have HBEL := hide hbel
  clear hf1 hbel
  go_wp2_with fail
  refine Calls.mono (unhide HF1 _) ?_
  rw [unhide HL]
  rintro e2 w2 ⟨rfl, rfl⟩
  go_wp2_with fail
  refine (digit_any _).mono ?_
  rintro e3 w3 ⟨x3, rfl, ⟨f3, c3, rfl, ef3, hf3⟩, hbel3⟩
  have HF3 := hide (hf3 w3 (Below.refl _ _))
  have HBEL3 := hide ((unhide HBEL).trans (hbel3.mono (unhide HBEL).size))
  clear hf3 hbel3
  go_wp2_with fail
  refine Calls.mono (unhide HF3 _) ?_
  rw [unhide HD]
  rintro e4 w4 ⟨rfl, rfl⟩
  go_wp2_with fail
  have hLL := (unhide HLS).later (unhide HBEL3)
  obtain ⟨t, fr, hg⟩ := hLL.hg
  have hc0 := readSign_any gs s k w4 hs hk hLL.lg hLL.zg t fr hg
  rw [unhide HR] at hc0
  refine Calls.mono hc0 ?_
  clear hc0 hg hLL
  rintro e5 w5 ⟨rfl, hb5⟩
  have hbelA := (unhide HBEL3).trans (hb5.mono (unhide HBEL3).size)
  obtain ⟨hc, hf⟩ := bcell hbelA
  have HBELA := hide hbelA
  clear hbelA hb5
  go_wp2_with fail
  exact bodyPost_ret (v := .tuple #[.agg #[.int .i64 kd, .string tx, .int .i64 n, .int .i64 (k : Int)], .int .i64 (e : Int), .nilIface]) (by simp [results, Tryz.results109, go_sem, hc]) rfl ⟨rfl, good_end (unhide HBELA) _ _ _ _⟩

theorem read_name_bad (ws gs : List ByteArray) (s : ByteArray) (k : Nat) (er : Int) (p : Nat) (w : World) (hs : s.size ≤ 3000) (hk : k < s.size) (hL : Lists ws gs w) (hl : letB (s[k].toNat : Int) = true) (hr : rdName ws s k = .bad er p) :
    Calls Tryz.prog 109 #[.string s, .int .i64 (k : Int)] w (RPost k (.bad er p) w) := by
  have hL1 : Lists ws gs (w.alloc O35) := hL.later ((Below.refl _ _).alloc (Nat.le_refl _) _)
  have HLS := hide hL1
  have HR := hide hr
  have HL := hide hl
  clear hL hL1 hr hl
  go_enter Tryz.func109, Tryz.ntmps109
  go_wp2_with fail
  refine (letter_any _).mono ?_
  rintro e1 w1 ⟨x, rfl, ⟨f1, c1, rfl, ef1, hf1⟩, hbel⟩
  have HF1 := hide (hf1 w1 (Below.refl _ _))
  have HBEL := hide hbel
  clear hf1 hbel
  go_wp2_with fail
  refine Calls.mono (unhide HF1 _) ?_
  rw [unhide HL]
  rintro e2 w2 ⟨rfl, rfl⟩
  go_wp2_with fail
  have hLL := (unhide HLS).later (unhide HBEL)
  obtain ⟨t, fr, hg⟩ := hLL.hw
  have hc0 := readName_any ws s k w2 hs hk hLL.lw t fr hg
  rw [unhide HR] at hc0
  refine Calls.mono hc0 ?_
  clear hc0 hg hLL
  rintro e5 w5 ⟨b, rfl, hb, hlb, hbel5⟩
  have hbelA := (unhide HBEL).trans (hbel5.mono (unhide HBEL).size)
  have hlb2 := Nat.le_trans (unhide HBEL).size hlb
  obtain ⟨hc, hf⟩ := bcell hbelA
  have HBELA := hide hbelA
  have HBB := hide hb
  clear hbelA hbel5 hb hlb
  go_wp2_with fail
  exact bodyPost_ret (v := .tuple #[noTok, .int .i64 0, .iface 129 (.pointer (some ⟨b, 0, none⟩))]) (by simp [results, Tryz.results109, go_sem, hc]) rfl ⟨b, rfl, bad_end (unhide HBELA) hlb2 (unhide HBB) _ _ _ _⟩

theorem read_num_bad (ws gs : List ByteArray) (s : ByteArray) (k : Nat) (er : Int) (p : Nat) (w : World) (hs : s.size ≤ 3000) (hk : k < s.size) (hL : Lists ws gs w) (hl : letB (s[k].toNat : Int) = false) (hd : digB (s[k].toNat : Int) = true) (hr : rdNum s k = .bad er p) :
    Calls Tryz.prog 109 #[.string s, .int .i64 (k : Int)] w (RPost k (.bad er p) w) := by
  have HD := hide hd
  clear hd
  have hL1 : Lists ws gs (w.alloc O35) := hL.later ((Below.refl _ _).alloc (Nat.le_refl _) _)
  have HLS := hide hL1
  have HR := hide hr
  have HL := hide hl
  clear hL hL1 hr hl
  go_enter Tryz.func109, Tryz.ntmps109
  go_wp2_with fail
  refine (letter_any _).mono ?_
  rintro e1 w1 ⟨x, rfl, ⟨f1, c1, rfl, ef1, hf1⟩, hbel⟩
  have HF1 := hide (hf1 w1 (Below.refl _ _))
  have HBEL := hide hbel
  clear hf1 hbel
  go_wp2_with fail
  refine Calls.mono (unhide HF1 _) ?_
  rw [unhide HL]
  rintro e2 w2 ⟨rfl, rfl⟩
  go_wp2_with fail
  refine (digit_any _).mono ?_
  rintro e3 w3 ⟨x3, rfl, ⟨f3, c3, rfl, ef3, hf3⟩, hbel3⟩
  have HF3 := hide (hf3 w3 (Below.refl _ _))
  have HBEL3 := hide ((unhide HBEL).trans (hbel3.mono (unhide HBEL).size))
  clear hf3 hbel3
  go_wp2_with fail
  refine Calls.mono (unhide HF3 _) ?_
  rw [unhide HD]
  rintro e4 w4 ⟨rfl, rfl⟩
  go_wp2_with fail
  have hc0 := readNum_any s k w4 hs hk (unhide HD)
  rw [unhide HR] at hc0
  refine Calls.mono hc0 ?_
  clear hc0
  rintro e5 w5 ⟨b, rfl, hb, hlb, hbel5⟩
  have hbelA := (unhide HBEL3).trans (hbel5.mono (unhide HBEL3).size)
  have hlb2 := Nat.le_trans (unhide HBEL3).size hlb
  obtain ⟨hc, hf⟩ := bcell hbelA
  have HBELA := hide hbelA
  have HBB := hide hb
  clear hbelA hbel5 hb hlb
  go_wp2_with fail
  exact bodyPost_ret (v := .tuple #[noTok, .int .i64 0, .iface 129 (.pointer (some ⟨b, 0, none⟩))]) (by simp [results, Tryz.results109, go_sem, hc]) rfl ⟨b, rfl, bad_end (unhide HBELA) hlb2 (unhide HBB) _ _ _ _⟩

theorem read_str_bad (ws gs : List ByteArray) (s : ByteArray) (k : Nat) (er : Int) (p : Nat) (w : World) (hs : s.size ≤ 3000) (hk : k < s.size) (hL : Lists ws gs w) (hl : letB (s[k].toNat : Int) = false) (hd : digB (s[k].toNat : Int) = false) (hq : (((s[k].toNat : Nat) : Int) == 39) = true) (hr : rdStr s k = .bad er p) :
    Calls Tryz.prog 109 #[.string s, .int .i64 (k : Int)] w (RPost k (.bad er p) w) := by
  have HD := hide hd
  clear hd
  have hL1 : Lists ws gs (w.alloc O35) := hL.later ((Below.refl _ _).alloc (Nat.le_refl _) _)
  have HLS := hide hL1
  have HR := hide hr
  have HL := hide hl
  clear hL hL1 hr hl
  go_enter Tryz.func109, Tryz.ntmps109
  go_wp2_with fail
  refine (letter_any _).mono ?_
  rintro e1 w1 ⟨x, rfl, ⟨f1, c1, rfl, ef1, hf1⟩, hbel⟩
  have HF1 := hide (hf1 w1 (Below.refl _ _))
  have HBEL := hide hbel
  clear hf1 hbel
  go_wp2_with fail
  refine Calls.mono (unhide HF1 _) ?_
  rw [unhide HL]
  rintro e2 w2 ⟨rfl, rfl⟩
  go_wp2_with fail
  refine (digit_any _).mono ?_
  rintro e3 w3 ⟨x3, rfl, ⟨f3, c3, rfl, ef3, hf3⟩, hbel3⟩
  have HF3 := hide (hf3 w3 (Below.refl _ _))
  have HBEL3 := hide ((unhide HBEL).trans (hbel3.mono (unhide HBEL).size))
  clear hf3 hbel3
  go_wp2_with fail
  refine Calls.mono (unhide HF3 _) ?_
  rw [unhide HD]
  rintro e4 w4 ⟨rfl, rfl⟩
  go_wp2_with fail
  have hc0 := readStr_any s k w4 hs hk
  rw [unhide HR] at hc0
  refine Calls.mono hc0 ?_
  clear hc0
  rintro e5 w5 ⟨b, rfl, hb, hlb, hbel5⟩
  have hbelA := (unhide HBEL3).trans (hbel5.mono (unhide HBEL3).size)
  have hlb2 := Nat.le_trans (unhide HBEL3).size hlb
  obtain ⟨hc, hf⟩ := bcell hbelA
  have HBELA := hide hbelA
  have HBB := hide hb
  clear hbelA hbel5 hb hlb
  go_wp2_with fail
  exact bodyPost_ret (v := .tuple #[noTok, .int .i64 0, .iface 129 (.pointer (some ⟨b, 0, none⟩))]) (by simp [results, Tryz.results109, go_sem, hc]) rfl ⟨b, rfl, bad_end (unhide HBELA) hlb2 (unhide HBB) _ _ _ _⟩

theorem read_sign_bad (ws gs : List ByteArray) (s : ByteArray) (k : Nat) (er : Int) (p : Nat) (w : World) (hs : s.size ≤ 3000) (hk : k < s.size) (hL : Lists ws gs w) (hl : letB (s[k].toNat : Int) = false) (hd : digB (s[k].toNat : Int) = false) (hq : (((s[k].toNat : Nat) : Int) == 39) = false) (hr : rdSign gs s k = .bad er p) :
    Calls Tryz.prog 109 #[.string s, .int .i64 (k : Int)] w (RPost k (.bad er p) w) := by
  have HD := hide hd
  clear hd
  have hL1 : Lists ws gs (w.alloc O35) := hL.later ((Below.refl _ _).alloc (Nat.le_refl _) _)
  have HLS := hide hL1
  have HR := hide hr
  have HL := hide hl
  clear hL hL1 hr hl
  go_enter Tryz.func109, Tryz.ntmps109
  go_wp2_with fail
  refine (letter_any _).mono ?_
  rintro e1 w1 ⟨x, rfl, ⟨f1, c1, rfl, ef1, hf1⟩, hbel⟩
  have HF1 := hide (hf1 w1 (Below.refl _ _))
  have HBEL := hide hbel
  clear hf1 hbel
  go_wp2_with fail
  refine Calls.mono (unhide HF1 _) ?_
  rw [unhide HL]
  rintro e2 w2 ⟨rfl, rfl⟩
  go_wp2_with fail
  refine (digit_any _).mono ?_
  rintro e3 w3 ⟨x3, rfl, ⟨f3, c3, rfl, ef3, hf3⟩, hbel3⟩
  have HF3 := hide (hf3 w3 (Below.refl _ _))
  have HBEL3 := hide ((unhide HBEL).trans (hbel3.mono (unhide HBEL).size))
  clear hf3 hbel3
  go_wp2_with fail
  refine Calls.mono (unhide HF3 _) ?_
  rw [unhide HD]
  rintro e4 w4 ⟨rfl, rfl⟩
  go_wp2_with fail
  have hLL := (unhide HLS).later (unhide HBEL3)
  obtain ⟨t, fr, hg⟩ := hLL.hg
  have hc0 := readSign_any gs s k w4 hs hk hLL.lg hLL.zg t fr hg
  rw [unhide HR] at hc0
  refine Calls.mono hc0 ?_
  clear hc0 hg hLL
  rintro e5 w5 ⟨b, rfl, hb, hlb, hbel5⟩
  have hbelA := (unhide HBEL3).trans (hbel5.mono (unhide HBEL3).size)
  have hlb2 := Nat.le_trans (unhide HBEL3).size hlb
  obtain ⟨hc, hf⟩ := bcell hbelA
  have HBELA := hide hbelA
  have HBB := hide hb
  clear hbelA hbel5 hb hlb
  go_wp2_with fail
  exact bodyPost_ret (v := .tuple #[noTok, .int .i64 0, .iface 129 (.pointer (some ⟨b, 0, none⟩))]) (by simp [results, Tryz.results109, go_sem, hc]) rfl ⟨b, rfl, bad_end (unhide HBELA) hlb2 (unhide HBB) _ _ _ _⟩

theorem read_any (ws gs : List ByteArray) (s : ByteArray) (k : Nat) (w : World) (hs : s.size ≤ 3000) (hk : k < s.size) (hL : Lists ws gs w) :
    Calls Tryz.prog 109 #[.string s, .int .i64 (k : Int)] w (RPost k (rdTok ws gs s k) w) := by
  have hbt := bt_eq s k hk
  have hb := byte_eq s[k] 39
  unfold rdTok
  rw [hbt]
  cases hl : letB (s[k].toNat : Int)
  · rw [if_neg (by simp)]
    cases hd : digB (s[k].toNat : Int)
    · rw [if_neg (by simp)]
      by_cases hq : s[k] = 39
      · rw [if_pos hq]
        have hq2 : (((s[k].toNat : Nat) : Int) == 39) = true := by rw [hq]; rfl
        cases hr : rdStr s k with
        | tok kd tx n e => exact read_str_ok ws gs s k kd n tx e w hs hk hL hl hd hq2 hr
        | bad er p => exact read_str_bad ws gs s k er p w hs hk hL hl hd hq2 hr
      · rw [if_neg hq]
        have hq2 : (((s[k].toNat : Nat) : Int) == 39) = false := by rw [show (39 : Int) = (((39 : UInt8).toNat : Nat) : Int) from rfl, hb]; simp [hq]
        cases hr : rdSign gs s k with
        | tok kd tx n e => exact read_sign_ok ws gs s k kd n tx e w hs hk hL hl hd hq2 hr
        | bad er p => exact read_sign_bad ws gs s k er p w hs hk hL hl hd hq2 hr
    · rw [if_pos rfl]
      cases hr : rdNum s k with
      | tok kd tx n e => exact read_num_ok ws gs s k kd n tx e w hs hk hL hl hd hr
      | bad er p => exact read_num_bad ws gs s k er p w hs hk hL hl hd hr
  · rw [if_pos rfl]
    cases hr : rdName ws s k with
    | tok kd tx n e => exact read_name_ok ws gs s k kd n tx e w hs hk hL hl hr
    | bad er p => exact read_name_bad ws gs s k er p w hs hk hL hl hr


structure Tk where
  kd : Int
  tx : ByteArray
  n : Int
  pl : Nat

inductive TR where
  | ok (l : List Tk)
  | bad (er : Int) (p : Nat)

def toksR (ws gs : List ByteArray) (s : ByteArray) (i : Nat) (acc : List Tk) : TR :=
  if h : i < s.size then
    match rdTok ws gs s i with
    | .tok kd tx n e => if h2 : i < e then toksR ws gs s (pastN gapB s e) (acc ++ [⟨kd, tx, n, i⟩]) else .bad 0 0
    | .bad er p => .bad er p
  else .ok (acc ++ [⟨6, ⟨#[]⟩, 0, s.size⟩])
termination_by s.size - i
decreasing_by
  have := pastN_ge gapB s e
  omega

theorem toksR_end (ws gs : List ByteArray) (s : ByteArray) (i : Nat) (acc : List Tk) (h : ¬ i < s.size) : toksR ws gs s i acc = .ok (acc ++ [⟨6, ⟨#[]⟩, 0, s.size⟩]) := by rw [toksR, dif_neg h]
theorem toksR_bad (ws gs : List ByteArray) (s : ByteArray) (i : Nat) (acc : List Tk) (er : Int) (p : Nat) (h : i < s.size) (hr : rdTok ws gs s i = .bad er p) : toksR ws gs s i acc = .bad er p := by rw [toksR, dif_pos h, hr]
theorem toksR_go (ws gs : List ByteArray) (s : ByteArray) (i : Nat) (acc : List Tk) (kd n : Int) (tx : ByteArray) (e : Nat) (h : i < s.size) (hr : rdTok ws gs s i = .tok kd tx n e) (he : i < e) : toksR ws gs s i acc = toksR ws gs s (pastN gapB s e) (acc ++ [⟨kd, tx, n, i⟩]) := by
  conv => lhs; rw [toksR]
  rw [dif_pos h, hr]
  simp only
  rw [dif_pos he]

theorem strR_bounds (s : ByteArray) : ∀ n i said l e, s.size - i = n → strR s i said = .ok l e → i < e ∧ e ≤ s.size ∧ l.length ≤ said.length + (s.size - i) := by
  intro n
  induction n using Nat.strongRecOn with
  | ind n ih =>
    intro i said l e hn h
    by_cases hlt : i < s.size
    · by_cases c1 : bt s i = 39
      · rw [strR_quote s i said hlt c1] at h
        cases h
        exact ⟨by omega, by omega, by omega⟩
      · by_cases c2 : bt s i = 10
        · rw [strR_lf s i said hlt c2] at h; cases h
        · by_cases c3 : bt s i = 92
          · by_cases h1 : i + 1 < s.size
            · cases hm : esc (bt s (i + 1)) with
              | none => rw [strR_noesc s i said hlt c3 (fun _ => hm)] at h; cases h
              | some m =>
                rw [strR_esc s i said m hlt c3 h1 hm] at h
                have := ih (s.size - (i + 2)) (by omega) (i + 2) _ l e rfl h
                rw [List.length_append, List.length_singleton] at this
                omega
            · rw [strR_noesc s i said hlt c3 (fun hh => absurd hh h1)] at h; cases h
          · rw [strR_plain s i said hlt c1 c2 c3] at h
            have := ih (s.size - (i + 1)) (by omega) (i + 1) _ l e rfl h
            rw [List.length_append, List.length_singleton] at this
            omega
    · rw [strR_end s i said hlt] at h; cases h

theorem rdTok_bounds (ws gs : List ByteArray) (s : ByteArray) (k : Nat) (kd n : Int) (tx : ByteArray) (e : Nat) (hk : k < s.size) (hg : ∀ g ∈ gs, 1 ≤ g.size)
    (h : rdTok ws gs s k = .tok kd tx n e) : k < e ∧ e ≤ s.size := by
  have hbt := bt_eq s k hk
  unfold rdTok at h
  rw [hbt] at h
  split at h
  · rename_i hl
    have hlod : lodB (s[k].toNat : Int) = true := by unfold lodB; rw [hl]; rfl
    have h1 := pastN_go lodB s k hk hlod
    have h2 := pastN_ge lodB s (k + 1)
    have h3 := pastN_le lodB s k (by omega)
    unfold rdName at h
    split at h
    · cases h; omega
    · split at h
      · cases h
      · cases h; omega
  · split at h
    · rename_i hd
      have h1 := pastN_go digB s k hk hd
      have h2 := pastN_ge digB s (k + 1)
      have h3 := pastN_le digB s k (by omega)
      unfold rdNum at h
      split at h
      · cases h
      · split at h
        · cases h
        · split at h
          · cases h
          · cases h; omega
    · split at h
      · unfold rdStr at h
        cases hr : strR s (k + 1) [] with
        | ok said e' =>
          rw [hr] at h
          simp only at h
          have hb := strR_bounds s _ (k + 1) [] said e' rfl hr
          split at h
          · cases h
          · cases h; omega
        | bad p => rw [hr] at h; cases h
      · unfold rdSign at h
        cases hf : gs.find? (fun g => pfxB (s.extract k s.size) g) with
        | none => rw [hf] at h; cases h
        | some g =>
          rw [hf] at h
          obtain ⟨_, _, _, he⟩ := Rd.tok.inj h
          have hm := List.mem_of_find?_eq_some hf
          have hp := List.find?_some hf
          have h1 := hg g hm
          simp only [pfxB, Bool.and_eq_true, decide_eq_true_eq] at hp
          have hz := extract_size s k s.size (by omega) (Nat.le_refl _)
          omega

end Go.Proofs.YtodmgaikhbmlnaaGreatDoor
