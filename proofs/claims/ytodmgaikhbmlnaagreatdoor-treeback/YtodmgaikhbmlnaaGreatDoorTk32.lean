/-
  A string as it is written (quoted); a statement's first word (headText).
-/
import Derived.Test.YtodmgaikhbmlnaaGreatDoorTk31
import Derived.Test.YtodmgaikhbmlnaaGreatDoorTk5
import Derived.Test.YtodmgaikhbmlnaaGreatDoorTk14
import Derived.Deep.RegionHeld
set_option maxRecDepth 100000
set_option maxHeartbeats 16000000
namespace Go.Proofs.YtodmgaikhbmlnaaGreatDoor
open Go.RowKit

theorem cells_app (l k : List UInt8) : cellsOf (l ++ k) = cellsOf l ++ cellsOf k := by simp [cellsOf]
theorem rel_apps {B : Nat} {w0 wr w1 : World} {v v' : Value} {l k : List UInt8} (o : Obj) (hB : Below B w0 wr) (hsz : B ≤ wr.heap.size) (hown : wr.ownsRow B 5 1 v l.length (cellsOf l))
    (hown' : w1.ownsRow B 5 1 v' (l.length + k.length) (cellsOf l ++ cellsOf k)) (hg : (wr.alloc o).grownBy w1 v.ownBlock) :
    w1.ownsRow B 5 1 v' (l ++ k).length (cellsOf (l ++ k)) ∧ Below B w0 w1 := by
  refine ⟨by rw [cells_app, List.length_append]; exact hown', (hB.alloc hsz o).grown hg (by simp; omega) (fun k hk => ?_)⟩
  obtain ⟨_, ⟨rfl, _⟩ | ⟨g, cap, cur, rfl, hge, _⟩⟩ := hown
  · simp [Value.ownBlock] at hk
  · simp [Value.ownBlock] at hk; omega
theorem ofBytes_mk (l : List UInt8) : ofBytes l = ⟨l.toArray⟩ := rfl

def qL (s : ByteArray) (j : Nat) : List UInt8 := [39] ++ (s.data.toList.take j).flatMap quoteC
theorem qL_len (s : ByteArray) (j : Nat) : (qL s j).length ≤ 1 + 2 * j := by
  unfold qL
  have h : ∀ l : List UInt8, (l.flatMap quoteC).length ≤ 2 * l.length := by
    intro l
    induction l with
    | nil => simp
    | cons c l ih =>
      have hc : (quoteC c).length ≤ 2 := by
        unfold quoteC
        split
        · simp
        · split <;> simp
      simp only [List.flatMap_cons, List.length_append, List.length_cons]
      omega
  have h1 := h (s.data.toList.take j)
  have h2 : (s.data.toList.take j).length ≤ j := by simp; omega
  simp only [List.length_append, List.length_cons, List.length_nil]
  omega
theorem qL_next (s : ByteArray) (j : Nat) (hj : j < s.size) : qL s (j + 1) = qL s j ++ quoteC s[j] := by
  unfold qL
  have hj2 : j < s.data.toList.length := hj
  rw [List.take_succ_eq_append_getElem hj2]
  have e : s.data.toList[j] = s[j] := rfl
  rw [e]
  simp
theorem qL_all (s : ByteArray) : qL s s.size ++ [39] = quoteL s.data.toList := by
  unfold qL quoteL
  rw [List.take_of_length_le (show s.data.toList.length ≤ s.size from Nat.le_refl _)]

theorem quoted_any (s : ByteArray) (w : World) (hs : s.size ≤ 10000) : Calls Tryz.prog 230 #[.string s] w fun e w' => e = .returned (.string (quoteB s)) ∧ Below w.heap.size w w' := by
  obtain ⟨i0, hi, hz0, hz1, hz2⟩ := info_parts info5
  go_enter Tryz.func230, Tryz.ntmps230
  go_wp2
  go_loopw [3, 9] (fun v i wr => ∃ j : Nat, j ≤ s.size ∧ i = .int .i64 j ∧ wr.ownsRow w.heap.size 5 1 v (qL s j).length (cellsOf (qL s j)) ∧ Below w.heap.size w wr) (fun _ i _ => s.size - (intOf i).toNat)
  case atStart => exact ⟨0, Nat.zero_le _, rfl, ⟨rfl, Or.inr ⟨w.heap.size, 1, #[.int .u8 39], rfl, Nat.le_refl _, heap_new _ _, Nat.le_refl 1, by decide, rfl, rfl⟩⟩, (Below.refl _ _).alloc (Nat.le_refl _) _⟩
  case round =>
    obtain ⟨j, hj, rfl, hown, hB⟩ := hrel
    have hql := qL_len s j
    have HOWN := hide hown
    have HB := hide hB
    have hsz := hB.size
    obtain ⟨a, cap, rfl⟩ := row_shape hown
    clear hown hB
    by_cases hlt : j < s.size
    · have b1 := byte_eq s[j] 10
      have b2 := byte_eq s[j] 39
      have b3 := byte_eq s[j] 92
      by_cases c1 : s[j] = 10
      · have t1 : (((s[j].toNat : Nat) : Int) == 10) = true := by rw [c1]; rfl
        have hqc : quoteC s[j] = [92, 110] := by rw [c1]; rfl
        clear c1
        have HNX : Hid (qL s (j + 1) = qL s j ++ [92, 110]) := by rw [qL_next s j hlt, hqc]; exact rfl
        clear b1 b2 b3 hqc
        go_wp2_with (at_builtin; refine wpList_append_own _ rfl _ _ 82 rfl w.heap.size 5 i0 (.int .u8 0) 1 1 Tryz.underlying82 hi hz0 hz1 hz2 rfl (by decide) _ _ _ rfl ((unhide HOWN).alloc _) ⟨wr.heap.size, 0, none⟩ 2 2 [.int .u8 92, .int .u8 110] rfl rfl ?c1 ?c2 ?c3 ?c4 ?c5 ?_)
        case c1 =>
          intro j u hj
          match j, hj with
          | 0, hj => simp at hj; subst hj; simp [Addr.add]
          | 1, hj => simp at hj; subst hj; simp [Addr.add]
        case c2 => intro u hu; simp at hu; rcases hu with rfl | rfl <;> rfl
        case c3 => unfold maxLen; omega
        case c4 => omega
        case c5 => simp; omega
        intro v' w1 hown' hgrow _
        have R := rel_apps (k := [92, 110]) _ (unhide HB) (unhide HB).size (unhide HOWN) hown' hgrow
        rw [← unhide HNX] at R
        have HRR := hide R
        clear hown' hgrow R
        go_wp2
        go_roundw
        case rel => exact ⟨j + 1, by omega, by go_num, (unhide HRR).1, (unhide HRR).2⟩
        case measure => simp [intOf]; omega
      · have t1 : (((s[j].toNat : Nat) : Int) == 10) = false := by rw [show (10 : Int) = (((10 : UInt8).toNat : Nat) : Int) from rfl, b1]; simp [c1]
        by_cases c2 : s[j] = 39
        · have t2 : (((s[j].toNat : Nat) : Int) == 39) = true := by rw [c2]; rfl
          have hqc : quoteC s[j] = [92, s[j]] := by rw [c2]; rfl
          clear c1 c2
          have HNX : Hid (qL s (j + 1) = qL s j ++ [92, s[j]]) := by rw [qL_next s j hlt, hqc]; exact rfl
          clear b1 b2 b3 hqc
          go_wp2_with (at_builtin; refine wpList_append_own _ rfl _ _ 82 rfl w.heap.size 5 i0 (.int .u8 0) 1 1 Tryz.underlying82 hi hz0 hz1 hz2 rfl (by decide) _ _ _ rfl ((unhide HOWN).alloc _) ⟨wr.heap.size, 0, none⟩ 2 2 [.int .u8 92, .int .u8 (s[j].toNat : Int)] rfl rfl ?c1 ?c2 ?c3 ?c4 ?c5 ?_)
          case c1 =>
            intro j u hj
            match j, hj with
            | 0, hj => simp at hj; subst hj; simp [Addr.add]
            | 1, hj => simp at hj; subst hj; simp [Addr.add]
          case c2 => intro u hu; simp at hu; rcases hu with rfl | rfl <;> rfl
          case c3 => unfold maxLen; omega
          case c4 => omega
          case c5 => simp; omega
          intro v' w1 hown' hgrow _
          have R := rel_apps (k := [92, s[j]]) _ (unhide HB) (unhide HB).size (unhide HOWN) hown' hgrow
          rw [← unhide HNX] at R
          have HRR := hide R
          clear hown' hgrow R
          go_wp2
          go_roundw
          case rel => exact ⟨j + 1, by omega, by go_num, (unhide HRR).1, (unhide HRR).2⟩
          case measure => simp [intOf]; omega
        · have t2 : (((s[j].toNat : Nat) : Int) == 39) = false := by rw [show (39 : Int) = (((39 : UInt8).toNat : Nat) : Int) from rfl, b2]; simp [c2]
          by_cases c3 : s[j] = 92
          · have t3 : (((s[j].toNat : Nat) : Int) == 92) = true := by rw [c3]; rfl
            have hqc : quoteC s[j] = [92, s[j]] := by rw [c3]; rfl
            clear c1 c2 c3
            have HNX : Hid (qL s (j + 1) = qL s j ++ [92, s[j]]) := by rw [qL_next s j hlt, hqc]; exact rfl
            clear b1 b2 b3 hqc
            go_wp2_with (at_builtin; refine wpList_append_own _ rfl _ _ 82 rfl w.heap.size 5 i0 (.int .u8 0) 1 1 Tryz.underlying82 hi hz0 hz1 hz2 rfl (by decide) _ _ _ rfl ((unhide HOWN).alloc _) ⟨wr.heap.size, 0, none⟩ 2 2 [.int .u8 92, .int .u8 (s[j].toNat : Int)] rfl rfl ?c1 ?c2 ?c3 ?c4 ?c5 ?_)
            case c1 =>
              intro j u hj
              match j, hj with
              | 0, hj => simp at hj; subst hj; simp [Addr.add]
              | 1, hj => simp at hj; subst hj; simp [Addr.add]
            case c2 => intro u hu; simp at hu; rcases hu with rfl | rfl <;> rfl
            case c3 => unfold maxLen; omega
            case c4 => omega
            case c5 => simp; omega
            intro v' w1 hown' hgrow _
            have R := rel_apps (k := [92, s[j]]) _ (unhide HB) (unhide HB).size (unhide HOWN) hown' hgrow
            rw [← unhide HNX] at R
            have HRR := hide R
            clear hown' hgrow R
            go_wp2
            go_roundw
            case rel => exact ⟨j + 1, by omega, by go_num, (unhide HRR).1, (unhide HRR).2⟩
            case measure => simp [intOf]; omega
          · have t3 : (((s[j].toNat : Nat) : Int) == 92) = false := by rw [show (92 : Int) = (((92 : UInt8).toNat : Nat) : Int) from rfl, b3]; simp [c3]
            have hqc : quoteC s[j] = [s[j]] := by unfold quoteC; rw [if_neg c1, if_neg (by simp [c2, c3])]
            clear c1 c2 c3
            have HNX : Hid (qL s (j + 1) = qL s j ++ [s[j]]) := by rw [qL_next s j hlt, hqc]; exact rfl
            clear b1 b2 b3 hqc
            go_wp2_with (at_builtin; refine wpList_append_own _ rfl _ _ 82 rfl w.heap.size 5 i0 (.int .u8 0) 1 1 Tryz.underlying82 hi hz0 hz1 hz2 rfl (by decide) _ _ _ rfl ((unhide HOWN).alloc _) ⟨wr.heap.size, 0, none⟩ 1 1 [.int .u8 (s[j].toNat : Int)] rfl rfl ?c1 ?c2 ?c3 ?c4 ?c5 ?_)
            case c1 =>
              intro j u hj
              match j, hj with
              | 0, hj => simp at hj; subst hj; simp [Addr.add]
            case c2 => intro u hu; simp at hu; subst hu; rfl
            case c3 => unfold maxLen; omega
            case c4 => omega
            case c5 => simp; omega
            intro v' w1 hown' hgrow _
            have R := rel_apps (k := [s[j]]) _ (unhide HB) (unhide HB).size (unhide HOWN) hown' hgrow
            rw [← unhide HNX] at R
            have HRR := hide R
            clear hown' hgrow R
            go_wp2
            go_roundw
            case rel => exact ⟨j + 1, by omega, by go_num, (unhide HRR).1, (unhide HRR).2⟩
            case measure => simp [intOf]; omega
    · have hj2 : j = s.size := by omega
      subst hj2
      go_wp2_with (at_builtin; refine wpList_append_own _ rfl _ _ 82 rfl w.heap.size 5 i0 (.int .u8 0) 1 1 Tryz.underlying82 hi hz0 hz1 hz2 rfl (by decide) _ _ _ rfl ((unhide HOWN).alloc _) ⟨wr.heap.size, 0, none⟩ 1 1 [.int .u8 39] rfl rfl ?c1 ?c2 ?c3 ?c4 ?c5 ?_)
      case c1 =>
        intro j u hj
        match j, hj with
        | 0, hj => simp at hj; subst hj; simp [Addr.add]
      case c2 => intro u hu; simp at hu; subst hu; rfl
      case c3 => unfold maxLen; omega
      case c4 => omega
      case c5 => simp; omega
      intro v' w1 hown' hgrow _
      have R := rel_apps (k := [39]) _ (unhide HB) (unhide HB).size (unhide HOWN) hown' hgrow
      have hcv := row_text _ R.1
      rw [qL_all, ofBytes_mk] at hcv
      have HRR := hide R.2
      obtain ⟨a2, cap2, rfl⟩ := row_shape hown'
      clear hown' hgrow R
      go_wp2_with fail
      go_ret
      exact ⟨rfl, unhide HRR⟩

theorem hdT_hit {k : Nat} {kd : Int} (hk : k < 8) (h : (hds.getD k (noText, 0)).2 = kd) : hdText kd = (hds.getD k (noText, 0)).1 := by
  subst h
  have key : ∀ k, k < 8 → hdText (hds.getD k (noText, 0)).2 = (hds.getD k (noText, 0)).1 := by decide +kernel
  exact key k hk
theorem hdT_none {kd : Int} (h : ∀ q, q < 8 → (hds.getD q (noText, 0)).2 ≠ kd) : hdText kd = noText := by
  unfold hdText
  have : hds.find? (fun e => decide (e.2 = kd)) = none := by
    rw [List.find?_eq_none]
    intro x hx
    obtain ⟨i, hi, rfl⟩ := List.mem_iff_getElem.1 hx
    have h1 := h i hi
    rw [List.getD_eq_getElem?_getD, List.getElem?_eq_getElem hi] at h1
    simpa using h1
  rw [this]
  rfl

theorem headText_any (kd : Int) (w : World) (t : TypeId) (fr : Nat × Nat) (hg : w.heap[5]? = some (.cells hdCells t fr)) :
    Calls Tryz.prog 116 #[.int .i64 kd] w fun e w' => e = .returned (.string (hdText kd)) ∧ Below w.heap.size w w' := by
  have HG := hide hg
  obtain ⟨cs, hcs⟩ : ∃ cs, cs = hdCells := ⟨_, rfl⟩
  have hix : ∀ k : Nat, k < 8 → ∀ W, (Instr.index 179 (.agg cs) (.int .i64 (k : Int))).run Tryz.prog W = .ok (.agg #[.string (hds.getD k (noText, 0)).1, .int .i64 (hds.getD k (noText, 0)).2]) W := by rw [hcs]; exact hdIdx
  have hsz : cs.size = 16 := by rw [hcs]; exact hdSize
  rw [← hcs] at HG
  have HIX := hide hix
  have Hsz := hide hsz
  clear hg hix hcs hsz
  go_enter Tryz.func116, Tryz.ntmps116
  go_wp2_with (refine wpList_load_row rfl 179 _ rfl 5 rfl t cs fr _ (unhide HG) Tryz.underlying179 rfl (by rw [unhide Hsz]; kernel_rfl) ?_)
  go_loopw [6] (fun i wr => ∃ j : Nat, j ≤ 8 ∧ i = .int .i64 j ∧ (∀ q, q < j → (hds.getD q (noText, 0)).2 ≠ kd) ∧ Below w.heap.size w wr) (fun i _ => 8 - (intOf i).toNat)
  case atStart => exact ⟨0, Nat.zero_le _, rfl, fun q hq => absurd hq (Nat.not_lt_zero _), Below.refl _ _⟩
  case round =>
    obtain ⟨j, hj, rfl, he, hbel⟩ := hrel
    have HE := hide he
    have HB := hide hbel
    clear he hbel
    by_cases hlt : j < 8
    · have hck := unhide HIX j hlt
      obtain ⟨g, hg⟩ : ∃ g, g = (hds.getD j (noText, 0)).1 := ⟨_, rfl⟩
      obtain ⟨n, hn⟩ : ∃ n, n = (hds.getD j (noText, 0)).2 := ⟨_, rfl⟩
      rw [← hg, ← hn] at hck
      have HGJ := hide hg
      have HNJ := hide hn
      clear hg hn
      by_cases hp : n = kd
      · have HP := hide hp
        subst hp
        have hb : (n == n) = true := by simp
        go_wp2_with fail
        go_ret
        refine ⟨?_, (unhide HB).alloc (unhide HB).size _⟩
        rw [hdT_hit hlt (unhide HNJ).symm, ← unhide HGJ]
        rfl
      · have hb : (n == kd) = false := beq_eq_false_iff_ne.2 hp
        have HP := hide hp
        clear hp
        go_wp2_with fail
        go_roundw
        case rel => exact ⟨j + 1, by omega, by go_num, fun q hq => by (by_cases hqj : q = j); (rw [hqj, ← unhide HNJ]; exact unhide HP); exact unhide HE q (by omega), (unhide HB).alloc (unhide HB).size _⟩
        case measure => simp [intOf]; omega
    · go_wp2_with fail
      go_ret
      refine ⟨?_, unhide HB⟩
      rw [hdT_none (fun q hq => unhide HE q (by omega))]
      rfl

theorem Kp.cellB {B b : Nat} {w X : World} (h : Kp B b w X) {g j : Nat} {v : Value} (hg : g < B) (hc : w.cell? ⟨g, j, none⟩ = some v) : X.cell? ⟨g, j, none⟩ = some v := by
  rw [h.below.cell (p := ⟨g, j, none⟩) hg]; exact hc
theorem Kp.box {B b : Nat} {w X : World} (h : Kp B b w X) {k : Nat} {cs : Array Value} {ty : TypeId} (hty : ty ≠ 5) (hk : w.heap[k]? = some (.cells cs ty (0, 0))) (hkb : k ≠ b) : X.heap[k]? = some (.cells cs ty (0, 0)) :=
  h.kept k _ hk (by simpa using hkb) (by intro c fz e; cases e; exact hty rfl)
theorem Kp.boxC {B b : Nat} {w X : World} (h : Kp B b w X) {k j : Nat} {cs : Array Value} {ty : TypeId} {v : Value} (hty : ty ≠ 5) (hk : w.heap[k]? = some (.cells cs ty (0, 0))) (hkb : k ≠ b) (hv : cs[j]? = some v) : X.cell? ⟨k, j, none⟩ = some v := by
  rw [Lib.cell_of_heap (h.box hty hk hkb)]; exact hv

theorem signed_two {B b m : Nat} (tx : ByteArray) (skd str kd : Int) (a c : Tr) (s s1 s2 : WS) (hstr : 1 ≤ str ∧ str ≤ 10) (ha : VC B b m a str s s1) (hl : s1.1.length + sumT [tx] ≤ 100000000) (hc : VC B b m c (str + 1) (putsS [tx] s1) s2) :
    ∀ w p, Wt B b m s w → NB B w (.mk kd noText 0 [a, c]) p → Calls Tryz.prog 229 #[wPtr b, nPtr p, .agg #[.string tx, .int .i64 skd, .int .i64 2, .int .i64 str]] w (WPost B b m s2 w) := by
  have HHA := hide ha
  have HHC := hide hc
  clear ha hc
  intro w p hW hN
  obtain ⟨wA, hwA⟩ : ∃ wA, wA = w.alloc (.cells #[.string tx, .int .i64 skd, .int .i64 2, .int .i64 str] 175) := ⟨_, rfl⟩
  have hbne : w.heap.size ≠ b := by have h1 := hW.wr.lt; omega
  have HBX : Hid (wA.heap[w.heap.size]? = some (.cells #[.string tx, .int .i64 skd, .int .i64 2, .int .i64 str] 175 (0, 0))) := by rw [hwA]; exact heap_new _ _
  have HWA : Hid (Wt B b m s wA) := by rw [hwA]; exact hW.alloc _
  have HKW : Hid (Kp B b w wA) := by rw [hwA]; exact (Kp.refl B b w).alloc hW.size _
  have HN : Hid (NB B wA (.mk kd noText 0 [a, c]) p) := hN.later (unhide HKW).below
  have hpB := hN.lt
  have HKA := hide (Kp.refl B b wA)
  have hsA : wA.heap.size = w.heap.size + 1 := by rw [hwA]; simp
  have HSA := hide hsA
  clear hsA
  clear hW hN
  go_enter Tryz.func229, Tryz.ntmps229
  go_wp2_with fail
  rw [← hwA]
  clear hwA
  obtain ⟨g1, cc1, q1, rr1, hg1, rk1, hq1⟩ := ((unhide HN).later (unhide HKA).below).kid 0 (by simp [Tr.kids])
  replace rr1 : wA.cell? ⟨p, 3, none⟩ = some (.slice (some ⟨g1, 0, none⟩) 2 cc1) := rr1
  have HQ1 : Hid (NB B wA a q1) := hq1
  clear hq1
  have hS0 : Kp B b wA wA.drew := (Kp.refl B b wA).drew
  refine wp_region_held (S := fun X => Kp B b wA X) (by kernel_rfl) ?_
  change wpAnyH _ _ _ _ _ _ _ _ (World.drew _)
  refine wh 0 (wPtr b) hS0 ?_
  refine wh 1 (nPtr p) hS0 ?_
  refine wh 2 (nPtr p) hS0 ?_
  refine wh 3 (.pointer (some ⟨p, 3, none⟩)) hS0 ?_
  refine wh 4 (.slice (some ⟨g1, 0, none⟩) 2 cc1) hS0 ?_ (hy := Or.inl ⟨by kernel_rfl, fun X hX => by have hh := hX.cellB hpB rr1; go_simp⟩)
  refine wh 5 (.pointer (some ⟨g1, 0, none⟩)) hS0 ?_
  refine wh 6 (nPtr q1) hS0 ?_ (hy := Or.inl ⟨by kernel_rfl, fun X hX => by have hh := hX.cellB hg1 rk1; go_simp⟩)
  refine wh 7 (.pointer (some ⟨w.heap.size, 3, none⟩)) hS0 ?_
  refine wh 8 (.int .i64 str) hS0 ?_ (hy := Or.inl ⟨by kernel_rfl, fun X hX => by have hh := hX.boxC (j := 3) (v := .int .i64 str) (by decide) (unhide HBX) hbne rfl; go_simp⟩)
  refine wq1 9 fun K hK => ?_
  go_simp
  refine Calls.mono ((unhide HHA) wA.drew q1 (unhide HWA).drew ((unhide HQ1).later ((Below.refl B wA).drew))) ?_
  rintro e w2 ⟨rfl, g1, g2⟩
  have hS2 : Kp B b wA w2 := hS0.trans g2
  refine hK.out _ _ hS2 (fun _ => ?_)
  clear hK K
  refine wpAnyH_done (by kernel_rfl) ?_ _
  go_simp
  have HW2 := hide g1
  have HK2 := hide ((unhide HKA).trans hS2)
  clear g1 g2 hS2 hS0
  clear rr1 hg1 rk1 HQ1
  have y0 : w2.cell? ⟨w.heap.size, 0, none⟩ = some (.string tx) := (unhide HK2).boxC (by decide) (unhide HBX) hbne rfl
  have y2 : w2.cell? ⟨w.heap.size, 2, none⟩ = some (.int .i64 2) := (unhide HK2).boxC (by decide) (unhide HBX) hbne rfl
  go_wp2_with fail
  refine Calls.mono (put_at (s := s1) (w := wA) [tx] _ 1 rfl #[.string tx] rfl (by exact new_at (by simp)) (by exact (unhide HW2).alloc _) (by exact (unhide HK2).alloc (unhide HW2).size _) hl) ?_
  intro e w3 hp
  obtain ⟨rfl, g1, g2⟩ := hp
  have HW3 := hide g1
  have HK3 := hide g2
  clear g1 g2 y0 y2
  have y0 : w3.cell? ⟨w.heap.size, 0, none⟩ = some (.string tx) := (unhide HK3).boxC (by decide) (unhide HBX) hbne rfl
  have y2 : w3.cell? ⟨w.heap.size, 2, none⟩ = some (.int .i64 2) := (unhide HK3).boxC (by decide) (unhide HBX) hbne rfl
  go_wp2_with fail
  clear y0 y2
  obtain ⟨g4, cc4, q4, rr4, hg4, rk4, hq4⟩ := ((unhide HN).later (unhide HK3).below).kid 1 (by simp [Tr.kids])
  replace rr4 : w3.cell? ⟨p, 3, none⟩ = some (.slice (some ⟨g4, 0, none⟩) 2 cc4) := rr4
  have HQ4 : Hid (NB B w3 c q4) := hq4
  clear hq4
  have hS0 : Kp B b w3 w3.drew := (Kp.refl B b w3).drew
  refine wp_region_held (S := fun X => Kp B b w3 X) (by kernel_rfl) ?_
  change wpAnyH _ _ _ _ _ _ _ _ (World.drew _)
  refine wh 0 (wPtr b) hS0 ?_
  refine wh 1 (nPtr p) hS0 ?_
  refine wh 2 (nPtr p) hS0 ?_
  refine wh 3 (.pointer (some ⟨p, 3, none⟩)) hS0 ?_
  refine wh 4 (.slice (some ⟨g4, 0, none⟩) 2 cc4) hS0 ?_ (hy := Or.inl ⟨by kernel_rfl, fun X hX => by have hh := hX.cellB hpB rr4; go_simp⟩)
  refine wh 5 (.pointer (some ⟨w.heap.size, 2, none⟩)) hS0 ?_
  refine wh 6 (.int .i64 2) hS0 ?_ (hy := Or.inl ⟨by kernel_rfl, fun X hX => by have hh := ((unhide HK3).trans hX).boxC (j := 2) (v := .int .i64 2) (by decide) (unhide HBX) hbne rfl; go_simp⟩)
  refine wh 7 (.int .i64 1) hS0 ?_ (hy := Or.inl ⟨by kernel_rfl, fun X hX => by go_simp; rfl⟩)
  refine wh 8 (.pointer (some ⟨g4, 1, none⟩)) hS0 ?_
  refine wh 9 (nPtr q4) hS0 ?_ (hy := Or.inl ⟨by kernel_rfl, fun X hX => by have hh := hX.cellB hg4 rk4; go_simp⟩)
  refine wh 10 (.int .i64 (str + 1)) hS0 ?_
  refine wq1 11 fun K hK => ?_
  go_simp
  refine Calls.mono ((unhide HHC) w3.drew q4 (unhide HW3).drew ((unhide HQ4).later ((Below.refl B w3).drew))) ?_
  rintro e w5 ⟨rfl, g1, g2⟩
  have hS2 : Kp B b w3 w5 := hS0.trans g2
  refine hK.out _ _ hS2 (fun _ => ?_)
  clear hK K
  refine wpAnyH_done (by kernel_rfl) ?_ _
  go_simp
  have HW5 := hide g1
  have HK5 := hide ((unhide HK3).trans hS2)
  clear g1 g2 hS2 hS0
  clear rr4 hg4 rk4 HQ4
  go_wp2_with fail
  go_end0
  exact ⟨rfl, unhide HW5, (unhide HKW).trans (unhide HK5)⟩

theorem signed_one {B b m : Nat} (tx : ByteArray) (skd str kd : Int) (a : Tr) (s s1 : WS) (hl : s.1.length + sumT [tx] ≤ 100000000) (ha : VC B b m a str (putsS [tx] s) s1) :
    ∀ w p, Wt B b m s w → NB B w (.mk kd noText 0 [a]) p → Calls Tryz.prog 229 #[wPtr b, nPtr p, .agg #[.string tx, .int .i64 skd, .int .i64 1, .int .i64 str]] w (WPost B b m s1 w) := by
  have HHA := hide ha
  clear ha
  intro w p hW hN
  obtain ⟨wA, hwA⟩ : ∃ wA, wA = w.alloc (.cells #[.string tx, .int .i64 skd, .int .i64 1, .int .i64 str] 175) := ⟨_, rfl⟩
  have hbne : w.heap.size ≠ b := by have h1 := hW.wr.lt; omega
  have HBX : Hid (wA.heap[w.heap.size]? = some (.cells #[.string tx, .int .i64 skd, .int .i64 1, .int .i64 str] 175 (0, 0))) := by rw [hwA]; exact heap_new _ _
  have HWA : Hid (Wt B b m s wA) := by rw [hwA]; exact hW.alloc _
  have HKW : Hid (Kp B b w wA) := by rw [hwA]; exact (Kp.refl B b w).alloc hW.size _
  have HN : Hid (NB B wA (.mk kd noText 0 [a]) p) := hN.later (unhide HKW).below
  have hpB := hN.lt
  have HKA := hide (Kp.refl B b wA)
  have hsA : wA.heap.size = w.heap.size + 1 := by rw [hwA]; simp
  have HSA := hide hsA
  clear hsA
  clear hW hN
  go_enter Tryz.func229, Tryz.ntmps229
  go_wp2_with fail
  rw [← hwA]
  clear hwA
  refine Calls.mono (put_at (s := s) (w := wA) [tx] _ 1 rfl #[.string tx] rfl (by exact new_at (by exact (unhide HSA).symm)) (by exact (unhide HWA).alloc _) (by exact (unhide HKA).alloc (unhide HWA).size _) hl) ?_
  intro e w3 hp
  obtain ⟨rfl, g1, g2⟩ := hp
  have HW3 := hide g1
  have HK3 := hide g2
  clear g1 g2
  have y0 : w3.cell? ⟨w.heap.size, 0, none⟩ = some (.string tx) := (unhide HK3).boxC (by decide) (unhide HBX) hbne rfl
  have y2 : w3.cell? ⟨w.heap.size, 2, none⟩ = some (.int .i64 1) := (unhide HK3).boxC (by decide) (unhide HBX) hbne rfl
  go_wp2_with fail
  clear y0 y2
  obtain ⟨g4, cc4, q4, rr4, hg4, rk4, hq4⟩ := ((unhide HN).later (unhide HK3).below).kid 0 (by simp [Tr.kids])
  replace rr4 : w3.cell? ⟨p, 3, none⟩ = some (.slice (some ⟨g4, 0, none⟩) 1 cc4) := rr4
  have HQ4 : Hid (NB B w3 a q4) := hq4
  clear hq4
  have hS0 : Kp B b w3 w3.drew := (Kp.refl B b w3).drew
  refine wp_region_held (S := fun X => Kp B b w3 X) (by kernel_rfl) ?_
  change wpAnyH _ _ _ _ _ _ _ _ (World.drew _)
  refine wh 0 (wPtr b) hS0 ?_
  refine wh 1 (nPtr p) hS0 ?_
  refine wh 2 (nPtr p) hS0 ?_
  refine wh 3 (.pointer (some ⟨p, 3, none⟩)) hS0 ?_
  refine wh 4 (.slice (some ⟨g4, 0, none⟩) 1 cc4) hS0 ?_ (hy := Or.inl ⟨by kernel_rfl, fun X hX => by have hh := hX.cellB hpB rr4; go_simp⟩)
  refine wh 5 (.pointer (some ⟨w.heap.size, 2, none⟩)) hS0 ?_
  refine wh 6 (.int .i64 1) hS0 ?_ (hy := Or.inl ⟨by kernel_rfl, fun X hX => by have hh := ((unhide HK3).trans hX).boxC (j := 2) (v := .int .i64 1) (by decide) (unhide HBX) hbne rfl; go_simp⟩)
  refine wh 7 (.int .i64 0) hS0 ?_ (hy := Or.inl ⟨by kernel_rfl, fun X hX => by go_simp; rfl⟩)
  refine wh 8 (.pointer (some ⟨g4, 0, none⟩)) hS0 ?_
  refine wh 9 (nPtr q4) hS0 ?_ (hy := Or.inl ⟨by kernel_rfl, fun X hX => by have hh := hX.cellB hg4 rk4; go_simp⟩)
  refine wh 10 (.int .i64 str) hS0 ?_
  refine wq1 11 fun K hK => ?_
  go_simp
  refine Calls.mono ((unhide HHA) w3.drew q4 (unhide HW3).drew ((unhide HQ4).later ((Below.refl B w3).drew))) ?_
  rintro e w5 ⟨rfl, g1, g2⟩
  have hS2 : Kp B b w3 w5 := hS0.trans g2
  refine hK.out _ _ hS2 (fun _ => ?_)
  clear hK K
  refine wpAnyH_done (by kernel_rfl) ?_ _
  go_simp
  have HW5 := hide g1
  have HK5 := hide ((unhide HK3).trans hS2)
  clear g1 g2 hS2 hS0
  clear rr4 hg4 rk4 HQ4
  go_wp2_with fail
  go_end0
  exact ⟨rfl, unhide HW5, (unhide HKW).trans (unhide HK5)⟩

theorem signed_none {B b m : Nat} (tx : ByteArray) (skd str kd : Int) (s : WS) (hl : s.1.length + sumT [tx] ≤ 100000000) :
    ∀ w p, Wt B b m s w → NB B w (.mk kd noText 0 []) p → Calls Tryz.prog 229 #[wPtr b, nPtr p, .agg #[.string tx, .int .i64 skd, .int .i64 0, .int .i64 str]] w (WPost B b m (putsS [tx] s) w) := by
  intro w p hW hN
  obtain ⟨wA, hwA⟩ : ∃ wA, wA = w.alloc (.cells #[.string tx, .int .i64 skd, .int .i64 0, .int .i64 str] 175) := ⟨_, rfl⟩
  have hbne : w.heap.size ≠ b := by have h1 := hW.wr.lt; omega
  have HBX : Hid (wA.heap[w.heap.size]? = some (.cells #[.string tx, .int .i64 skd, .int .i64 0, .int .i64 str] 175 (0, 0))) := by rw [hwA]; exact heap_new _ _
  have HWA : Hid (Wt B b m s wA) := by rw [hwA]; exact hW.alloc _
  have HKW : Hid (Kp B b w wA) := by rw [hwA]; exact (Kp.refl B b w).alloc hW.size _
  have HN : Hid (NB B wA (.mk kd noText 0 []) p) := hN.later (unhide HKW).below
  have hpB := hN.lt
  have HKA := hide (Kp.refl B b wA)
  have hsA : wA.heap.size = w.heap.size + 1 := by rw [hwA]; simp
  have HSA := hide hsA
  clear hsA
  clear hW hN
  go_enter Tryz.func229, Tryz.ntmps229
  go_wp2_with fail
  rw [← hwA]
  clear hwA
  refine Calls.mono (put_at (s := s) (w := wA) [tx] _ 1 rfl #[.string tx] rfl (by exact new_at (by exact (unhide HSA).symm)) (by exact (unhide HWA).alloc _) (by exact (unhide HKA).alloc (unhide HWA).size _) hl) ?_
  intro e w3 hp
  obtain ⟨rfl, g1, g2⟩ := hp
  have HW3 := hide g1
  have HK3 := hide g2
  clear g1 g2
  have y0 : w3.cell? ⟨w.heap.size, 0, none⟩ = some (.string tx) := (unhide HK3).boxC (by decide) (unhide HBX) hbne rfl
  have y2 : w3.cell? ⟨w.heap.size, 2, none⟩ = some (.int .i64 0) := (unhide HK3).boxC (by decide) (unhide HBX) hbne rfl
  go_wp2_with fail
  go_end0
  exact ⟨rfl, unhide HW3, (unhide HKW).trans (unhide HK3)⟩

end Go.Proofs.YtodmgaikhbmlnaaGreatDoor
