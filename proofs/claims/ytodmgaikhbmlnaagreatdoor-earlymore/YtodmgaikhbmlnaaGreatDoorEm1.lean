/-
  Walks of the readers of package lex: fail, escaped, HasPrefix; what a reader hands back ('RPost').
-/
import Derived.Test.YtodmgaikhbmlnaaGreatDoorEm0
import Derived.Laws.IdiomStrings
set_option maxRecDepth 100000
set_option maxHeartbeats 16000000
namespace Go.Proofs.YtodmgaikhbmlnaaGreatDoor
open Go.RowKit

theorem bcell {W w1 : World} (hb : Below W.heap.size W w1) : (∀ b o, b < W.heap.size → w1.cell? ⟨b, o, none⟩ = W.cell? ⟨b, o, none⟩) ∧ (∀ b o, b < W.heap.size → w1.frozen? ⟨b, o, none⟩ = W.frozen? ⟨b, o, none⟩) :=
  ⟨fun b o h => hb.cell (p := ⟨b, o, none⟩) h, fun b o h => hb.frozen (p := ⟨b, o, none⟩) h⟩

/-- What is read at a place: a token and the place behind it, or an error and its place. -/
inductive Rd where
  | tok (kd : Int) (tx : ByteArray) (n : Int) (e : Nat)
  | bad (er : Int) (p : Nat)

abbrev noTok : Value := .agg #[.int .i64 0, .string ⟨#[]⟩, .int .i64 0, .int .i64 0]

def RPost (k : Nat) (r : Rd) (w : World) (e : Ending) (w' : World) : Prop :=
  match r with
  | .tok kd tx n e' => e = .returned (.tuple #[.agg #[.int .i64 kd, .string tx, .int .i64 n, .int .i64 (k : Int)], .int .i64 (e' : Int), .nilIface]) ∧ Below w.heap.size w w'
  | .bad er p => ∃ b, e = .returned (.tuple #[noTok, .int .i64 0, .iface 129 (.pointer (some ⟨b, 0, none⟩))]) ∧ w'.heap[b]? = some (.cells #[.int .i64 er, .int .i64 (p : Int)] 130 (0, 0)) ∧ w.heap.size ≤ b ∧ Below w.heap.size w w'

/-- Behind a failure the reader's own result cell is written once more. -/
theorem bad_end {w w1 : World} {b : Nat} {o X : Obj} (hbel : Below (w.alloc o).heap.size (w.alloc o) w1) (hlb : (w.alloc o).heap.size ≤ b) (hb : w1.heap[b]? = some X) (v0 v1 v2 v3 : Value) :
    ((((w1.setCell ⟨w.heap.size, 0, none⟩ v0).setCell ⟨w.heap.size, 1, none⟩ v1).setCell ⟨w.heap.size, 2, none⟩ v2).setCell ⟨w.heap.size, 3, none⟩ v3).heap[b]? = some X ∧ w.heap.size ≤ b ∧
      Below w.heap.size w ((((w1.setCell ⟨w.heap.size, 0, none⟩ v0).setCell ⟨w.heap.size, 1, none⟩ v1).setCell ⟨w.heap.size, 2, none⟩ v2).setCell ⟨w.heap.size, 3, none⟩ v3) := by
  have hz : (w.alloc o).heap.size = w.heap.size + 1 := by simp
  have hne : b ≠ w.heap.size := by omega
  have b0 : Below w.heap.size w (w.alloc o) := (Below.refl _ _).alloc (Nat.le_refl _) _
  have b1 : Below w.heap.size w w1 := b0.trans (hbel.mono (by omega))
  refine ⟨?_, by omega, (((b1.setCell (Nat.le_refl _) _).setCell (Nat.le_refl _) _).setCell (Nat.le_refl _) _).setCell (Nat.le_refl _) _⟩
  rw [Below.heap_setCell _ _ _ _ hne, Below.heap_setCell _ _ _ _ hne, Below.heap_setCell _ _ _ _ hne, Below.heap_setCell _ _ _ _ hne]
  exact hb

theorem fail_any (er p : Int) (w : World) : Calls Tryz.prog 215 #[.int .i64 er, .int .i64 p] w fun e w' =>
    ∃ b, e = .returned (.tuple #[noTok, .int .i64 0, .iface 129 (.pointer (some ⟨b, 0, none⟩))]) ∧ w'.heap[b]? = some (.cells #[.int .i64 er, .int .i64 p] 130 (0, 0)) ∧ w.heap.size ≤ b ∧ Below w.heap.size w w' := by
  go_enter Tryz.func215, Tryz.ntmps215
  go_wp2
  refine bodyPost_ret (v := .tuple #[noTok, .int .i64 0, .iface 129 (.pointer (some ⟨w.heap.size + 1, 0, none⟩))]) (by simp [results, Tryz.results215, go_sem]) rfl ⟨_, rfl, ?_, by omega, ((Below.refl _ _).alloc (Nat.le_refl _) _).alloc (by simp) _⟩
  simpa using heap_alloc_new (w.alloc (.cells #[.int .i64 0, .string ⟨#[]⟩, .int .i64 0, .int .i64 0] 123)) (.cells #[.int .i64 er, .int .i64 p] 130)

/-- A text begins with another. -/
def pfxB (x p : ByteArray) : Bool := decide (p.size ≤ x.size) && ((x.extract 0 p.size).toList == p.toList)

theorem hasPrefix_any (x p : ByteArray) (w : World) (_hx : x.size ≤ maxLen) (_hp : p.size ≤ maxLen) :
    Calls Tryz.prog 97 #[.string x, .string p] w fun e w' => e = .returned (.bool (pfxB x p)) ∧ w' = w := by
  unfold maxLen at _hx _hp
  by_cases h : p.size ≤ x.size
  · go_enter Tryz.func97, Tryz.ntmps97
    go_wp2
    go_ret
    exact ⟨ret_bool (by simp [pfxB, h]), rfl⟩
  · go_enter Tryz.func97, Tryz.ntmps97
    go_wp2
    go_ret
    exact ⟨ret_bool (by simp [pfxB, h]), rfl⟩

/-- The sign at a place: the first of the list with which the rest of the text begins. -/
def rdSign (gs : List ByteArray) (s : ByteArray) (k : Nat) : Rd :=
  match gs.find? (fun g => pfxB (s.extract k s.size) g) with
  | some g => .tok 5 g 0 (k + g.size)
  | none => .bad 3 k

theorem find_hit {gs : List ByteArray} {f : ByteArray → Bool} {i : Nat} (hi : i < gs.length) (h0 : ∀ j, (hj : j < i) → f (gs[j]'(by omega)) = false) (h : f gs[i] = true) : gs.find? f = some gs[i] := by
  rw [List.find?_eq_some_iff_getElem]
  exact ⟨h, i, hi, rfl, fun j hj => by rw [h0 j hj]; rfl⟩
theorem find_none {gs : List ByteArray} {f : ByteArray → Bool} (h0 : ∀ j, (hj : j < gs.length) → f gs[j] = false) : gs.find? f = none := by
  rw [List.find?_eq_none]
  intro x hx
  obtain ⟨j, hj, rfl⟩ := List.getElem_of_mem hx
  rw [h0 j hj]; simp

theorem extract_size (s : ByteArray) (a b : Nat) (h1 : a ≤ b) (h2 : b ≤ s.size) : (s.extract a b).size = b - a := by
  simp; omega

theorem readSign_any (gs : List ByteArray) (s : ByteArray) (k : Nat) (w : World) (hs : s.size ≤ 3000) (hk : k < s.size) (hn : gs.length = 19) (hsz : ∀ i, i < 19 → (gs.getD i ByteArray.empty).size ≤ 3) (t : TypeId) (fr : Nat × Nat)
    (hg : w.heap[6]? = some (.cells (gs.map Value.string).toArray t fr)) :
    Calls Tryz.prog 155 #[.string s, .int .i64 (k : Int)] w (RPost k (rdSign gs s k) w) := by
  obtain ⟨cs, hcs⟩ : ∃ cs, cs = (gs.map Value.string).toArray := ⟨_, rfl⟩
  rw [← hcs] at hg
  have hsz1 : cs.size = 19 := by rw [hcs]; simpa using hn
  have hix : ∀ k : Nat, k < 19 → ∀ W, (Instr.index 160 (.agg cs) (.int .i64 (k : Int))).run Tryz.prog W = .ok (.string (gs.getD k ByteArray.empty)) W := fun k hk W =>
    idx53 cs k hk _ (by rw [hcs]; simp [hn, hk]) W
  have HIX := hide hix
  have Hcs := hide hcs
  have Hsz := hide hsz
  have Hsz1 := hide hsz1
  have Hn := hide hn
  have Hg : Hid ((w.alloc (.cells #[.int .i64 0, .string ⟨#[]⟩, .int .i64 0, .int .i64 0] 123)).heap[6]? = some (.cells cs t fr)) := by
    have hlt : 6 < w.heap.size := (Array.getElem?_eq_some_iff.1 hg).1
    show _ = _
    rw [Below.heap_alloc w _ 6 hlt]; exact hg
  clear hix hcs hsz hg hn hsz1
  go_enter Tryz.func155, Tryz.ntmps155
  go_wp2_with (refine wpList_load_row rfl 160 _ rfl 6 rfl t cs fr _ (unhide Hg) Tryz.underlying160 rfl (by rw [unhide Hsz1]; kernel_rfl) ?_)
  go_loopw [8, 10] (fun _ i wr => ∃ j : Nat, j ≤ 19 ∧ i = .int .i64 j ∧ (∀ q, q < j → pfxB (s.extract k s.size) (gs.getD q ByteArray.empty) = false) ∧ wr = w.alloc (.cells #[.int .i64 0, .string ⟨#[]⟩, .int .i64 0, .int .i64 0] 123)) (fun _ i _ => 19 - (intOf i).toNat)
  case atStart => exact ⟨0, Nat.zero_le _, rfl, fun q hq => absurd hq (Nat.not_lt_zero _), rfl⟩
  case round =>
    obtain ⟨j, hj, rfl, he, rfl⟩ := hrel
    have HE := hide he
    clear he
    by_cases hlt : j < 19
    · have hck := unhide HIX j hlt
      have hgz := unhide Hsz j hlt
      obtain ⟨g, hg⟩ : ∃ g, g = gs.getD j ByteArray.empty := ⟨_, rfl⟩
      rw [← hg] at hck hgz
      have HGJ := hide hg
      clear hg
      cases hp : pfxB (s.extract k s.size) g
      · have HP := hide hp
        clear hp
        go_wp2_with fail
        refine (hasPrefix_any _ _ _ (by unfold maxLen; simp; omega) (by unfold maxLen; omega)).mono ?_
        rw [unhide HP]
        rintro e w' ⟨rfl, rfl⟩
        go_wp2_with fail
        go_roundw
        case rel => exact ⟨j + 1, by omega, by go_num, fun q hq => by (by_cases hqj : q = j); (rw [hqj, ← unhide HGJ]; exact unhide HP); exact unhide HE q (by omega), by trivial⟩
        case measure => simp [intOf]; omega
      · have HP := hide hp
        clear hp
        go_wp2_with fail
        refine (hasPrefix_any _ _ _ (by unfold maxLen; simp; omega) (by unfold maxLen; omega)).mono ?_
        rw [unhide HP]
        rintro e w' ⟨rfl, rfl⟩
        go_wp2_with fail
        have hr : rdSign gs s k = .tok 5 g 0 (k + g.size) := by
          unfold rdSign
          have hgj : g = gs[j]'(by rw [unhide Hn]; exact hlt) := by rw [unhide HGJ, List.getD_eq_getElem?_getD, List.getElem?_eq_getElem (by rw [unhide Hn]; exact hlt)]; rfl
          rw [find_hit (i := j) (by rw [unhide Hn]; exact hlt) (fun q hq => by
            have := unhide HE q hq
            rw [List.getD_eq_getElem?_getD, List.getElem?_eq_getElem (by rw [unhide Hn]; omega)] at this
            exact this) (by rw [← hgj]; exact unhide HP), ← hgj]
        rw [hr]
        exact bodyPost_ret (v := .tuple #[.agg #[.int .i64 5, .string g, .int .i64 0, .int .i64 (k : Int)], .int .i64 ((k : Int) + (g.size : Int)), .nilIface]) (by simp [results, Tryz.results155, go_sem]) rfl ⟨by simp, (Below.refl _ _).alloc (Nat.le_refl _) _⟩
    · go_wp2_with fail
      refine (fail_any _ _ _).mono ?_
      rintro e w1 ⟨b, rfl, hb, hlb, hbel⟩
      obtain ⟨hc, hf⟩ := bcell hbel
      have HB := hide hb
      have HBEL := hide hbel
      clear hb hbel
      go_wp2_with fail
      have hr : rdSign gs s k = .bad 3 k := by
        unfold rdSign
        rw [find_none (fun q hq => by
          have := unhide HE q (by rw [unhide Hn] at hq; omega)
          rw [List.getD_eq_getElem?_getD, List.getElem?_eq_getElem hq] at this
          exact this)]
      rw [hr]
      exact bodyPost_ret (v := .tuple #[noTok, .int .i64 0, .iface 129 (.pointer (some ⟨b, 0, none⟩))]) (by simp [results, Tryz.results155, go_sem, hc]) rfl ⟨b, rfl, bad_end (unhide HBEL) hlb (unhide HB) _ _ _ _⟩


theorem pastN_ge (p : Int → Bool) (s : ByteArray) (k : Nat) : k ≤ pastN p s k := by unfold pastN; omega

theorem good_end {w w1 : World} {o : Obj} (hbel : Below (w.alloc o).heap.size (w.alloc o) w1) (v0 v1 v2 v3 : Value) :
      Below w.heap.size w ((((w1.setCell ⟨w.heap.size, 0, none⟩ v0).setCell ⟨w.heap.size, 1, none⟩ v1).setCell ⟨w.heap.size, 2, none⟩ v2).setCell ⟨w.heap.size, 3, none⟩ v3) := by
  have hz : (w.alloc o).heap.size = w.heap.size + 1 := by simp
  have b0 : Below w.heap.size w (w.alloc o) := (Below.refl _ _).alloc (Nat.le_refl _) _
  have b1 : Below w.heap.size w w1 := b0.trans (hbel.mono (by omega))
  exact (((b1.setCell (Nat.le_refl _) _).setCell (Nat.le_refl _) _).setCell (Nat.le_refl _) _).setCell (Nat.le_refl _) _

/-- The word or name at a place. -/
def rdName (ws : List ByteArray) (s : ByteArray) (k : Nat) : Rd :=
  if isIn ws (s.extract k (pastN lodB s k)) = true then .tok 2 (s.extract k (pastN lodB s k)) 0 (pastN lodB s k)
  else if 20 < pastN lodB s k - k then .bad 4 k
  else .tok 1 (s.extract k (pastN lodB s k)) 0 (pastN lodB s k)

abbrev O35 : Obj := .cells #[.int .i64 0, .string ⟨#[]⟩, .int .i64 0, .int .i64 0] 123

theorem readName_word (ws : List ByteArray) (s : ByteArray) (k e : Nat) (w : World) (hs : s.size ≤ 3000) (hk : k < s.size) (he : pastN lodB s k = e) (hke : k ≤ e) (hes : e ≤ s.size) (hw : isIn ws (s.extract k e) = true) (hn : ws.length = 19) (t : TypeId) (fr : Nat × Nat)
    (hg : w.heap[2]? = some (.cells (ws.map Value.string).toArray t fr)) :
    Calls Tryz.prog 152 #[.string s, .int .i64 (k : Int)] w (RPost k (.tok 2 (s.extract k e) 0 e) w) := by
  have hlt : 2 < w.heap.size := (Array.getElem?_eq_some_iff.1 hg).1
  have HE := hide he
  have HG := hide hg
  have HN := hide hn
  have HW := hide hw
  clear hg hn he hw
  go_enter Tryz.func152, Tryz.ntmps152
  go_wp2_with fail
  refine (lod_any _).mono ?_
  rintro e1 w1 ⟨x, rfl, hx, hbel⟩
  obtain ⟨hc, hf⟩ := bcell hbel
  have HBEL := hide hbel
  have HX := hide hx
  clear hx hbel
  go_wp2_with fail
  have hpast := past_any s k x lodB w1 (by unfold maxLen; omega) (by omega) (unhide HX)
  rw [unhide HE] at hpast
  refine hpast.mono ?_
  clear hpast
  rintro e2 w2 ⟨rfl, rfl⟩
  have HG2 : Hid (w2.heap[2]? = some (.cells (ws.map Value.string).toArray t fr)) := by
    show _ = _
    rw [(unhide HBEL).block 2 (by simp; omega), Below.heap_alloc w _ 2 hlt]; exact unhide HG
  go_wp2_with fail
  refine (isWord_any ws (s.extract k e) w2 (unhide HN) t fr (unhide HG2)).mono ?_
  rw [unhide HW]
  rintro e3 w3 ⟨rfl, rfl⟩
  go_wp2_with fail
  exact bodyPost_ret (v := .tuple #[.agg #[.int .i64 2, .string (s.extract k e), .int .i64 0, .int .i64 (k : Int)], .int .i64 (e : Int), .nilIface]) (by simp [results, Tryz.results152, go_sem, hc]) rfl ⟨rfl, good_end (unhide HBEL) _ _ _ _⟩

theorem readName_name (ws : List ByteArray) (s : ByteArray) (k e : Nat) (w : World) (hs : s.size ≤ 3000) (hk : k < s.size) (he : pastN lodB s k = e) (hke : k ≤ e) (hes : e ≤ s.size) (hw : isIn ws (s.extract k e) = false) (h20 : ¬ 20 < e - k) (hn : ws.length = 19) (t : TypeId) (fr : Nat × Nat)
    (hg : w.heap[2]? = some (.cells (ws.map Value.string).toArray t fr)) :
    Calls Tryz.prog 152 #[.string s, .int .i64 (k : Int)] w (RPost k (.tok 1 (s.extract k e) 0 e) w) := by
  have hlt : 2 < w.heap.size := (Array.getElem?_eq_some_iff.1 hg).1
  have HE := hide he
  have HG := hide hg
  have HN := hide hn
  have HW := hide hw
  clear hg hn he hw
  go_enter Tryz.func152, Tryz.ntmps152
  go_wp2_with fail
  refine (lod_any _).mono ?_
  rintro e1 w1 ⟨x, rfl, hx, hbel⟩
  obtain ⟨hc, hf⟩ := bcell hbel
  have HBEL := hide hbel
  have HX := hide hx
  clear hx hbel
  go_wp2_with fail
  have hpast := past_any s k x lodB w1 (by unfold maxLen; omega) (by omega) (unhide HX)
  rw [unhide HE] at hpast
  refine hpast.mono ?_
  clear hpast
  rintro e2 w2 ⟨rfl, rfl⟩
  have HG2 : Hid (w2.heap[2]? = some (.cells (ws.map Value.string).toArray t fr)) := by
    show _ = _
    rw [(unhide HBEL).block 2 (by simp; omega), Below.heap_alloc w _ 2 hlt]; exact unhide HG
  go_wp2_with fail
  refine (isWord_any ws (s.extract k e) w2 (unhide HN) t fr (unhide HG2)).mono ?_
  rw [unhide HW]
  rintro e3 w3 ⟨rfl, rfl⟩
  go_wp2_with fail
  exact bodyPost_ret (v := .tuple #[.agg #[.int .i64 1, .string (s.extract k e), .int .i64 0, .int .i64 (k : Int)], .int .i64 (e : Int), .nilIface]) (by simp [results, Tryz.results152, go_sem, hc]) rfl ⟨rfl, good_end (unhide HBEL) _ _ _ _⟩

theorem readName_long (ws : List ByteArray) (s : ByteArray) (k e : Nat) (w : World) (hs : s.size ≤ 3000) (hk : k < s.size) (he : pastN lodB s k = e) (hke : k ≤ e) (hes : e ≤ s.size) (hw : isIn ws (s.extract k e) = false) (h20 : 20 < e - k) (hn : ws.length = 19) (t : TypeId) (fr : Nat × Nat)
    (hg : w.heap[2]? = some (.cells (ws.map Value.string).toArray t fr)) :
    Calls Tryz.prog 152 #[.string s, .int .i64 (k : Int)] w (RPost k (.bad 4 k) w) := by
  have hlt : 2 < w.heap.size := (Array.getElem?_eq_some_iff.1 hg).1
  have HE := hide he
  have HG := hide hg
  have HN := hide hn
  have HW := hide hw
  clear hg hn he hw
  go_enter Tryz.func152, Tryz.ntmps152
  go_wp2_with fail
  refine (lod_any _).mono ?_
  rintro e1 w1 ⟨x, rfl, hx, hbel⟩
  obtain ⟨hc, hf⟩ := bcell hbel
  have HBEL := hide hbel
  have HX := hide hx
  clear hx hbel
  go_wp2_with fail
  have hpast := past_any s k x lodB w1 (by unfold maxLen; omega) (by omega) (unhide HX)
  rw [unhide HE] at hpast
  refine hpast.mono ?_
  clear hpast
  rintro e2 w2 ⟨rfl, rfl⟩
  have HG2 : Hid (w2.heap[2]? = some (.cells (ws.map Value.string).toArray t fr)) := by
    show _ = _
    rw [(unhide HBEL).block 2 (by simp; omega), Below.heap_alloc w _ 2 hlt]; exact unhide HG
  go_wp2_with fail
  refine (isWord_any ws (s.extract k e) w2 (unhide HN) t fr (unhide HG2)).mono ?_
  rw [unhide HW]
  rintro e3 w3 ⟨rfl, rfl⟩
  go_wp2_with fail
  refine (fail_any _ _ _).mono ?_
  rintro e4 w4 ⟨b, rfl, hb, hlb, hbel2⟩
  have hbel := (unhide HBEL).trans (hbel2.mono (unhide HBEL).size)
  have hlb2 := Nat.le_trans (unhide HBEL).size hlb
  clear hc hf
  obtain ⟨hc, hf⟩ := bcell hbel
  have HB := hide hb
  have HBEL2 := hide hbel
  clear hb hbel hbel2 hlb
  go_wp2_with fail
  exact bodyPost_ret (v := .tuple #[noTok, .int .i64 0, .iface 129 (.pointer (some ⟨b, 0, none⟩))]) (by simp [results, Tryz.results152, go_sem, hc]) rfl ⟨b, rfl, bad_end (unhide HBEL2) hlb2 (unhide HB) _ _ _ _⟩

theorem readName_any (ws : List ByteArray) (s : ByteArray) (k : Nat) (w : World) (hs : s.size ≤ 3000) (hk : k < s.size) (hn : ws.length = 19) (t : TypeId) (fr : Nat × Nat)
    (hg : w.heap[2]? = some (.cells (ws.map Value.string).toArray t fr)) :
    Calls Tryz.prog 152 #[.string s, .int .i64 (k : Int)] w (RPost k (rdName ws s k) w) := by
  have hke := pastN_ge lodB s k
  have hes := pastN_le lodB s k (by omega)
  cases hw : isIn ws (s.extract k (pastN lodB s k))
  · by_cases h20 : 20 < pastN lodB s k - k
    · have hr : rdName ws s k = .bad 4 k := by unfold rdName; rw [hw]; simp [h20]
      rw [hr]; exact readName_long ws s k _ w hs hk rfl hke hes hw h20 hn t fr hg
    · have hr : rdName ws s k = .tok 1 (s.extract k (pastN lodB s k)) 0 (pastN lodB s k) := by unfold rdName; rw [hw]; simp [h20]
      rw [hr]; exact readName_name ws s k _ w hs hk rfl hke hes hw h20 hn t fr hg
  · have hr : rdName ws s k = .tok 2 (s.extract k (pastN lodB s k)) 0 (pastN lodB s k) := by unfold rdName; rw [hw]; simp
    rw [hr]; exact readName_word ws s k _ w hs hk rfl hke hes hw hn t fr hg


/-- The number that digits write. -/
def numL (l : List UInt8) : Int := l.foldl (fun n b => n * 10 + ((b.toNat : Int) - 48)) 0

theorem numL_snoc (l : List UInt8) (b : UInt8) : numL (l ++ [b]) = numL l * 10 + ((b.toNat : Int) - 48) := by simp [numL, List.foldl_append]

theorem num_from (l : List UInt8) : ∀ (n : Int), 0 ≤ n → (∀ b ∈ l, digB (b.toNat : Int) = true) →
    0 ≤ l.foldl (fun n b => n * 10 + ((b.toNat : Int) - 48)) n ∧ l.foldl (fun n b => n * 10 + ((b.toNat : Int) - 48)) n < (n + 1) * 10 ^ l.length := by
  induction l with
  | nil => intro n h0 _; simp; omega
  | cons b l ih =>
    intro n h0 h
    have hb := h b (by simp)
    simp [digB, btwB] at hb
    have h1 := ih (n * 10 + ((b.toNat : Int) - 48)) (by omega) (fun c hc => h c (by simp [hc]))
    refine ⟨h1.1, Int.lt_of_lt_of_le h1.2 ?_⟩
    rw [List.length_cons, Int.pow_succ, Int.mul_comm ((10 : Int) ^ l.length) 10, ← Int.mul_assoc]
    exact Int.mul_le_mul_of_nonneg_right (by omega) (Int.pow_nonneg (by omega))

theorem numL_bound (l : List UInt8) (h : ∀ b ∈ l, digB (b.toNat : Int) = true) : 0 ≤ numL l ∧ numL l < 10 ^ l.length := by
  have h1 := num_from l 0 (Int.le_refl _) h
  refine ⟨h1.1, ?_⟩
  have h2 := h1.2
  rw [Int.zero_add, Int.one_mul] at h2
  exact h2

theorem digit_take (x : ByteArray) (hd : ∀ i, (hi : i < x.size) → digB (x[i].toNat : Int) = true) (k : Nat) : ∀ b ∈ x.data.toList.take k, digB (b.toNat : Int) = true := by
  intro b hb
  obtain ⟨i, hi, rfl⟩ := List.getElem_of_mem hb
  have hi' : i < x.data.toList.length := by simp at hi; simp; omega
  have hs : i < x.size := by
    have h4 : x.data.toList.length = x.size := by simp
    omega
  rw [List.getElem_take]
  exact hd i hs

theorem take_snoc (s : ByteArray) (k : Nat) (h : k < s.size) : s.data.toList.take (k + 1) = s.data.toList.take k ++ [s[k]] := by
  rw [List.take_succ_eq_append_getElem (by simpa using h)]; rfl

theorem conv_bytes (x : ByteArray) (w : World) : ∃ cap W1, (convert 9 82 (.string x)).run Tryz.prog w = .ok (.slice (some ⟨w.heap.size, 0, none⟩) x.size cap) W1 ∧ Below w.heap.size w W1 ∧
    ∀ i, (hi : i < x.size) → W1.cell? ⟨w.heap.size, i, none⟩ = some (.int .u8 (x[i].toNat : Int)) := by
  refine ⟨_, _, run_bytes_of_string w 9 82 5 x Tryz.underlying9 Tryz.underlying82 Tryz.underlying5, ((Below.refl _ _).drew.alloc (Nat.le_refl _) _), ?_⟩
  intro i hi
  have hh := heap_alloc_new w.drew (.cells (bytesRow x (grownCap w x.size 0 5)) 5 ((bytesRow x (grownCap w x.size 0 5)).size, (bytesRow x (grownCap w x.size 0 5)).size + 1))
  have hh2 : (w.drew.alloc (.cells (bytesRow x (grownCap w x.size 0 5)) 5 ((bytesRow x (grownCap w x.size 0 5)).size, (bytesRow x (grownCap w x.size 0 5)).size + 1))).heap[w.heap.size]? = some (.cells (bytesRow x (grownCap w x.size 0 5)) 5 ((bytesRow x (grownCap w x.size 0 5)).size, (bytesRow x (grownCap w x.size 0 5)).size + 1)) := hh
  have hi2 : i < x.data.size := hi
  simp only [World.cell?, hh2]
  have h3 : (bytesRow x (grownCap w x.size 0 5))[i]? = some (.int .u8 (x[i].toNat : Int)) := by
    unfold bytesRow
    rw [Array.getElem?_append_left (by simpa using hi2), Array.getElem?_map, Array.getElem?_eq_getElem hi2]
    rfl
  simpa using h3

theorem pow10_le {n : Nat} (h : n ≤ 10) : (10 : Int) ^ n ≤ 10000000000 := by
  have : ∀ m : Fin 11, (10 : Int) ^ m.val ≤ 10000000000 := by decide
  exact this ⟨n, by omega⟩

theorem iatoi_any (x : ByteArray) (w : World) (h1 : 1 ≤ x.size) (h2 : x.size ≤ 10) (hd : ∀ i, (hi : i < x.size) → digB (x[i].toNat : Int) = true) :
    Calls Tryz.prog 144 #[.string x] w fun e w' => e = .returned (.tuple #[.int .i64 (numL x.data.toList), .nilIface]) ∧ Below w.heap.size w w' := by
  obtain ⟨cap, W1, hcv, hbel, hcell⟩ := conv_bytes x w
  have h0 := hd 0 h1
  simp [digB, btwB] at h0
  obtain ⟨h0a, h0b⟩ := h0
  have e45 : (((x[0].toNat : Nat) : Int) == 45) = false := beq_eq_false_iff_ne.2 (by omega)
  have e43 : (((x[0].toNat : Nat) : Int) == 43) = false := beq_eq_false_iff_ne.2 (by omega)
  have HBEL := hide hbel
  have HCELL := hide hcell
  have HD := hide hd
  clear hbel hcell hd
  go_enter Tryz.func144, Tryz.ntmps144
  go_wp2
  go_loop [6, 8, 49] (fun n _ i => ∃ k : Nat, k ≤ x.size ∧ i = .int .i64 k ∧ n = .int .i64 (numL (x.data.toList.take k))) (fun _ _ i => x.size - (intOf i).toNat)
  case atStart => exact ⟨0, Nat.zero_le _, rfl, rfl⟩
  case round =>
    obtain ⟨k, hk, rfl, rfl⟩ := hrel
    by_cases hlt : k < x.size
    · have hck := unhide HCELL k hlt
      have hdk := unhide HD k hlt
      simp [digB, btwB] at hdk
      obtain ⟨ha, hb⟩ := hdk
      have hnb := numL_bound _ (digit_take x (unhide HD) k)
      have hl : (x.data.toList.take k).length ≤ 10 := by simp; omega
      have hp := pow10_le hl
      obtain ⟨hn0, hn1⟩ := hnb
      have hn2 : numL (x.data.toList.take k) < 10000000000 := by omega
      have HS := hide (numL_snoc (x.data.toList.take k) x[k])
      have HT := hide (take_snoc x k hlt)
      obtain ⟨N, hN⟩ : ∃ N, N = numL (x.data.toList.take k) := ⟨_, rfl⟩
      rw [← hN] at hn0 hn2 ⊢
      have HN := hide hN
      clear hN hn1 hp hl
      go_wp2
      exact ⟨⟨k + 1, by omega, by go_num, by rw [unhide HT, unhide HS, ← unhide HN]⟩, by simp [intOf]; omega⟩
    · have HT : Hid (x.data.toList.take k = x.data.toList) := List.take_of_length_le (by simp; omega)
      go_wp2
      go_ret2
      refine ⟨?_, unhide HBEL⟩
      rw [unhide HT]
      rfl

end Go.Proofs.YtodmgaikhbmlnaaGreatDoor
