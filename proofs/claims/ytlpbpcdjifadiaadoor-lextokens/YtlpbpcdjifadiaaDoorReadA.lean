/-
  The walk of readName: a word, a name, or a name that is too long.
-/
import Derived.Test.YtlpbpcdjifadiaaDoorRead
namespace Go.Proofs.YtlpbpcdjifadiaaDoor
open Go.RowKit

theorem pastN_ge (p : Int → Bool) (s : ByteArray) (k : Nat) : k ≤ pastN p s k := by unfold pastN; omega

theorem good_end {w w1 : World} {o : Obj} (hbel : Below (w.alloc o).heap.size (w.alloc o) w1) (v0 v1 v2 v3 : Value) :
      Below w.heap.size w ((((w1.setCell ⟨w.heap.size, 0, none⟩ v0).setCell ⟨w.heap.size, 1, none⟩ v1).setCell ⟨w.heap.size, 2, none⟩ v2).setCell ⟨w.heap.size, 3, none⟩ v3) := by
  have hz : (w.alloc o).heap.size = w.heap.size + 1 := by simp
  have b0 : Below w.heap.size w (w.alloc o) := (Below.refl _ _).alloc (Nat.le_refl _) _
  have b1 : Below w.heap.size w w1 := b0.trans (hbel.mono (by omega))
  exact (((b1.setCell (Nat.le_refl _) _).setCell (Nat.le_refl _) _).setCell (Nat.le_refl _) _).setCell (Nat.le_refl _) _

/-- The word or name at a place. -/
def rdName (ws : List ByteArray) (s : ByteArray) (k : Nat) : Rd :=
  if isIn ws (s.extract k (pastN lodB s k)) = true then .tok 2 (s.extract k (pastN lodB s k)) 0 (pastN lodB s k)
  else if 20 < pastN lodB s k - k then .bad 4 k
  else .tok 1 (s.extract k (pastN lodB s k)) 0 (pastN lodB s k)

abbrev O35 : Obj := .cells #[.int .i64 0, .string ⟨#[]⟩, .int .i64 0, .int .i64 0] 35

set_option maxRecDepth 100000 in
set_option maxHeartbeats 1000000 in
theorem readName_word (ws : List ByteArray) (s : ByteArray) (k e : Nat) (w : World) (hs : s.size ≤ 3000) (hk : k < s.size) (he : pastN lodB s k = e) (hke : k ≤ e) (hes : e ≤ s.size) (hw : isIn ws (s.extract k e) = true) (hn : ws.length = 19) (t : TypeId) (fr : Nat × Nat)
    (hg : w.heap[1]? = some (.cells (ws.map Value.string).toArray t fr)) :
    Calls Tryd.prog 31 #[.string s, .int .i64 (k : Int)] w (RPost k (.tok 2 (s.extract k e) 0 e) w) := by
  have hlt : 1 < w.heap.size := (Array.getElem?_eq_some_iff.1 hg).1
  have HE := hide he
  have HG := hide hg
  have HN := hide hn
  have HW := hide hw
  clear hg hn he hw
  go_enter Tryd.func31, Tryd.ntmps31
  go_wp2_with fail
  refine (lod_any _).mono ?_
  rintro e1 w1 ⟨x, rfl, hx, hbel⟩
  obtain ⟨hc, hf⟩ := bcell hbel
  have HBEL := hide hbel
  have HX := hide hx
  clear hx hbel
  go_wp2_with fail
  have hpast := past_any s k x lodB w1 (by unfold maxLen; omega) (by omega) (unhide HX)
  rw [unhide HE] at hpast
  refine hpast.mono ?_
  clear hpast
  rintro e2 w2 ⟨rfl, rfl⟩
  have HG2 : Hid (w2.heap[1]? = some (.cells (ws.map Value.string).toArray t fr)) := by
    show _ = _
    rw [(unhide HBEL).block 1 (by simp; omega), Below.heap_alloc w _ 1 hlt]; exact unhide HG
  go_wp2_with fail
  refine (isWord_any ws (s.extract k e) w2 (unhide HN) t fr (unhide HG2)).mono ?_
  rw [unhide HW]
  rintro e3 w3 ⟨rfl, rfl⟩
  go_wp2_with fail
  exact bodyPost_ret (v := .tuple #[.agg #[.int .i64 2, .string (s.extract k e), .int .i64 0, .int .i64 (k : Int)], .int .i64 (e : Int), .nilIface]) (by simp [results, Tryd.results31, go_sem, hc]) rfl ⟨rfl, good_end (unhide HBEL) _ _ _ _⟩

set_option maxRecDepth 100000 in
set_option maxHeartbeats 1000000 in
theorem readName_name (ws : List ByteArray) (s : ByteArray) (k e : Nat) (w : World) (hs : s.size ≤ 3000) (hk : k < s.size) (he : pastN lodB s k = e) (hke : k ≤ e) (hes : e ≤ s.size) (hw : isIn ws (s.extract k e) = false) (h20 : ¬ 20 < e - k) (hn : ws.length = 19) (t : TypeId) (fr : Nat × Nat)
    (hg : w.heap[1]? = some (.cells (ws.map Value.string).toArray t fr)) :
    Calls Tryd.prog 31 #[.string s, .int .i64 (k : Int)] w (RPost k (.tok 1 (s.extract k e) 0 e) w) := by
  have hlt : 1 < w.heap.size := (Array.getElem?_eq_some_iff.1 hg).1
  have HE := hide he
  have HG := hide hg
  have HN := hide hn
  have HW := hide hw
  clear hg hn he hw
  go_enter Tryd.func31, Tryd.ntmps31
  go_wp2_with fail
  refine (lod_any _).mono ?_
  rintro e1 w1 ⟨x, rfl, hx, hbel⟩
  obtain ⟨hc, hf⟩ := bcell hbel
  have HBEL := hide hbel
  have HX := hide hx
  clear hx hbel
  go_wp2_with fail
  have hpast := past_any s k x lodB w1 (by unfold maxLen; omega) (by omega) (unhide HX)
  rw [unhide HE] at hpast
  refine hpast.mono ?_
  clear hpast
  rintro e2 w2 ⟨rfl, rfl⟩
  have HG2 : Hid (w2.heap[1]? = some (.cells (ws.map Value.string).toArray t fr)) := by
    show _ = _
    rw [(unhide HBEL).block 1 (by simp; omega), Below.heap_alloc w _ 1 hlt]; exact unhide HG
  go_wp2_with fail
  refine (isWord_any ws (s.extract k e) w2 (unhide HN) t fr (unhide HG2)).mono ?_
  rw [unhide HW]
  rintro e3 w3 ⟨rfl, rfl⟩
  go_wp2_with fail
  exact bodyPost_ret (v := .tuple #[.agg #[.int .i64 1, .string (s.extract k e), .int .i64 0, .int .i64 (k : Int)], .int .i64 (e : Int), .nilIface]) (by simp [results, Tryd.results31, go_sem, hc]) rfl ⟨rfl, good_end (unhide HBEL) _ _ _ _⟩

set_option maxRecDepth 100000 in
set_option maxHeartbeats 1000000 in
theorem readName_long (ws : List ByteArray) (s : ByteArray) (k e : Nat) (w : World) (hs : s.size ≤ 3000) (hk : k < s.size) (he : pastN lodB s k = e) (hke : k ≤ e) (hes : e ≤ s.size) (hw : isIn ws (s.extract k e) = false) (h20 : 20 < e - k) (hn : ws.length = 19) (t : TypeId) (fr : Nat × Nat)
    (hg : w.heap[1]? = some (.cells (ws.map Value.string).toArray t fr)) :
    Calls Tryd.prog 31 #[.string s, .int .i64 (k : Int)] w (RPost k (.bad 4 k) w) := by
  have hlt : 1 < w.heap.size := (Array.getElem?_eq_some_iff.1 hg).1
  have HE := hide he
  have HG := hide hg
  have HN := hide hn
  have HW := hide hw
  clear hg hn he hw
  go_enter Tryd.func31, Tryd.ntmps31
  go_wp2_with fail
  refine (lod_any _).mono ?_
  rintro e1 w1 ⟨x, rfl, hx, hbel⟩
  obtain ⟨hc, hf⟩ := bcell hbel
  have HBEL := hide hbel
  have HX := hide hx
  clear hx hbel
  go_wp2_with fail
  have hpast := past_any s k x lodB w1 (by unfold maxLen; omega) (by omega) (unhide HX)
  rw [unhide HE] at hpast
  refine hpast.mono ?_
  clear hpast
  rintro e2 w2 ⟨rfl, rfl⟩
  have HG2 : Hid (w2.heap[1]? = some (.cells (ws.map Value.string).toArray t fr)) := by
    show _ = _
    rw [(unhide HBEL).block 1 (by simp; omega), Below.heap_alloc w _ 1 hlt]; exact unhide HG
  go_wp2_with fail
  refine (isWord_any ws (s.extract k e) w2 (unhide HN) t fr (unhide HG2)).mono ?_
  rw [unhide HW]
  rintro e3 w3 ⟨rfl, rfl⟩
  go_wp2_with fail
  refine (fail_any _ _ _).mono ?_
  rintro e4 w4 ⟨b, rfl, hb, hlb, hbel2⟩
  have hbel := (unhide HBEL).trans (hbel2.mono (unhide HBEL).size)
  have hlb2 := Nat.le_trans (unhide HBEL).size hlb
  clear hc hf
  obtain ⟨hc, hf⟩ := bcell hbel
  have HB := hide hb
  have HBEL2 := hide hbel
  clear hb hbel hbel2 hlb
  go_wp2_with fail
  exact bodyPost_ret (v := .tuple #[noTok, .int .i64 0, .iface 58 (.pointer (some ⟨b, 0, none⟩))]) (by simp [results, Tryd.results31, go_sem, hc]) rfl ⟨b, rfl, bad_end (unhide HBEL2) hlb2 (unhide HB) _ _ _ _⟩

theorem readName_any (ws : List ByteArray) (s : ByteArray) (k : Nat) (w : World) (hs : s.size ≤ 3000) (hk : k < s.size) (hn : ws.length = 19) (t : TypeId) (fr : Nat × Nat)
    (hg : w.heap[1]? = some (.cells (ws.map Value.string).toArray t fr)) :
    Calls Tryd.prog 31 #[.string s, .int .i64 (k : Int)] w (RPost k (rdName ws s k) w) := by
  have hke := pastN_ge lodB s k
  have hes := pastN_le lodB s k (by omega)
  cases hw : isIn ws (s.extract k (pastN lodB s k))
  · by_cases h20 : 20 < pastN lodB s k - k
    · have hr : rdName ws s k = .bad 4 k := by unfold rdName; rw [hw]; simp [h20]
      rw [hr]; exact readName_long ws s k _ w hs hk rfl hke hes hw h20 hn t fr hg
    · have hr : rdName ws s k = .tok 1 (s.extract k (pastN lodB s k)) 0 (pastN lodB s k) := by unfold rdName; rw [hw]; simp [h20]
      rw [hr]; exact readName_name ws s k _ w hs hk rfl hke hes hw h20 hn t fr hg
  · have hr : rdName ws s k = .tok 2 (s.extract k (pastN lodB s k)) 0 (pastN lodB s k) := by unfold rdName; rw [hw]; simp
    rw [hr]; exact readName_word ws s k _ w hs hk rfl hke hes hw hn t fr hg

end Go.Proofs.YtlpbpcdjifadiaaDoor
