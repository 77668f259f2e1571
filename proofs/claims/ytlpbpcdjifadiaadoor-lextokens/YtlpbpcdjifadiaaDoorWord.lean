/-
  Walks of IsWord (the project's, an array's loop) and of IsWord and has (the reference's, a slice's loop): each answers whether the text is on the list.
-/
import Derived.Test.YtlpbpcdjifadiaaDoorLeaf
import Derived.Laws.Rows
namespace Go.Proofs.YtlpbpcdjifadiaaDoor
open Go.RowKit

def isIn (ws : List ByteArray) (s : ByteArray) : Bool := ws.any (fun x => x.toList == s.toList)

theorem isIn_take_zero (ws : List ByteArray) (s : ByteArray) : isIn (ws.take 0) s = false := rfl
theorem isIn_take_succ (ws : List ByteArray) (s : ByteArray) (k : Nat) (h : k < ws.length) (h0 : isIn (ws.take k) s = false) (h1 : (ws[k].toList == s.toList) = false) : isIn (ws.take (k + 1)) s = false := by
  unfold isIn at *
  rw [List.take_succ_eq_append_getElem h, List.any_append, h0]
  simpa using h1
theorem isIn_hit (ws : List ByteArray) (s : ByteArray) (k : Nat) (h : k < ws.length) (h1 : (ws[k].toList == s.toList) = true) : isIn ws s = true := by
  unfold isIn
  exact List.any_eq_true.2 ⟨ws[k], List.getElem_mem h, h1⟩

set_option maxHeartbeats 400000 in
theorem has_any (a : Addr) (cap : Nat) (ws : List ByteArray) (s : ByteArray) (w : World) (hn : ws.length ≤ 1000)
    (hc : ∀ i, i < ws.length → w.cell? (a.add i) = some (.string (ws.getD i ByteArray.empty))) :
    Calls Tryd.prog 25 #[.slice (some a) ws.length cap, .string s] w fun e w' => e = .returned (.bool (isIn ws s)) ∧ w' = w := by
  go_enter Tryd.func25, Tryd.ntmps25
  go_wp2
  go_loop [6, 9] (fun _ i => ∃ k : Nat, k ≤ ws.length ∧ i = .int .i64 k ∧ isIn (ws.take k) s = false) (fun _ i => ws.length - (intOf i).toNat)
  case atStart => exact ⟨0, Nat.zero_le _, rfl, rfl⟩
  case round =>
    obtain ⟨k, hk, rfl, he⟩ := hrel
    have HE := hide he
    clear he
    by_cases hlt : k < ws.length
    · have hck := hc k hlt
      clear hc
      go_wp2
      · go_ret
        exact ⟨ret_bool (isIn_hit ws s k hlt ‹_›).symm, rfl⟩
      · exact ⟨⟨k + 1, by omega, by go_num, isIn_take_succ ws s k hlt (unhide HE) ‹_›⟩, by simp [intOf]; omega⟩
    · clear hc
      go_wp2
      go_ret
      exact ⟨ret_bool (by have := unhide HE; rw [List.take_of_length_le (by omega)] at this; exact this.symm), rfl⟩

theorem idx53 (cs : Array Value) (k : Nat) (hk : k < 19) (x : ByteArray) (hx : cs[k]? = some (.string x)) (w : World) :
    (Instr.index 53 (.agg cs) (.int .i64 (k : Int))).run Tryd.prog w = .ok (.string x) w := by
  simp [Instr.index, run_underlying Tryd.underlying53, asIntOf, go_sem, hk, hx]

set_option maxHeartbeats 400000 in
theorem isWord_any (ws : List ByteArray) (s : ByteArray) (w : World) (hn : ws.length = 19) (t : TypeId) (fr : Nat × Nat)
    (hg : w.heap[1]? = some (.cells (ws.map Value.string).toArray t fr)) :
    Calls Tryd.prog 11 #[.string s] w fun e w' => e = .returned (.bool (isIn ws s)) ∧ w' = w := by
  obtain ⟨cs, hcs⟩ : ∃ cs, cs = (ws.map Value.string).toArray := ⟨_, rfl⟩
  rw [← hcs] at hg
  have hsz : cs.size = 19 := by rw [hcs]; simpa using hn
  have hix : ∀ k : Nat, k < 19 → ∀ W, (Instr.index 53 (.agg cs) (.int .i64 (k : Int))).run Tryd.prog W = .ok (.string (ws.getD k ByteArray.empty)) W := fun k hk W =>
    idx53 cs k hk _ (by rw [hcs]; simp [hn, hk]) W
  have HIX := hide hix
  have Hcs := hide hcs
  have Hsz := hide hsz
  have Hg := hide hg
  clear hix hcs hsz hg
  go_enter Tryd.func11, Tryd.ntmps11
  go_wp2_with (refine wpList_load_row rfl 53 _ rfl 1 rfl t cs fr _ (unhide Hg) Tryd.underlying53 rfl (by rw [unhide Hsz]; kernel_rfl) ?_)
  go_loop [4, 6] (fun _ i => ∃ k : Nat, k ≤ 19 ∧ i = .int .i64 k ∧ isIn (ws.take k) s = false) (fun _ i => 19 - (intOf i).toNat)
  case atStart => exact ⟨0, Nat.zero_le _, rfl, rfl⟩
  case round =>
    obtain ⟨k, hk, rfl, he⟩ := hrel
    have HE := hide he
    clear he
    by_cases hlt : k < 19
    · have hck := unhide HIX k hlt
      go_wp2
      · go_ret
        exact ⟨ret_bool (isIn_hit ws s k (by omega) (by rw [BEq.comm]; assumption)).symm, rfl⟩
      · exact ⟨⟨k + 1, by omega, by go_num, isIn_take_succ ws s k (by omega) (unhide HE) (by rw [BEq.comm]; assumption)⟩, by simp [intOf]; omega⟩
    · go_wp2
      go_ret
      exact ⟨ret_bool (by have := unhide HE; rw [List.take_of_length_le (by omega)] at this; exact this.symm), rfl⟩

set_option maxHeartbeats 400000 in
theorem refIsWord_any (a : Addr) (cap : Nat) (ws : List ByteArray) (s : ByteArray) (w : World) (hn : ws.length = 19)
    (hg : w.cell? ⟨2, 0, none⟩ = some (.slice (some a) 19 cap))
    (hc : ∀ i, i < ws.length → w.cell? (a.add i) = some (.string (ws.getD i ByteArray.empty))) :
    Calls Tryd.prog 12 #[.string s] w fun e w' => e = .returned (.bool (isIn ws s)) ∧ w' = w := by
  have HC := hide hc
  have HN := hide hn
  clear hc hn
  go_enter Tryd.func12, Tryd.ntmps12
  go_wp2_with fail
  have hh := has_any a cap ws s w (by rw [unhide HN]; omega) (unhide HC)
  rw [unhide HN] at hh
  refine hh.mono ?_
  rintro e w' ⟨rfl, rfl⟩
  go_wp2_with fail
  go_ret
  exact ⟨rfl, rfl⟩

end Go.Proofs.YtlpbpcdjifadiaaDoor
