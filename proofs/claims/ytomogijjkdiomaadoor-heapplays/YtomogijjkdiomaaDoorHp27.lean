/-
  What is done to both heaps: read, found; what a new object and a new scope are to the document's own.
-/
import Derived.Test.YtomogijjkdiomaaDoorHp26
set_option maxRecDepth 100000
set_option maxHeartbeats 16000000
namespace Go.Proofs.YtomogijjkdiomaaDoor
open Go.RowKit

section
variable {H R : Nat} {M M' : Mo} {k : Nat}
theorem finds_ex (hM : M.Ok) (nm : ByteArray) : ∀ (m : Nat) (i : Int), i < m → ∃ r, M.Finds nm i r
  | 0, i, h => ⟨-1, .out i (by simp [Mo.ro]; omega)⟩
  | m + 1, i, h => by
    rcases ro_cases M i with ⟨e0, _⟩ | ⟨j, x, rfl, hx, _⟩
    · exact ⟨-1, .out i e0⟩
    · by_cases hh : M.has j nm = true
      · exact ⟨j, .here j x hx hh⟩
      · have ho := (hM.out j x hx).2
        obtain ⟨r, hr⟩ := finds_ex hM nm m x.outer (by omega)
        exact ⟨r, .on j x r hx (by simpa using hh) ho hr⟩
theorem step_find (hM : M.Inv k) (hk : k < 1000) (s : Int) (nm : ByteArray) :
    ∃ r : Int, Alike H R M M 22 23 #[pH H, .int .i64 s, .string nm] #[pH R, .int .i64 s, .string nm] (.int .i64 r) (.int .i64 r) := by
  obtain ⟨r, hr⟩ := finds_ex hM.ok nm (s.toNat + 1) s (by omega)
  refine ⟨r, fun W hW => ?_, fun W hW => ?_⟩
  · obtain ⟨a, b, c, d, h⟩ := hW
    exact stayH ⟨a, b, c, d, h⟩ (find_any h hM.small (by omega) s r nm hr)
  · obtain ⟨a, b, c, d, e, h⟩ := hW
    exact stayR ⟨a, b, c, d, e, h⟩ (rfind_any h hM.small (by omega) hM.ok s r nm hr)
def rdV (e n : Int) : Value := if e = 0 then vA n else .agg #[.int .i64 0, .int .i64 0, .string ⟨#[]⟩]
theorem step_read (hM : M.Inv k) (hk : k < 1000) (s : Int) (nm : ByteArray) :
    ∃ e n : Int, (e ≠ 0 → n = 0) ∧ Alike H R M M 20 21 #[pH H, .int .i64 s, .string nm] #[pH R, .int .i64 s, .string nm] (.tuple #[rdV e n, errW e]) (.tuple #[.int .i64 n, .int .i64 e]) := by
  have hR : ∀ e n, M.readP s nm = (n, e) → ∀ W, HeapR R W M → Calls Tryd.prog 21 #[pH R, .int .i64 s, .string nm] W fun x w' => x = .returned (.tuple #[.int .i64 n, .int .i64 e]) ∧ HeapR R w' M ∧ FrT Tr R W w' := fun e n he W hW => by
    obtain ⟨_, _, _, _, _, h⟩ := hW
    have := rread_any h hM.small (by omega) hM.ok s nm
    rw [he] at this
    exact stayR ⟨_, _, _, _, _, h⟩ this
  rcases hc : M.cel s nm with _ | c
  · rcases hp : M.prop (M.objOf s) nm with _ | p
    · refine ⟨7, 0, fun _ => rfl, fun W hW => ?_, hR 7 0 (by simp [Mo.readP, hc, hp])⟩
      obtain ⟨_, _, _, _, h⟩ := hW
      exact stayH ⟨_, _, _, _, h⟩ (read_prop h hM.small (by omega) s nm hc _ 0 0 rfl _ fun W2 h2 => rprop_no (h.later h2) hM.small (by omega) _ nm hp)
    · refine ⟨0, p.v, fun h => absurd rfl h, fun W hW => ?_, hR 0 p.v (by simp [Mo.readP, hc, hp])⟩
      obtain ⟨_, _, _, _, h⟩ := hW
      exact stayH ⟨_, _, _, _, h⟩ (read_prop h hM.small (by omega) s nm hc _ 3 p.v rfl _ fun W2 h2 => rprop_yes (h.later h2) hM.small (by omega) _ nm hp)
  · by_cases hr : c.ready = true
    · refine ⟨0, c.v, fun h => absurd rfl h, fun W hW => ?_, hR 0 c.v (by simp [Mo.readP, hc, hr])⟩
      obtain ⟨_, _, _, _, h⟩ := hW
      have := read_cel h hM.small (by omega) s nm hc
      rw [if_pos hr] at this
      exact stayH ⟨_, _, _, _, h⟩ this
    · refine ⟨6, 0, fun _ => rfl, fun W hW => ?_, hR 6 0 (by simp [Mo.readP, hc, hr])⟩
      obtain ⟨_, _, _, _, h⟩ := hW
      have := read_cel h hM.small (by omega) s nm hc
      rw [if_neg hr] at this
      exact stayH ⟨_, _, _, _, h⟩ this
theorem Mo.Inv.pushO (h : M.Inv k) (c : Int) : (⟨M.objs ++ [⟨c, []⟩], M.rooms⟩ : Mo).Inv (k + 1) := by
  have key : ∀ (j : Nat) y, (M.objs ++ [(⟨c, []⟩ : Ob)])[j]? = some y → M.objs[j]? = some y ∨ y = ⟨c, []⟩ := fun j y hj => by
    rcases List.mem_append.1 (List.mem_of_getElem? hj) with _ | h2
    · by_cases hl : j < M.objs.length
      · rw [List.getElem?_append_left hl] at hj; exact .inl hj
      · rw [List.getElem?_append_right (by omega)] at hj
        exact .inr (by simpa using List.mem_of_getElem? hj)
    · exact .inr (by simpa using h2)
  refine ⟨⟨h.ok.out, fun j y hj => ?_, h.ok.emp, fun j y hj => ?_, h.ok.uc⟩, ⟨?_, Nat.le_succ_of_le h.small.r, fun y hy => ?_, fun y hy => Nat.le_succ_of_le (h.small.cs y hy)⟩, fun j y hj => ?_⟩
  · have := h.ok.obj j y hj
    simp; omega
  · rcases key j y hj with hj | rfl
    · exact h.ok.up j y hj
    · intro i j a b ha; simp at ha
  · have := h.small.o
    simp; omega
  · rcases List.mem_append.1 hy with hy | hy
    · exact Nat.le_succ_of_le (h.small.ps y hy)
    · rw [List.mem_singleton.1 hy]; exact Nat.zero_le _
  · rcases key j y hj with hj | rfl
    · exact h.short j y hj
    · intro p hp; simp at hp
theorem Mo.Inv.pushR (h : M.Inv k) (a b : Int) (ha : -1 ≤ a ∧ a < M.rooms.length) (hb : -1 ≤ b ∧ b < M.objs.length) : (⟨M.objs, M.rooms ++ [⟨a, b, []⟩]⟩ : Mo).Inv (k + 1) := by
  have key : ∀ (j : Nat) y, (M.rooms ++ [(⟨a, b, []⟩ : Ro)])[j]? = some y → M.rooms[j]? = some y ∨ (j = M.rooms.length ∧ y = ⟨a, b, []⟩) := fun j y hj => by
    by_cases hl : j < M.rooms.length
    · rw [List.getElem?_append_left hl] at hj; exact .inl hj
    · have hle := (List.getElem?_eq_some_iff.1 hj).1
      simp at hle
      have : j = M.rooms.length := by omega
      subst this
      simp at hj
      exact .inr ⟨rfl, hj.symm⟩
  refine ⟨⟨fun j y hj => ?_, fun j y hj => ?_, fun j y hj => ?_, h.ok.up, fun j y hj => ?_⟩, ⟨Nat.le_succ_of_le h.small.o, ?_, fun y hy => Nat.le_succ_of_le (h.small.ps y hy), fun y hy => ?_⟩, h.short⟩
  · rcases key j y hj with hj | ⟨rfl, rfl⟩
    · exact h.ok.out j y hj
    · exact ha
  · rcases key j y hj with hj | ⟨rfl, rfl⟩
    · exact h.ok.obj j y hj
    · exact hb
  · rcases key j y hj with hj | ⟨rfl, rfl⟩
    · exact h.ok.emp j y hj
    · intro _; rfl
  · rcases key j y hj with hj | ⟨rfl, rfl⟩
    · exact h.ok.uc j y hj
    · intro i j a b ha; simp at ha
  · have := h.small.r
    simp; omega
  · rcases List.mem_append.1 hy with hy | hy
    · exact Nat.le_succ_of_le (h.small.cs y hy)
    · rw [List.mem_singleton.1 hy]; exact Nat.zero_le _
variable {w w1 w2 : World} {cv pv rv : Value} {ps rs : List Value}
/-- A new object: what lies in the document's own codes and properties. -/
theorem WP.pushO (h : WP R w M cv pv rv ps rs) (c : Int) {cv' pv' : Value} (g1 : w.grownBy w1 cv.ownBlock) (o1 : w1.ownsRow R 3 1 cv' (M.objs.length + 1) ((M.objs.map fun o => .int .i64 o.code) ++ [.int .i64 c]))
    (g2 : w1.grownBy w2 pv.ownBlock) (o2 : w2.ownsRow R 90 1 pv' (M.objs.length + 1) (flat (M.objs.map Ob.r) ps ++ [.slice none 0 0])) :
    WP R ((w2.setCell ⟨R, 0, none⟩ cv').setCell ⟨R, 1, none⟩ pv') ⟨M.objs ++ [⟨c, []⟩], M.rooms⟩ cv' pv' rv (ps ++ [.slice none 0 0]) rs ∧ FrT Tr R w ((w2.setCell ⟨R, 0, none⟩ cv').setCell ⟨R, 1, none⟩ pv') := by
  have hRl := Nat.le_of_lt (lt_of_block h.blk)
  have f0 : FrT [3] R w w1 := FrT.grown g1 hRl fun k hk => by
    obtain ⟨c, hc⟩ := row_tag h.co hk
    exact ⟨(h.co.lt k hk).1, c, 3, hc, by simp⟩
  have hRl1 : R ≤ w1.heap.size := Nat.le_trans hRl g1.size
  obtain ⟨t1, f1⟩ := (h.ob.keep f0 (by decide) (by decide)).push hRl1 [] rfl g2 (by rw [List.length_map]; exact o2)
  have hb1 := f1.rest R _ 32 (f0.rest R _ 32 h.blk (by decide)) (by decide)
  have f2 : FrT [32] R w2 (w2.setCell ⟨R, 0, none⟩ cv') := FrT.setCell (FrT.of (Below.refl _ _) (Nat.le_of_lt (lt_of_block hb1))) hb1 (by simp) (Nat.le_refl _) _
  have hb2 : (w2.setCell ⟨R, 0, none⟩ cv').heap[R]? = some (.cells #[cv', pv, rv] 32 (0, 0)) := by
    rw [heap_setCell_same w2 R 0 _ 32 _ hb1]; rfl
  have f3 : FrT [32] R (w2.setCell ⟨R, 0, none⟩ cv') ((w2.setCell ⟨R, 0, none⟩ cv').setCell ⟨R, 1, none⟩ pv') := FrT.setCell (FrT.of (Below.refl _ _) (Nat.le_of_lt (lt_of_block hb2))) hb2 (by simp) (Nat.le_refl _) _
  refine ⟨⟨?_, ?_, ?_, (((h.ro.keep f0 (by decide) (by decide)).keep f1 (by decide) (by decide)).keep f2 (by decide) (by decide)).keep f3 (by decide) (by decide)⟩, (((f0.mono (by decide) (Nat.le_refl _)).trans (f1.mono (by decide) (Nat.le_refl _))).trans (f2.mono (by decide) (Nat.le_refl _))).trans (f3.mono (by decide) (Nat.le_refl _))⟩
  · rw [heap_setCell_same _ R 1 _ 32 _ hb2]; rfl
  · have := row_keep (row_keep (row_keep o1 f1 (by decide)) f2 (by decide)) f3 (by decide)
    rw [List.map_append, List.length_append]
    exact this
  · have := (t1.keep f2 (by decide) (by decide)).keep f3 (by decide) (by decide)
    rw [List.map_append]
    exact this
theorem WP.pushR (h : WP R w M cv pv rv ps rs) (a b : Int) {rv' : Value} (hgr : w.grownBy w1 rv.ownBlock) (hown : w1.ownsRow R 42 3 rv' (M.rooms.length + 1) (flat (M.rooms.map Ro.r) rs ++ [.int .i64 a, .int .i64 b, .slice none 0 0])) :
    WP R (w1.setCell ⟨R, 2, none⟩ rv') ⟨M.objs, M.rooms ++ [⟨a, b, []⟩]⟩ cv pv rv' ps (rs ++ [.slice none 0 0]) ∧ FrT Tr R w (w1.setCell ⟨R, 2, none⟩ rv') := by
  obtain ⟨t1, f1⟩ := h.ro.push (Nat.le_of_lt (lt_of_block h.blk)) [.int .i64 a, .int .i64 b] rfl hgr (by rw [List.length_map]; exact hown)
  have hb1 := f1.rest R _ 32 h.blk (by decide)
  have f2 : FrT [32] R w1 (w1.setCell ⟨R, 2, none⟩ rv') := FrT.setCell (FrT.of (Below.refl _ _) (Nat.le_of_lt (lt_of_block hb1))) hb1 (by simp) (Nat.le_refl _) _
  refine ⟨⟨?_, row_keep (row_keep h.co f1 (by decide)) f2 (by decide), (h.ob.keep f1 (by decide) (by decide)).keep f2 (by decide) (by decide), ?_⟩, (f1.mono (by decide) (Nat.le_refl _)).trans (f2.mono (by decide) (Nat.le_refl _))⟩
  · rw [heap_setCell_same w1 R 2 _ 32 _ hb1]; rfl
  · have := t1.keep f2 (by decide) (by decide)
    rw [List.map_append]
    exact this
/-- A new scope, of any outer one and any object there are. -/
theorem scope_all (hM : M.Inv k) (hk : k < 1000) (a b : Int) (ha : -1 ≤ a ∧ a < M.rooms.length) (hb : -1 ≤ b ∧ b < M.objs.length) (W : World) (hW : HeapH H W M) :
    Calls Tryd.prog 6 #[pH H, .int .i64 a, .int .i64 b] W fun e w' => e = .returned (.int .i64 (M.rooms.length : Int)) ∧ HeapH H w' ⟨M.objs, M.rooms ++ [⟨a, b, []⟩]⟩ ∧ FrT Th H W w' := by
  obtain ⟨_, _, _, _, h⟩ := hW
  by_cases h1 : a = -1
  · subst h1
    by_cases h2 : b = -1
    · subst h2; exact scope_nn h hM.small (by omega)
    · obtain ⟨j, rfl⟩ := Int.eq_ofNat_of_zero_le (show 0 ≤ b by omega)
      exact scope_ny h hM.small (by omega) j _ (List.getElem?_eq_getElem (by omega))
  · obtain ⟨i, rfl⟩ := Int.eq_ofNat_of_zero_le (show 0 ≤ a by omega)
    by_cases h2 : b = -1
    · subst h2; exact scope_yn h hM.small (by omega) i _ (List.getElem?_eq_getElem (by omega))
    · obtain ⟨j, rfl⟩ := Int.eq_ofNat_of_zero_le (show 0 ≤ b by omega)
      exact scope_yy h hM.small (by omega) i _ (List.getElem?_eq_getElem (by omega)) j _ (List.getElem?_eq_getElem (by omega))
end
end Go.Proofs.YtomogijjkdiomaaDoor
