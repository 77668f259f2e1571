/-
  The document's own heap: how it lies; which numbers there are.
-/
import Derived.Test.YtomogijjkdiomaaDoorHp12
set_option maxRecDepth 100000
set_option maxHeartbeats 16000000
namespace Go.Proofs.YtomogijjkdiomaaDoor
open Go.RowKit

structure WP (R : Nat) (w : World) (M : Mo) (cv pv rv : Value) (ps rs : List Value) : Prop where
  blk : w.heap[R]? = some (.cells #[cv, pv, rv] 32 (0, 0))
  co : w.ownsRow R 3 1 cv M.objs.length (M.objs.map fun o => .int .i64 o.code)
  ob : Tb R 90 1 92 3 w pv (M.objs.map Ob.r) ps
  ro : Tb R 42 3 100 4 w rv (M.rooms.map Ro.r) rs
def HeapR (R : Nat) (w : World) (M : Mo) : Prop := ∃ cv pv rv ps rs, WP R w M cv pv rv ps rs
def Tr : List TypeId := [32, 3, 90, 92, 42, 100]
section
variable {R : Nat} {w w' : World} {M : Mo} {cv pv rv : Value} {ps rs : List Value} {K : Nat}
theorem WP.later (h : WP R w M cv pv rv ps rs) (hb : Below w.heap.size w w') : WP R w' M cv pv rv ps rs :=
  ⟨(hb.block R (lt_of_block h.blk)).trans h.blk, row_later h.co hb, h.ob.later hb, h.ro.later hb⟩
theorem WP.c (h : WP R w M cv pv rv ps rs) : w.cell? ⟨R, 0, none⟩ = some cv ∧ w.cell? ⟨R, 1, none⟩ = some pv ∧ w.cell? ⟨R, 2, none⟩ = some rv ∧ R < w.heap.size := by
  refine ⟨?_, ?_, ?_, lt_of_block h.blk⟩
  · simp [World.cell?, h.blk]
  · simp [World.cell?, h.blk]
  · simp [World.cell?, h.blk]
theorem WP.f (h : WP R w M cv pv rv ps rs) (j : Nat) : w.frozen? ⟨R, j, none⟩ = false := by simp [World.frozen?, h.blk]
set_option maxRecDepth 100000
set_option maxHeartbeats 1000000
theorem room_any (h : WP R w M cv pv rv ps rs) (s : Int) : Calls Tryd.prog 46 #[.pointer (some ⟨R, 0, none⟩), .int .i64 s] w fun e w' => e = .returned (.bool (M.ro s).isSome) ∧ w' = w := by
  obtain ⟨h0, h1, h2, hl⟩ := h.c
  obtain ⟨n, hn⟩ : ∃ n, n = M.rooms.length := ⟨_, rfl⟩
  have hv := row_form h.ro.row
  rw [List.length_map, ← hn] at hv
  clear h
  rcases ro_cases M s with ⟨e0, hout⟩ | ⟨i, x, rfl, hx, e1⟩
  · rw [e0]
    rw [← hn] at hout
    clear e0 hn
    by_cases hs : s < 0
    · have hs2 : ¬ 0 ≤ s := by omega
      rcases hv with ⟨rfl, rfl⟩ | ⟨g, cap, rfl⟩
      all_goals
        go_enter Tryd.func46, Tryd.ntmps46
        go_wp2_with fail
        go_ret
        exact ⟨rfl, rfl⟩
    · have hs2 : 0 ≤ s := by omega
      have hs3 : ¬ s < (n : Int) := by omega
      rcases hv with ⟨rfl, rfl⟩ | ⟨g, cap, rfl⟩
      all_goals
        go_enter Tryd.func46, Tryd.ntmps46
        go_wp2_with fail
        go_ret
        exact ⟨rfl, rfl⟩
  · rw [e1]
    have hlt : i < n := by rw [hn]; exact (List.getElem?_eq_some_iff.1 hx).1
    have hlt2 : (i : Int) < (n : Int) := by omega
    clear e1 hn hx
    rcases hv with ⟨rfl, rfl⟩ | ⟨g, cap, rfl⟩
    · omega
    · go_enter Tryd.func46, Tryd.ntmps46
      go_wp2_with fail
      go_ret
      exact ⟨rfl, rfl⟩
theorem object_any (h : WP R w M cv pv rv ps rs) (s : Int) : Calls Tryd.prog 42 #[.pointer (some ⟨R, 0, none⟩), .int .i64 s] w fun e w' => e = .returned (.bool (M.ob s).isSome) ∧ w' = w := by
  obtain ⟨h0, h1, h2, hl⟩ := h.c
  obtain ⟨n, hn⟩ : ∃ n, n = M.objs.length := ⟨_, rfl⟩
  have hv := row_form h.ob.row
  rw [List.length_map, ← hn] at hv
  clear h
  rcases ob_cases M s with ⟨e0, hout⟩ | ⟨i, x, rfl, hx, e1⟩
  · rw [e0]
    rw [← hn] at hout
    clear e0 hn
    by_cases hs : s < 0
    · have hs2 : ¬ 0 ≤ s := by omega
      rcases hv with ⟨rfl, rfl⟩ | ⟨g, cap, rfl⟩
      all_goals
        go_enter Tryd.func42, Tryd.ntmps42
        go_wp2_with fail
        go_ret
        exact ⟨rfl, rfl⟩
    · have hs2 : 0 ≤ s := by omega
      have hs3 : ¬ s < (n : Int) := by omega
      rcases hv with ⟨rfl, rfl⟩ | ⟨g, cap, rfl⟩
      all_goals
        go_enter Tryd.func42, Tryd.ntmps42
        go_wp2_with fail
        go_ret
        exact ⟨rfl, rfl⟩
  · rw [e1]
    have hlt : i < n := by rw [hn]; exact (List.getElem?_eq_some_iff.1 hx).1
    have hlt2 : (i : Int) < (n : Int) := by omega
    clear e1 hn hx
    rcases hv with ⟨rfl, rfl⟩ | ⟨g, cap, rfl⟩
    · omega
    · go_enter Tryd.func42, Tryd.ntmps42
      go_wp2_with fail
      go_ret
      exact ⟨rfl, rfl⟩
end

section
variable {R : Nat} {w w' : World} {M : Mo} {cv pv rv : Value} {ps rs : List Value} {K : Nat}
set_option maxRecDepth 100000
set_option maxHeartbeats 1000000
theorem ratP {B : Nat} {w : World} {v : Value} {bs : List Pr} (hrow : w.ownsRow B 92 3 v bs.length (bs.flatMap Pr.r)) {k : Nat} {b : Pr} (hb : bs[k]? = some b) {g cap : Nat} (hv : v = .slice (some ⟨g, 0, none⟩) bs.length cap) (j : Nat) (u : Value) (hj : b.r[j]? = some u) : w.cell? ⟨g, k * 3 + j, none⟩ = some u := by
  have hk : k < bs.length := (List.getElem?_eq_some_iff.1 hb).1
  have hj' : j < 3 := (List.getElem?_eq_some_iff.1 hj).1
  subst hv
  rw [hrow.cellAt _ (by omega), fm_get (s := 3) (fun _ => rfl) bs k j hj', hb]
  exact hj
theorem find_none {nm : ByteArray} {bs : List Pr} (h : ∀ (j : Nat) b, bs[j]? = some b → isN nm b.name = false) : bs.find? (fun p => isN nm p.name) = none := by
  rw [List.find?_eq_none]
  intro b hb
  obtain ⟨j, hj, rfl⟩ := List.mem_iff_getElem.1 hb
  simp [h j _ (List.getElem?_eq_getElem hj)]
theorem find_some {nm : ByteArray} {bs : List Pr} {k : Nat} {b : Pr} (hb : bs[k]? = some b) (hx : isN nm b.name = true) (h : ∀ (j : Nat) b, j < k → bs[j]? = some b → isN nm b.name = false) : bs.find? (fun p => isN nm p.name) = some b := by
  obtain ⟨hk, rfl⟩ := List.getElem?_eq_some_iff.1 hb
  rw [List.find?_eq_some_iff_getElem]
  exact ⟨hx, k, hk, rfl, fun j hj => by simp [h j _ hj (List.getElem?_eq_getElem (by omega))]⟩
theorem rget_in (h : WP R w M cv pv rv ps rs) (hs : M.Small K) (hK : K ≤ 1000) (i : Nat) (x : Ob) (hi : M.objs[i]? = some x) (nm : ByteArray) :
    Calls Tryd.prog 25 #[.pointer (some ⟨R, 0, none⟩), .int .i64 (i : Int), .string nm] w fun e w' => e = .returned (.tuple #[.int .i64 (((M.prop i nm).map (·.v)).getD 0), .bool (M.prop i nm).isSome]) ∧ Below w.heap.size w w' := by
  obtain ⟨h0, h1, h2, hl⟩ := h.c
  obtain ⟨g, cap, v, e2, hlt, hv, hcl, hrow, hg, hB, hfz, _⟩ := h.ob.at_ (i := i) (e := x.r) (by simp [hi])
  have HO := hide (object_any h i)
  rw [ob_nat hi] at HO
  have hc0 : w.cell? ⟨g, i, none⟩ = some v := by have := hcl 0 v rfl; simpa using this
  have hrow' : w.ownsRow R 92 3 v x.ps.length (x.ps.flatMap Pr.r) := hrow
  have hsm := hs.ps x (List.mem_of_getElem? hi)
  rw [show M.prop i nm = x.ps.find? (fun p => isN nm p.name) by simp [Mo.prop, ob_nat hi]]
  rw [List.length_map] at hlt e2
  subst e2
  clear hcl hrow h hs hi hv hfz
  rcases row_form hrow' with ⟨rfl, hn⟩ | ⟨gb, capb, rfl⟩
  · rw [List.length_eq_zero_iff.1 hn]
    clear hn hrow'
    go_enter Tryd.func25, Tryd.ntmps25
    go_wp2_with fail
    refine Calls.mono HO.out ?_
    rintro e w1 ⟨rfl, rfl⟩
    go_wp2_with fail
    go_loopw [21] (fun i wr => i = .int .i64 0 ∧ Below w1.heap.size w1 wr) (fun i _ => 0)
    case atStart => exact ⟨rfl, Below.refl _ _⟩
    case round =>
      obtain ⟨rfl, hb⟩ := hrel
      go_wp2_with fail
      go_ret2
      exact ⟨rfl, hb⟩
  · have HROW := hide hrow'
    have hgb := (hrow'.lt gb rfl).2
    clear hrow'
    go_enter Tryd.func25, Tryd.ntmps25
    go_wp2_with fail
    refine Calls.mono HO.out ?_
    rintro e w1 ⟨rfl, rfl⟩
    go_wp2_with fail
    go_loopw [21] (fun i wr => ∃ k : Nat, k ≤ x.ps.length ∧ i = .int .i64 k ∧ (∀ (j : Nat) b, j < k → x.ps[j]? = some b → isN nm b.name = false) ∧ Below w1.heap.size w1 wr) (fun i _ => x.ps.length - (intOf i).toNat)
    case atStart => exact ⟨0, Nat.zero_le _, rfl, fun j b hj => absurd hj (Nat.not_lt_zero _), Below.refl _ _⟩
    case round =>
      obtain ⟨k, hk, rfl, hno, hb⟩ := hrel
      have HNO := hide hno
      have HB := hide hb
      by_cases hlt2 : k < x.ps.length
      · obtain ⟨b, hbk⟩ : ∃ b, x.ps[k]? = some b := ⟨_, List.getElem?_eq_getElem hlt2⟩
        have hrr := row_later HROW.out hb
        have d0 : wr.cell? ⟨gb, k * 3, none⟩ = some (.string b.name) := ratP hrr hbk rfl 0 _ rfl
        have d1 := ratP hrr hbk rfl 1 _ rfl
        have d2 := ratP hrr hbk rfl 2 _ rfl
        have hgl : gb < wr.heap.size := Nat.lt_of_lt_of_le hgb hb.size
        have HBK := hide hbk
        clear hrr hno hb hbk
        cases hx : (b.name.toList == nm.toList)
        · have HX := hide hx
          have hx2 : ¬ b.name.toList = nm.toList := by simpa using hx
          go_wp2_with fail
          go_roundw
          case rel =>
            refine ⟨k + 1, by omega, by go_num, ?_, HB.out.alloc HB.out.size _⟩
            intro j b' hj hb'
            rcases Nat.lt_or_ge j k with h | h
            · exact HNO.out j b' h hb'
            · have : j = k := by omega
              subst this
              rw [HBK.out] at hb'
              cases hb'
              exact HX.out
          case measure => simp [intOf]; omega
        · have hx2 : b.name.toList = nm.toList := by simpa using hx
          have HX := hide hx
          clear hx
          go_wp2_with fail
          go_ret2
          exact ⟨by rw [find_some HBK.out HX.out HNO.out]; rfl, HB.out.alloc HB.out.size _⟩
      · have hke : k = x.ps.length := by omega
        subst hke
        clear hno hb
        go_wp2_with fail
        go_ret2
        exact ⟨by rw [find_none (fun j b hb => HNO.out j b (List.getElem?_eq_some_iff.1 hb).1 hb)]; rfl, HB.out⟩
theorem rget_out (h : WP R w M cv pv rv ps rs) (o : Int) (ho : M.ob o = none) (nm : ByteArray) :
    Calls Tryd.prog 25 #[.pointer (some ⟨R, 0, none⟩), .int .i64 o, .string nm] w fun e w' => e = .returned (.tuple #[.int .i64 (((M.prop o nm).map (·.v)).getD 0), .bool (M.prop o nm).isSome]) ∧ Below w.heap.size w w' := by
  have HO := hide (object_any h o)
  rw [show M.prop o nm = none by simp [Mo.prop, ho]]
  rw [ho] at HO
  clear h ho
  go_enter Tryd.func25, Tryd.ntmps25
  go_wp2_with fail
  refine Calls.mono HO.out ?_
  rintro e w1 ⟨rfl, rfl⟩
  go_wp2_with fail
  go_ret2
  exact ⟨rfl, Below.refl _ _⟩
theorem rget_any (h : WP R w M cv pv rv ps rs) (hs : M.Small K) (hK : K ≤ 1000) (o : Int) (nm : ByteArray) :
    Calls Tryd.prog 25 #[.pointer (some ⟨R, 0, none⟩), .int .i64 o, .string nm] w fun e w' => e = .returned (.tuple #[.int .i64 (((M.prop o nm).map (·.v)).getD 0), .bool (M.prop o nm).isSome]) ∧ Below w.heap.size w w' := by
  rcases ob_cases M o with ⟨e0, _⟩ | ⟨i, x, rfl, hx, _⟩
  · exact rget_out h o e0 nm
  · exact rget_in h hs hK i x hx nm
end

section
variable {R : Nat} {w w' : World} {M : Mo} {cv pv rv : Value} {ps rs : List Value} {K : Nat}
set_option maxRecDepth 100000
set_option maxHeartbeats 1000000
theorem ratC {B : Nat} {w : World} {v : Value} {bs : List Ce} (hrow : w.ownsRow B 100 4 v bs.length (bs.flatMap Ce.r)) {k : Nat} {b : Ce} (hb : bs[k]? = some b) {g cap : Nat} (hv : v = .slice (some ⟨g, 0, none⟩) bs.length cap) (j : Nat) (u : Value) (hj : b.r[j]? = some u) : w.cell? ⟨g, k * 4 + j, none⟩ = some u := by
  have hk : k < bs.length := (List.getElem?_eq_some_iff.1 hb).1
  have hj' : j < 4 := (List.getElem?_eq_some_iff.1 hj).1
  subst hv
  rw [hrow.cellAt _ (by omega), fm_get (s := 4) (fun _ => rfl) bs k j hj', hb]
  exact hj
def placeC (o : Option Nat) : Int := match o with | some k => k | none => -1
theorem fC_none {nm : ByteArray} {bs : List Ce} (h : ∀ (j : Nat) b, bs[j]? = some b → isN nm b.name = false) : fC nm bs = none := by
  unfold fC
  rw [List.findIdx?_eq_none_iff]
  intro b hb
  obtain ⟨j, hj, rfl⟩ := List.mem_iff_getElem.1 hb
  simp [h j _ (List.getElem?_eq_getElem hj)]
theorem fC_some {nm : ByteArray} {bs : List Ce} {k : Nat} {b : Ce} (hb : bs[k]? = some b) (hx : isN nm b.name = true) (h : ∀ (j : Nat) b, j < k → bs[j]? = some b → isN nm b.name = false) : fC nm bs = some k := by
  obtain ⟨hk, rfl⟩ := List.getElem?_eq_some_iff.1 hb
  unfold fC
  rw [List.findIdx?_eq_some_iff_getElem]
  exact ⟨hk, hx, fun j hj => by simp [h j _ hj (List.getElem?_eq_getElem (by omega))]⟩
theorem rcell_out (h : WP R w M cv pv rv ps rs) (s : Int) (ho : M.ro s = none) (nm : ByteArray) :
    Calls Tryd.prog 47 #[.pointer (some ⟨R, 0, none⟩), .int .i64 s, .string nm] w fun e w' => e = .returned (.int .i64 (-1)) ∧ Below w.heap.size w w' := by
  have HO := hide (room_any h s)
  rw [ho] at HO
  clear h ho
  go_enter Tryd.func47, Tryd.ntmps47
  go_wp2_with fail
  refine Calls.mono HO.out ?_
  rintro e w1 ⟨rfl, rfl⟩
  go_wp2_with fail
  go_ret
  exact ⟨rfl, Below.refl _ _⟩
theorem rcell_obj (h : WP R w M cv pv rv ps rs) (i : Nat) (x : Ro) (hi : M.rooms[i]? = some x) (nm : ByteArray) (hx : 0 ≤ x.object) :
    Calls Tryd.prog 47 #[.pointer (some ⟨R, 0, none⟩), .int .i64 (i : Int), .string nm] w fun e w' => e = .returned (.int .i64 (-1)) ∧ Below w.heap.size w w' := by
  obtain ⟨h0, h1, h2, hl⟩ := h.c
  obtain ⟨g, cap, v, e2, hlt, hv, hcl, hrow, hg, hB, hfz, _⟩ := h.ro.at_ (i := i) (e := x.r) (by simp [hi])
  have HO := hide (room_any h i)
  rw [ro_nat hi] at HO
  have hc1 : w.cell? ⟨g, i * 3 + 1, none⟩ = some (.int .i64 x.object) := hcl 1 _ rfl
  have hx2 : ¬ x.object < 0 := by omega
  rw [List.length_map] at hlt e2
  subst e2
  clear hcl hrow h hi hv hfz
  go_enter Tryd.func47, Tryd.ntmps47
  go_wp2_with fail
  refine Calls.mono HO.out ?_
  rintro e w1 ⟨rfl, rfl⟩
  go_wp2_with fail
  go_ret
  exact ⟨rfl, Below.refl _ _⟩
theorem rcell_in (h : WP R w M cv pv rv ps rs) (hs : M.Small K) (hK : K ≤ 1000) (i : Nat) (x : Ro) (hi : M.rooms[i]? = some x) (nm : ByteArray) (hx : x.object < 0) :
    Calls Tryd.prog 47 #[.pointer (some ⟨R, 0, none⟩), .int .i64 (i : Int), .string nm] w fun e w' => e = .returned (.int .i64 (placeC (fC nm x.cs))) ∧ Below w.heap.size w w' := by
  obtain ⟨h0, h1, h2, hl⟩ := h.c
  obtain ⟨g, cap, v, e2, hlt, hv, hcl, hrow, hg, hB, hfz, _⟩ := h.ro.at_ (i := i) (e := x.r) (by simp [hi])
  have HO := hide (room_any h i)
  rw [ro_nat hi] at HO
  have hc1 : w.cell? ⟨g, i * 3 + 1, none⟩ = some (.int .i64 x.object) := hcl 1 _ rfl
  have hc2 : w.cell? ⟨g, i * 3 + 2, none⟩ = some v := hcl 2 _ rfl
  have hrow' : w.ownsRow R 100 4 v x.cs.length (x.cs.flatMap Ce.r) := hrow
  have hsm := hs.cs x (List.mem_of_getElem? hi)
  rw [List.length_map] at hlt e2
  subst e2
  clear hcl hrow h hs hi hv hfz
  rcases row_form hrow' with ⟨rfl, hn⟩ | ⟨gb, capb, rfl⟩
  · rw [List.length_eq_zero_iff.1 hn]
    clear hn hrow'
    go_enter Tryd.func47, Tryd.ntmps47
    go_wp2_with fail
    refine Calls.mono HO.out ?_
    rintro e w1 ⟨rfl, rfl⟩
    go_wp2_with fail
    go_loopw [32] (fun i wr => i = .int .i64 0 ∧ Below w1.heap.size w1 wr) (fun i _ => 0)
    case atStart => exact ⟨rfl, Below.refl _ _⟩
    case round =>
      obtain ⟨rfl, hb⟩ := hrel
      go_wp2_with fail
      go_ret
      exact ⟨rfl, hb⟩
  · have HROW := hide hrow'
    have hgb := (hrow'.lt gb rfl).2
    clear hrow'
    go_enter Tryd.func47, Tryd.ntmps47
    go_wp2_with fail
    refine Calls.mono HO.out ?_
    rintro e w1 ⟨rfl, rfl⟩
    go_wp2_with fail
    go_loopw [32] (fun i wr => ∃ k : Nat, k ≤ x.cs.length ∧ i = .int .i64 k ∧ (∀ (j : Nat) b, j < k → x.cs[j]? = some b → isN nm b.name = false) ∧ Below w1.heap.size w1 wr) (fun i _ => x.cs.length - (intOf i).toNat)
    case atStart => exact ⟨0, Nat.zero_le _, rfl, fun j b hj => absurd hj (Nat.not_lt_zero _), Below.refl _ _⟩
    case round =>
      obtain ⟨k, hk, rfl, hno, hb⟩ := hrel
      have HNO := hide hno
      have HB := hide hb
      by_cases hlt2 : k < x.cs.length
      · obtain ⟨b, hbk⟩ : ∃ b, x.cs[k]? = some b := ⟨_, List.getElem?_eq_getElem hlt2⟩
        have hrr := row_later HROW.out hb
        have d0 : wr.cell? ⟨gb, k * 4, none⟩ = some (.string b.name) := ratC hrr hbk rfl 0 _ rfl
        have d1 := ratC hrr hbk rfl 1 _ rfl
        have d2 := ratC hrr hbk rfl 2 _ rfl
        have d3 := ratC hrr hbk rfl 3 _ rfl
        have hgl : gb < wr.heap.size := Nat.lt_of_lt_of_le hgb hb.size
        have HBK := hide hbk
        clear hrr hno hb hbk
        cases hx : (b.name.toList == nm.toList)
        · have HX := hide hx
          have hx2 : ¬ b.name.toList = nm.toList := by simpa using hx
          go_wp2_with fail
          go_roundw
          case rel =>
            refine ⟨k + 1, by omega, by go_num, ?_, HB.out.alloc HB.out.size _⟩
            intro j b' hj hb'
            rcases Nat.lt_or_ge j k with h | h
            · exact HNO.out j b' h hb'
            · have : j = k := by omega
              subst this
              rw [HBK.out] at hb'
              cases hb'
              exact HX.out
          case measure => simp [intOf]; omega
        · have hx2 : b.name.toList = nm.toList := by simpa using hx
          have HX := hide hx
          clear hx
          go_wp2_with fail
          go_ret
          exact ⟨by rw [fC_some HBK.out HX.out HNO.out]; rfl, HB.out.alloc HB.out.size _⟩
      · have hke : k = x.cs.length := by omega
        subst hke
        clear hno hb
        go_wp2_with fail
        go_ret
        exact ⟨by rw [fC_none (fun j b hb => HNO.out j b (List.getElem?_eq_some_iff.1 hb).1 hb)]; rfl, HB.out⟩
/-- What holds of every heap that is made: scopes lie in others, and have names of their own or an object's. -/
structure Mo.Ok (M : Mo) : Prop where
  out : ∀ (i : Nat) x, M.rooms[i]? = some x → -1 ≤ x.outer ∧ x.outer < i
  obj : ∀ (i : Nat) x, M.rooms[i]? = some x → -1 ≤ x.object ∧ x.object < M.objs.length
  emp : ∀ (i : Nat) x, M.rooms[i]? = some x → 0 ≤ x.object → x.cs = []
  up : ∀ (i : Nat) x, M.objs[i]? = some x → uniq Pr.name x.ps
  uc : ∀ (i : Nat) x, M.rooms[i]? = some x → uniq Ce.name x.cs
def Mo.plc (M : Mo) (s : Int) (nm : ByteArray) : Int := placeC ((M.ro s).bind fun x => fC nm x.cs)
theorem rcell_any (h : WP R w M cv pv rv ps rs) (hs : M.Small K) (hK : K ≤ 1000) (ho : M.Ok) (s : Int) (nm : ByteArray) :
    Calls Tryd.prog 47 #[.pointer (some ⟨R, 0, none⟩), .int .i64 s, .string nm] w fun e w' => e = .returned (.int .i64 (M.plc s nm)) ∧ Below w.heap.size w w' := by
  rcases ro_cases M s with ⟨e0, _⟩ | ⟨i, x, rfl, hx, e1⟩
  · rw [show M.plc s nm = -1 by simp [Mo.plc, e0, placeC]]
    exact rcell_out h s e0 nm
  · by_cases hx2 : x.object < 0
    · rw [show M.plc i nm = placeC (fC nm x.cs) by simp [Mo.plc, e1]]
      exact rcell_in h hs hK i x hx nm hx2
    · rw [show M.plc i nm = -1 by simp [Mo.plc, e1, ho.emp i x hx (by omega), fC, placeC]]
      exact rcell_obj h i x hx nm (by omega)
theorem plc_cel (M : Mo) (s : Int) (nm : ByteArray) : (M.plc s nm = -1 ∧ M.cel s nm = none) ∨ ∃ (i : Nat) (x : Ro) (k : Nat) (c : Ce), s = i ∧ M.rooms[i]? = some x ∧ fC nm x.cs = some k ∧ x.cs[k]? = some c ∧ M.plc s nm = k ∧ M.cel s nm = some c := by
  rcases ro_cases M s with ⟨e0, _⟩ | ⟨i, x, rfl, hx, e1⟩
  · exact .inl ⟨by simp [Mo.plc, e0, placeC], by simp [Mo.cel, e0]⟩
  · rcases find_of (fun c => isN nm c.name) x.cs with ⟨f1, f2⟩ | ⟨k, c, f1, f2, f3, _⟩
    · exact .inl ⟨by simp [Mo.plc, e1, fC, f1, placeC], by simp [Mo.cel, e1, f2]⟩
    · exact .inr ⟨i, x, k, c, rfl, hx, f1, f2, by simp [Mo.plc, e1, fC, f1, placeC], by simp [Mo.cel, e1, f3]⟩
end
end Go.Proofs.YtomogijjkdiomaaDoor
