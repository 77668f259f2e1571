/-
  The document's own heap: Write.
-/
import Derived.Test.YtomogijjkdiomaaDoorHp17
set_option maxRecDepth 100000
set_option maxHeartbeats 16000000
namespace Go.Proofs.YtomogijjkdiomaaDoor
open Go.RowKit

section
variable {R : Nat} {w w1 : World} {M : Mo} {cv pv rv : Value} {ps rs : List Value} {K : Nat}
set_option maxRecDepth 100000
set_option maxHeartbeats 1000000
theorem plc_none {s : Int} {nm : ByteArray} (hc : M.cel s nm = none) : M.plc s nm = -1 := by
  rcases plc_cel M s nm with ⟨h, _⟩ | ⟨_, _, _, _, _, _, _, _, _, h⟩
  · exact h
  · rw [hc] at h; cases h
theorem rwrite_no (h : WP R w M cv pv rv ps rs) (hs : M.Small K) (hK : K ≤ 1000) (ho : M.Ok) (s : Int) (nm : ByteArray) (n : Int) (hh : M.has s nm = false) :
    Calls Tryd.prog 15 #[.pointer (some ⟨R, 0, none⟩), .int .i64 s, .string nm, .int .i64 n] w fun e w' => e = .returned (.int .i64 7) ∧ Below w.heap.size w w' := by
  have HS := hide (rhas_any h hs hK ho s nm)
  rw [hh] at HS
  clear h hs ho hh
  go_enter Tryd.func15, Tryd.ntmps15
  go_wp2_with fail
  refine Calls.mono HS.out ?_
  rintro e w2 ⟨rfl, hb⟩
  have HB := hide hb
  clear hb
  go_wp2_with fail
  go_ret
  exact ⟨rfl, HB.out⟩
theorem rwrite_prop (h : WP R w M cv pv rv ps rs) (hs : M.Small K) (hK : K ≤ 1000) (ho : M.Ok) (i : Nat) (y : Ro) (hi : M.rooms[i]? = some y) (nm : ByteArray) (n : Int) (hc : M.cel i nm = none) (j : Nat) (x : Ob) (hj : y.object = j) (hx : M.objs[j]? = some x) (k : Nat) (p : Pr) (hk : fP nm x.ps = some k) (hp : x.ps[k]? = some p) :
    Calls Tryd.prog 15 #[.pointer (some ⟨R, 0, none⟩), .int .i64 (i : Int), .string nm, .int .i64 n] w fun e w' => e = .returned (.int .i64 0) ∧ WP R w' (M.setOb j ⟨x.code, x.ps.set k ⟨p.name, n, p.fixed⟩⟩) cv pv rv ps rs ∧ FrT Tr R w w' := by
  have HS := hide (rhas_any h hs hK ho i nm)
  rw [show M.has i nm = true by simp [Mo.has, Mo.objOf, ro_nat hi, hj, prop_of hx hk hp]] at HS
  have HC : Hid (∀ W, Below w.heap.size w W → Calls Tryd.prog 47 #[.pointer (some ⟨R, 0, none⟩), .int .i64 (i : Int), .string nm] W fun e w' => e = .returned (.int .i64 (-1)) ∧ Below W.heap.size W w') := fun W hW => by
    have := rcell_any (h.later hW) hs hK ho i nm
    rw [plc_none hc] at this
    exact this
  have HP_ : Hid (∀ W, Below w.heap.size w W → _) := fun W hW => rput_old (h.later hW) hs hK j x hx nm n false k p hk hp
  have HH := hide h
  have HI := hide hi
  have HJ := hide hj
  have HLR := hide (lt_of_block h.blk)
  clear h hs ho hi hc hj hx hk hp
  go_enter Tryd.func15, Tryd.ntmps15
  go_wp2_with fail
  refine Calls.mono HS.out ?_
  rintro e w2 ⟨rfl, hb⟩
  have HB := hide hb
  clear hb
  go_wp2_with fail
  refine Calls.mono (HC.out _ HB.out) ?_
  rintro e w3 ⟨rfl, hb3⟩
  have HB3 := hide (HB.out.trans (hb3.mono HB.out.size))
  clear hb3
  obtain ⟨h0, h1, h2, hl⟩ := (HH.out.later HB3.out).c
  obtain ⟨g, cap, v, rfl, hlt, hv, c0, c1, c2, hrow, hg, hB, hfz⟩ := rroom (HH.out.later HB3.out) HI.out
  rw [HJ.out] at c1
  clear hrow hv hfz
  go_wp2_with fail
  refine Calls.mono (HP_.out _ HB3.out) ?_
  rintro e w4 ⟨rfl, hh4, hf4⟩
  have HF := hide ((FrT.of HB3.out (Nat.le_of_lt HLR.out)).trans hf4)
  have H4 := hide hh4
  clear hh4 hf4 h0 h1 h2 c0 c1 c2
  go_wp2_with fail
  go_ret
  exact ⟨rfl, H4.out, HF.out⟩
theorem rwrite_state (h : WP R w M cv pv rv ps rs) (hs : M.Small K) (hK : K ≤ 1000) (ho : M.Ok) (i : Nat) (x : Ro) (hi : M.rooms[i]? = some x) (nm : ByteArray) (n : Int) (k : Nat) (c : Ce) (hk : fC nm x.cs = some k) (hc : x.cs[k]? = some c) (hr : c.ready = false) :
    Calls Tryd.prog 15 #[.pointer (some ⟨R, 0, none⟩), .int .i64 (i : Int), .string nm, .int .i64 n] w fun e w' => e = .returned (.int .i64 6) ∧ Below w.heap.size w w' := by
  have HS := hide (rhas_any h hs hK ho i nm)
  rw [show M.has i nm = true by simp [Mo.has, cel_of hi hk hc]] at HS
  have HC : Hid (∀ W, Below w.heap.size w W → Calls Tryd.prog 47 #[.pointer (some ⟨R, 0, none⟩), .int .i64 (i : Int), .string nm] W fun e w' => e = .returned (.int .i64 (k : Int)) ∧ Below W.heap.size W w') := fun W hW => by
    have := rcell_any (h.later hW) hs hK ho i nm
    rw [plc_of hi hk] at this
    exact this
  have HH := hide h
  have HI := hide hi
  have HCC := hide hc
  have HLR := hide (lt_of_block h.blk)
  have hk0 : ¬ (k : Int) < 0 := by omega
  clear h hs ho hi hc hk
  go_enter Tryd.func15, Tryd.ntmps15
  go_wp2_with fail
  refine Calls.mono HS.out ?_
  rintro e w2 ⟨rfl, hb⟩
  have HB := hide hb
  clear hb
  go_wp2_with fail
  refine Calls.mono (HC.out _ HB.out) ?_
  rintro e w3 ⟨rfl, hb3⟩
  have HB3 := hide (HB.out.trans (hb3.mono HB.out.size))
  clear hb3
  have HH3 := hide (HH.out.later HB3.out)
  obtain ⟨h0, h1, h2, hl⟩ := HH3.out.c
  obtain ⟨g, cap, v, rfl, hlt, hv, c0, c1, c2, hrow, hg, hB, hfz⟩ := rroom HH3.out HI.out
  have hkl : k < x.cs.length := (List.getElem?_eq_some_iff.1 HCC.out).1
  rcases row_form hrow with ⟨rfl, hn⟩ | ⟨gb, capb, rfl⟩
  · omega
  have d1 := ratC hrow HCC.out rfl 1 _ rfl
  have d2 := ratC hrow HCC.out rfl 2 _ rfl
  have d3 := ratC hrow HCC.out rfl 3 _ rfl
  have hgb := (hrow.lt gb rfl).2
  have hfb := hrow.frozenAt
  have HZ := hide (HH3.out.setC HI.out hv HCC.out n)
  clear hrow hv hfz
  rw [hr] at d3
  go_wp2_with fail
  go_ret
  exact ⟨rfl, HB3.out⟩
theorem rwrite_final (h : WP R w M cv pv rv ps rs) (hs : M.Small K) (hK : K ≤ 1000) (ho : M.Ok) (i : Nat) (x : Ro) (hi : M.rooms[i]? = some x) (nm : ByteArray) (n : Int) (k : Nat) (c : Ce) (hk : fC nm x.cs = some k) (hc : x.cs[k]? = some c) (hr : c.ready = true) (q2 : c.kind = 2) :
    Calls Tryd.prog 15 #[.pointer (some ⟨R, 0, none⟩), .int .i64 (i : Int), .string nm, .int .i64 n] w fun e w' => e = .returned (.int .i64 1) ∧ Below w.heap.size w w' := by
  have HS := hide (rhas_any h hs hK ho i nm)
  rw [show M.has i nm = true by simp [Mo.has, cel_of hi hk hc]] at HS
  have HC : Hid (∀ W, Below w.heap.size w W → Calls Tryd.prog 47 #[.pointer (some ⟨R, 0, none⟩), .int .i64 (i : Int), .string nm] W fun e w' => e = .returned (.int .i64 (k : Int)) ∧ Below W.heap.size W w') := fun W hW => by
    have := rcell_any (h.later hW) hs hK ho i nm
    rw [plc_of hi hk] at this
    exact this
  have HH := hide h
  have HI := hide hi
  have HCC := hide hc
  have HLR := hide (lt_of_block h.blk)
  have hk0 : ¬ (k : Int) < 0 := by omega
  clear h hs ho hi hc hk
  go_enter Tryd.func15, Tryd.ntmps15
  go_wp2_with fail
  refine Calls.mono HS.out ?_
  rintro e w2 ⟨rfl, hb⟩
  have HB := hide hb
  clear hb
  go_wp2_with fail
  refine Calls.mono (HC.out _ HB.out) ?_
  rintro e w3 ⟨rfl, hb3⟩
  have HB3 := hide (HB.out.trans (hb3.mono HB.out.size))
  clear hb3
  have HH3 := hide (HH.out.later HB3.out)
  obtain ⟨h0, h1, h2, hl⟩ := HH3.out.c
  obtain ⟨g, cap, v, rfl, hlt, hv, c0, c1, c2, hrow, hg, hB, hfz⟩ := rroom HH3.out HI.out
  have hkl : k < x.cs.length := (List.getElem?_eq_some_iff.1 HCC.out).1
  rcases row_form hrow with ⟨rfl, hn⟩ | ⟨gb, capb, rfl⟩
  · omega
  have d1 := ratC hrow HCC.out rfl 1 _ rfl
  have d2 := ratC hrow HCC.out rfl 2 _ rfl
  have d3 := ratC hrow HCC.out rfl 3 _ rfl
  have hgb := (hrow.lt gb rfl).2
  have hfb := hrow.frozenAt
  have HZ := hide (HH3.out.setC HI.out hv HCC.out n)
  clear hrow hv hfz
  rw [hr] at d3
  rw [q2] at d2
  go_wp2_with fail
  go_ret
  exact ⟨rfl, HB3.out⟩
theorem rwrite_own (h : WP R w M cv pv rv ps rs) (hs : M.Small K) (hK : K ≤ 1000) (ho : M.Ok) (i : Nat) (x : Ro) (hi : M.rooms[i]? = some x) (nm : ByteArray) (n : Int) (k : Nat) (c : Ce) (hk : fC nm x.cs = some k) (hc : x.cs[k]? = some c) (hr : c.ready = true) (q3 : c.kind = 3) :
    Calls Tryd.prog 15 #[.pointer (some ⟨R, 0, none⟩), .int .i64 (i : Int), .string nm, .int .i64 n] w fun e w' => e = .returned (.int .i64 5) ∧ Below w.heap.size w w' := by
  have HS := hide (rhas_any h hs hK ho i nm)
  rw [show M.has i nm = true by simp [Mo.has, cel_of hi hk hc]] at HS
  have HC : Hid (∀ W, Below w.heap.size w W → Calls Tryd.prog 47 #[.pointer (some ⟨R, 0, none⟩), .int .i64 (i : Int), .string nm] W fun e w' => e = .returned (.int .i64 (k : Int)) ∧ Below W.heap.size W w') := fun W hW => by
    have := rcell_any (h.later hW) hs hK ho i nm
    rw [plc_of hi hk] at this
    exact this
  have HH := hide h
  have HI := hide hi
  have HCC := hide hc
  have HLR := hide (lt_of_block h.blk)
  have hk0 : ¬ (k : Int) < 0 := by omega
  clear h hs ho hi hc hk
  go_enter Tryd.func15, Tryd.ntmps15
  go_wp2_with fail
  refine Calls.mono HS.out ?_
  rintro e w2 ⟨rfl, hb⟩
  have HB := hide hb
  clear hb
  go_wp2_with fail
  refine Calls.mono (HC.out _ HB.out) ?_
  rintro e w3 ⟨rfl, hb3⟩
  have HB3 := hide (HB.out.trans (hb3.mono HB.out.size))
  clear hb3
  have HH3 := hide (HH.out.later HB3.out)
  obtain ⟨h0, h1, h2, hl⟩ := HH3.out.c
  obtain ⟨g, cap, v, rfl, hlt, hv, c0, c1, c2, hrow, hg, hB, hfz⟩ := rroom HH3.out HI.out
  have hkl : k < x.cs.length := (List.getElem?_eq_some_iff.1 HCC.out).1
  rcases row_form hrow with ⟨rfl, hn⟩ | ⟨gb, capb, rfl⟩
  · omega
  have d1 := ratC hrow HCC.out rfl 1 _ rfl
  have d2 := ratC hrow HCC.out rfl 2 _ rfl
  have d3 := ratC hrow HCC.out rfl 3 _ rfl
  have hgb := (hrow.lt gb rfl).2
  have hfb := hrow.frozenAt
  have HZ := hide (HH3.out.setC HI.out hv HCC.out n)
  clear hrow hv hfz
  rw [hr] at d3
  rw [q3] at d2
  go_wp2_with fail
  go_ret
  exact ⟨rfl, HB3.out⟩
theorem rwrite_ok (h : WP R w M cv pv rv ps rs) (hs : M.Small K) (hK : K ≤ 1000) (ho : M.Ok) (i : Nat) (x : Ro) (hi : M.rooms[i]? = some x) (nm : ByteArray) (n : Int) (k : Nat) (c : Ce) (hk : fC nm x.cs = some k) (hc : x.cs[k]? = some c) (hr : c.ready = true) (q2 : c.kind ≠ 2) (q3 : c.kind ≠ 3) :
    Calls Tryd.prog 15 #[.pointer (some ⟨R, 0, none⟩), .int .i64 (i : Int), .string nm, .int .i64 n] w fun e w' => e = .returned (.int .i64 0) ∧ WP R w' (M.setRo i ⟨x.outer, x.object, x.cs.set k ⟨c.name, n, c.kind, c.ready⟩⟩) cv pv rv ps rs ∧ FrT Tr R w w' := by
  have HS := hide (rhas_any h hs hK ho i nm)
  rw [show M.has i nm = true by simp [Mo.has, cel_of hi hk hc]] at HS
  have HC : Hid (∀ W, Below w.heap.size w W → Calls Tryd.prog 47 #[.pointer (some ⟨R, 0, none⟩), .int .i64 (i : Int), .string nm] W fun e w' => e = .returned (.int .i64 (k : Int)) ∧ Below W.heap.size W w') := fun W hW => by
    have := rcell_any (h.later hW) hs hK ho i nm
    rw [plc_of hi hk] at this
    exact this
  have HH := hide h
  have HI := hide hi
  have HCC := hide hc
  have HLR := hide (lt_of_block h.blk)
  have hk0 : ¬ (k : Int) < 0 := by omega
  clear h hs ho hi hc hk
  go_enter Tryd.func15, Tryd.ntmps15
  go_wp2_with fail
  refine Calls.mono HS.out ?_
  rintro e w2 ⟨rfl, hb⟩
  have HB := hide hb
  clear hb
  go_wp2_with fail
  refine Calls.mono (HC.out _ HB.out) ?_
  rintro e w3 ⟨rfl, hb3⟩
  have HB3 := hide (HB.out.trans (hb3.mono HB.out.size))
  clear hb3
  have HH3 := hide (HH.out.later HB3.out)
  obtain ⟨h0, h1, h2, hl⟩ := HH3.out.c
  obtain ⟨g, cap, v, rfl, hlt, hv, c0, c1, c2, hrow, hg, hB, hfz⟩ := rroom HH3.out HI.out
  have hkl : k < x.cs.length := (List.getElem?_eq_some_iff.1 HCC.out).1
  rcases row_form hrow with ⟨rfl, hn⟩ | ⟨gb, capb, rfl⟩
  · omega
  have d1 := ratC hrow HCC.out rfl 1 _ rfl
  have d2 := ratC hrow HCC.out rfl 2 _ rfl
  have d3 := ratC hrow HCC.out rfl 3 _ rfl
  have hgb := (hrow.lt gb rfl).2
  have hfb := hrow.frozenAt
  have HZ := hide (HH3.out.setC HI.out hv HCC.out n)
  clear hrow hv hfz
  rw [hr] at d3
  go_wp2_with fail
  go_ret
  exact ⟨rfl, HZ.out.1, (FrT.of HB3.out (Nat.le_of_lt HLR.out)).trans HZ.out.2⟩
end
end Go.Proofs.YtomogijjkdiomaaDoor
