/-
  The document's own heap: what changes in it.
-/
import Derived.Test.YtomogijjkdiomaaDoorHp15
set_option maxRecDepth 100000
set_option maxHeartbeats 16000000
namespace Go.Proofs.YtomogijjkdiomaaDoor
open Go.RowKit

section
variable {R : Nat} {w w1 : World} {M : Mo} {cv pv rv : Value} {ps rs : List Value} {K : Nat}
theorem WP.ob1 (h : WP R w M cv pv rv ps rs) {objs : List Ob} {ps' : List Value} (hc : objs.map Ob.code = M.objs.map Ob.code) (ht : Tb R 90 1 92 3 w1 pv (objs.map Ob.r) ps') (f : FrT [90, 92] R w w1) : WP R w1 ⟨objs, M.rooms⟩ cv pv rv ps' rs ∧ FrT Tr R w w1 := by
  refine ⟨⟨f.rest R _ 32 h.blk (by decide), ?_, ht, h.ro.keep f (by decide) (by decide)⟩, f.mono (by decide) (Nat.le_refl _)⟩
  have hco := row_keep h.co f (by decide)
  have e1 : objs.length = M.objs.length := by have := congrArg List.length hc; simpa using this
  have e2 : (objs.map fun o => Value.int .i64 o.code) = M.objs.map fun o => Value.int .i64 o.code := by
    have := congrArg (List.map (Value.int .i64)) hc
    rw [List.map_map, List.map_map] at this
    exact this
  show w1.ownsRow R 3 1 cv objs.length (objs.map fun o => Value.int .i64 o.code)
  rw [e1, e2]
  exact hco
theorem WP.ro1 (h : WP R w M cv pv rv ps rs) {rooms : List Ro} {rs' : List Value} (ht : Tb R 42 3 100 4 w1 rv (rooms.map Ro.r) rs') (f : FrT [42, 100] R w w1) : WP R w1 ⟨M.objs, rooms⟩ cv pv rv ps rs' ∧ FrT Tr R w w1 :=
  ⟨⟨f.rest R _ 32 h.blk (by decide), row_keep h.co f (by decide), h.ob.keep f (by decide) (by decide), ht⟩, f.mono (by decide) (Nat.le_refl _)⟩
theorem rset_P : ∀ (bs : List Pr) (k : Nat) (b : Pr) (n : Int), bs[k]? = some b → (bs.flatMap Pr.r).set (k * 3 + 1) (.int .i64 n) = (bs.set k ⟨b.name, n, b.fixed⟩).flatMap Pr.r
  | [], k, b, n, h => by simp at h
  | c :: bs, 0, b, n, h => by
    simp at h
    subst h
    simp [Pr.r]
  | c :: bs, k + 1, b, n, h => by
    have := rset_P bs k b n (by simpa using h)
    have e : ∀ j, (k + 1) * 3 + j = k * 3 + j + 1 + 1 + 1 := fun j => by omega
    simp only [e, List.set_cons_succ, List.flatMap_cons, Pr.r, List.cons_append, List.nil_append] at this ⊢
    rw [this]
theorem rset_C : ∀ (bs : List Ce) (k : Nat) (b : Ce) (n : Int), bs[k]? = some b → (bs.flatMap Ce.r).set (k * 4 + 1) (.int .i64 n) = (bs.set k ⟨b.name, n, b.kind, b.ready⟩).flatMap Ce.r
  | [], k, b, n, h => by simp at h
  | c :: bs, 0, b, n, h => by
    simp at h
    subst h
    simp [Ce.r]
  | c :: bs, k + 1, b, n, h => by
    have := rset_C bs k b n (by simpa using h)
    have e : ∀ j, (k + 1) * 4 + j = k * 4 + j + 1 + 1 + 1 + 1 := fun j => by omega
    simp only [e, List.set_cons_succ, List.flatMap_cons, Ce.r, List.cons_append, List.nil_append] at this ⊢
    rw [this]
theorem rset_C2 : ∀ (bs : List Ce) (k : Nat) (b : Ce) (n : Int) (r : Bool), bs[k]? = some b → ((bs.flatMap Ce.r).set (k * 4 + 1) (.int .i64 n)).set (k * 4 + 3) (.bool r) = (bs.set k ⟨b.name, n, b.kind, r⟩).flatMap Ce.r
  | [], k, b, n, r, h => by simp at h
  | c :: bs, 0, b, n, r, h => by
    simp at h
    subst h
    simp [Ce.r]
  | c :: bs, k + 1, b, n, r, h => by
    have := rset_C2 bs k b n r (by simpa using h)
    have e : ∀ j, (k + 1) * 4 + j = k * 4 + j + 1 + 1 + 1 + 1 := fun j => by omega
    simp only [e, List.set_cons_succ, List.flatMap_cons, Ce.r, List.cons_append, List.nil_append] at this ⊢
    rw [this]
theorem set_code {objs : List Ob} {i : Nat} {x x' : Ob} (hi : objs[i]? = some x) (hx : x'.code = x.code) : (objs.set i x').map Ob.code = objs.map Ob.code := by
  rw [List.map_set, hx]
  obtain ⟨hl, rfl⟩ := List.getElem?_eq_some_iff.1 hi
  rw [← List.getElem_map Ob.code (h := by simpa using hl)]
  exact List.set_getElem_self _
theorem WP.setP (h : WP R w M cv pv rv ps rs) {i : Nat} {x : Ob} (hi : M.objs[i]? = some x) {g cap m : Nat} (hv : ps[i]? = some (.slice (some ⟨g, 0, none⟩) m cap)) {k : Nat} {b : Pr} (hb : x.ps[k]? = some b) (n : Int) :
    WP R (w.setCell ⟨g, k * 3 + 1, none⟩ (.int .i64 n)) (M.setOb i ⟨x.code, x.ps.set k ⟨b.name, n, b.fixed⟩⟩) cv pv rv ps rs ∧ FrT Tr R w (w.setCell ⟨g, k * 3 + 1, none⟩ (.int .i64 n)) := by
  have hi' : (M.objs.map Ob.r)[i]? = some x.r := by simp [hi]
  have hrow : w.ownsRow R 92 3 _ x.ps.length (x.ps.flatMap Pr.r) := h.ob.own i x.r _ hi' hv
  have hkl : k < x.ps.length := (List.getElem?_eq_some_iff.1 hb).1
  rcases row_form hrow with ⟨_, hn⟩ | ⟨g', cap', hv'⟩
  · omega
  simp only [Value.slice.injEq, Option.some.injEq, Addr.mk.injEq, and_true] at hv'
  obtain ⟨rfl, rfl, rfl⟩ := hv'
  obtain ⟨r1, q1⟩ := hrow.stored (k * 3 + 1) (.int .i64 n)
  rw [rset_P x.ps k b n hb] at r1
  have hz := h.ob.bump (Nat.le_of_lt (lt_of_block h.blk)) hi' hv q1 r1
  refine h.ob1 (objs := M.objs.set i ⟨x.code, x.ps.set k ⟨b.name, n, b.fixed⟩⟩) (set_code hi rfl) ?_ (hz.2.mono (by decide) (Nat.le_refl _))
  rw [List.map_set]
  have := hz.1
  simpa [Ob.r] using this
theorem WP.setC (h : WP R w M cv pv rv ps rs) {i : Nat} {x : Ro} (hi : M.rooms[i]? = some x) {g cap m : Nat} (hv : rs[i]? = some (.slice (some ⟨g, 0, none⟩) m cap)) {k : Nat} {b : Ce} (hb : x.cs[k]? = some b) (n : Int) :
    WP R (w.setCell ⟨g, k * 4 + 1, none⟩ (.int .i64 n)) (M.setRo i ⟨x.outer, x.object, x.cs.set k ⟨b.name, n, b.kind, b.ready⟩⟩) cv pv rv ps rs ∧ FrT Tr R w (w.setCell ⟨g, k * 4 + 1, none⟩ (.int .i64 n)) := by
  have hi' : (M.rooms.map Ro.r)[i]? = some x.r := by simp [hi]
  have hrow : w.ownsRow R 100 4 _ x.cs.length (x.cs.flatMap Ce.r) := h.ro.own i x.r _ hi' hv
  have hkl : k < x.cs.length := (List.getElem?_eq_some_iff.1 hb).1
  rcases row_form hrow with ⟨_, hn⟩ | ⟨g', cap', hv'⟩
  · omega
  simp only [Value.slice.injEq, Option.some.injEq, Addr.mk.injEq, and_true] at hv'
  obtain ⟨rfl, rfl, rfl⟩ := hv'
  obtain ⟨r1, q1⟩ := hrow.stored (k * 4 + 1) (.int .i64 n)
  rw [rset_C x.cs k b n hb] at r1
  have hz := h.ro.bump (Nat.le_of_lt (lt_of_block h.blk)) hi' hv q1 r1
  refine h.ro1 (rooms := M.rooms.set i ⟨x.outer, x.object, x.cs.set k ⟨b.name, n, b.kind, b.ready⟩⟩) ?_ (hz.2.mono (by decide) (Nat.le_refl _))
  rw [List.map_set]
  have := hz.1
  simpa [Ro.r] using this
theorem WP.setC2 (h : WP R w M cv pv rv ps rs) {i : Nat} {x : Ro} (hi : M.rooms[i]? = some x) {g cap m : Nat} (hv : rs[i]? = some (.slice (some ⟨g, 0, none⟩) m cap)) {k : Nat} {b : Ce} (hb : x.cs[k]? = some b) (n : Int) (r : Bool) :
    WP R ((w.setCell ⟨g, k * 4 + 1, none⟩ (.int .i64 n)).setCell ⟨g, k * 4 + 3, none⟩ (.bool r)) (M.setRo i ⟨x.outer, x.object, x.cs.set k ⟨b.name, n, b.kind, r⟩⟩) cv pv rv ps rs ∧ FrT Tr R w ((w.setCell ⟨g, k * 4 + 1, none⟩ (.int .i64 n)).setCell ⟨g, k * 4 + 3, none⟩ (.bool r)) := by
  have hi' : (M.rooms.map Ro.r)[i]? = some x.r := by simp [hi]
  have hrow : w.ownsRow R 100 4 _ x.cs.length (x.cs.flatMap Ce.r) := h.ro.own i x.r _ hi' hv
  have hkl : k < x.cs.length := (List.getElem?_eq_some_iff.1 hb).1
  rcases row_form hrow with ⟨_, hn⟩ | ⟨g', cap', hv'⟩
  · omega
  simp only [Value.slice.injEq, Option.some.injEq, Addr.mk.injEq, and_true] at hv'
  obtain ⟨rfl, rfl, rfl⟩ := hv'
  obtain ⟨r1, q1⟩ := hrow.stored (k * 4 + 1) (.int .i64 n)
  obtain ⟨r2, q2⟩ := r1.stored (k * 4 + 3) (.bool r)
  rw [rset_C2 x.cs k b n r hb] at r2
  have hz := h.ro.bump (Nat.le_of_lt (lt_of_block h.blk)) hi' hv (grown_trans q1 q2) r2
  refine h.ro1 (rooms := M.rooms.set i ⟨x.outer, x.object, x.cs.set k ⟨b.name, n, b.kind, r⟩⟩) ?_ (hz.2.mono (by decide) (Nat.le_refl _))
  rw [List.map_set]
  have := hz.1
  simpa [Ro.r] using this
theorem WP.growP (h : WP R w M cv pv rv ps rs) {i : Nat} {x x' : Ob} (hi : M.objs[i]? = some x) {v v' : Value} (hv : ps[i]? = some v) {g cap : Nat} (he : pv = .slice (some ⟨g, 0, none⟩) M.objs.length cap)
    (hgr : w.grownBy w1 v.ownBlock) (hown : w1.ownsRow R 92 3 v' x'.ps.length (x'.ps.flatMap Pr.r)) (hg' : ∀ q, v'.ownBlock = some q → v.ownBlock = some q ∨ w.heap.size ≤ q) (hx : x'.code = x.code) :
    WP R (w1.setCell ⟨g, i, none⟩ v') (M.setOb i x') cv pv rv (ps.set i v') rs ∧ FrT Tr R w (w1.setCell ⟨g, i, none⟩ v') := by
  have hi' : (M.objs.map Ob.r)[i]? = some x.r := by simp [hi]
  have hob := h.ob
  rw [show pv = .slice (some ⟨g, 0, none⟩) (M.objs.map Ob.r).length cap by rw [List.length_map]; exact he] at hob
  have hz := hob.put (Nat.le_of_lt (lt_of_block h.blk)) hi' hv hgr hown hg'
  rw [← show pv = .slice (some ⟨g, 0, none⟩) (M.objs.map Ob.r).length cap by rw [List.length_map]; exact he] at hz
  rw [show i * 1 + (1 - 1) = i by omega] at hz
  refine h.ob1 (objs := M.objs.set i x') (set_code hi hx) ?_ hz.2
  rw [List.map_set]
  exact hz.1
theorem WP.growC (h : WP R w M cv pv rv ps rs) {i : Nat} {x x' : Ro} (hi : M.rooms[i]? = some x) {v v' : Value} (hv : rs[i]? = some v) {g cap : Nat} (he : rv = .slice (some ⟨g, 0, none⟩) M.rooms.length cap)
    (hgr : w.grownBy w1 v.ownBlock) (hown : w1.ownsRow R 100 4 v' x'.cs.length (x'.cs.flatMap Ce.r)) (hg' : ∀ q, v'.ownBlock = some q → v.ownBlock = some q ∨ w.heap.size ≤ q) (hx : x'.outer = x.outer ∧ x'.object = x.object) :
    WP R (w1.setCell ⟨g, i * 3 + 2, none⟩ v') (M.setRo i x') cv pv rv ps (rs.set i v') ∧ FrT Tr R w (w1.setCell ⟨g, i * 3 + 2, none⟩ v') := by
  have hi' : (M.rooms.map Ro.r)[i]? = some x.r := by simp [hi]
  have hob := h.ro
  rw [show rv = .slice (some ⟨g, 0, none⟩) (M.rooms.map Ro.r).length cap by rw [List.length_map]; exact he] at hob
  have hz := hob.put (Nat.le_of_lt (lt_of_block h.blk)) hi' hv hgr hown hg'
  rw [← show rv = .slice (some ⟨g, 0, none⟩) (M.rooms.map Ro.r).length cap by rw [List.length_map]; exact he] at hz
  refine h.ro1 (rooms := M.rooms.set i x') ?_ hz.2
  rw [List.map_set]
  rw [show x'.r = ⟨x.r.hd, x'.cs.length, x'.cs.flatMap Ce.r⟩ by simp [Ro.r, hx]]
  exact hz.1
theorem robj (h : WP R w M cv pv rv ps rs) {i : Nat} {x : Ob} (hi : M.objs[i]? = some x) : ∃ g cap v, pv = .slice (some ⟨g, 0, none⟩) M.objs.length cap ∧ i < M.objs.length ∧ ps[i]? = some v ∧ w.cell? ⟨g, i, none⟩ = some v ∧ w.ownsRow R 92 3 v x.ps.length (x.ps.flatMap Pr.r) ∧ g < w.heap.size ∧ R ≤ g ∧ ∀ j, w.frozen? ⟨g, j, none⟩ = false := by
  obtain ⟨g, cap, v, e2, hlt, hv, hcl, hrow, hg, hB, hfz, _⟩ := h.ob.at_ (i := i) (e := x.r) (by simp [hi])
  rw [List.length_map] at hlt e2
  exact ⟨g, cap, v, e2, hlt, hv, by have := hcl 0 v rfl; simpa using this, hrow, hg, hB, hfz⟩
set_option maxRecDepth 100000
set_option maxHeartbeats 1000000
theorem rstart_none (h : WP R w M cv pv rv ps rs) (hs : M.Small K) (hK : K ≤ 1000) (ho : M.Ok) (s : Int) (nm : ByteArray) (n : Int) (hc : M.cel s nm = none) :
    Calls Tryd.prog 17 #[.pointer (some ⟨R, 0, none⟩), .int .i64 s, .string nm, .int .i64 n] w fun e w' => e = .returned (.int .i64 7) ∧ Below w.heap.size w w' := by
  have HC := hide (rcell_any h hs hK ho s nm)
  have hp : M.plc s nm = -1 := by
    rcases plc_cel M s nm with ⟨h, _⟩ | ⟨_, _, _, _, _, _, _, _, _, h⟩
    · exact h
    · rw [hc] at h; cases h
  rw [hp] at HC
  clear h hs ho hp hc
  go_enter Tryd.func17, Tryd.ntmps17
  go_wp2_with fail
  refine Calls.mono HC.out ?_
  rintro e w2 ⟨rfl, hb⟩
  have HB := hide hb
  clear hb
  go_wp2_with fail
  go_ret
  exact ⟨rfl, HB.out⟩
theorem plc_of {i : Nat} {x : Ro} (hi : M.rooms[i]? = some x) {nm : ByteArray} {k : Nat} (hk : fC nm x.cs = some k) : M.plc i nm = k := by simp [Mo.plc, ro_nat hi, hk, placeC]
theorem rstart_some (h : WP R w M cv pv rv ps rs) (hs : M.Small K) (hK : K ≤ 1000) (ho : M.Ok) (i : Nat) (x : Ro) (hi : M.rooms[i]? = some x) (nm : ByteArray) (n : Int) (k : Nat) (c : Ce) (hk : fC nm x.cs = some k) (hc : x.cs[k]? = some c) :
    Calls Tryd.prog 17 #[.pointer (some ⟨R, 0, none⟩), .int .i64 (i : Int), .string nm, .int .i64 n] w fun e w' => e = .returned (.int .i64 0) ∧ WP R w' (M.setRo i ⟨x.outer, x.object, x.cs.set k ⟨c.name, n, c.kind, true⟩⟩) cv pv rv ps rs ∧ FrT Tr R w w' := by
  have HC := hide (rcell_any h hs hK ho i nm)
  rw [plc_of hi hk] at HC
  have HH := hide h
  have HX := hide hi
  have HCK := hide hc
  have hk0 : ¬ (k : Int) < 0 := by omega
  have HLR := hide (lt_of_block h.blk)
  clear h hs ho hi hk hc
  go_enter Tryd.func17, Tryd.ntmps17
  go_wp2_with fail
  refine Calls.mono HC.out ?_
  rintro e w3 ⟨rfl, hb3⟩
  have HH3 := hide (HH.out.later hb3)
  obtain ⟨h0, h1, h2, hl⟩ := HH3.out.c
  obtain ⟨g, cap, v, rfl, hlt, hv, c0, c1, c2, hrow, hg, hB, hfz⟩ := rroom HH3.out HX.out
  have hkl : k < x.cs.length := (List.getElem?_eq_some_iff.1 HCK.out).1
  rcases row_form hrow with ⟨rfl, hn⟩ | ⟨gb, capb, rfl⟩
  · omega
  have d1 := ratC hrow HCK.out rfl 1 _ rfl
  have d3 := ratC hrow HCK.out rfl 3 _ rfl
  have hgb := (hrow.lt gb rfl).2
  have hfb := hrow.frozenAt
  have HZ := hide ((HH3.out.later (Below.refl _ _).drew).setC2 HX.out hv HCK.out n true)
  have HB3 := hide hb3
  have hrb : R ≠ gb := by
    obtain ⟨cc, hcc⟩ := row_tag hrow (k := gb) rfl
    exact tags_ne HH3.out.blk hcc (by decide)
  have hgg : g ≠ gb := by
    obtain ⟨cc, hcc⟩ := row_tag hrow (k := gb) rfl
    obtain ⟨cd, hcd⟩ := row_tag HH3.out.ro.row (k := g) rfl
    exact tags_ne hcd hcc (by decide)
  clear hrow hv hfz hb3
  go_wp2_with fail
  refine wp_region_held (S := fun W => W.cell? ⟨R, 2, none⟩ = some (.slice (some ⟨g, 0, none⟩) M.rooms.length cap) ∧ W.cell? ⟨g, i * 3 + 2, none⟩ = some (.slice (some ⟨gb, 0, none⟩) x.cs.length capb)) (by kernel_rfl) ?_
  change wpAnyH _ _ _ _ _ _ _ _ (World.drew _)
  have HS : Hid (w3.drew.cell? ⟨R, 2, none⟩ = some (.slice (some ⟨g, 0, none⟩) M.rooms.length cap) ∧ w3.drew.cell? ⟨g, i * 3 + 2, none⟩ = some (.slice (some ⟨gb, 0, none⟩) x.cs.length capb)) := ⟨h2, c2⟩
  refine wh 0 (.pointer (some ⟨R, 0, none⟩)) HS.out ?_
  refine wh 1 (.pointer (some ⟨R, 0, none⟩)) HS.out ?_
  refine wh 2 (.pointer (some ⟨R, 2, none⟩)) HS.out ?_
  refine wg 3 (.slice (some ⟨g, 0, none⟩) M.rooms.length cap) rfl (Or.inl ⟨by kernel_rfl, fun W hW => by obtain ⟨q0, q1⟩ := hW; go_simp⟩) HS.out ?_
  refine wh 4 (.int .i64 (i : Int)) HS.out ?_
  refine wh 5 (.pointer (some ⟨g, i * 3, none⟩)) HS.out ?_
  refine wh 6 (.pointer (some ⟨g, i * 3 + 2, none⟩)) HS.out ?_
  refine wg 7 (.slice (some ⟨gb, 0, none⟩) x.cs.length capb) rfl (Or.inl ⟨by kernel_rfl, fun W hW => by obtain ⟨q0, q1⟩ := hW; go_simp⟩) HS.out ?_
  refine wh 8 (.int .i64 (k : Int)) HS.out ?_
  refine wh 9 (.pointer (some ⟨R, 0, none⟩)) HS.out ?_
  refine wh 10 (.pointer (some ⟨R, 0, none⟩)) HS.out ?_
  refine wh 11 (.pointer (some ⟨R, 2, none⟩)) HS.out ?_
  refine wg 12 (.slice (some ⟨g, 0, none⟩) M.rooms.length cap) rfl (Or.inl ⟨by kernel_rfl, fun W hW => by obtain ⟨q0, q1⟩ := hW; go_simp⟩) HS.out ?_
  refine wh 13 (.int .i64 (i : Int)) HS.out ?_
  refine wh 14 (.pointer (some ⟨g, i * 3, none⟩)) HS.out ?_
  refine wh 15 (.pointer (some ⟨g, i * 3 + 2, none⟩)) HS.out ?_
  refine wg 16 (.slice (some ⟨gb, 0, none⟩) x.cs.length capb) rfl (Or.inl ⟨by kernel_rfl, fun W hW => by obtain ⟨q0, q1⟩ := hW; go_simp⟩) HS.out ?_
  refine wh 17 (.int .i64 (k : Int)) HS.out ?_
  refine wh 18 (.int .i64 n) HS.out ?_
  refine wh 19 (.pointer (some ⟨gb, k * 4, none⟩)) HS.out ?_
  refine wh 20 (.pointer (some ⟨gb, k * 4 + 1, none⟩)) HS.out ?_
  refine wq1 21 fun K hK => ?_
  go_simp
  have HS1 : Hid ((w3.drew.setCell ⟨gb, k * 4 + 1, none⟩ (.int .i64 n)).cell? ⟨R, 2, none⟩ = some (.slice (some ⟨g, 0, none⟩) M.rooms.length cap) ∧ (w3.drew.setCell ⟨gb, k * 4 + 1, none⟩ (.int .i64 n)).cell? ⟨g, i * 3 + 2, none⟩ = some (.slice (some ⟨gb, 0, none⟩) x.cs.length capb)) := by
    refine ⟨?_, ?_⟩
    · rw [World.cell?_setCell_far _ _ _ _ (by exact hrb.symm)]; exact h2
    · rw [World.cell?_setCell_far _ _ _ _ (by exact hgg.symm)]; exact c2
  refine hK.out _ _ HS1.out (fun _ => ?_)
  clear hK K
  refine wh 22 (.pointer (some ⟨gb, k * 4, none⟩)) HS1.out ?_
  refine wh 23 (.pointer (some ⟨gb, k * 4 + 3, none⟩)) HS1.out ?_
  refine wq1 24 fun K hK => ?_
  go_simp
  have HS2 : Hid (((w3.drew.setCell ⟨gb, k * 4 + 1, none⟩ (.int .i64 n)).setCell ⟨gb, k * 4 + 3, none⟩ (.bool true)).cell? ⟨R, 2, none⟩ = some (.slice (some ⟨g, 0, none⟩) M.rooms.length cap) ∧ ((w3.drew.setCell ⟨gb, k * 4 + 1, none⟩ (.int .i64 n)).setCell ⟨gb, k * 4 + 3, none⟩ (.bool true)).cell? ⟨g, i * 3 + 2, none⟩ = some (.slice (some ⟨gb, 0, none⟩) x.cs.length capb)) := by
    refine ⟨?_, ?_⟩
    · rw [World.cell?_setCell_far _ _ _ _ (by exact hrb.symm)]; exact HS1.out.1
    · rw [World.cell?_setCell_far _ _ _ _ (by exact hgg.symm)]; exact HS1.out.2
  refine hK.out _ _ HS2.out (fun _ => ?_)
  clear hK K
  refine wpAnyH_done (by kernel_rfl) ?_ _
  go_simp
  go_wp2_with fail
  go_ret
  exact ⟨rfl, HZ.out.1, (FrT.of HB3.out.drew (Nat.le_of_lt HLR.out)).trans HZ.out.2⟩
end
end Go.Proofs.YtomogijjkdiomaaDoor
