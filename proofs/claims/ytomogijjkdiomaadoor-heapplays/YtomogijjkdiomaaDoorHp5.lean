/-
  Where a name is found, and what is read there.
-/
import Derived.Test.YtomogijjkdiomaaDoorHp4
set_option maxRecDepth 100000
set_option maxHeartbeats 16000000
namespace Go.Proofs.YtomogijjkdiomaaDoor
open Go.RowKit

/-- From a scope on outwards: where a name is found. -/
inductive Mo.Finds (M : Mo) (nm : ByteArray) : Int → Int → Prop where
  | out (i : Int) (h : M.ro i = none) : Mo.Finds M nm i (-1)
  | here (i : Nat) (x : Ro) (h : M.rooms[i]? = some x) (hh : M.has i nm = true) : Mo.Finds M nm i i
  | on (i : Nat) (x : Ro) (r : Int) (h : M.rooms[i]? = some x) (hh : M.has i nm = false) (ho : x.outer < i) (hr : Mo.Finds M nm x.outer r) : Mo.Finds M nm i r
section
variable {H : Nat} {w : World} {M : Mo} {ov sv : Value} {os ss : List Value} {K : Nat}
set_option maxRecDepth 100000
set_option maxHeartbeats 1000000
theorem ro_nat {M : Mo} {i : Nat} {x : Ro} (h : M.rooms[i]? = some x) : M.ro i = some x := by simp [Mo.ro, h]
theorem ob_nat {M : Mo} {i : Nat} {x : Ob} (h : M.objs[i]? = some x) : M.ob i = some x := by simp [Mo.ob, h]
theorem at_C (h : HP H w M ov sv os ss) (i : Nat) (x : Ro) (hi : M.rooms[i]? = some x) : ∃ a : Addr, Calls Tryd.prog 37 #[sv, .int .i64 (i : Int)] w fun e w' => e = .returned (.pointer (some a)) ∧ w' = w := by
  obtain ⟨g, cap, v, e2, hlt, hv, hc, hrow, hg, hB, hf, _⟩ := h.ro.at_ (i := i) (e := x.h) (by simp [hi])
  have HC := at_inC g cap _ i hlt w
  rw [← e2] at HC
  exact ⟨_, HC⟩
theorem find_any (h : HP H w M ov sv os ss) (hs : M.Small K) (hK : K ≤ 1000) (i r : Int) (nm : ByteArray) (hf : M.Finds nm i r) :
    Calls Tryd.prog 22 #[.pointer (some ⟨H, 0, none⟩), .int .i64 i, .string nm] w fun e w' => e = .returned (.int .i64 r) ∧ Below w.heap.size w w' := by
  have HH := hide h
  have HF := hide hf
  have HSM := hide hs
  clear h hf hs
  go_enter Tryd.func22, Tryd.ntmps22
  go_wp2_with fail
  go_loopw [1] (fun i' wr => ∃ j : Int, i' = .int .i64 j ∧ M.Finds nm j r ∧ Below w.heap.size w wr) (fun i' _ => (intOf i' + 1).toNat)
  case atStart => exact ⟨i, rfl, HF.out, Below.refl _ _⟩
  case round =>
    obtain ⟨j, rfl, hfj, hb⟩ := hrel
    have HB := hide hb
    have HHr := hide (HH.out.later hb)
    clear hb
    obtain ⟨h0, h1, _, _, hl⟩ := HHr.out.c
    cases hfj with
    | out _ ho =>
      have hout : j < 0 ∨ (M.rooms.length : Int) ≤ j := by
        rcases ro_cases M j with ⟨_, h⟩ | ⟨i, x, rfl, _, h⟩
        · exact h
        · rw [ho] at h; cases h
      have HC := hide (at_outC sv _ (row_form HHr.out.ro.row) j (by simpa using hout) wr)
      clear hout ho
      go_wp2_with fail
      refine Calls.mono HC.out ?_
      rintro e w2 ⟨rfl, rfl⟩
      go_wp2_with fail
      go_ret
      exact ⟨rfl, HB.out⟩
    | here k x hk hh =>
      obtain ⟨a, hc⟩ := at_C HHr.out k x hk
      have HC := hide hc
      have HS := hide (has_any HHr.out HSM.out hK k nm)
      rw [hh] at HS
      clear hc hh hk
      go_wp2_with fail
      refine Calls.mono HC.out ?_
      rintro e w2 ⟨rfl, rfl⟩
      go_wp2_with fail
      refine Calls.mono HS.out ?_
      rintro e w2 ⟨rfl, hb2⟩
      have HB2 := hide (HB.out.trans (hb2.mono HB.out.size))
      clear hb2
      go_wp2_with fail
      go_ret
      exact ⟨rfl, HB2.out⟩
    | on k x _ hk hh ho hr =>
      obtain ⟨a, hc⟩ := at_C HHr.out k x hk
      have HC := hide hc
      have HS := hide (has_any HHr.out HSM.out hK k nm)
      rw [hh] at HS
      have HO := hide (fun W hW => outOf_any (HHr.out.later (w' := W) hW) k)
      rw [show M.outOf k = x.outer by simp [Mo.outOf, ro_nat hk]] at HO
      unfold hP at HO
      have HRr := hide hr
      have HOO := hide ho
      clear hc hh hk hr ho
      go_wp2_with fail
      refine Calls.mono HC.out ?_
      rintro e w2 ⟨rfl, rfl⟩
      go_wp2_with fail
      refine Calls.mono HS.out ?_
      rintro e w2 ⟨rfl, hb2⟩
      have HU := hide (HO.out w2 hb2)
      have HB2 := hide (HB.out.trans (hb2.mono HB.out.size))
      clear hb2
      go_wp2_with fail
      refine Calls.mono HU.out ?_
      rintro e w3 ⟨rfl, rfl⟩
      go_wp2_with fail
      go_roundw
      case rel => exact ⟨x.outer, rfl, HRr.out, HB2.out⟩
      case measure =>
        have := HOO.out
        simp [intOf]; omega
def Mo.readV (M : Mo) (s : Int) (nm : ByteArray) : Value × Int :=
  match M.cel s nm with
  | some c => if c.ready then (.agg #[.int .i64 3, .int .i64 c.v, .string ⟨#[]⟩], 0) else (noVal, 6)
  | none =>
    match M.prop (M.objOf s) nm with
    | some p => (.agg #[.int .i64 3, .int .i64 p.v, .string ⟨#[]⟩], 0)
    | none => (noVal, 7)
def errV (e : Int) : Value := if e = 0 then .nilIface else .iface 47 (.int .i64 e)
theorem res3 {w1 : World} {b : Nat} {x0 x1 x2 a c d : Value} (o : Obj) (n0 : w1.cell? ⟨b, 0, none⟩ = some x0) (n1 : w1.cell? ⟨b, 1, none⟩ = some x1) (n2 : w1.cell? ⟨b, 2, none⟩ = some x2) (nl : b < w1.heap.size) :
    ((((w1.setCell ⟨b, 0, none⟩ a).setCell ⟨b, 1, none⟩ c).setCell ⟨b, 2, none⟩ d).alloc o).cell? ⟨b, 0, none⟩ = some a ∧ ((((w1.setCell ⟨b, 0, none⟩ a).setCell ⟨b, 1, none⟩ c).setCell ⟨b, 2, none⟩ d).alloc o).cell? ⟨b, 1, none⟩ = some c ∧ ((((w1.setCell ⟨b, 0, none⟩ a).setCell ⟨b, 1, none⟩ c).setCell ⟨b, 2, none⟩ d).alloc o).cell? ⟨b, 2, none⟩ = some d := by
  have hz : b < (((w1.setCell ⟨b, 0, none⟩ a).setCell ⟨b, 1, none⟩ c).setCell ⟨b, 2, none⟩ d).heap.size := by simpa using nl
  refine ⟨?_, ?_, ?_⟩
  all_goals
    rw [World.cell?_alloc_past _ _ _ (by exact hz)]
    go_simp
theorem rprop_no (h : HP H w M ov sv os ss) (hs : M.Small K) (hK : K ≤ 1000) (o : Int) (nm : ByteArray) (hp : M.prop o nm = none) :
    Calls Tryd.prog 50 #[.pointer (some ⟨H, 0, none⟩), .int .i64 o, .string nm] w fun e w' => e = .returned (.tuple #[.agg #[.int .i64 0, .int .i64 0, .string ⟨#[]⟩], .iface 47 (.int .i64 7)]) ∧ Below w.heap.size w w' := by
  have hb0 : Below w.heap.size w (w.alloc vZ) := (Below.refl _ _).alloc (Nat.le_refl _) _
  have HG := hide (get_no (h.later hb0) hs hK o nm hp)
  unfold vZ at HG
  clear h hs hp hb0
  go_enter Tryd.func50, Tryd.ntmps50
  go_wp2_with fail
  refine Calls.mono HG.out ?_
  rintro e w1 ⟨rfl, hb⟩
  obtain ⟨n0, n1, n2, nf, nl⟩ := new3 (hb.mono (by simp))
  have HB := hide (((Below.refl _ w).alloc (Nat.le_refl _) _).trans (hb.mono (by simp)))
  clear hb
  go_wp2_with fail
  obtain ⟨r0, r1, r2⟩ := res3 (a := .int .i64 0) (c := .int .i64 0) (d := .string ⟨#[]⟩) (.cells #[.int .i64 0, .int .i64 0, .string ⟨#[]⟩] 36) n0 n1 n2 nl
  refine bodyPost_ret (v := .tuple #[.agg #[.int .i64 0, .int .i64 0, .string ⟨#[]⟩], .iface 47 (.int .i64 7)]) (by simp [results, Tryd.results50, go_sem, r0, r1, r2]) rfl ⟨rfl, ?_⟩
  exact (below3 HB.out (Nat.le_refl _) _ _ _).alloc (by simpa using Nat.le_of_lt nl) _
theorem rprop_yes (h : HP H w M ov sv os ss) (hs : M.Small K) (hK : K ≤ 1000) (o : Int) (nm : ByteArray) {p : Pr} (hp : M.prop o nm = some p) :
    Calls Tryd.prog 50 #[.pointer (some ⟨H, 0, none⟩), .int .i64 o, .string nm] w fun e w' => e = .returned (.tuple #[.agg #[.int .i64 3, .int .i64 p.v, .string ⟨#[]⟩], .nilIface]) ∧ Below w.heap.size w w' := by
  have hb0 : Below w.heap.size w (w.alloc vZ) := (Below.refl _ _).alloc (Nat.le_refl _) _
  have HG := hide (get_yes (h.later hb0) hs hK o nm hp)
  unfold vZ at HG
  clear h hs hp hb0
  go_enter Tryd.func50, Tryd.ntmps50
  go_wp2_with fail
  refine Calls.mono HG.out ?_
  rintro e w1 ⟨rfl, hb⟩
  obtain ⟨n0, n1, n2, nf, nl⟩ := new3 (hb.mono (by simp))
  have HB := hide (((Below.refl _ w).alloc (Nat.le_refl _) _).trans (hb.mono (by simp)))
  clear hb
  go_wp2_with fail
  obtain ⟨r0, r1, r2⟩ := res3 (a := .int .i64 3) (c := .int .i64 p.v) (d := .string ⟨#[]⟩) (.cells #[.int .i64 3, .int .i64 p.v, .string ⟨#[]⟩] 36) n0 n1 n2 nl
  refine bodyPost_ret (v := .tuple #[.agg #[.int .i64 3, .int .i64 p.v, .string ⟨#[]⟩], .nilIface]) (by simp [results, Tryd.results50, go_sem, r0, r1, r2]) rfl ⟨rfl, ?_⟩
  exact (below3 HB.out (Nat.le_refl _) _ _ _).alloc (by simpa using Nat.le_of_lt nl) _
theorem read_prop (h : HP H w M ov sv os ss) (hs : M.Small K) (hK : K ≤ 1000) (s : Int) (nm : ByteArray) (hc : M.cel s nm = none) (V : Value) (n m : Int) (hV : V = .agg #[.int .i64 n, .int .i64 m, .string ⟨#[]⟩]) (X : Value)
    (hR : ∀ W, Below w.heap.size w W → Calls Tryd.prog 50 #[.pointer (some ⟨H, 0, none⟩), .int .i64 (M.objOf s), .string nm] W fun e w' => e = .returned (.tuple #[V, X]) ∧ Below W.heap.size W w') :
    Calls Tryd.prog 20 #[.pointer (some ⟨H, 0, none⟩), .int .i64 s, .string nm] w fun e w' => e = .returned (.tuple #[V, X]) ∧ Below w.heap.size w w' := by
  obtain ⟨h0, h1, hf, hf1, hl⟩ := h.c
  have hb0 : Below w.heap.size w (w.alloc vZ) := (Below.refl _ _).alloc (Nat.le_refl _) _
  obtain ⟨q, r, hA, hO, hr⟩ := lookC (h.later hb0) hs hK s nm
  obtain ⟨oo, hoo⟩ : ∃ oo, oo = M.objOf s := ⟨_, rfl⟩
  have HO : Hid (∀ w1, Below w.heap.size w w1 → Calls Tryd.prog 35 #[.pointer (some ⟨H, 0, none⟩), .int .i64 s] w1 fun e w' => e = .returned (.int .i64 oo) ∧ w' = w1) := fun w1 hb => by rw [hoo]; exact objOf_any (h.later hb) s
  rw [← hoo] at hR
  have HR := hide hR
  have HC := hide hA
  have HD := hide hO
  unfold vZ at HC HD
  clear h hA hO hR hoo hb0
  rcases hr with ⟨rfl, hp⟩ | ⟨i, x, k, c, g, cap, rfl, _, _, _, hp, rfl, _, hW⟩
  · clear hp hc
    subst hV
    go_enter Tryd.func20, Tryd.ntmps20
    go_wp2_with fail
    refine Calls.mono HC.out ?_
    rintro e w' ⟨rfl, rfl⟩
    go_wp2_with fail
    refine Calls.mono HD.out ?_
    rintro e w1 ⟨rfl, hb⟩
    have HB := hide (((Below.refl _ w).alloc (Nat.le_refl _) _).trans (hb.mono (by simp)))
    obtain ⟨n0, n1, n2, nf, nl⟩ := new3 (hb.mono (by simp))
    have HN1 : Hid (∀ w2, Below w1.heap.size w1 w2 → Below (w.heap.size + 1) (w.alloc (.cells #[.int .i64 0, .int .i64 0, .string ⟨#[]⟩] 36)) w2) := fun w2 hb2 => (hb.mono (by simp)).trans (hb2.mono (by omega))
    clear hb n0 n1 n2 nf
    go_wp2_with fail
    refine Calls.mono (HO.out w1 HB.out) ?_
    rintro e w2 ⟨rfl, rfl⟩
    go_wp2_with fail
    refine Calls.mono (HR.out _ HB.out) ?_
    rintro e w3 ⟨rfl, hb3⟩
    obtain ⟨n0, n1, n2, nf, nl3⟩ := new3 (HN1.out w3 hb3)
    have HB3 := hide (HB.out.trans (hb3.mono HB.out.size))
    clear hb3
    go_wp2_with fail
    refine bodyPost_ret (v := .tuple #[.agg #[.int .i64 n, .int .i64 m, .string ⟨#[]⟩], X]) (by simp [results, Tryd.results20, go_sem, n0, n1, n2]) rfl ⟨rfl, ?_⟩
    exact below3 HB3.out (Nat.le_refl _) _ _ _
  · rw [hc] at hp
    cases hp
theorem read_cel (h : HP H w M ov sv os ss) (hs : M.Small K) (hK : K ≤ 1000) (s : Int) (nm : ByteArray) {c : Ce} (hc : M.cel s nm = some c) :
    Calls Tryd.prog 20 #[.pointer (some ⟨H, 0, none⟩), .int .i64 s, .string nm] w fun e w' => e = .returned (if c.ready then .tuple #[.agg #[.int .i64 3, .int .i64 c.v, .string ⟨#[]⟩], .nilIface] else .tuple #[.agg #[.int .i64 0, .int .i64 0, .string ⟨#[]⟩], .iface 47 (.int .i64 6)]) ∧ Below w.heap.size w w' := by
  obtain ⟨h0, h1, hf, hf1, hl⟩ := h.c
  have hb0 : Below w.heap.size w (w.alloc vZ) := (Below.refl _ _).alloc (Nat.le_refl _) _
  obtain ⟨q, r, hA, hO, hr⟩ := lookC (h.later hb0) hs hK s nm
  have HC := hide hA
  have HD := hide hO
  unfold vZ at HC HD
  clear h hA hO hb0
  rcases hr with ⟨rfl, hp⟩ | ⟨i, x, k, c', g, cap, rfl, _, _, _, hp, rfl, _, hW⟩
  · rw [hc] at hp
    cases hp
  · rw [hc] at hp
    cases hp
    clear hc
    have HW := hide hW
    clear hW
    cases hrd : c.ready
    all_goals
      go_enter Tryd.func20, Tryd.ntmps20
      go_wp2_with fail
      refine Calls.mono HC.out ?_
      rintro e w' ⟨rfl, rfl⟩
      go_wp2_with fail
      refine Calls.mono HD.out ?_
      rintro e w1 ⟨rfl, hb⟩
      obtain ⟨hcc, hgl, _⟩ := HW.out w1 hb
      have d1 := hcc 1 _ rfl
      have d2 := hcc 2 _ rfl
      have d3 := hcc 3 _ rfl
      have d5 := hcc 5 _ rfl
      rw [hrd] at d5
      obtain ⟨n0, n1, n2, nf, nl⟩ := new3 (hb.mono (by simp))
      have HB := hide (((Below.refl _ w).alloc (Nat.le_refl _) _).trans (hb.mono (by simp)))
      clear hb hcc
      go_wp2_with fail
    · refine bodyPost_ret (v := .tuple #[.agg #[.int .i64 0, .int .i64 0, .string ⟨#[]⟩], .iface 47 (.int .i64 6)]) (by simp [results, Tryd.results20, go_sem, n0, n1, n2]) rfl ⟨rfl, ?_⟩
      exact below3 HB.out (Nat.le_refl _) _ _ _
    · refine bodyPost_ret (v := .tuple #[.agg #[.int .i64 3, .int .i64 c.v, .string ⟨#[]⟩], .nilIface]) (by simp [results, Tryd.results20, go_sem, n0, n1, n2]) rfl ⟨rfl, ?_⟩
      exact below3 HB.out (Nat.le_refl _) _ _ _
end
end Go.Proofs.YtomogijjkdiomaaDoor
