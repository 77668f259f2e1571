/-
  Library functions at this program's numbers, by the library's own contracts.
-/
import Derived.Shelf.Strings.Builder1
import Derived.Shelf.Strings.Builder2
import Derived.Shelf.Strings.OnBuilder
import Derived.Test.YtomogijjkdiomaaDoorProg
import Derived.Test.YtomogijjkdiomaaDoorHp13
import Derived.Test.YtomogijjkdiomaaDoorHp21
namespace Go.Proofs
open Go.Shelf
def Tryd.lays156_ren : Go.Shelf.Ren := ⟨fun | 156 => 31 | 165 => 51 | 166 => 52 | 169 => 53 | 240 => 61 | 241 => 62 | 276 => 64 | 277 => 65 | n => n, fun | 31 => 66 | 9 => 9 | 3 => 3 | 4 => 4 | 0 => 0 | 20 => 20 | 72 => 107 | 76 => 109 | 70 => 104 | 37 => 105 | 75 => 45 | 127 => 120 | 164 => 128 | 5 => 5 | 80 => 111 | n => n, fun | n => n⟩
theorem Tryd.lays156 : Go.Proofs.Lays.n156 Tryd.prog Tryd.lays156_ren := {
  mixed := by kernel_rfl
  f156 := Tryd.func31.trans (congrArg some (by kernel_rfl))
  f165 := Tryd.func51.trans (congrArg some (by kernel_rfl))
  f166 := Tryd.func52.trans (congrArg some (by kernel_rfl))
  f169 := Tryd.func53.trans (congrArg some (by kernel_rfl))
  f240 := Tryd.func61.trans (congrArg some (by kernel_rfl))
  f241 := Tryd.func62.trans (congrArg some (by kernel_rfl))
  f276 := Tryd.func64.trans (congrArg some (by kernel_rfl))
  f277 := Tryd.func65.trans (congrArg some (by kernel_rfl))
  t0 := Tryd.underlying0
  a0 := Tryd.isAgg0
  z0 := Tryd.sizeOf0
  v0 := Tryd.zeroValue0
  t3 := Tryd.underlying3
  a3 := Tryd.isAgg3
  z3 := Tryd.sizeOf3
  v3 := Tryd.zeroValue3
  t4 := Tryd.underlying4
  a4 := Tryd.isAgg4
  z4 := Tryd.sizeOf4
  v4 := Tryd.zeroValue4
  t9 := Tryd.underlying9
  a9 := Tryd.isAgg9
  z9 := Tryd.sizeOf9
  v9 := Tryd.zeroValue9
  t20 := Tryd.underlying20
  a20 := Tryd.isAgg20
  z20 := Tryd.sizeOf20
  v20 := Tryd.zeroValue20
  t31 := Tryd.underlying66
  a31 := Tryd.isAgg66
  z31 := Tryd.sizeOf66
  v31 := Tryd.zeroValue66
  t37 := Tryd.underlying105
  a37 := Tryd.isAgg105
  z37 := Tryd.sizeOf105
  v37 := Tryd.zeroValue105
  t70 := Tryd.underlying104
  a70 := Tryd.isAgg104
  z70 := Tryd.sizeOf104
  v70 := Tryd.zeroValue104
  t72 := Tryd.underlying107
  a72 := Tryd.isAgg107
  z72 := Tryd.sizeOf107
  v72 := Tryd.zeroValue107
  t75 := Tryd.underlying45
  a75 := Tryd.isAgg45
  z75 := Tryd.sizeOf45
  v75 := Tryd.zeroValue45
  t76 := Tryd.underlying109
  a76 := Tryd.isAgg109
  z76 := Tryd.sizeOf109
  v76 := Tryd.zeroValue109
  t127 := Tryd.underlying120
  a127 := Tryd.isAgg120
  z127 := Tryd.sizeOf120
  v127 := Tryd.zeroValue120
  t164 := Tryd.underlying128
  a164 := Tryd.isAgg128
  z164 := Tryd.sizeOf128
  v164 := Tryd.zeroValue128 }
theorem Tryd.Builder_Extra_156 : Builder.Extra Tryd.prog Tryd.lays156_ren := {
  sizeBuilder := by kernel_rfl
  liesBuilder := by kernel_rfl
  t5 := Tryd.underlying5
  a5 := Tryd.isAgg5
  z5 := Tryd.sizeOf5
  v5 := Tryd.zeroValue5
  infoByte := by kernel_rfl
  cellsByte := by kernel_rfl
  sizeByte := by kernel_rfl
  neB5 := by decide }
open Go.RowKit in
theorem Tryd.strings_Join_none (a : Option Addr) (c : Nat) (sep : ByteArray) (w : World) :
    Calls Tryd.prog 31 #[.slice a 0 c, .string sep] w fun e w' => e = .returned (.string ⟨#[]⟩) ∧ w' = w := Any.strings_Join_none Tryd.lays156 Tryd.Builder_Extra_156 a c sep w
open Go.RowKit in
theorem Tryd.strings_Join (bk o c : Nat) (xs : List ByteArray) (sep : ByteArray) (w : World) (hcells : ∀ (j : Nat) x, xs[j]? = some x → w.cell? ⟨bk, o + j, none⟩ = some (.string x)) (hbk : bk < w.heap.size) (hN : xs.length ≤ 140737488355328) (hcap : xs.length ≤ c) (hlen : (Lib.join (xs.map (·.data.toList)) sep.data.toList).length ≤ 140737488355328) :
    Calls Tryd.prog 31 #[.slice (some ⟨bk, o, none⟩) xs.length c, .string sep] w fun e w' => e = .returned (.string ⟨(Lib.join (xs.map (·.data.toList)) sep.data.toList).toArray⟩) ∧ Below w.heap.size w w' := Any.strings_Join Tryd.lays156 Tryd.Builder_Extra_156 bk o c xs sep w hcells hbk hN hcap hlen
end Go.Proofs
set_option maxRecDepth 100000
set_option maxHeartbeats 16000000
namespace Go.Proofs.YtomogijjkdiomaaDoor
open Go.RowKit

def RowS (w : World) (v : Value) (ns : List ByteArray) : Prop :=
  (ns = [] ∧ ∃ a c, v = .slice a 0 c) ∨ (0 < ns.length ∧ ∃ g cap, v = .slice (some ⟨g, 0, none⟩) ns.length cap ∧ ns.length ≤ cap ∧ g < w.heap.size ∧ ∀ (j : Nat) x, ns[j]? = some x → w.cell? ⟨g, j, none⟩ = some (.string x))
def joinS (ns : List ByteArray) : ByteArray := if ns = [] then ⟨#[]⟩ else ⟨(Lib.join (ns.map (·.data.toList)) [32]).toArray⟩
def Mo.names (M : Mo) (o : Int) : List ByteArray := ((M.ob o).map fun x => x.ps.map Pr.name).getD []
theorem info9 : (Tryd.prog.info? 9).map (fun i => (i.zero, i.size, i.bytes)) = some (some (.string ⟨#[]⟩), 1, 16) := by kernel_rfl
theorem inter_len (sep : List UInt8) (M : Nat) : ∀ xs : List (List UInt8), (∀ x ∈ xs, x.length ≤ M) → (sep.intercalate xs).length ≤ xs.length * (M + sep.length)
  | [], _ => by simp [List.intercalate]
  | [x], h => by
    have := h x (by simp)
    simp [List.intercalate]
    omega
  | x :: y :: r, h => by
    have h1 := inter_len sep M (y :: r) (fun z hz => h z (by simp [hz]))
    have h2 := h x (by simp)
    have h3 : sep.intercalate (x :: y :: r) = x ++ (sep ++ sep.intercalate (y :: r)) := by simp [List.intercalate, List.intersperse]
    rw [h3, List.length_append, List.length_append, List.length_cons, Nat.add_mul]
    omega
theorem join_any {w : World} {v : Value} {ns : List ByteArray} (h : RowS w v ns) (hl : ns.length ≤ 1000) (hn : ∀ x ∈ ns, x.size ≤ 20) :
    Calls Tryd.prog 31 #[v, .string ⟨#[32]⟩] w fun e w' => e = .returned (.string (joinS ns)) ∧ Below w.heap.size w w' := by
  rcases h with ⟨rfl, a, c, rfl⟩ | ⟨h0, g, cap, rfl, hc, hg, hcell⟩
  · exact (Tryd.strings_Join_none a c ⟨#[32]⟩ w).mono fun e w' ⟨h1, h2⟩ => ⟨h1, by rw [h2]; exact Below.refl _ _⟩
  · have hj : (Lib.join (ns.map (·.data.toList)) [32]).length ≤ 140737488355328 := by
      have h1 := inter_len [32] 20 (ns.map (·.data.toList)) (fun x hx => by
        obtain ⟨y, hy, rfl⟩ := List.mem_map.1 hx
        have := hn y hy
        simpa using this)
      simp only [List.length_map, List.length_singleton] at h1
      unfold Lib.join
      omega
    have hne : ns ≠ [] := fun e => by rw [e] at h0; simp at h0
    rw [joinS, if_neg hne]
    exact Tryd.strings_Join g 0 cap ns ⟨#[32]⟩ w (fun j x hj => by rw [Nat.zero_add]; exact hcell j x hj) hg (by omega) hc hj
section
variable {H : Nat} {w : World} {M : Mo} {ov sv : Value} {os ss : List Value} {K : Nat}
set_option maxRecDepth 100000
set_option maxHeartbeats 1000000
theorem keys_out (h : HP H w M ov sv os ss) (o : Int) (ho : M.ob o = none) :
    Calls Tryd.prog 32 #[.pointer (some ⟨H, 0, none⟩), .int .i64 o] w fun e w' => ∃ v, e = .returned v ∧ RowS w' v (M.names o) ∧ Below w.heap.size w w' := by
  obtain ⟨h0, h1, hf, hf1, hl⟩ := h.c
  have hout : o < 0 ∨ (M.objs.length : Int) ≤ o := by
    rcases ob_cases M o with ⟨_, h⟩ | ⟨i, x, rfl, _, h⟩
    · exact h
    · rw [ho] at h; cases h
  have HC := hide (at_outP ov _ (row_form h.ob.row) o (by simpa using hout) w)
  rw [show M.names o = [] by simp [Mo.names, ho]]
  clear h hout ho
  go_enter Tryd.func32, Tryd.ntmps32
  go_wp2_with fail
  refine Calls.mono HC.out ?_
  rintro e w' ⟨rfl, rfl⟩
  go_wp2_with fail
  go_ret
  exact ⟨_, rfl, .inl ⟨rfl, _, _, rfl⟩, Below.refl _ _⟩
theorem keys_in (h : HP H w M ov sv os ss) (hs : M.Small K) (hK : K ≤ 1000) (i : Nat) (x : Ob) (hi : M.objs[i]? = some x) :
    Calls Tryd.prog 32 #[.pointer (some ⟨H, 0, none⟩), .int .i64 (i : Int)] w fun e w' => ∃ v, e = .returned v ∧ RowS w' v (M.names i) ∧ Below w.heap.size w w' := by
  obtain ⟨h0, h1, hf, hf1, hl⟩ := h.c
  obtain ⟨g, cap, v, e2, hlt, hv, hcl, hrow, hg, hB, hfz, _⟩ := h.ob.at_ (i := i) (e := x.h) (by simp [hi])
  have HC := hide (at_inP g cap _ i hlt w)
  rw [← e2] at HC
  have hc1 : w.cell? ⟨g, i * 2 + 1, none⟩ = some v := hcl 1 v rfl
  have hrow' : w.ownsRow H 88 5 v x.ps.length (x.ps.flatMap Pr.h) := hrow
  have hsm := hs.ps x (List.mem_of_getElem? hi)
  have hlen : x.ps.length ≤ 1000 := by omega
  rw [show M.names i = x.ps.map Pr.name by simp [Mo.names, ob_nat hi]]
  have HROW := hide hrow'
  have hform := row_form hrow'
  clear h hs hi hcl hrow hrow' hv e2 hfz
  obtain ⟨ii, hi0, hz0, hz1, hz2⟩ := info_parts info9
  rcases hform with ⟨rfl, hn⟩ | ⟨gb, capb, rfl⟩
  · have hp0 : x.ps = [] := List.length_eq_zero_iff.1 hn
    rw [hp0]
    clear hn hp0 HROW
    go_enter Tryd.func32, Tryd.ntmps32
    go_wp2_with fail
    refine Calls.mono HC.out ?_
    rintro e w1 ⟨rfl, rfl⟩
    go_wp2_with fail
    obtain ⟨w2, hrun, hown, hgr⟩ := run_makeSlice_full (P := Tryd.prog) w1 w1.heap.size 66 9 ii _ 1 Tryd.underlying66 hi0 hz0 hz1 .i64 .i64 0 (by simp) (by simp) (by decide) (Nat.le_refl _)
    have hrun' : (Instr.makeSlice 66 (.int .i64 0) (.int .i64 0)).run Tryd.prog w1 = .ok (.slice (some ⟨w1.heap.size, 0, none⟩) 0 0) w2 := hrun
    rw [hrun']
    have HB2 : Hid (Below w1.heap.size w1 w2) := (Below.refl w1.heap.size w1).grown hgr (Nat.le_refl _) (fun k hk => by cases hk)
    have k1 : w2.cell? ⟨g, i * 2 + 1, none⟩ = some (.slice none 0 0) := (cell_below HB2.out (a := ⟨g, i * 2 + 1, none⟩) hg).trans hc1
    have hg2 : g < w2.heap.size := Nat.lt_of_lt_of_le hg HB2.out.size
    clear hrun hrun' hown hgr hc1
    go_simp
    go_wp2_with fail
    go_loopw [28] (fun j wr => j = .int .i64 0 ∧ wr = w2) (fun j _ => 0)
    case atStart => exact ⟨rfl, rfl⟩
    case round =>
      obtain ⟨rfl, hw⟩ := hrel
      rw [hw]
      clear hw
      go_wp2_with fail
      go_ret
      exact ⟨_, rfl, .inl ⟨rfl, _, _, rfl⟩, HB2.out⟩
  · have hgb := (HROW.out.lt gb rfl).2
    go_enter Tryd.func32, Tryd.ntmps32
    go_wp2_with fail
    refine Calls.mono HC.out ?_
    rintro e w1 ⟨rfl, rfl⟩
    go_wp2_with fail
    obtain ⟨w2, hrun, hown, hgr⟩ := run_makeSlice_full (P := Tryd.prog) w1 w1.heap.size 66 9 ii _ 1 Tryd.underlying66 hi0 hz0 hz1 .i64 .i64 x.ps.length (by omega) (by rw [hz2]; omega) (by unfold maxLen; omega) (Nat.le_refl _)
    rw [hrun]
    have HB2 : Hid (Below w1.heap.size w1 w2) := (Below.refl w1.heap.size w1).grown hgr (Nat.le_refl _) (fun k hk => by cases hk)
    have HROW2 := hide (row_later HROW.out HB2.out)
    have HOWN := hide hown
    have k1 : w2.cell? ⟨g, i * 2 + 1, none⟩ = some (.slice (some ⟨gb, 0, none⟩) x.ps.length capb) := (cell_below HB2.out (a := ⟨g, i * 2 + 1, none⟩) hg).trans hc1
    have hg2 : g < w2.heap.size := Nat.lt_of_lt_of_le hg HB2.out.size
    have hgk : w1.heap.size < w2.heap.size := (hown.lt _ rfl).2
    clear hrun hown hgr hc1
    go_simp
    go_wp2_with fail
    go_loopw [28] (fun j wr => ∃ (m : Nat) (xs : List Value), m ≤ x.ps.length ∧ j = .int .i64 m ∧ wr.ownsRow w1.heap.size 9 1 (.slice (some ⟨w1.heap.size, 0, none⟩) x.ps.length x.ps.length) x.ps.length xs ∧ (∀ (q : Nat) p, q < m → x.ps[q]? = some p → xs[q]? = some (.string p.name)) ∧ Below w1.heap.size w1 wr) (fun j _ => x.ps.length - (intOf j).toNat)
    case atStart => exact ⟨0, _, Nat.zero_le _, rfl, HOWN.out, fun q p hq => absurd hq (Nat.not_lt_zero _), HB2.out⟩
    case round =>
      obtain ⟨m, xs, hm, rfl, hown, hxs, hb⟩ := hrel
      have HOW := hide hown
      have HXS := hide hxs
      have HB := hide hb
      have hkl : w1.heap.size < wr.heap.size := (hown.lt _ rfl).2
      by_cases hml : m < x.ps.length
      · obtain ⟨b, hbm⟩ : ∃ b, x.ps[m]? = some b := ⟨_, List.getElem?_eq_getElem hml⟩
        obtain ⟨g', cap', hv', _, ⟨hcc, hgl, _⟩, _⟩ := atP (row_later HROW.out hb) hbm
        simp only [Value.slice.injEq, Option.some.injEq, Addr.mk.injEq, and_true, true_and] at hv'
        obtain ⟨rfl, rfl⟩ := hv'
        have d0 : wr.cell? ⟨gb, m * 5, none⟩ = some (.string b.name) := hcc 0 _ rfl
        have d1 := hcc 1 _ rfl
        have d2 := hcc 2 _ rfl
        have d3 := hcc 3 _ rfl
        have d4 := hcc 4 _ rfl
        obtain ⟨u, hu⟩ : ∃ u, wr.cell? ⟨w1.heap.size, m, none⟩ = some u := by
          have := hown.cellAt m (by omega)
          rw [this]
          exact ⟨_, List.getElem?_eq_getElem (by have := hown.1; omega)⟩
        have hff := hown.frozenAt m
        have HBM := hide hbm
        have hst := hown.stored m (.string b.name)
        have HST := hide (hst.1.alloc (.cells #[.string b.name, .int .i64 3, .int .i64 b.v, .string ⟨#[]⟩, .bool b.fixed] 88))
        have HB3 : Hid (Below w1.heap.size w1 _) := (hb.setCell (p := ⟨w1.heap.size, m, none⟩) (Nat.le_refl _) (.string b.name)).alloc (hb.setCell (p := ⟨w1.heap.size, m, none⟩) (Nat.le_refl _) (.string b.name)).size (.cells #[.string b.name, .int .i64 3, .int .i64 b.v, .string ⟨#[]⟩, .bool b.fixed] 88)
        have hxl : xs.length = x.ps.length := by have := hown.1; omega
        clear hown hxs hb hcc hbm hst
        go_wp2_with fail
        go_roundw
        case rel =>
          refine ⟨m + 1, _, by omega, by go_num, HST.out, ?_, HB3.out⟩
          intro q p hq hp
          by_cases hqm : m = q
          · subst hqm
            rw [HBM.out] at hp
            cases hp
            rw [List.getElem?_set_self (by omega)]
          · rw [List.getElem?_set_ne hqm]
            exact HXS.out q p (by omega) hp
        case measure => simp [intOf]; omega
      · have hm2 : m = x.ps.length := by omega
        subst hm2
        clear hown hxs hb
        go_wp2_with fail
        go_ret
        refine ⟨_, rfl, ?_, HB.out⟩
        by_cases h0 : 0 < x.ps.length
        · refine .inr ⟨by simpa using h0, w1.heap.size, x.ps.length, by rw [List.length_map]; rfl, by simp, hkl, fun j y hj => ?_⟩
          rw [List.getElem?_map] at hj
          obtain ⟨p, hp, rfl⟩ := Option.map_eq_some_iff.1 hj
          have hjl : j < x.ps.length := (List.getElem?_eq_some_iff.1 hp).1
          rw [HOW.out.cellAt j (by omega)]
          exact HXS.out j p hjl hp
        · have h1 : x.ps.length = 0 := by omega
          exact .inl ⟨by rw [List.length_eq_zero_iff.1 h1]; rfl, some ⟨w1.heap.size, 0, none⟩, x.ps.length, by show Value.slice _ x.ps.length _ = _; rw [h1]⟩
end
end Go.Proofs.YtomogijjkdiomaaDoor
