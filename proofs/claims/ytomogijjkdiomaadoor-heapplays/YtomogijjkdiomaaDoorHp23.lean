/-
  The document's own keys, joined.
-/
import Derived.Test.YtomogijjkdiomaaDoorHp22
import Derived.Test.YtomogijjkdiomaaDoorHp0
import Derived.LaidEql
import Derived.Stop.Asserts
import Derived.RowKitTokens
set_option maxRecDepth 100000
set_option maxHeartbeats 16000000
namespace Go.Proofs.YtomogijjkdiomaaDoor
open Go.RowKit

theorem keys_any {H : Nat} {w : World} {M : Mo} {ov sv : Value} {os ss : List Value} {K : Nat} (h : HP H w M ov sv os ss) (hs : M.Small K) (hK : K ≤ 1000) (o : Int) :
    Calls Tryd.prog 32 #[.pointer (some ⟨H, 0, none⟩), .int .i64 o] w fun e w' => ∃ v, e = .returned v ∧ RowS w' v (M.names o) ∧ Below w.heap.size w w' := by
  rcases ob_cases M o with ⟨e0, _⟩ | ⟨i, x, rfl, hx, _⟩
  · exact keys_out h o e0
  · exact keys_in h hs hK i x hx
/-- The names are short. -/
def Mo.Short (M : Mo) : Prop := ∀ (i : Nat) x, M.objs[i]? = some x → ∀ p ∈ x.ps, p.name.size ≤ 20
theorem one_cellsS (w : World) (k : ByteArray) (H : Nat) (h : w.heap.size = H) : ∀ j u, [Value.string k][j]? = some u → (w.alloc (.cells #[.string k] 9)).cell? ((⟨H, 0, none⟩ : Addr).add j) = some u := by
  subst h
  intro j u hj
  match j with
  | 0 =>
    simp only [List.getElem?_cons_zero, Option.some.injEq] at hj
    subst hj
    simp [Addr.add]
  | n + 1 => simp at hj
theorem one_oneS (k : ByteArray) : ∀ u ∈ [Value.string k], u.oneCell' = true := by
  intro u hu
  rw [List.mem_singleton.1 hu]
  rfl
section
variable {R : Nat} {w : World} {M : Mo} {cv pv rv : Value} {ps rs : List Value} {K : Nat}
set_option maxRecDepth 100000
set_option maxHeartbeats 1000000
theorem rkeys_out (h : WP R w M cv pv rv ps rs) (o : Int) (ho : M.ob o = none) :
    Calls Tryd.prog 33 #[.pointer (some ⟨R, 0, none⟩), .int .i64 o] w fun e w' => e = .returned (.string (joinS (M.names o))) ∧ Below w.heap.size w w' := by
  have HO := hide (object_any h o)
  rw [ho] at HO
  rw [show M.names o = [] by simp [Mo.names, ho]]
  have HJ := hide (fun W => join_any (w := W) (v := .slice none 0 0) (ns := []) (.inl ⟨rfl, _, _, rfl⟩) (by simp) (by simp))
  clear h ho
  go_enter Tryd.func33, Tryd.ntmps33
  go_wp2_with fail
  refine Calls.mono HO.out ?_
  rintro e w1 ⟨rfl, rfl⟩
  go_wp2_with fail
  refine Calls.mono (HJ.out _) ?_
  rintro e w2 ⟨rfl, hb⟩
  have HB := hide hb
  clear hb
  go_wp2_with fail
  go_ret
  exact ⟨rfl, HB.out⟩
theorem rkeys_in (h : WP R w M cv pv rv ps rs) (hs : M.Small K) (hK : K ≤ 1000) (hsh : M.Short) (i : Nat) (x : Ob) (hi : M.objs[i]? = some x) :
    Calls Tryd.prog 33 #[.pointer (some ⟨R, 0, none⟩), .int .i64 (i : Int)] w fun e w' => e = .returned (.string (joinS (M.names i))) ∧ Below w.heap.size w w' := by
  obtain ⟨h0, h1, h2, hl⟩ := h.c
  obtain ⟨g, cap, v, rfl, hlt, hv, c0, hrow, hg, hB, hfz⟩ := robj h hi
  have HO := hide (object_any h i)
  rw [ob_nat hi] at HO
  have hsm := hs.ps x (List.mem_of_getElem? hi)
  have hlen : x.ps.length ≤ 1000 := by omega
  have HROW := hide hrow
  have hform := row_form hrow
  rw [show M.names i = x.ps.map Pr.name by simp [Mo.names, ob_nat hi]]
  have HJ : Hid (∀ W v, RowS W v (x.ps.map Pr.name) → Calls Tryd.prog 31 #[v, .string ⟨#[32]⟩] W fun e w' => e = .returned (.string (joinS (x.ps.map Pr.name))) ∧ Below W.heap.size W w') := fun W v hr => join_any hr (by simpa using hlen) (fun y hy => by
    obtain ⟨p, hp, rfl⟩ := List.mem_map.1 hy
    exact hsh i x hi p hp)
  obtain ⟨S, hS⟩ : ∃ S, S = joinS (x.ps.map Pr.name) := ⟨_, rfl⟩
  rw [← hS] at HJ ⊢
  obtain ⟨ii, hi0, hz0, hz1, hz2⟩ := info_parts info9
  clear h hs hi hv hrow hS hsh
  go_enter Tryd.func33, Tryd.ntmps33
  go_wp2_with fail
  refine Calls.mono HO.out ?_
  rintro e w1 ⟨rfl, rfl⟩
  rcases hform with ⟨rfl, hn⟩ | ⟨gb, capb, rfl⟩
  · have hp0 : x.ps = [] := List.length_eq_zero_iff.1 hn
    have HJ0 := hide (HJ.out w1 (.slice none 0 0) (.inl ⟨by rw [hp0]; rfl, _, _, rfl⟩))
    clear hn hp0
    go_wp2_with fail
    go_loopw [5, 19] (fun l j wr => l = .slice none 0 0 ∧ j = .int .i64 0 ∧ wr = w1) (fun _ j _ => 0)
    case atStart => exact ⟨rfl, rfl, rfl⟩
    case round =>
      obtain ⟨rfl, rfl, hw⟩ := hrel
      rw [hw]
      clear hw
      go_wp2_with fail
      refine Calls.mono HJ0.out ?_
      rintro e w2 ⟨rfl, hb⟩
      have HB := hide hb
      clear hb
      go_wp2_with fail
      go_ret
      exact ⟨rfl, HB.out⟩
  · have hgb := (HROW.out.lt gb rfl).2
    go_wp2_with fail
    go_loopw [5, 19] (fun l j wr => ∃ m : Nat, m ≤ x.ps.length ∧ j = .int .i64 m ∧ wr.ownsRow w1.heap.size 9 1 l m ((x.ps.take m).map fun p => .string p.name) ∧ Below w1.heap.size w1 wr) (fun _ j _ => x.ps.length - (intOf j).toNat)
    case atStart => exact ⟨0, Nat.zero_le _, rfl, by simpa using World.ownsRow_nil _ _ _ _, Below.refl _ _⟩
    case round =>
      obtain ⟨m, hm, rfl, hown, hb⟩ := hrel
      have HOWN := hide hown
      have HB := hide hb
      by_cases hml : m < x.ps.length
      · obtain ⟨b, hbm⟩ : ∃ b, x.ps[m]? = some b := ⟨_, List.getElem?_eq_getElem hml⟩
        have hrr := row_later HROW.out hb
        have d0 : wr.cell? ⟨gb, m * 3, none⟩ = some (.string b.name) := ratP hrr hbm rfl 0 _ rfl
        have d1 := ratP hrr hbm rfl 1 _ rfl
        have d2 := ratP hrr hbm rfl 2 _ rfl
        have hgl : gb < wr.heap.size := Nat.lt_of_lt_of_le hgb hb.size
        have hbs := hb.size
        have htk : x.ps.take (m + 1) = x.ps.take m ++ [b] := by rw [List.take_add_one, hbm]; rfl
        have HTK := hide htk
        clear hrr hown hb hbm htk
        go_wp2_with (at_builtin; refine wpList_append_lies _ rfl _ _ 66 rfl w1.heap.size 9 ii (.string ⟨#[]⟩) 1 16 Tryd.underlying66 hi0 hz0 hz1 hz2 rfl (by decide) _ _ _ rfl ((HOWN.out.alloc _).alloc _) ⟨wr.heap.size + 1, 0, none⟩ 1 1 [.string b.name] rfl rfl (one_cellsS (wr.alloc _) b.name _ (by simp)) (one_oneS _) (by decide) (by unfold maxLen; omega) (by omega) (by simp; omega) (wr.heap.size + 1 + 1) (by simp) ?_)
        intro g2 cap2 w5 hown' hgrow hg2 _
        have HB5 := hide (((HB.out.alloc hbs _).alloc (by simp; omega) _).grown hgrow (by simp; omega) (fun k hk => (HOWN.out.lt k hk).1))
        have HO5 := hide hown'
        clear hown' hgrow hg2
        go_wp2_with fail
        go_roundw
        case rel =>
          refine ⟨m + 1, by omega, by go_num, ?_, HB5.out⟩
          rw [HTK.out, List.map_append, List.map_take]
          exact HO5.out
        case measure => simp [intOf]; omega
      · have hm2 : m = x.ps.length := by omega
        subst hm2
        rw [List.take_length] at hown
        rcases row_form hown with ⟨rfl, hn⟩ | ⟨gl, capl, rfl⟩
        · have HJ0 := hide (HJ.out wr (.slice none 0 0) (.inl ⟨by rw [List.length_eq_zero_iff.1 hn]; rfl, _, _, rfl⟩))
          clear hown hb hn HOWN
          go_wp2_with fail
          refine Calls.mono HJ0.out ?_
          rintro e w2 ⟨rfl, hb⟩
          have HB2 := hide (HB.out.trans (hb.mono HB.out.size))
          clear hb
          go_wp2_with fail
          go_ret
          exact ⟨rfl, HB2.out⟩
        · have hcap : x.ps.length ≤ capl := by
            rcases hown.2 with ⟨h', _⟩ | ⟨g', cap', cur, h', _, _, hn, _⟩
            · simp at h'
            · simp only [Value.slice.injEq, Option.some.injEq, Addr.mk.injEq, and_true, true_and] at h'
              obtain ⟨rfl, rfl⟩ := h'
              exact hn
          have HJ0 := hide (HJ.out wr (.slice (some ⟨gl, 0, none⟩) x.ps.length capl) (by
            by_cases h0 : 0 < x.ps.length
            · refine .inr ⟨by simpa using h0, gl, capl, by rw [List.length_map], by simpa using hcap, (hown.lt gl rfl).2, fun j y hj => ?_⟩
              rw [List.getElem?_map] at hj
              obtain ⟨p, hp, rfl⟩ := Option.map_eq_some_iff.1 hj
              have hjl : j < x.ps.length := (List.getElem?_eq_some_iff.1 hp).1
              rw [hown.cellAt j (by omega), List.getElem?_map, hp]
              rfl
            · have h1 : x.ps.length = 0 := by omega
              exact .inl ⟨by rw [List.length_eq_zero_iff.1 h1]; rfl, some ⟨gl, 0, none⟩, capl, by rw [h1]⟩))
          clear hown hb hcap HOWN
          go_wp2_with fail
          refine Calls.mono HJ0.out ?_
          rintro e w2 ⟨rfl, hb⟩
          have HB2 := hide (HB.out.trans (hb.mono HB.out.size))
          clear hb
          go_wp2_with fail
          go_ret
          exact ⟨rfl, HB2.out⟩
theorem rkeys_any (h : WP R w M cv pv rv ps rs) (hs : M.Small K) (hK : K ≤ 1000) (hsh : M.Short) (o : Int) :
    Calls Tryd.prog 33 #[.pointer (some ⟨R, 0, none⟩), .int .i64 o] w fun e w' => e = .returned (.string (joinS (M.names o))) ∧ Below w.heap.size w w' := by
  rcases ob_cases M o with ⟨e0, _⟩ | ⟨i, x, rfl, hx, _⟩
  · exact rkeys_out h o e0
  · exact rkeys_in h hs hK hsh i x hx
end
end Go.Proofs.YtomogijjkdiomaaDoor
namespace Go.Proofs.YtomogijjkdiomaaDoor
open Go.RowKit Go.Extern.Stop Go.Stop Go.Extern

theorem R9.valueOf77 (t : Addr) (w : World) : (ReflectliteValue.unpack (.iface 132 (.pointer (some t)))).run Tryd.prog w
    = .ok (.agg #[.pointer (some ⟨2, 132, none⟩), .pointer (some ⟨w.heap.size, 0, none⟩), .int .u64 150]) (w.alloc (.cells #[.pointer (some t)] 132)) := by kernel_rfl
theorem R9.valueOf23 (n : Int) (w : World) : (ReflectliteValue.unpack (.iface 47 (.int .i64 n))).run Tryd.prog w
    = .ok (.agg #[.pointer (some ⟨2, 47, none⟩), .pointer (some ⟨w.heap.size, 0, none⟩), .int .u64 130]) (w.alloc (.cells #[.int .i64 n] 47)) := by kernel_rfl
theorem R9.type77 (a : Addr) (w : World) : (ReflectliteValue.methodAny (ReflectliteValue.valueError "reflectlite.Value.Type" 0) (fun t _ _ _ => ReflectliteType.toType t) #[.agg #[.pointer (some ⟨2, 132, none⟩), .pointer (some a), .int .u64 150]]).run Tryd.prog w
    = .ok (.iface 146 (.agg #[.pointer (some ⟨2, 132, none⟩)])) w := by kernel_rfl
theorem R9.kind77 (w : World) : ((ReflectliteType.abiMethod fun t => (fun a : Nat => Value.int IntKind.u8 (a : Int)) <$> Rtype.kind t) #[.pointer (some ⟨2, 132, none⟩)]).run Tryd.prog w = .ok (.int .u8 22) w := by kernel_rfl
theorem R9.kind23 (w : World) : ((ReflectliteType.abiMethod fun t => (fun a : Nat => Value.int IntKind.u8 (a : Int)) <$> Rtype.kind t) #[.pointer (some ⟨2, 47, none⟩)]).run Tryd.prog w = .ok (.int .u8 2) w := by kernel_rfl
/-- The two matches on a list of arguments that is written out. -/
theorem at_one (v : Value) (f : Value → Sem Value) (g : Array Value → Sem Value) : @ReflectliteValue.method.match_2 (fun _ => Sem Value) #[v] f g = f v := rfl
theorem at_two (v x : Value) (f : Value → Value → Sem Value) (g : Array Value → Sem Value) : @ReflectliteValue.set.match_3 (fun _ => Sem Value) #[v, x] f g = f v x := rfl
theorem R9.parts77 (a : Addr) (w : World) : (ReflectliteValue.parts (.agg #[.pointer (some ⟨2, 132, none⟩), .pointer (some a), .int .u64 150])).run Tryd.prog w = .ok (some (132, a, 150)) w := by kernel_rfl
theorem R9.isNil77 (a p : Addr) (W : World) (ha : W.cell? a = some (.pointer (some p))) :
    (ReflectliteValue.method (ReflectliteValue.valueError "reflectlite.Value.IsNil" 0) ReflectliteValue.isNil #[.agg #[.pointer (some ⟨2, 132, none⟩), .pointer (some a), .int .u64 150]]).run Tryd.prog W = .ok (.bool false) W := by
  delta ReflectliteValue.method
  rw [at_one]
  simp only [Sem.run_bind, R9.parts77, Result.andThen]
  simp [ReflectliteValue.isNil, loadVar, isAgg, underlying, Tryd.underlying132, ha, Result.andThen]
theorem R9.elem77 (w : World) : (ReflectliteType.method ReflectliteType.elem #[.agg #[.pointer (some ⟨2, 132, none⟩)]]).run Tryd.prog w = .ok (.iface 146 (.agg #[.pointer (some ⟨2, 47, none⟩)])) w := by kernel_rfl
theorem R9.implements23 (w : World) : (ReflectliteType.relation "Implements" ReflectliteType.implements_ #[.agg #[.pointer (some ⟨2, 47, none⟩)], .iface 146 (.agg #[.pointer (some ⟨2, 45, none⟩)])]).run Tryd.prog w = .ok (.bool true) w := by kernel_rfl
theorem R9.typeOf23 (v : Value) (w : World) : (ReflectliteType.typeOf #[.iface 47 v]).run Tryd.prog w = .ok (.iface 146 (.agg #[.pointer (some ⟨2, 47, none⟩)])) w := by kernel_rfl
theorem R9.assignable23 (w : World) : (ReflectliteType.relation "AssignableTo" ReflectliteType.assignableTo #[.agg #[.pointer (some ⟨2, 47, none⟩)], .iface 146 (.agg #[.pointer (some ⟨2, 47, none⟩)])]).run Tryd.prog w = .ok (.bool true) w := by kernel_rfl
theorem R9.elemOf77 (w : World) : (Rtype.elem? 132).run Tryd.prog w = .ok (some 47) w := by kernel_rfl
theorem R9.mk23 (p : Addr) (w : World) : (ReflectliteValue.mk 47 p ReflectliteValue.flagAddr).run Tryd.prog w = .ok (.agg #[.pointer (some ⟨2, 47, none⟩), .pointer (some p), .int .u64 386]) w := by kernel_rfl
theorem R9.elemV77 (a p : Addr) (W : World) (ha : W.cell? a = some (.pointer (some p))) :
    (ReflectliteValue.method (ReflectliteValue.valueError "reflectlite.Value.Elem" 0) ReflectliteValue.elem #[.agg #[.pointer (some ⟨2, 132, none⟩), .pointer (some a), .int .u64 150]]).run Tryd.prog W
      = .ok (.agg #[.pointer (some ⟨2, 47, none⟩), .pointer (some p), .int .u64 386]) W := by
  delta ReflectliteValue.method
  rw [at_one]
  simp only [Sem.run_bind, R9.parts77, Result.andThen]
  simp [ReflectliteValue.elem, loadVar, isAgg, underlying, Tryd.underlying132, ha, Result.andThen, R9.elemOf77, R9.mk23]
theorem R9.parts23a (a : Addr) (w : World) : (ReflectliteValue.parts (.agg #[.pointer (some ⟨2, 47, none⟩), .pointer (some a), .int .u64 386])).run Tryd.prog w = .ok (some (47, a, 386)) w := by kernel_rfl
theorem R9.parts23 (a : Addr) (w : World) : (ReflectliteValue.parts (.agg #[.pointer (some ⟨2, 47, none⟩), .pointer (some a), .int .u64 130])).run Tryd.prog w = .ok (some (47, a, 130)) w := by kernel_rfl
theorem R9.direct23 (w : World) : (Rtype.directlyAssignable 47 47).run Tryd.prog w = .ok true w := by kernel_rfl
theorem R9.set23 (ta b : Addr) (n : Int) (old : Value) (W : World) (hb : W.cell? b = some (.int .i64 n)) (ht : W.cell? ta = some old) (hf : W.frozen? ta = false) :
    (ReflectliteValue.set #[.agg #[.pointer (some ⟨2, 47, none⟩), .pointer (some ta), .int .u64 386], .agg #[.pointer (some ⟨2, 47, none⟩), .pointer (some b), .int .u64 130]]).run Tryd.prog W
      = .ok (.tuple #[]) (W.setCell ta (.int .i64 n)) := by
  delta ReflectliteValue.set
  rw [at_two]
  simp only [Sem.run_bind, R9.parts23a, R9.parts23, Result.andThen]
  simp [ReflectliteValue.flagAddr, loadVar, isAgg, underlying, Tryd.underlying47, hb, Result.andThen, R9.direct23, storeVar, Value.cells, storeCells, Addr.add]
  rw [run_store Tryd.prog W ta _ _ (by rfl)]
  simp [ht, hf]
theorem R9.mKind (h : Value) (w : World) : (Go.method 285 146 (.agg #[h]) "Kind").run Tryd.prog w = .ok (88, h) w := by kernel_rfl
theorem R9.mElem (h : Value) (w : World) : (Go.method 285 146 (.agg #[h]) "Elem").run Tryd.prog w = .ok (102, .agg #[h]) w := by kernel_rfl
theorem R9.mImpl (h : Value) (w : World) : (Go.method 285 146 (.agg #[h]) "Implements").run Tryd.prog w = .ok (103, .agg #[h]) w := by kernel_rfl
theorem R9.mAssign (h : Value) (w : World) : (Go.method 285 146 (.agg #[h]) "AssignableTo").run Tryd.prog w = .ok (100, .agg #[h]) w := by kernel_rfl
end Go.Proofs.YtomogijjkdiomaaDoor
