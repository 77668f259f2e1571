/-
  A value alone; what stands behind a head; a value that is assigned.
-/
import Derived.Test.YtodmgaikhbmlnaaGreatDoorTk8
import Derived.Test.YtodmgaikhbmlnaaGreatDoorTk10
import Derived.Test.YtodmgaikhbmlnaaGreatDoorTk12
set_option maxRecDepth 100000
set_option maxHeartbeats 16000000
namespace Go.Proofs.YtodmgaikhbmlnaaGreatDoor
open Go.RowKit

theorem en135 : ∀ args W, (callFunc 165 args).run Tryz.prog W = .ok (.enter 165 args) W := fun _ _ => by kernel_rfl
theorem en136 : ∀ args W, (callFunc 166 args).run Tryz.prog W = .ok (.enter 166 args) W := fun _ _ => by kernel_rfl
theorem en137 : ∀ args W, (callFunc 167 args).run Tryz.prog W = .ok (.enter 167 args) W := fun _ _ => by kernel_rfl

theorem vl_lt {s : ByteArray} {q : Nat} (h : look2 vlKeys s = some q) : q < 3 := by
  unfold look2 at h
  cases hf : vlKeys.find? (fun e => decide (s = e.1)) with
  | none => rw [hf] at h; cases h
  | some e =>
    rw [hf] at h
    have hm := List.mem_of_find?_eq_some hf
    simp only [Option.map_some, Option.some.injEq] at h
    subst h
    simp only [vlKeys, List.mem_cons, List.not_mem_nil, or_false] at hm
    rcases hm with rfl | rfl | rfl <;> decide

theorem alone_any {c : Ctx} {F : Fns} (hF : FC c F) (hN : ∃ k, FNx c.l k F) (hK : FOk F) : Does c 278 NV (aloneP c.l F) := by
  intro w d i r hs ho h
  unfold aloneP at hs
  cases hq : look2 vlKeys (fx c.l i) with
  | some q =>
    have hlt := vl_lt hq
    have h3 : q = 0 ∨ q = 1 ∨ q = 2 := by omega
    rw [hq] at hs
    rcases h3 with rfl | rfl | rfl
    · exact al_some 165 en135 w d i r ho 0 hq rfl (fun W hW => inPar_any hF W d i r hs ho hW) h
    · exact al_some 166 en136 w d i r ho 1 hq rfl (fun W hW => object_any hF hN W d i r hs ho hW) h
    · exact al_some 167 en137 w d i r ho 2 hq rfl (fun W hW => lambda_any hF hN hK W d i r hs ho hW) h
  | none =>
    rw [hq] at hs
    simp only at hs
    cases hg : sgP 0 (fx c.l i) with
    | some x =>
      rw [hg] at hs
      subst hs
      exact al_sign w d i x hq hg h
    | none =>
      rw [hg] at hs
      simp only at hs
      by_cases h1 : (tkA c.l i).kd = 1
      · rw [if_pos h1] at hs; subst hs; exact al_name w d i hq hg h1 h
      · by_cases h4 : (tkA c.l i).kd = 4
        · rw [if_neg h1, if_pos h4] at hs; subst hs; exact al_str w d i hq hg h4 h
        · by_cases h3 : (tkA c.l i).kd = 3
          · rw [if_neg h1, if_neg h4, if_pos h3] at hs; subst hs; exact al_num w d i hq hg h3 h
          · rw [if_neg h1, if_neg h4, if_neg h3] at hs; subst hs; exact al_bad w d i hq hg h1 h4 h3 h

theorem behind_any {c : Ctx} {F : Fns} (hF : FC c F) (w : World) (d i : Nat) (r : PR Tr) (hk : (tkA c.l i).kd ≠ 6) (hs : behindP c.l F d i = r) (ho : r ≠ .out) (h : Rdr c w i d) : Calls Tryz.prog 162 #[rPtr c] w (PPost c w d (EV w.heap.size) r) := by
  have hmf := mf_bound c.R 170
  have HKD := hide hk
  clear hk
  have HR0 := hide h
  have HA0 := hide (Ap.refl c.R w.heap.size w)
  have HLT := hide h.rlt
  unfold behindP at hs
  have HS := hide hs
  have HO := hide ho
  clear h hs ho
  go_enter Tryz.func162, Tryz.ntmps162
  have HC := hide (kind_any c w i d (unhide HR0) (unhide HKD))
  go_wp2_with fail
  refine Calls.mono HC.out ?_
  rintro e wk ⟨rfl, hrk, hak⟩
  clear HC
  have HRk := hide hrk
  have HAk := hide ((unhide HA0).next hak)
  clear hrk hak HR0 HA0
  cases hr : inParP c.l F d (i + 1) with
  | out =>
    rw [hr] at HS
    simp only [bind_out] at HS
    exact absurd (unhide HS).symm (unhide HO)
  | bad er p =>
    have HC := hide (inPar_any hF wk d (i + 1) _ rfl (by rw [hr]; nofun) (unhide HRk))
    rw [hr] at HC HS
    simp only [bind_bad] at HS
    clear hr
    go_wp2_with fail
    refine Calls.mono HC.out ?_
    intro e w' hp
    obtain ⟨rfl, ha⟩ := hp
    exact ⟨rfl, ppBad (unhide HS).symm ((unhide HAk).next ha)⟩
  | ok x1 j1 =>
    have HC := hide (inPar_any hF wk d (i + 1) _ rfl (by rw [hr]; nofun) (unhide HRk))
    rw [hr] at HC HS
    simp only [bind_ok] at HS
    clear hr
    go_wp2_with fail
    refine Calls.mono HC.out ?_
    intro e w1 hp
    obtain ⟨⟨v1, rfl, p1, rfl, hn1⟩, hrd, ha⟩ := hp
    clear HC
    have HA1 := hide ((unhide HAk).next ha)
    have HR1 := hide hrd
    have HN1 := hide (nat_mono hn1 (unhide HAk).size)
    clear hn1
    clear hrd ha HAk HRk
    cases hr : deepP c.l F.st d j1 with
    | out =>
      rw [hr] at HS
      simp only [bind_out] at HS
      exact absurd (unhide HS).symm (unhide HO)
    | bad er p =>
      have HC := hide (deepS hF w1 d j1 (unhide HR1) (by rw [hr]; nofun))
      rw [hr] at HC HS
      simp only [bind_bad] at HS
      clear hr
      go_wp2_with fail
      refine Calls.mono HC.out ?_
      intro e w' hp
      obtain ⟨rfl, ha⟩ := hp
      exact ⟨rfl, ppBad (unhide HS).symm ((unhide HA1).next ha)⟩
    | ok x2 j2 =>
      have HC := hide (deepS hF w1 d j1 (unhide HR1) (by rw [hr]; nofun))
      rw [hr] at HC HS
      simp only [bind_ok] at HS
      clear hr
      go_wp2_with fail
      refine Calls.mono HC.out ?_
      intro e w2 hp
      obtain ⟨⟨v2, rfl, p2, rfl, hn2⟩, hrd, ha⟩ := hp
      clear HC
      have HA2 := hide ((unhide HA1).next ha)
      have HR2 := hide hrd
      replace HN1 := hide (nat_later (unhide HN1) ha (unhide HLT))
      have HN2 := hide (nat_mono hn2 (unhide HA1).size)
      clear hn2
      clear hrd ha HA1 HR1
      have HC := hide (node_any (hdKind (tkA c.l i).tx) noText (.slice (some ⟨w2.heap.size, 0, none⟩) 2 2) (w2.alloc (.cells #[nPtr p1, nPtr p2] 22)) ⟨_, _, _, rfl⟩)
      go_wp2_with fail
      refine Calls.mono HC.out ?_
      rintro e wn ⟨rfl, rfl⟩
      clear HC
      go_wp2_with fail
      go_ret
      obtain ⟨m1, m2, m3⟩ := made (unhide HR2) (unhide HA2) (NAts.cons (unhide HN1) (NAts.cons (unhide HN2) NAts.nil)) (by simp [maxLen]) #[nPtr p1, nPtr p2] rfl 2 rfl (hdKind (tkA c.l i).tx) noText (w2.heap.size + 1) rfl
      exact ppOk (unhide HS).symm m1 m2 m3

theorem c113 {b : Nat} {w1 : World} {v0 v1 v2 v3 : Value} (p0 : w1.heap[b]? = some (.cells #[v0, v1, v2, v3] 123)) : C160 b w1 v0 v1 v2 v3 :=
  ⟨by rw [cell_of p0]; rfl, by rw [cell_of p0]; rfl, by rw [cell_of p0]; rfl, by rw [cell_of p0]; rfl, frozen_of p0, lt_of_heap p0⟩

theorem value_any {c : Ctx} {F : Fns} (hF : FC c F) : Does c 222 NV (valueP c.l F) := by
  have hmf := mf_bound c.R 222
  intro w d i r hs ho h
  have HR0 := hide h
  have HA0 := hide (Ap.refl c.R w.heap.size w)
  have HLT := hide h.rlt
  unfold valueP at hs
  have HS := hide hs
  have HO := hide ho
  clear h hs ho
  go_enter Tryz.func222, Tryz.ntmps222
  have HC := hide (token_any c w i d (unhide HR0))
  unfold tkV at HC
  go_wp2_with fail
  refine Calls.mono HC.out ?_
  rintro e wt ⟨rfl, hbwt⟩
  clear HC
  have HAwt := hide ((unhide HA0).next (Ap.of hbwt))
  have HRwt := hide ((unhide HR0).later hbwt)
  clear hbwt HR0
  have HAt2 := hide ((unhide HAwt).alloc (unhide HAwt).size (.cells #[.int .i64 (tkA c.l i).kd, .string (tkA c.l i).tx, .int .i64 (tkA c.l i).n, .int .i64 ((tkA c.l i).pl : Int)] 123))
  have HRt2 := hide ((unhide HRwt).alloc (.cells #[.int .i64 (tkA c.l i).kd, .string (tkA c.l i).tx, .int .i64 (tkA c.l i).n, .int .i64 ((tkA c.l i).pl : Int)] 123))
  have HPT : Hid ((wt.alloc (.cells #[.int .i64 (tkA c.l i).kd, .string (tkA c.l i).tx, .int .i64 (tkA c.l i).n, .int .i64 ((tkA c.l i).pl : Int)] 123)).heap[wt.heap.size]? = some (.cells #[.int .i64 (tkA c.l i).kd, .string (tkA c.l i).tx, .int .i64 (tkA c.l i).n, .int .i64 ((tkA c.l i).pl : Int)] 123)) := heap_new _ _
  have HTL : Hid (c.R < wt.heap.size) := Nat.lt_of_lt_of_le (unhide HLT) (unhide HAwt).size
  clear HRwt HAwt
  cases hr : F.pr 2 d i with
  | out =>
    rw [hr] at HS
    simp only [bind_out] at HS
    exact absurd (unhide HS).symm (unhide HO)
  | bad er p =>
    have HC := hide (hF.pr 2 (by decide) (by decide) (wt.alloc (.cells #[.int .i64 (tkA c.l i).kd, .string (tkA c.l i).tx, .int .i64 (tkA c.l i).n, .int .i64 ((tkA c.l i).pl : Int)] 123)) d i _ rfl (by rw [hr]; nofun) (unhide HRt2))
    rw [hr] at HC HS
    simp only [bind_bad] at HS
    clear hr
    go_wp2_with fail
    refine Calls.mono HC.out ?_
    intro e w' hp
    obtain ⟨rfl, ha⟩ := hp
    exact ⟨rfl, ppBad (unhide HS).symm ((unhide HAt2).next ha)⟩
  | ok x1 j1 =>
    have HC := hide (hF.pr 2 (by decide) (by decide) (wt.alloc (.cells #[.int .i64 (tkA c.l i).kd, .string (tkA c.l i).tx, .int .i64 (tkA c.l i).n, .int .i64 ((tkA c.l i).pl : Int)] 123)) d i _ rfl (by rw [hr]; nofun) (unhide HRt2))
    rw [hr] at HC HS
    simp only [bind_ok] at HS
    clear hr
    go_wp2_with fail
    refine Calls.mono HC.out ?_
    intro e w1 hp
    obtain ⟨⟨v1, rfl, p1, rfl, hn1⟩, hrd, ha⟩ := hp
    clear HC
    have HA1 := hide ((unhide HAt2).next ha)
    have HR1 := hide hrd
    have HN1 := hide (nat_mono hn1 (unhide HAt2).size)
    clear hn1
    replace HPT := hide ((ha.block _ (lt_of_heap (unhide HPT)) (by have := unhide HTL; omega)).trans (unhide HPT))
    clear hrd ha HAt2 HRt2
    have HC := hide (fixed_any c w1 j1 d (unhide HR1))
    go_wp2_with fail
    refine Calls.mono HC.out ?_
    rintro e wf ⟨rfl, hbwf⟩
    clear HC
    have HAwf := hide ((unhide HA1).next (Ap.of hbwf))
    have HRwf := hide ((unhide HR1).later hbwf)
    replace HN1 := hide (nat_later (unhide HN1) (Ap.of hbwf) (unhide HLT))
    replace HPT := hide ((hbwf.block _ (lt_of_heap (unhide HPT))).trans (unhide HPT))
    clear hbwf HR1 HA1
    by_cases hx : fx c.l j1 = tEq
    · rw [if_pos hx] at HS
      have bx : ((fx c.l j1).toList == [61]) = true := tl_eqL (b := tEq) rfl hx
      have HXX := hide hx
      have HMU : Hid (mustP c.l tEq j1 = .ok () (j1 + 1)) := by
        show _ = _
        unfold mustP; rw [if_pos hx]
      clear hx
      obtain ⟨u1, qs, hu1, _, _⟩ := (unhide HN1).opens
      obtain ⟨f10, _, _, _, _⟩ := node_cells hu1
      clear hu1
      by_cases h23 : x1.kd = 23
      · have b23 : (x1.kd != 23) = false := by rw [h23]; rfl
        rw [if_pos (Or.inl h23)] at HS
        clear h23
        have HC := hide (must_any c tEq wf j1 d (unhide HRwf) (by decide))
        rw [unhide HMU] at HC
        go_wp2_with fail
        refine Calls.mono HC.out ?_
        intro e wm hp
        obtain ⟨⟨vm, rfl, rfl⟩, hrd, ha⟩ := hp
        clear HC
        have HRm := hide hrd
        have HAm := hide ((unhide HAwf).next ha)
        replace HN1 := hide (nat_later (unhide HN1) ha (unhide HLT))
        clear hrd ha HRwf HAwf HPT f10
        cases hr : deepP c.l F.vl d (j1 + 1) with
        | out =>
          rw [hr] at HS
          simp only [bind_out] at HS
          exact absurd (unhide HS).symm (unhide HO)
        | bad er p =>
          have HC := hide (deepV hF wm d (j1 + 1) (unhide HRm) (by rw [hr]; nofun))
          rw [hr] at HC HS
          simp only [bind_bad] at HS
          clear hr
          go_wp2_with fail
          refine Calls.mono HC.out ?_
          intro e w' hp
          obtain ⟨rfl, ha⟩ := hp
          exact ⟨rfl, ppBad (unhide HS).symm ((unhide HAm).next ha)⟩
        | ok x2 j2 =>
          have HC := hide (deepV hF wm d (j1 + 1) (unhide HRm) (by rw [hr]; nofun))
          rw [hr] at HC HS
          simp only [bind_ok] at HS
          clear hr
          go_wp2_with fail
          refine Calls.mono HC.out ?_
          intro e w2 hp
          obtain ⟨⟨v2, rfl, p2, rfl, hn2⟩, hrd, ha⟩ := hp
          clear HC
          have HA2 := hide ((unhide HAm).next ha)
          have HR2 := hide hrd
          replace HN1 := hide (nat_later (unhide HN1) ha (unhide HLT))
          have HN2 := hide (nat_mono hn2 (unhide HAm).size)
          clear hn2
          clear hrd ha HAm HRm
          have HC := hide (node_any 24 noText (.slice (some ⟨w2.heap.size, 0, none⟩) 2 2) (w2.alloc (.cells #[nPtr p1, nPtr p2] 22)) ⟨_, _, _, rfl⟩)
          go_wp2_with fail
          refine Calls.mono HC.out ?_
          rintro e wn ⟨rfl, rfl⟩
          clear HC
          go_wp2_with fail
          go_ret
          obtain ⟨m1, m2, m3⟩ := made (unhide HR2) (unhide HA2) (NAts.cons (unhide HN1) (NAts.cons (unhide HN2) NAts.nil)) (by simp [maxLen]) #[nPtr p1, nPtr p2] rfl 2 rfl 24 noText (w2.heap.size + 1) rfl
          exact ppOk (unhide HS).symm m1.nv m2 m3
      · have b23 : (x1.kd != 23) = true := bne_iff_ne.2 h23
        by_cases h36 : x1.kd = 36
        · have b36 : (x1.kd != 36) = false := by rw [h36]; rfl
          rw [if_pos (Or.inr h36)] at HS
          clear h23 h36
          have HC := hide (must_any c tEq wf j1 d (unhide HRwf) (by decide))
          rw [unhide HMU] at HC
          go_wp2_with fail
          refine Calls.mono HC.out ?_
          intro e wm hp
          obtain ⟨⟨vm, rfl, rfl⟩, hrd, ha⟩ := hp
          clear HC
          have HRm := hide hrd
          have HAm := hide ((unhide HAwf).next ha)
          replace HN1 := hide (nat_later (unhide HN1) ha (unhide HLT))
          clear hrd ha HRwf HAwf HPT f10
          cases hr : deepP c.l F.vl d (j1 + 1) with
          | out =>
            rw [hr] at HS
            simp only [bind_out] at HS
            exact absurd (unhide HS).symm (unhide HO)
          | bad er p =>
            have HC := hide (deepV hF wm d (j1 + 1) (unhide HRm) (by rw [hr]; nofun))
            rw [hr] at HC HS
            simp only [bind_bad] at HS
            clear hr
            go_wp2_with fail
            refine Calls.mono HC.out ?_
            intro e w' hp
            obtain ⟨rfl, ha⟩ := hp
            exact ⟨rfl, ppBad (unhide HS).symm ((unhide HAm).next ha)⟩
          | ok x2 j2 =>
            have HC := hide (deepV hF wm d (j1 + 1) (unhide HRm) (by rw [hr]; nofun))
            rw [hr] at HC HS
            simp only [bind_ok] at HS
            clear hr
            go_wp2_with fail
            refine Calls.mono HC.out ?_
            intro e w2 hp
            obtain ⟨⟨v2, rfl, p2, rfl, hn2⟩, hrd, ha⟩ := hp
            clear HC
            have HA2 := hide ((unhide HAm).next ha)
            have HR2 := hide hrd
            replace HN1 := hide (nat_later (unhide HN1) ha (unhide HLT))
            have HN2 := hide (nat_mono hn2 (unhide HAm).size)
            clear hn2
            clear hrd ha HAm HRm
            have HC := hide (node_any 24 noText (.slice (some ⟨w2.heap.size, 0, none⟩) 2 2) (w2.alloc (.cells #[nPtr p1, nPtr p2] 22)) ⟨_, _, _, rfl⟩)
            go_wp2_with fail
            refine Calls.mono HC.out ?_
            rintro e wn ⟨rfl, rfl⟩
            clear HC
            go_wp2_with fail
            go_ret
            obtain ⟨m1, m2, m3⟩ := made (unhide HR2) (unhide HA2) (NAts.cons (unhide HN1) (NAts.cons (unhide HN2) NAts.nil)) (by simp [maxLen]) #[nPtr p1, nPtr p2] rfl 2 rfl 24 noText (w2.heap.size + 1) rfl
            exact ppOk (unhide HS).symm m1.nv m2 m3
        · have b36 : (x1.kd != 36) = true := bne_iff_ne.2 h36
          rw [if_neg (fun hh => hh.elim h23 h36)] at HS
          clear h23 h36
          obtain ⟨t0, t1, t2, t3, tf, tlt⟩ := c113 (unhide HPT)
          have HC := hide (failAt_any c 1 (tkA c.l i) wf)
          unfold tkV at HC
          go_wp2_with fail
          refine Calls.mono HC.out ?_
          rintro e w9 ⟨rfl, hb9⟩
          exact ⟨rfl, ppBad (unhide HS).symm ((unhide HAwf).next (Ap.of hb9))⟩
    · rw [if_neg hx] at HS
      have bx : ((fx c.l j1).toList == [61]) = false := tl_neL (b := tEq) rfl hx
      clear hx
      go_wp2_with fail
      go_ret
      exact ppOk (unhide HS).symm ⟨p1, rfl, unhide HN1⟩ (unhide HRwf) (unhide HAwf)


theorem sg2 {s : ByteArray} {x : Sg} (h : sgP 2 s = some x) : 2 ≤ x.str ∧ x.str ≤ 7 := by
  unfold sgP at h
  cases hf : sgOf s with
  | none => rw [hf] at h; cases h
  | some y =>
    rw [hf] at h
    have hm := List.mem_of_find?_eq_some hf
    have hy : y = x ∧ (y.parts == 2) = true := by
      simp only [Option.filter] at h
      split at h
      · exact ⟨Option.some.inj h, by assumption⟩
      · cases h
    obtain ⟨rfl, hp⟩ := hy
    simp only [sgs, List.mem_cons, List.not_mem_nil, or_false] at hm
    rcases hm with rfl | rfl | rfl | rfl | rfl | rfl | rfl | rfl | rfl | rfl | rfl | rfl | rfl | rfl <;> first | decide | (exact absurd hp (by decide))

theorem Ap.drew2 {R B : Nat} {a w : World} (h : Ap R B a w) : Ap R B a w.drew := h.drew
/-- Behind a sign: one token further, and its parts in a variable of its own. -/
theorem behindSign {c : Ctx} {w ws : World} {i d : Nat} (x : Sg) (hR : Rdr c ws i d) (hA : Ap c.R w.heap.size w ws) (hi : i + 1 < c.l.length) :
    Rdr c ((ws.setCell ⟨c.R, 1, none⟩ (.int .i64 ((i : Int) + 1))).alloc (.cells #[.string x.tx, .int .i64 x.kd, .int .i64 x.parts, .int .i64 x.str] 175)).drew (i + 1) d ∧ Ap c.R w.heap.size w ((ws.setCell ⟨c.R, 1, none⟩ (.int .i64 ((i : Int) + 1))).alloc (.cells #[.string x.tx, .int .i64 x.kd, .int .i64 x.parts, .int .i64 x.str] 175)).drew ∧
    ((ws.setCell ⟨c.R, 1, none⟩ (.int .i64 ((i : Int) + 1))).alloc (.cells #[.string x.tx, .int .i64 x.kd, .int .i64 x.parts, .int .i64 x.str] 175)).drew.heap[ws.heap.size]? = some (.cells #[.string x.tx, .int .i64 x.kd, .int .i64 x.parts, .int .i64 x.str] 175) := by
  obtain ⟨h1, h2⟩ := stepped hR hA hi
  refine ⟨(h1.alloc _).drew, (h2.alloc h2.size _).drew, ?_⟩
  have := heap_new (ws.setCell ⟨c.R, 1, none⟩ (.int .i64 ((i : Int) + 1))) (.cells #[.string x.tx, .int .i64 x.kd, .int .i64 x.parts, .int .i64 x.str] 175)
  rw [World.size_setCell] at this
  exact this

theorem single_none {c : Ctx} {F : Fns} (hQ : Does c 277 NV (askedP c.l F)) (w : World) (d i : Nat) (r : PR Tr) (hsg : sgP 1 (fx c.l i) = none) (hs : askedP c.l F d i = r) (ho : r ≠ .out) (h : Rdr c w i d) : Calls Tryz.prog 273 #[rPtr c] w (PPost c w d (NV w.heap.size) r) := by
  have HSG := hide hsg
  clear hsg
  have HR0 := hide h
  have HA0 := hide (Ap.refl c.R w.heap.size w)
  have HLT := hide h.rlt
  have HS := hide hs
  have HO := hide ho
  clear h hs ho
  go_enter Tryz.func273, Tryz.ntmps273
  have HC := hide (sign_any c 1 w i d (unhide HR0))
  rw [unhide HSG] at HC
  simp only [sgVO, noSg, Option.isSome] at HC
  go_wp2_with fail
  refine Calls.mono HC.out ?_
  rintro e ws ⟨rfl, hbws⟩
  clear HC
  have HAws := hide ((unhide HA0).next (Ap.of hbws))
  have HRws := hide ((unhide HR0).later hbws)
  clear hbws HR0 HA0
  have HAs2 := hide ((unhide HAws).alloc (unhide HAws).size (.cells #[.string ⟨#[]⟩, .int .i64 0, .int .i64 0, .int .i64 0] 175))
  have HRs2 := hide ((unhide HRws).alloc (.cells #[.string ⟨#[]⟩, .int .i64 0, .int .i64 0, .int .i64 0] 175))
  cases hr : askedP c.l F d i with
  | out =>
    rw [hr] at HS
    exact absurd (unhide HS).symm (unhide HO)
  | bad er p =>
    have HC := hide (hQ (ws.alloc (.cells #[.string ⟨#[]⟩, .int .i64 0, .int .i64 0, .int .i64 0] 175)) d i _ rfl (by rw [hr]; nofun) (unhide HRs2))
    rw [hr] at HC HS
    clear hr
    go_wp2_with fail
    refine Calls.mono HC.out ?_
    intro e w' hp
    obtain ⟨rfl, ha⟩ := hp
    exact ⟨rfl, ppBad (unhide HS).symm ((unhide HAs2).next ha)⟩
  | ok x1 j1 =>
    have HC := hide (hQ (ws.alloc (.cells #[.string ⟨#[]⟩, .int .i64 0, .int .i64 0, .int .i64 0] 175)) d i _ rfl (by rw [hr]; nofun) (unhide HRs2))
    rw [hr] at HC HS
    clear hr
    go_wp2_with fail
    refine Calls.mono HC.out ?_
    intro e w1 hp
    obtain ⟨⟨v1, rfl, p1, rfl, hn1⟩, hrd, ha⟩ := hp
    clear HC
    have HA1 := hide ((unhide HAs2).next ha)
    have HR1 := hide hrd
    have HN1 := hide (nat_mono hn1 (unhide HAs2).size)
    clear hn1
    clear hrd ha HAs2 HRs2
    go_wp2_with fail
    go_ret
    exact ppOk (unhide HS).symm ⟨p1, rfl, unhide HN1⟩ (unhide HR1) (unhide HA1)

theorem single_some {c : Ctx} {F : Fns} (hF : FC c F) (w : World) (d i : Nat) (x : Sg) (r : PR Tr) (hsg : sgP 1 (fx c.l i) = some x) (hs : ((deepP c.l F.sg d (i + 1)).bind fun t i1 => PR.ok (.mk x.kd noText 0 [t]) i1) = r) (ho : r ≠ .out) (h : Rdr c w i d) : Calls Tryz.prog 273 #[rPtr c] w (PPost c w d (NV w.heap.size) r) := by
  have hmf := mf_bound c.R 273
  have HSG := hide hsg
  have hi := sgP_lt h.base.ends h.lt hsg
  have hL := h.base.len
  clear hsg
  have HR0 := hide h
  have HA0 := hide (Ap.refl c.R w.heap.size w)
  have HLT := hide h.rlt
  have HS := hide hs
  have HO := hide ho
  clear h hs ho
  go_enter Tryz.func273, Tryz.ntmps273
  have HC := hide (sign_any c 1 w i d (unhide HR0))
  rw [unhide HSG] at HC
  simp only [sgVO, sgV, Option.isSome] at HC
  go_wp2_with fail
  refine Calls.mono HC.out ?_
  rintro e ws ⟨rfl, hbws⟩
  clear HC
  have HAws := hide ((unhide HA0).next (Ap.of hbws))
  have HRws := hide ((unhide HR0).later hbws)
  have hc1 := (unhide HRws).c1
  have hcz := (unhide HRws).fz
  have hcl := (unhide HRws).rlt
  obtain ⟨hx1, hx2, hx3⟩ := behindSign x (unhide HRws) (unhide HAws) hi
  have HX1 := hide hx1
  have HX2 := hide hx2
  have HX3 := hide hx3
  have HTL : Hid (c.R < ws.heap.size) := hcl
  clear hbws hx1 hx2 hx3 HRws HAws HR0 HA0
  cases hr : deepP c.l F.sg d (i + 1) with
  | out =>
    rw [hr] at HS
    simp only [bind_out] at HS
    exact absurd (unhide HS).symm (unhide HO)
  | bad er p =>
    have HC := hide (deepG hF ((ws.setCell ⟨c.R, 1, none⟩ (.int .i64 ((i : Int) + 1))).alloc (.cells #[.string x.tx, .int .i64 x.kd, .int .i64 x.parts, .int .i64 x.str] 175)).drew d (i + 1) (unhide HX1) (by rw [hr]; nofun))
    rw [hr] at HC HS
    simp only [bind_bad] at HS
    clear hr
    go_wp2_with fail
    refine wp_region_held (S := fun W => W.heap[ws.heap.size]? = some (.cells #[.string x.tx, .int .i64 x.kd, .int .i64 x.parts, .int .i64 x.str] 175)) (by kernel_rfl) ?_
    change wpAnyH _ _ _ _ _ _ _ _ (World.drew _)
    refine wpAnyH_take (i := 0) (v := .pointer (some ⟨ws.heap.size, 1, none⟩)) rfl (by kernel_rfl) (by kernel_rfl) (by kernel_rfl) (fun _ _ _ h => h) (Or.inl ⟨by kernel_rfl, fun W _ => by go_simp⟩) (unhide HX3) ?_
    refine wpAnyH_take (i := 1) (v := .int .i64 x.kd) rfl (by kernel_rfl) (by kernel_rfl) (by kernel_rfl) (fun _ _ _ h => h) (Or.inl ⟨by kernel_rfl, fun W hW => by obtain ⟨_, kk, _, _, _, _⟩ := c160 hW; go_simp⟩) (unhide HX3) ?_
    refine wpAnyH_take (i := 2) (v := rPtr c) rfl (by kernel_rfl) (by kernel_rfl) (by kernel_rfl) (fun _ _ _ h => h) (Or.inl ⟨by kernel_rfl, fun W _ => by go_simp⟩) (unhide HX3) ?_
    refine wpAnyH_take (i := 3) (v := rPtr c) rfl (by kernel_rfl) (by kernel_rfl) (by kernel_rfl) (fun _ _ _ h => h) (Or.inl ⟨by kernel_rfl, fun W _ => by go_simp⟩) (unhide HX3) ?_
    refine wpAnyH_take (i := 4) (v := .func (.func 273) #[rPtr c] #[]) rfl (by kernel_rfl) (by kernel_rfl) (by kernel_rfl) (fun _ _ _ h => h) (Or.inl ⟨by kernel_rfl, fun W _ => by go_simp⟩) (unhide HX3) ?_
    refine wpAnyH_ready (rs := [5]) (by kernel_rfl) (by simp) (AllReadyH.cons rfl (fun K hK => ?_) AllReadyH.nil)
    go_simp
    refine Calls.mono HC.out ?_
    intro e w' hp
    obtain ⟨rfl, ha⟩ := hp
    exact ⟨rfl, ppBad (unhide HS).symm ((unhide HX2).next ha)⟩
  | ok t j =>
    have HC := hide (deepG hF ((ws.setCell ⟨c.R, 1, none⟩ (.int .i64 ((i : Int) + 1))).alloc (.cells #[.string x.tx, .int .i64 x.kd, .int .i64 x.parts, .int .i64 x.str] 175)).drew d (i + 1) (unhide HX1) (by rw [hr]; nofun))
    rw [hr] at HC HS
    simp only [bind_ok] at HS
    clear hr
    go_wp2_with fail
    refine wp_region_held (S := fun W => W.heap[ws.heap.size]? = some (.cells #[.string x.tx, .int .i64 x.kd, .int .i64 x.parts, .int .i64 x.str] 175)) (by kernel_rfl) ?_
    change wpAnyH _ _ _ _ _ _ _ _ (World.drew _)
    refine wpAnyH_take (i := 0) (v := .pointer (some ⟨ws.heap.size, 1, none⟩)) rfl (by kernel_rfl) (by kernel_rfl) (by kernel_rfl) (fun _ _ _ h => h) (Or.inl ⟨by kernel_rfl, fun W _ => by go_simp⟩) (unhide HX3) ?_
    refine wpAnyH_take (i := 1) (v := .int .i64 x.kd) rfl (by kernel_rfl) (by kernel_rfl) (by kernel_rfl) (fun _ _ _ h => h) (Or.inl ⟨by kernel_rfl, fun W hW => by obtain ⟨_, kk, _, _, _, _⟩ := c160 hW; go_simp⟩) (unhide HX3) ?_
    refine wpAnyH_take (i := 2) (v := rPtr c) rfl (by kernel_rfl) (by kernel_rfl) (by kernel_rfl) (fun _ _ _ h => h) (Or.inl ⟨by kernel_rfl, fun W _ => by go_simp⟩) (unhide HX3) ?_
    refine wpAnyH_take (i := 3) (v := rPtr c) rfl (by kernel_rfl) (by kernel_rfl) (by kernel_rfl) (fun _ _ _ h => h) (Or.inl ⟨by kernel_rfl, fun W _ => by go_simp⟩) (unhide HX3) ?_
    refine wpAnyH_take (i := 4) (v := .func (.func 273) #[rPtr c] #[]) rfl (by kernel_rfl) (by kernel_rfl) (by kernel_rfl) (fun _ _ _ h => h) (Or.inl ⟨by kernel_rfl, fun W _ => by go_simp⟩) (unhide HX3) ?_
    refine wpAnyH_ready (rs := [5]) (by kernel_rfl) (by simp) (AllReadyH.cons rfl (fun K hK => ?_) AllReadyH.nil)
    go_simp
    refine Calls.mono HC.out ?_
    intro e w1 hp
    obtain ⟨⟨v1, rfl, p1, rfl, hn1⟩, hrd, ha⟩ := hp
    clear HC
    have HA1 := hide ((unhide HX2).next ha)
    have HR1 := hide hrd
    have HN1 := hide (nat_mono hn1 (unhide HX2).size)
    have HS1 := hide ((ha.block _ (lt_of_heap (unhide HX3)) (by have := unhide HTL; omega)).trans (unhide HX3))
    clear hn1 hrd ha
    refine hK.out _ _ (unhide HS1) (fun _ => ?_)
    clear hK K
    refine wpAnyH_ready (rs := [6]) (by kernel_rfl) (by simp) (AllReadyH.cons rfl (fun K hK => ?_) AllReadyH.nil)
    go_simp
    have HS2 := hide ((Below.heap_alloc w1 (.cells #[nPtr p1] 22) _ (lt_of_heap (unhide HS1))).trans (unhide HS1))
    refine hK.out _ _ (unhide HS2) (fun _ => ?_)
    clear hK K
    refine wpAnyH_ready (rs := [7]) (by kernel_rfl) (by simp) (AllReadyH.cons rfl (fun K hK => ?_) AllReadyH.nil)
    go_simp
    refine Calls.mono (node_any x.kd noText (.slice (some ⟨w1.heap.size, 0, none⟩) 1 1) (w1.alloc (.cells #[nPtr p1] 22)) ⟨_, _, _, rfl⟩) ?_
    rintro e wn ⟨rfl, rfl⟩
    have HS3 := hide ((Below.heap_alloc (w1.alloc (.cells #[nPtr p1] 22)) (nodeObj x.kd noText 0 (.slice (some ⟨w1.heap.size, 0, none⟩) 1 1)) _ (lt_of_heap (unhide HS2))).trans (unhide HS2))
    refine hK.out _ _ (unhide HS3) (fun _ => ?_)
    clear hK K
    refine wpAnyH_take (i := 8) (v := nPtr (w1.alloc (.cells #[nPtr p1] 22)).heap.size) rfl (by kernel_rfl) (by kernel_rfl) (by kernel_rfl) (fun _ _ _ h => h) (Or.inl ⟨by kernel_rfl, fun W _ => by go_simp⟩) (unhide HS3) ?_
    refine wpAnyH_done (by kernel_rfl) ?_ _
    go_simp
    go_wp2_with fail
    go_ret
    obtain ⟨m1, m2, m3⟩ := made (unhide HR1) (unhide HA1) (NAts.cons (unhide HN1) NAts.nil) (by simp [maxLen]) #[nPtr p1] rfl 1 rfl x.kd noText (w1.heap.size + 1) rfl
    exact ppOk (unhide HS).symm m1.nv m2 m3

theorem single_any {c : Ctx} {F : Fns} (hF : FC c F) (hQ : Does c 277 NV (askedP c.l F)) : Does c 273 NV (singleP c.l F) := by
  intro w d i r hs ho h
  unfold singleP at hs
  cases hg : sgP 1 (fx c.l i) with
  | none => rw [hg] at hs; exact single_none hQ w d i r hg hs ho h
  | some x => rw [hg] at hs; exact single_some hF w d i x r hg hs ho h

end Go.Proofs.YtodmgaikhbmlnaaGreatDoor
