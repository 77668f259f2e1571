/-
  tell, of every node.
-/
import Derived.Test.YtoimgcjbcbhclaaGreatDoorWh34
import Derived.Test.YtoimgcjbcbhclaaGreatDoorWh35
import Derived.Test.YtoimgcjbcbhclaaGreatDoorWh36
import Derived.Test.YtoimgcjbcbhclaaGreatDoorWh37
import Derived.Test.YtoimgcjbcbhclaaGreatDoorWh2
set_option maxRecDepth 100000
set_option maxHeartbeats 16000000
namespace Go.Proofs.YtoimgcjbcbhclaaGreatDoor
open Go.RowKit

theorem kidsCell {I : Nat → Prop} {w : World} {a : Ad} (h : AAt I w a) : ∃ ka kc, w.cell? ⟨a.p, 3, none⟩ = some (.slice ka a.ks.length kc) ∧ w.ownsRow 0 22 1 (.slice ka a.ks.length kc) (a.ks.map Ad.p).length ((a.ks.map Ad.p).map nPtr) ∧ ∀ g, (Value.slice ka a.ks.length kc).ownBlock = some g → I g := by
  obtain ⟨_, _, _, _, v, c3, hr, hi⟩ := h.cells
  obtain ⟨ka, kc, hv⟩ := srow_form hr
  rw [List.length_map] at hv
  subst hv
  exact ⟨ka, kc, c3, hr, hi⟩
theorem low_of {I : Nat → Prop} {w : World} {l : List Sc} {oa : Option Addr} (h : Chn I w (.pointer oa) l) : ∀ b', Value.pointer oa = sPtr b' → b' < w.heap.size := by
  intro b' e
  rcases h.form with h | ⟨b2, h, hl⟩
  · rw [h] at e; cases e
  · rw [h] at e; cases e; exact hl
theorem two_parts {t : Ad} (h : t.tr.ill = 0) (hk : need t.kd = 2) : ∃ k0 k1 ks, t.ks = k0 :: k1 :: ks := by
  have h1 := (ill_of _ h).1
  obtain ⟨e1, _, e3⟩ := t.tr_eq
  rw [e1, e3, hk, List.length_map] at h1
  match hks : t.ks with
  | [] => rw [hks] at h1; exact absurd h1 (by decide)
  | [x] => rw [hks] at h1; simp at h1
  | k0 :: k1 :: ks => exact ⟨k0, k1, ks, rfl⟩

/-- A scope more, around what is within. -/
theorem scope_in {m : Nat} (ih : TellC m) {a : Ad} (hm : a.cnt ≤ m + 1) {I : Nat → Prop} {tb mb : Nat} {A pre post : List Nat} {L : List Us} {oa : Option Addr} {ch : List Sc} {w : World} (hA : A = pre ++ (a.ads ++ post)) (hW : TW I tb mb A L w) (hN : AAt I w a) (hi : a.tr.ill = 0) (hC : Chn I w (.pointer oa) ch) (hl : L.length + a.cnt ≤ 20000) {ka : Option Addr} {kc : Nat}
    (hrow : w.ownsRow 0 22 1 (.slice ka a.ks.length kc) (a.ks.map Ad.p).length ((a.ks.map Ad.p).map nPtr)) (hri : ∀ g, (Value.slice ka a.ks.length kc).ownBlock = some g → I g) {s : Bool} {N : List ByteArray} (hNl : N.length ≤ 100000) {X : World} {b : Nat} {nv : Value} (hX : Below w.heap.size w X) (hb : w.heap.size ≤ b) (hk : X.heap[b]? = some (scObj (pre.length : Nat) nv false (.pointer oa))) (hr : SRow w.heap.size X nv N) :
    Calls Tryz.prog 127 #[sPtr tb, .slice ka a.ks.length kc, plV2 (sPtr b) s] X fun e w' => e = .returned (.tuple #[]) ∧ TW I tb mb A (L ++ tls (tl m) a.tr.kids (pre.length + 1) (⟨(pre.length : Nat), N, false⟩ :: ch) s) w' ∧ Fm I w w' := by
  have hJ := hW.more hX
  have hst : ∀ J : Nat → Prop, Stay J w X := fun J b _ hl => hX.block b hl
  have hca := cnt_eq a
  have h := tellAll_any ih a.ks (fun k hk => by have := cnts_mem a.ks k hk; omega) _ tb mb A (pre ++ [a.p]) post L (sPtr b) (⟨(pre.length : Nat), N, false⟩ :: ch) s _ X
    (by rw [hA, ads_eq]; simp) hJ (fun k hk => AAt.later (hst _) _ (AAt.mono (fun b hb _ => Or.inl hb) _ (hN.parts k hk))) (ill_parts hi)
    ⟨b, nv, .pointer oa, rfl, Or.inr ⟨hb, lt_of_heap hk⟩, hk, owns_zero hr, fun g hg => Or.inr ⟨(own_lt hr g hg).2, (own_lt hr g hg).1⟩, hNl, fun b' e => by have := low_of hC b' e; omega, Chn.later (hst _) _ _ (Chn.mono (fun b hb _ => Or.inl hb) _ _ hC)⟩
    (owns_stay (I := fun _ => True) (hst _) (fun _ _ => trivial) hrow) (fun g hg => Or.inl (hri g hg)) (by omega)
  rw [List.length_append, List.length_singleton, ← a.tr_eq.2.2] at h
  refine h.mono ?_
  rintro e w' ⟨rfl, h1, h2⟩
  exact ⟨rfl, h1.less hW (fun b hb => Or.inl hb), (Fm.of hX).trans (h2.less fun b hb => Or.inl hb)⟩

theorem kind_ne {kd : Int} {k : Int} (h : ¬ kd = k) : (kd == k) = false := beq_eq_false_iff_ne.2 h

theorem tell_all : ∀ m, TellC m
  | 0 => fun a ha => by have := cnt_pos a; omega
  | m + 1 => by
    have ih := tell_all m
    intro a hm I tb mb A pre post L v ch st w hA hW hN hi hC hl
    obtain ⟨oa, rfl⟩ := hC.ptr
    obtain ⟨hIp, hpl, c0, c1, _⟩ := hN.cells
    obtain ⟨ka, kc, c3, hrow, hri⟩ := kidsCell hN
    obtain ⟨t1, t2, t3⟩ := a.tr_eq
    have hca := cnt_eq a
    have hkm : ∀ k ∈ a.ks, k.cnt ≤ m := fun k hk => by have := cnts_mem a.ks k hk; omega
    have hst : ∀ X, Below w.heap.size w X → Calls Tryz.prog 118 #[nPtr a.p] X fun e w' => e = .returned (.bool (strictT a.tr)) ∧ w' = X := fun X hX => strictE_any a.tr a.p X (NTr.later (NAt.nt hN.nat) hX)
    have hnum : ∀ X, Below w.heap.size w X → (Instr.lookup 44 (.map (some mb)) (nPtr a.p) false).run Tryz.prog X = .ok (.int .i64 (pre.length : Int)) X := fun X hX => hW.num hA (Fm.of hX)
    have hA1 : A = (pre ++ [a.p]) ++ (Ad.adss a.ks ++ post) := by rw [hA, ads_eq]; simp
    have kids : ∀ (X : World) (L' : List Us) (s : Bool), TW I tb mb A L' X → Fm I w X → L'.length + Ad.cnts a.ks ≤ 20000 → Calls Tryz.prog 127 #[sPtr tb, .slice ka a.ks.length kc, plV2 (.pointer oa) s] X fun e w' => e = .returned (.tuple #[]) ∧ TW I tb mb A (L' ++ tls (tl m) a.tr.kids (pre.length + 1) ch s) w' ∧ Fm I w w' := by
      intro X L' s hT hF hl'
      have h := tellAll_any ih a.ks hkm I tb mb A (pre ++ [a.p]) post L' (.pointer oa) ch s _ X hA1 hT (fun k hk => AAt.later hF.stay _ (hN.parts k hk)) (ill_parts hi) (Chn.later hF.stay _ _ hC) (owns_stay hF.stay hri hrow) hri hl'
      rw [List.length_append, List.length_singleton, ← t3] at h
      refine h.mono ?_
      rintro e w' ⟨rfl, h1, h2⟩
      exact ⟨rfl, h1, hF.trans h2⟩
    rw [tl, t1, t2]
    by_cases k23 : a.kd = 23
    · rw [if_pos k23]
      rw [k23] at c0
      refine tl23 w a.p tb mb pre.length oa st (strictT a.tr) ka a.ks.length kc a.tx _ _ I A L _ c0 c1 c3 hIp (by omega) hW (fun X hX => hW.num hA hX) hst (fun X hX => find_any ch a.tx (.pointer oa) X (Chn.later (fun b _ hl => hX.block b hl) _ _ hC)) (fun X hT hF => ?_)
      have h := kids X _ (st || strictT a.tr) hT hF (by rw [List.length_append, List.length_singleton]; omega)
      rw [List.append_assoc] at h
      exact h
    rw [if_neg k23]
    by_cases k1 : a.kd = 1
    · rw [if_pos k1]
      rw [k1] at c0
      have hcc := Ad.cnt_tr a
      have hkk := counts_len a.tr.kids
      have hkc := count_kids a.tr
      refine tl1 w a.p tb mb pre.length oa st (strictT a.tr) ka a.ks.length kc ((letsT a.tr).map Tr.tx) _ c0 c3 hW.word.1 hnum (fun X hX => ?_) hst (fun X b nv hX hb hk hr => scope_in ih hm hA hW hN hi hC hl hrow hri (by have := lets_len a.tr; rw [List.length_map]; omega) hX hb hk hr)
      refine (lets_any a.tr a.p X (NTr.later (NAt.nt hN.nat) hX) (by omega)).mono ?_
      rintro e w' ⟨⟨u, rfl, hu⟩, hb⟩
      exact ⟨⟨u, rfl, wtexts_any (letsT a.tr) u w' hu (by have := lets_len a.tr; omega)⟩, hb⟩
    rw [if_neg k1]
    by_cases k6 : a.kd = 6
    · rw [if_pos k6]
      rw [k6] at c0
      have hcc := Ad.cnt_tr a
      exact tl6 w a.p tb mb pre.length oa st (strictT a.tr) ka a.ks.length kc (namesT a.tr false) _ c0 c3 hW.word.1 hnum (fun X hX => names_any a.tr a.p false X (NTr.later (NAt.nt hN.nat) hX) (by omega)) hst (fun X b nv hX hb hk hr => scope_in ih hm hA hW hN hi hC hl hrow hri (by have := names_len a.tr false (by omega); omega) hX hb hk hr)
    rw [if_neg k6]
    by_cases k13 : a.kd = 13
    · rw [if_pos k13]
      rw [k13] at c0
      exact tl13 w a.p tb mb pre.length oa st (strictT a.tr) ka a.ks.length kc a.tx _ c0 c3 hW.word.1 hnum c1 hst (fun X b nv hX hb hk hr => scope_in ih hm hA hW hN hi hC hl hrow hri (by simp) hX hb hk hr)
    rw [if_neg k13]
    by_cases k9 : a.kd = 9
    · rw [if_pos k9]
      obtain ⟨q0, q1, ks, hks⟩ := two_parts hi (by rw [k9]; decide)
      rw [k9] at c0
      obtain ⟨g, cap, e3, _, d0, d1, hIg⟩ := hN.two hks
      have m0 : q0 ∈ a.ks := by rw [hks]; simp
      have m1 : q1 ∈ a.ks := by rw [hks]; simp
      have hc2 : Ad.cnts a.ks = q0.cnt + (q1.cnt + Ad.cnts ks) := by rw [hks, Ad.cnts, Ad.cnts]
      have hkt : a.tr.kids = q0.tr :: q1.tr :: ks.map Ad.tr := by rw [t3, hks]; rfl
      rw [hkt]
      have hA0 : A = (pre ++ [a.p]) ++ (q0.ads ++ (Ad.adss (q1 :: ks) ++ post)) := by rw [hA1, hks, Ad.adss]; simp
      have hA2 : A = (pre ++ [a.p] ++ q0.ads) ++ (q1.ads ++ (Ad.adss ks ++ post)) := by rw [hA0, Ad.adss]; simp
      have hl2 : (pre ++ [a.p] ++ q0.ads).length = pre.length + 1 + q0.tr.count := by rw [List.length_append, List.length_append, Ad.ads_len, Ad.cnt_tr]; rfl
      have htl := tl_len m q0.tr (pre.length + 1) ch (st || strictT a.tr)
      have hcq := Ad.cnt_tr q0
      refine tl9 w a.p tb q0.p q1.p oa st (strictT a.tr) g _ cap I (fun w' => TW I tb mb A (L ++ tl m q0.tr (pre.length + 1) ch (st || strictT a.tr)) w' ∧ Fm I w w') _ c0 e3 d0 d1 (by omega) hIp hIg hst (fun X hX => ?_) (fun X Y b hQ hXY hb hk => ?_)
      · have hs : ∀ J : Nat → Prop, Stay J w X := fun J b _ hl => hX.block b hl
        have h := ih q0 (hkm q0 m0) _ tb mb A (pre ++ [a.p]) _ L (.pointer oa) ch (st || strictT a.tr) X hA0 (hW.more hX) (AAt.later (hs _) _ (AAt.mono (fun b hb _ => Or.inl hb) _ (hN.parts q0 m0))) (ill_parts hi q0 m0) (Chn.later (hs _) _ _ (Chn.mono (fun b hb _ => Or.inl hb) _ _ hC)) (by omega)
        rw [List.length_append, List.length_singleton] at h
        refine h.mono ?_
        rintro e w' ⟨rfl, h1, h2⟩
        exact ⟨rfl, h2, h1.less hW (fun b hb => Or.inl hb), (Fm.of hX).trans (h2.less fun b hb => Or.inl hb)⟩
      · obtain ⟨hT, hF⟩ := hQ
        have hs : ∀ J : Nat → Prop, Stay J X Y := fun J b _ hl => hXY.block b hl
        have hCX := Chn.later hF.stay _ _ hC
        have h := ih q1 (hkm q1 m1) _ tb mb A (pre ++ [a.p] ++ q0.ads) _ _ (sPtr b) (⟨0, [], true⟩ :: ch) (st || strictT a.tr) Y hA2 (hT.more hXY) (AAt.later (hs _) _ (AAt.mono (fun b hb _ => Or.inl hb) _ (AAt.later hF.stay _ (hN.parts q1 m1)))) (ill_parts hi q1 m1)
          ⟨b, .slice none 0 0, .pointer oa, rfl, Or.inr ⟨hb, lt_of_heap hk⟩, hk, srow_nil _ _, fun g hg => (by cases hg), Nat.zero_le _, fun b' e => by have := low_of hCX b' e; omega, Chn.later (hs _) _ _ (Chn.mono (fun b hb _ => Or.inl hb) _ _ hCX)⟩ (by rw [List.length_append]; omega)
        rw [hl2, List.append_assoc] at h
        refine h.mono ?_
        rintro e w' ⟨rfl, h1, h2⟩
        exact ⟨rfl, h1.less hW (fun b hb => Or.inl hb), hF.trans ((Fm.of hXY).trans (h2.less fun b hb => Or.inl hb))⟩
    rw [if_neg k9]
    by_cases kf : a.kd = 5 ∨ a.kd = 37
    · rw [if_pos kf]
      obtain ⟨pr, bl, ks, hks⟩ := two_parts hi (by rcases kf with k | k <;> rw [k] <;> decide)
      obtain ⟨g, cap, e3, _, d0, d1, hIg⟩ := hN.two hks
      have m0 : pr ∈ a.ks := by rw [hks]; simp
      have m1 : bl ∈ a.ks := by rw [hks]; simp
      have hB := hN.parts bl m1
      obtain ⟨ba, bc, f3, hbr, hbi⟩ := kidsCell hB
      have hc2 : Ad.cnts a.ks = pr.cnt + (bl.cnt + Ad.cnts ks) := by rw [hks, Ad.cnts, Ad.cnts]
      have hcb := cnt_eq bl
      have hkt : a.tr.kids = pr.tr :: bl.tr :: ks.map Ad.tr := by rw [t3, hks]; rfl
      rw [hkt]
      have hA2 : A = (pre ++ [a.p] ++ pr.ads ++ [bl.p]) ++ (Ad.adss bl.ks ++ (Ad.adss ks ++ post)) := by rw [hA1, hks, Ad.adss, Ad.adss, ads_eq bl]; simp
      have hl2 : (pre ++ [a.p] ++ pr.ads ++ [bl.p]).length = pre.length + 1 + pr.tr.count + 1 := by rw [List.length_append, List.length_append, List.length_append, Ad.ads_len, Ad.cnt_tr]; rfl
      refine tlF w a.p tb bl.p oa st (strictT a.tr) (st || strictT a.tr || strictT bl.tr) g _ cap a.kd ba bl.ks.length bc (fun X Y v' => Chn (fun b => I b ∨ (X.heap.size ≤ b ∧ b < Y.heap.size)) Y v' (fnSc a.tr pr.tr bl.tr pre.length ch (st || strictT a.tr))) _ c0 e3 d1 f3 (by omega) kf hst (fun X hX => ?_) (fun X Y v' hX hR hXY => ?_)
      · exact fn_any a pr bl ks hks kf I tb mb A pre post L (.pointer oa) ch (st || strictT a.tr) X hA (hW.later hX) (AAt.later (fun b _ hl => hX.block b hl) _ hN) hi (Chn.later (fun b _ hl => hX.block b hl) _ _ hC) (by omega)
      · have hs : ∀ J : Nat → Prop, Stay J w Y := fun J b _ hl => (hXY.block b (Nat.lt_of_lt_of_le hl hX.size)).trans (hX.block b hl)
        have h := tellAll_any ih bl.ks (fun k hk => by have := cnts_mem bl.ks k hk; omega) _ tb mb A (pre ++ [a.p] ++ pr.ads ++ [bl.p]) _ L v' _ (st || strictT a.tr || strictT bl.tr) _ Y hA2 ((hW.later hX).more hXY) (fun k hk => AAt.later (hs _) _ (AAt.mono (fun b hb _ => Or.inl hb) _ (hB.parts k hk))) (ill_parts (ill_parts hi bl m1)) hR (owns_stay (I := fun _ => True) (hs _) (fun _ _ => trivial) hbr) (fun g hg => Or.inl (hbi g hg)) (by omega)
        rw [hl2, ← bl.tr_eq.2.2] at h
        refine h.mono ?_
        rintro e w' ⟨rfl, h1, h2⟩
        exact ⟨rfl, h1.less hW (fun b hb => Or.inl hb), (Fm.of hX).trans ((Fm.of hXY).trans (h2.less fun b hb => Or.inl hb))⟩
    rw [if_neg kf]
    by_cases k40 : a.kd = 40
    · rw [if_pos k40]
      rw [k40] at c0
      exact tl40 w a.p tb oa st (strictT a.tr) _ c0 hst (fun X hX => by rw [List.append_nil]; exact ⟨hW.later hX, Fm.of hX⟩)
    rw [if_neg k40]
    exact tlD w a.p tb oa st (strictT a.tr) a.kd ka a.ks.length kc _ c0 c3 (kind_ne k23) (kind_ne k1) (kind_ne k6) (kind_ne k13) (kind_ne k9) (kind_ne fun h => kf (Or.inl h)) (kind_ne fun h => kf (Or.inr h)) (kind_ne k40) hst (fun X hX => kids X L _ (hW.later hX) (Fm.of hX) (by omega))

mutual
theorem all_ads {I : Nat → Prop} {w : World} : ∀ {a : Ad}, AAt I w a → ∀ p ∈ a.ads, I p ∧ Cl w p
  | .mk q kd tx n ks, h => by
    have hq := h.cl
    rw [AAt] at h
    rw [Ad.ads]
    intro p hp
    rcases List.mem_cons.1 hp with rfl | hp
    · exact ⟨h.2.1, hq⟩
    · exact all_adss h.2.2.2 p hp
theorem all_adss {I : Nat → Prop} {w : World} : ∀ {es : List Ad}, AAts I w es → ∀ p ∈ Ad.adss es, I p ∧ Cl w p
  | [], _ => by rw [Ad.adss]; intro p hp; cases hp
  | a :: es, h => by
    rw [AAts] at h
    rw [Ad.adss]
    intro p hp
    rcases List.mem_append.1 hp with hp | hp
    · exact all_ads h.1 p hp
    · exact all_adss h.2 p hp
end
theorem of_any {I : Nat → Prop} (t : Ad) (w : World) (ht : AAt I w t) (hd : t.ads.Nodup) (hi : t.tr.ill = 0) (hc : t.cnt ≤ 20000) :
    Calls Tryz.prog 26 #[nPtr t.p] w fun e w' => (∃ v, e = .returned v ∧ w'.ownsRow 0 56 3 v (tl t.cnt t.tr 0 [] false).length (usCells (tl t.cnt t.tr 0 [] false))) ∧ Below w.heap.size w w' := by
  have HN := hide (number_any t w ht hd (by omega))
  have key : ∀ (w1 : World) (mb : Nat), w.heap.size ≤ mb → Below w.heap.size w w1 → w1.heap[mb]? = some (.map (mapP (nodL t.ads)) t.ads.length) →
      Calls Tryz.prog 68 #[sPtr w1.heap.size, nPtr t.p, plV2 (.pointer none) false] (w1.alloc (.cells #[.map (some mb), .slice none 0 0] 108)) fun e w' => e = .returned (.tuple #[]) ∧
        (∃ v, w'.heap[w1.heap.size]? = some (.cells #[.map (some mb), v] 108 (0, 0)) ∧ w'.ownsRow 0 56 3 v (tl t.cnt t.tr 0 [] false).length (usCells (tl t.cnt t.tr 0 [] false))) ∧ Below w.heap.size w w' := by
    intro w1 mb hmb hb1 hm1
    have hb2 : Below w1.heap.size w1 (w1.alloc (.cells #[.map (some mb), .slice none 0 0] 108)) := (Below.refl _ _).alloc (Nat.le_refl _) _
    have hs : ∀ J : Nat → Prop, Stay J w (w1.alloc (.cells #[.map (some mb), .slice none 0 0] 108)) := fun J b _ hl => (hb2.block b (Nat.lt_of_lt_of_le hl hb1.size)).trans (hb1.block b hl)
    have hA2 : AAt (fun b => b < w1.heap.size) (w1.alloc (.cells #[.map (some mb), .slice none 0 0] 108)) t := AAt.later (hs _) _ (AAt.mono (fun b _ hl => Nat.lt_of_lt_of_le hl hb1.size) _ ht)
    have hall : ∀ p ∈ t.ads, p < w1.heap.size ∧ Cl (w1.alloc (.cells #[.map (some mb), .slice none 0 0] 108)) p := all_ads hA2
    have hT : TW (fun b => b < w1.heap.size) w1.heap.size mb t.ads [] (w1.alloc (.cells #[.map (some mb), .slice none 0 0] 108)) :=
      ⟨⟨.slice none 0 0, heap_new _ _, ⟨rfl, Or.inl ⟨rfl, rfl⟩⟩, fun b _ e => (by cases e), fun e => (by cases e)⟩, by rw [hb2.block mb (lt_of_heap hm1)]; exact hm1, lt_of_heap hm1, fun b hb => ⟨Nat.lt_of_lt_of_le hb hb2.size, Nat.ne_of_lt hb⟩, hall, hd⟩
    refine (tell_all t.cnt t (Nat.le_refl _) _ w1.heap.size mb t.ads [] [] [] (.pointer none) [] false _ (by simp) hT hA2 hi rfl (by simp; omega)).mono ?_
    rintro e w' ⟨rfl, h1, h2⟩
    obtain ⟨⟨v, k1, k2, _⟩, _⟩ := h1
    rw [List.nil_append, List.length_nil] at k2
    refine ⟨rfl, ⟨v, k1, k2⟩, ⟨h2.os.trans (hb2.os.trans hb1.os), h2.tape.trans (hb2.tape.trans hb1.tape), h2.output.trans (hb2.output.trans hb1.output), Nat.le_trans hb1.size (Nat.le_trans hb2.size h2.size), fun k hk => ?_⟩⟩
    have hk1 : k < w1.heap.size := Nat.lt_of_lt_of_le hk hb1.size
    exact (h2.stay k hk1 (Nat.lt_of_lt_of_le hk1 hb2.size)).trans ((hb2.block k hk1).trans (hb1.block k hk))
  have HK := hide key
  generalize tl t.cnt t.tr 0 [] false = L at HK
  generalize t.p = p at HN HK
  clear ht hd hi hc key
  go_enter Tryz.func26, Tryz.ntmps26
  go_wp2_with fail
  refine Calls.mono HN.out ?_
  rintro e w1 ⟨⟨mb, rfl, hmb, hm1⟩, hb1⟩
  have HC := hide (unhide HK w1 mb hmb hb1 hm1)
  clear HN HK hmb hm1 hb1
  go_wp2_with fail
  refine Calls.mono HC.out ?_
  rintro e w2 ⟨rfl, ⟨v, hv, hr⟩, hb⟩
  have HR := hide hr
  have HB := hide hb
  have c1 : w2.cell? ⟨w1.heap.size, 1, none⟩ = some v := by rw [cell_of hv]; rfl
  have hl := lt_of_heap hv
  obtain ⟨va, vc, rfl⟩ := srow_form hr
  clear HC hv hr hb
  go_wp2_with fail
  go_ret
  exact ⟨⟨_, rfl, unhide HR⟩, unhide HB⟩
end Go.Proofs.YtoimgcjbcbhclaaGreatDoor
namespace Go.Proofs.YtoimgcjbcbhclaaGreatDoor
open Go.ChangeShapes Go.WideShapes Go.ChangeAt Go.WideMaps Go.WideElems Go.RowKit

def jn (a b : ByteArray) : ByteArray := ⟨(a.data.toList ++ 10 :: b.data.toList).toArray⟩
theorem jn_list (a b : ByteArray) : (jn a b).data.toList = a.data.toList ++ 10 :: b.data.toList := by simp [jn]
theorem len_list (a : ByteArray) : a.data.toList.length = a.size := by simp
theorem jn_size (a b : ByteArray) : (jn a b).size = a.size + 1 + b.size := by
  rw [← len_list, jn_list]; simp; omega

theorem jn_bt_lt (a b : ByteArray) (i : Nat) (h : i < a.size) : bt (jn a b) i = bt a i := by
  unfold bt
  rw [jn_list, List.getD_eq_getElem?_getD, List.getD_eq_getElem?_getD, List.getElem?_append_left (by rw [len_list]; exact h)]
theorem jn_bt_sh (a b : ByteArray) (i : Nat) : bt (jn a b) (a.size + 1 + i) = bt b i := by
  unfold bt
  rw [jn_list, List.getD_eq_getElem?_getD, List.getD_eq_getElem?_getD, List.getElem?_append_right (by rw [len_list]; omega), len_list]
  rw [show a.size + 1 + i - a.size = i + 1 by omega, List.getElem?_cons_succ]

theorem jn_drop_le (a b : ByteArray) (k : Nat) (h : k ≤ a.size) : (jn a b).data.toList.drop k = a.data.toList.drop k ++ 10 :: b.data.toList := by
  rw [jn_list, List.drop_append_of_le_length (by rw [len_list]; exact h)]
theorem jn_drop_sh (a b : ByteArray) (k : Nat) : (jn a b).data.toList.drop (a.size + 1 + k) = b.data.toList.drop k := by
  rw [jn_list, List.drop_append, List.drop_of_length_le (by rw [len_list]; omega), len_list, show a.size + 1 + k - a.size = k + 1 by omega]
  rfl

theorem jn_past (p : Int → Bool) (a b : ByteArray) (k : Nat) (h : k ≤ a.size) (hp : p 10 = false) : pastN p (jn a b) k = pastN p a k := by
  unfold pastN
  rw [jn_drop_le a b k h, List.takeWhile_append, List.takeWhile_cons]
  have : p (((10 : UInt8).toNat : Nat) : Int) = false := hp
  rw [this]
  simp only [Bool.false_eq_true, if_false, List.append_nil]
  split
  · rename_i h1
    rw [h1]
  · rfl
theorem jn_past_sh (p : Int → Bool) (a b : ByteArray) (k : Nat) : pastN p (jn a b) (a.size + 1 + k) = a.size + 1 + pastN p b k := by
  unfold pastN
  rw [jn_drop_sh]; omega
theorem jn_past_gap (p : Int → Bool) (a b : ByteArray) (k : Nat) (h : k ≤ a.size) (hp : p 10 = true) :
    pastN p (jn a b) k = if pastN p a k < a.size then pastN p a k else a.size + 1 + pastN p b 0 := by
  have hle := pastN_le p a k h
  unfold pastN at hle ⊢
  rw [jn_drop_le a b k h, List.takeWhile_append, List.takeWhile_cons]
  have : p (((10 : UInt8).toNat : Nat) : Int) = true := hp
  rw [this]
  have hd : (a.data.toList.drop k).length = a.size - k := by rw [List.length_drop, len_list]
  simp only [if_true, List.drop_zero]
  split
  · rename_i h1
    rw [if_neg (by omega)]
    simp only [List.length_append, List.length_cons]
    omega
  · rename_i h1
    rw [if_pos (by omega)]

theorem jn_extract (a b : ByteArray) (k e : Nat) (h : e ≤ a.size) : (jn a b).extract k e = a.extract k e := by
  apply bytes_inj
  rw [ByteArray.data_extract, ByteArray.data_extract, Array.toList_extract, Array.toList_extract, jn_list]
  simp only [List.extract_eq_take_drop]
  by_cases hk : k ≤ a.size
  · rw [List.drop_append_of_le_length (by rw [len_list]; exact hk), List.take_append_of_le_length (by rw [List.length_drop, len_list]; omega)]
  · rw [show e - k = 0 by omega]; simp
theorem jn_extract_sh (a b : ByteArray) (k e : Nat) : (jn a b).extract (a.size + 1 + k) (a.size + 1 + e) = b.extract k e := by
  apply bytes_inj
  rw [ByteArray.data_extract, ByteArray.data_extract, Array.toList_extract, Array.toList_extract]
  simp only [List.extract_eq_take_drop]
  rw [jn_drop_sh, show a.size + 1 + e - (a.size + 1 + k) = e - k by omega]

theorem lod10 : lodB 10 = false := by decide
theorem dig10 : digB 10 = false := by decide
theorem gap10 : gapB 10 = true := by decide

theorem jn_name (ws : List ByteArray) (a b : ByteArray) (k : Nat) (h : k ≤ a.size) : rdName ws (jn a b) k = rdName ws a k := by
  unfold rdName
  rw [jn_past lodB a b k h lod10, jn_extract a b k _ (pastN_le lodB a k h)]
theorem jn_num (a b : ByteArray) (k : Nat) (h : k < a.size) : rdNum (jn a b) k = rdNum a k := by
  unfold rdNum
  rw [jn_past digB a b k (by omega) dig10, jn_extract a b k _ (pastN_le digB a k (by omega))]
  have := jn_bt_lt a b k h
  unfold bt at this
  rw [this]

theorem jn_str (a b : ByteArray) : ∀ n i said l e, a.size - i = n → strR a i said = .ok l e → strR (jn a b) i said = .ok l e := by
  intro n
  induction n using Nat.strongRecOn with
  | ind n ih =>
    intro i said l e hn h
    have hj := jn_size a b
    by_cases hlt : i < a.size
    · have hb := jn_bt_lt a b i hlt
      by_cases c1 : bt a i = 39
      · rw [strR_quote a i said hlt c1] at h
        rw [strR_quote (jn a b) i said (by omega) (by rw [hb]; exact c1)]
        exact h
      · by_cases c2 : bt a i = 10
        · rw [strR_lf a i said hlt c2] at h; cases h
        · by_cases c3 : bt a i = 92
          · by_cases h1 : i + 1 < a.size
            · cases hm : esc (bt a (i + 1)) with
              | none => rw [strR_noesc a i said hlt c3 (fun _ => hm)] at h; cases h
              | some m =>
                rw [strR_esc a i said m hlt c3 h1 hm] at h
                rw [strR_esc (jn a b) i said m (by omega) (by rw [hb]; exact c3) (by omega) (by rw [jn_bt_lt a b _ h1]; exact hm)]
                exact ih (a.size - (i + 2)) (by omega) (i + 2) _ l e rfl h
            · rw [strR_noesc a i said hlt c3 (fun hh => absurd hh h1)] at h; cases h
          · rw [strR_plain a i said hlt c1 c2 c3] at h
            rw [strR_plain (jn a b) i said (by omega) (by rw [hb]; exact c1) (by rw [hb]; exact c2) (by rw [hb]; exact c3), hb]
            exact ih (a.size - (i + 1)) (by omega) (i + 1) _ l e rfl h
    · rw [strR_end a i said hlt] at h; cases h

theorem jn_str_sh (a b : ByteArray) : ∀ n i said l e, b.size - i = n → strR b i said = .ok l e → strR (jn a b) (a.size + 1 + i) said = .ok l (a.size + 1 + e) := by
  intro n
  induction n using Nat.strongRecOn with
  | ind n ih =>
    intro i said l e hn h
    have hj := jn_size a b
    by_cases hlt : i < b.size
    · have hb := jn_bt_sh a b i
      by_cases c1 : bt b i = 39
      · rw [strR_quote b i said hlt c1] at h
        rw [strR_quote (jn a b) _ said (by omega) (by rw [hb]; exact c1)]
        cases h
        rfl
      · by_cases c2 : bt b i = 10
        · rw [strR_lf b i said hlt c2] at h; cases h
        · by_cases c3 : bt b i = 92
          · by_cases h1 : i + 1 < b.size
            · cases hm : esc (bt b (i + 1)) with
              | none => rw [strR_noesc b i said hlt c3 (fun _ => hm)] at h; cases h
              | some m =>
                rw [strR_esc b i said m hlt c3 h1 hm] at h
                rw [strR_esc (jn a b) _ said m (by omega) (by rw [hb]; exact c3) (by omega) (by rw [show a.size + 1 + i + 1 = a.size + 1 + (i + 1) by omega, jn_bt_sh a b _]; exact hm)]
                exact ih (b.size - (i + 2)) (by omega) (i + 2) _ l e rfl h
            · rw [strR_noesc b i said hlt c3 (fun hh => absurd hh h1)] at h; cases h
          · rw [strR_plain b i said hlt c1 c2 c3] at h
            rw [strR_plain (jn a b) _ said (by omega) (by rw [hb]; exact c1) (by rw [hb]; exact c2) (by rw [hb]; exact c3), hb]
            exact ih (b.size - (i + 1)) (by omega) (i + 1) _ l e rfl h
    · rw [strR_end b i said hlt] at h; cases h

theorem pfx_iff (x p : ByteArray) : pfxB x p = true ↔ p.data.toList <+: x.data.toList := by
  unfold pfxB
  rw [Bool.and_eq_true, decide_eq_true_eq, beq_iff_eq]
  have e1 : (x.extract 0 p.size).data.toList = x.data.toList.take p.size := by
    rw [ByteArray.data_extract, Array.toList_extract]; simp [List.extract_eq_take_drop]
  have e2 : ∀ y : ByteArray, y.toList = y.data.toList := fun y => ByteArray.toList_eq y
  rw [e2, e2, e1, List.prefix_iff_eq_take, len_list]
  constructor
  · exact fun h => h.2.symm
  · intro h
    refine ⟨?_, h.symm⟩
    have := congrArg List.length h
    rw [List.length_take, len_list, len_list] at this
    omega

theorem prefix_10 (g l1 l2 : List UInt8) (hg : (10 : UInt8) ∉ g) : g <+: l1 ++ 10 :: l2 ↔ g <+: l1 := by
  constructor
  · intro h
    induction l1 generalizing g with
    | nil =>
      cases g with
      | nil => exact List.nil_prefix
      | cons x g =>
        rw [List.nil_append, List.cons_prefix_cons] at h
        exact absurd (by simp [h.1]) hg
    | cons y l1 ih =>
      cases g with
      | nil => exact List.nil_prefix
      | cons x g =>
        rw [List.cons_append, List.cons_prefix_cons] at h
        rw [List.cons_prefix_cons]
        exact ⟨h.1, ih g (fun hh => hg (by simp [hh])) h.2⟩
  · exact fun h => h.trans (List.prefix_append _ _)

theorem rest_list (s : ByteArray) (k : Nat) : (s.extract k s.size).data.toList = s.data.toList.drop k := by
  rw [ByteArray.data_extract, Array.toList_extract, List.extract_eq_take_drop, List.take_of_length_le (by rw [List.length_drop, len_list]; omega)]

theorem jn_pfx (a b g : ByteArray) (k : Nat) (h : k ≤ a.size) (hg : (10 : UInt8) ∉ g.data.toList) : pfxB ((jn a b).extract k (jn a b).size) g = pfxB (a.extract k a.size) g := by
  have : pfxB ((jn a b).extract k (jn a b).size) g = true ↔ pfxB (a.extract k a.size) g = true := by
    rw [pfx_iff, pfx_iff, rest_list, rest_list, jn_drop_le a b k h, prefix_10 _ _ _ hg]
  cases h1 : pfxB ((jn a b).extract k (jn a b).size) g <;> cases h2 : pfxB (a.extract k a.size) g <;> simp_all

theorem find_congr (gs : List ByteArray) (f f' : ByteArray → Bool) (h : ∀ g ∈ gs, f g = f' g) : gs.find? f = gs.find? f' := by
  induction gs with
  | nil => rfl
  | cons g gs ih =>
    rw [List.find?_cons, List.find?_cons, h g (by simp), ih (fun x hx => h x (by simp [hx]))]

theorem jn_sign (gs : List ByteArray) (a b : ByteArray) (k : Nat) (h : k ≤ a.size) (hg : ∀ g ∈ gs, (10 : UInt8) ∉ g.data.toList) : rdSign gs (jn a b) k = rdSign gs a k := by
  unfold rdSign
  rw [find_congr gs _ _ (fun g hm => jn_pfx a b g k h (hg g hm))]

theorem jn_tok (ws gs : List ByteArray) (a b : ByteArray) (k : Nat) (kd n : Int) (tx : ByteArray) (e : Nat) (h : k < a.size) (hg : ∀ g ∈ gs, (10 : UInt8) ∉ g.data.toList)
    (hr : rdTok ws gs a k = .tok kd tx n e) : rdTok ws gs (jn a b) k = .tok kd tx n e := by
  rw [← hr]
  unfold rdTok at hr ⊢
  rw [jn_bt_lt a b k h, jn_name ws a b k (by omega), jn_num a b k h, jn_sign gs a b k (by omega) hg]
  split
  · rfl
  · split
    · rfl
    · split
      · rename_i h1 h2 h3
        rw [if_neg h1, if_neg h2, if_pos h3] at hr
        unfold rdStr at hr ⊢
        cases hs : strR a (k + 1) [] with
        | ok l e' => rw [jn_str a b _ _ _ l e' rfl hs]
        | bad p => rw [hs] at hr; cases hr
      · rfl

def shRd (D : Nat) : Rd → Rd
  | .tok kd tx n e => .tok kd tx n (D + e)
  | .bad er p => .bad er (D + p)

theorem jn_tok_sh (ws gs : List ByteArray) (a b : ByteArray) (k : Nat) (kd n : Int) (tx : ByteArray) (e : Nat)
    (hr : rdTok ws gs b k = .tok kd tx n e) : rdTok ws gs (jn a b) (a.size + 1 + k) = .tok kd tx n (a.size + 1 + e) := by
  have key : rdTok ws gs (jn a b) (a.size + 1 + k) = shRd (a.size + 1) (rdTok ws gs b k) := by
    unfold rdTok at hr ⊢
    rw [jn_bt_sh a b k]
    split
    · unfold rdName
      rw [jn_past_sh, jn_extract_sh, show a.size + 1 + pastN lodB b k - (a.size + 1 + k) = pastN lodB b k - k by omega]
      split
      · rfl
      · split <;> rfl
    · split
      · unfold rdNum
        have := jn_bt_sh a b k
        unfold bt at this
        rw [jn_past_sh, jn_extract_sh, this, show a.size + 1 + pastN digB b k - (a.size + 1 + k) = pastN digB b k - k by omega]
        split
        · rfl
        · split
          · rfl
          · split <;> rfl
      · split
        · rename_i h1 h2 h3
          rw [if_neg h1, if_neg h2, if_pos h3] at hr
          unfold rdStr at hr ⊢
          cases hs : strR b (k + 1) [] with
          | ok l e' =>
            rw [show a.size + 1 + k + 1 = a.size + 1 + (k + 1) by omega, jn_str_sh a b _ _ _ l e' rfl hs]
            simp only
            split <;> rfl
          | bad p => rw [hs] at hr; cases hr
        · unfold rdSign
          rw [jn_size, show a.size + 1 + b.size = a.size + 1 + b.size from rfl, jn_extract_sh]
          split
          · simp only [shRd]; rw [Nat.add_assoc]
          · rfl
  rw [key, hr]
  rfl

def shTk (D : Nat) (t : Tk) : Tk := ⟨t.kd, t.tx, t.n, D + t.pl⟩

theorem toks_sh (ws gs : List ByteArray) (a b : ByteArray) (hgs : ∀ g ∈ gs, 1 ≤ g.size) : ∀ m i acc accJ l, b.size - i = m → i ≤ b.size → toksR ws gs b i acc = .ok l →
    ∃ l', l = acc ++ l' ∧ toksR ws gs (jn a b) (a.size + 1 + i) accJ = .ok (accJ ++ l'.map (shTk (a.size + 1))) := by
  intro m
  induction m using Nat.strongRecOn with
  | ind m ih =>
    intro i acc accJ l hm hi h
    have hj := jn_size a b
    by_cases hlt : i < b.size
    · cases hr : rdTok ws gs b i with
      | bad er p => rw [toksR_bad ws gs b i acc er p hlt hr] at h; cases h
      | tok kd tx n e =>
        have hb := rdTok_bounds ws gs b i kd n tx e hlt hgs hr
        rw [toksR_go ws gs b i acc kd n tx e hlt hr hb.1] at h
        have hge := pastN_ge gapB b e
        have hle := pastN_le gapB b e hb.2
        obtain ⟨l', h1, h2⟩ := ih (b.size - pastN gapB b e) (by omega) (pastN gapB b e) _ (accJ ++ [⟨kd, tx, n, a.size + 1 + i⟩]) l rfl hle h
        refine ⟨⟨kd, tx, n, i⟩ :: l', by rw [h1]; simp, ?_⟩
        rw [toksR_go ws gs (jn a b) _ accJ kd n tx (a.size + 1 + e) (by omega) (jn_tok_sh ws gs a b i kd n tx e hr) (by omega), jn_past_sh, h2]
        simp [shTk]
    · rw [toksR_end ws gs b i acc hlt] at h
      refine ⟨[⟨6, ⟨#[]⟩, 0, b.size⟩], by cases h; rfl, ?_⟩
      rw [toksR_end ws gs (jn a b) _ accJ (by omega), hj]
      simp [shTk]

theorem toks_jn (ws gs : List ByteArray) (a b : ByteArray) (hgs : ∀ g ∈ gs, 1 ≤ g.size) (hg : ∀ g ∈ gs, (10 : UInt8) ∉ g.data.toList) : ∀ m i acc l, a.size - i = m → i ≤ a.size → toksR ws gs a i acc = .ok l →
    ∃ l', l = l' ++ [⟨6, ⟨#[]⟩, 0, a.size⟩] ∧ toksR ws gs (jn a b) (if i < a.size then i else a.size + 1 + pastN gapB b 0) acc = toksR ws gs (jn a b) (a.size + 1 + pastN gapB b 0) l' := by
  intro m
  induction m using Nat.strongRecOn with
  | ind m ih =>
    intro i acc l hm hi h
    have hj := jn_size a b
    by_cases hlt : i < a.size
    · cases hr : rdTok ws gs a i with
      | bad er p => rw [toksR_bad ws gs a i acc er p hlt hr] at h; cases h
      | tok kd tx n e =>
        have hb := rdTok_bounds ws gs a i kd n tx e hlt hgs hr
        rw [toksR_go ws gs a i acc kd n tx e hlt hr hb.1] at h
        have hge := pastN_ge gapB a e
        have hle := pastN_le gapB a e hb.2
        obtain ⟨l', h1, h2⟩ := ih (a.size - pastN gapB a e) (by omega) (pastN gapB a e) _ l rfl hle h
        refine ⟨l', h1, ?_⟩
        rw [if_pos hlt, toksR_go ws gs (jn a b) _ acc kd n tx e (by omega) (jn_tok ws gs a b i kd n tx e hlt hg hr) (by omega), jn_past_gap gapB a b e hb.2 gap10]
        exact h2
    · rw [toksR_end ws gs a i acc hlt] at h
      refine ⟨acc, by cases h; rfl, ?_⟩
      rw [if_neg hlt]

/-- THE JOIN: the first text's tokens but for its end, then the second's, moved. -/
theorem toks_join (ws gs : List ByteArray) (a b : ByteArray) (la lb : List Tk) (hgs : ∀ g ∈ gs, 1 ≤ g.size) (hg : ∀ g ∈ gs, (10 : UInt8) ∉ g.data.toList)
    (ha : toksR ws gs a (pastN gapB a 0) [] = .ok la) (hb : toksR ws gs b (pastN gapB b 0) [] = .ok lb) :
    ∃ l', la = l' ++ [⟨6, ⟨#[]⟩, 0, a.size⟩] ∧ toksR ws gs (jn a b) (pastN gapB (jn a b) 0) [] = .ok (l' ++ lb.map (shTk (a.size + 1))) := by
  obtain ⟨l', h1, h2⟩ := toks_jn ws gs a b hgs hg _ (pastN gapB a 0) [] la rfl (pastN_le gapB a 0 (Nat.zero_le _)) ha
  refine ⟨l', h1, ?_⟩
  rw [jn_past_gap gapB a b 0 (Nat.zero_le _) gap10, h2]
  obtain ⟨l2, h3, h4⟩ := toks_sh ws gs a b hgs _ (pastN gapB b 0) [] l' lb rfl (pastN_le gapB b 0 (Nat.zero_le _)) hb
  rw [h4, h3]
  simp
end Go.Proofs.YtoimgcjbcbhclaaGreatDoor
