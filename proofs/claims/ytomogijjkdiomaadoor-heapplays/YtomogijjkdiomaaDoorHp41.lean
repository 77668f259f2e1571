/-
  The switch of the law, case by case.
-/
import Derived.Test.YtomogijjkdiomaaDoorHp28
set_option maxRecDepth 100000
set_option maxHeartbeats 16000000
namespace Go.Proofs.YtomogijjkdiomaaDoor
open Go.RowKit

section
variable {w0 W W' : World} {H R D V : Nat} {M N M' : Mo} {d : Dv} {k : Nat}
set_option maxRecDepth 100000
set_option maxHeartbeats 1000000
theorem case2 (Q : Exit → Act → World → Prop) (l v5 : Value) (f : Nat → Value) (s : Rd w0 W H R D V M M d) (hM : M.Inv k) (hk : k < 1000) (hn : d.name.size ≤ 20) (q : d.what = 2)
    (hP : ∀ c a a' w, Q (.panic c) a w → Q (.panic c) a' w) (hQ : ∀ f' W' M', M'.Inv (k + 1) → Rd w0 W' H R D V M' M' d → Q .normal (fr l (pH H) (pH R) v5 (pH D) (pH V) f') W') : SwitchWp Q (fr l (pH H) (pH R) v5 (pH D) (pH V) f) W := by
  obtain ⟨e, M1, hM1, hA⟩ := step_put (H := H) (R := R) hM hk d.a d.name d.v d.fixed hn
  have HA := hide hA
  have HQ := hide hQ
  have HP := hide hP
  have HI := hide hM1
  unfold SwitchWp
  simp only [cl, cr, Tryd.f3, Option.getD_some]
  have c0 := s.d0
  rw [q] at c0
  have hl := lt_of_block s.db
  have HS := hide (s.b (Below.refl _ _).drew)
  clear s q hQ hP hA hM hM1 hn
  unfold pH fr
  go_wp2_with fail
  refine wp_region_held (S := Dvs D V d) (by kernel_rfl) ?_
  change wpAnyH _ _ _ _ _ _ _ _ (World.drew _)
  refine wh 0 (.pointer (some ⟨D, 1, none⟩)) HS.out.dvs ?_ (hQ := fun _ _ _ h => HP.out _ _ _ _ h)
  refine wg 1 (.int .i64 d.a) rfl (Or.inl ⟨by kernel_rfl, fun W hW => by have h0 := hW.d1; clear hW; go_simp⟩) HS.out.dvs ?_ (hQ := fun _ _ _ h => HP.out _ _ _ _ h)
  refine wh 2 (.pointer (some ⟨D, 3, none⟩)) HS.out.dvs ?_ (hQ := fun _ _ _ h => HP.out _ _ _ _ h)
  refine wg 3 (.string d.name) rfl (Or.inl ⟨by kernel_rfl, fun W hW => by have h0 := hW.d3; clear hW; go_simp⟩) HS.out.dvs ?_ (hQ := fun _ _ _ h => HP.out _ _ _ _ h)
  refine wg 4 (.agg #[.int .i64 3, .int .i64 d.v, .string ⟨#[]⟩]) rfl (Or.inl ⟨by kernel_rfl, fun W hW => by have h0 := hW.v0; have h1 := hW.v1; have h2 := hW.v2; clear hW; go_simp⟩) HS.out.dvs ?_ (hQ := fun _ _ _ h => HP.out _ _ _ _ h)
  refine wh 5 (.pointer (some ⟨D, 6, none⟩)) HS.out.dvs ?_ (hQ := fun _ _ _ h => HP.out _ _ _ _ h)
  refine wg 6 (.bool d.fixed) rfl (Or.inl ⟨by kernel_rfl, fun W hW => by have h0 := hW.d6; clear hW; go_simp⟩) HS.out.dvs ?_ (hQ := fun _ _ _ h => HP.out _ _ _ _ h)
  refine wh 8 (.pointer (some ⟨R, 0, none⟩)) HS.out.dvs ?_ (hQ := fun _ _ _ h => HP.out _ _ _ _ h)
  refine wh 9 (.pointer (some ⟨D, 1, none⟩)) HS.out.dvs ?_ (hQ := fun _ _ _ h => HP.out _ _ _ _ h)
  refine wg 10 (.int .i64 d.a) rfl (Or.inl ⟨by kernel_rfl, fun W hW => by have h0 := hW.d1; clear hW; go_simp⟩) HS.out.dvs ?_ (hQ := fun _ _ _ h => HP.out _ _ _ _ h)
  refine wh 11 (.pointer (some ⟨D, 3, none⟩)) HS.out.dvs ?_ (hQ := fun _ _ _ h => HP.out _ _ _ _ h)
  refine wg 12 (.string d.name) rfl (Or.inl ⟨by kernel_rfl, fun W hW => by have h0 := hW.d3; clear hW; go_simp⟩) HS.out.dvs ?_ (hQ := fun _ _ _ h => HP.out _ _ _ _ h)
  refine wh 13 (.pointer (some ⟨D, 5, none⟩)) HS.out.dvs ?_ (hQ := fun _ _ _ h => HP.out _ _ _ _ h)
  refine wg 14 (.int .i64 d.v) rfl (Or.inl ⟨by kernel_rfl, fun W hW => by have h0 := hW.d5; clear hW; go_simp⟩) HS.out.dvs ?_ (hQ := fun _ _ _ h => HP.out _ _ _ _ h)
  refine wh 15 (.pointer (some ⟨D, 6, none⟩)) HS.out.dvs ?_ (hQ := fun _ _ _ h => HP.out _ _ _ _ h)
  refine wg 16 (.bool d.fixed) rfl (Or.inl ⟨by kernel_rfl, fun W hW => by have h0 := hW.d6; clear hW; go_simp⟩) HS.out.dvs ?_ (hQ := fun _ _ _ h => HP.out _ _ _ _ h)
  refine wq1 7 fun K hK => ?_
  go_simp
  refine Calls.mono (HA.out.1 _ HS.out.hh) ?_
  rintro e1 w1 ⟨rfl, hh1, hf1⟩
  have HS1 := hide (HS.out.h hh1 hf1)
  refine hK.out _ _ HS1.out.dvs (fun _ => ?_)
  clear hK K hh1 hf1 HS
  refine wq1 17 fun K hK => ?_
  go_simp
  refine Calls.mono (HA.out.2 _ HS1.out.hr) ?_
  rintro e1 w2 ⟨rfl, hh2, hf2⟩
  have HS2 := hide (HS1.out.r hh2 hf2)
  refine hK.out _ _ HS2.out.dvs (fun _ => ?_)
  clear hK K hh2 hf2 HS1
  refine wq1 18 fun K hK => ?_
  go_simp
  refine Calls.mono (bare_same HS2.out.err e) ?_
  rintro e1 w3 ⟨rfl, hb3⟩
  have HS3 := hide (HS2.out.b hb3)
  refine hK.out _ _ HS3.out.dvs (fun _ => ?_)
  clear hK K hb3 HS2
  refine wh 19 (.bool false) HS3.out.dvs ?_ (hQ := fun _ _ _ h => HP.out _ _ _ _ h)
  refine wpAnyH_done (by kernel_rfl) ?_ _
  go_simp
  go_wp2_with fail
  exact fin Q .normal _ rfl rfl rfl rfl rfl rfl rfl (HQ.out _ _ _ HI.out HS3.out)
end

section
variable {w0 W W' : World} {H R D V : Nat} {M N M' : Mo} {d : Dv} {k : Nat}
set_option maxRecDepth 100000
set_option maxHeartbeats 1000000
theorem case3 (Q : Exit → Act → World → Prop) (l v5 : Value) (f : Nat → Value) (s : Rd w0 W H R D V M M d) (hM : M.Inv k) (hk : k < 1000) (q : d.what = 3)
    (hP : ∀ c a a' w, Q (.panic c) a w → Q (.panic c) a' w) (hQ : ∀ f' W' M', M'.Inv (k + 1) → Rd w0 W' H R D V M' M' d → Q .normal (fr l (pH H) (pH R) v5 (pH D) (pH V) f') W') : SwitchWp Q (fr l (pH H) (pH R) v5 (pH D) (pH V) f) W := by
  obtain ⟨e, M1, hM1, hA⟩ := step_cut (H := H) (R := R) hM hk d.a d.name
  have HA := hide hA
  have HQ := hide hQ
  have HP := hide hP
  have HI := hide hM1
  unfold SwitchWp
  simp only [cl, cr, Tryd.f3, Option.getD_some]
  have c0 := s.d0
  rw [q] at c0
  have hl := lt_of_block s.db
  have HS := hide (s.b (Below.refl _ _).drew)
  clear s q hQ hP hA hM hM1 
  unfold pH fr
  go_wp2_with fail
  refine wp_region_held (S := Dvs D V d) (by kernel_rfl) ?_
  change wpAnyH _ _ _ _ _ _ _ _ (World.drew _)
  refine wh 0 (.pointer (some ⟨D, 1, none⟩)) HS.out.dvs ?_ (hQ := fun _ _ _ h => HP.out _ _ _ _ h)
  refine wg 1 (.int .i64 d.a) rfl (Or.inl ⟨by kernel_rfl, fun W hW => by have h0 := hW.d1; clear hW; go_simp⟩) HS.out.dvs ?_ (hQ := fun _ _ _ h => HP.out _ _ _ _ h)
  refine wh 2 (.pointer (some ⟨D, 3, none⟩)) HS.out.dvs ?_ (hQ := fun _ _ _ h => HP.out _ _ _ _ h)
  refine wg 3 (.string d.name) rfl (Or.inl ⟨by kernel_rfl, fun W hW => by have h0 := hW.d3; clear hW; go_simp⟩) HS.out.dvs ?_ (hQ := fun _ _ _ h => HP.out _ _ _ _ h)
  refine wh 5 (.pointer (some ⟨R, 0, none⟩)) HS.out.dvs ?_ (hQ := fun _ _ _ h => HP.out _ _ _ _ h)
  refine wh 6 (.pointer (some ⟨D, 1, none⟩)) HS.out.dvs ?_ (hQ := fun _ _ _ h => HP.out _ _ _ _ h)
  refine wg 7 (.int .i64 d.a) rfl (Or.inl ⟨by kernel_rfl, fun W hW => by have h0 := hW.d1; clear hW; go_simp⟩) HS.out.dvs ?_ (hQ := fun _ _ _ h => HP.out _ _ _ _ h)
  refine wh 8 (.pointer (some ⟨D, 3, none⟩)) HS.out.dvs ?_ (hQ := fun _ _ _ h => HP.out _ _ _ _ h)
  refine wg 9 (.string d.name) rfl (Or.inl ⟨by kernel_rfl, fun W hW => by have h0 := hW.d3; clear hW; go_simp⟩) HS.out.dvs ?_ (hQ := fun _ _ _ h => HP.out _ _ _ _ h)
  refine wq1 4 fun K hK => ?_
  go_simp
  refine Calls.mono (HA.out.1 _ HS.out.hh) ?_
  rintro e1 w1 ⟨rfl, hh1, hf1⟩
  have HS1 := hide (HS.out.h hh1 hf1)
  refine hK.out _ _ HS1.out.dvs (fun _ => ?_)
  clear hK K hh1 hf1 HS
  refine wq1 10 fun K hK => ?_
  go_simp
  refine Calls.mono (HA.out.2 _ HS1.out.hr) ?_
  rintro e1 w2 ⟨rfl, hh2, hf2⟩
  have HS2 := hide (HS1.out.r hh2 hf2)
  refine hK.out _ _ HS2.out.dvs (fun _ => ?_)
  clear hK K hh2 hf2 HS1
  refine wh 11 (.bool false) HS2.out.dvs ?_ (hQ := fun _ _ _ h => HP.out _ _ _ _ h)
  refine wpAnyH_done (by kernel_rfl) ?_ _
  go_simp
  go_wp2_with fail
  exact fin Q .normal _ rfl rfl rfl rfl rfl rfl rfl (HQ.out _ _ _ HI.out HS2.out)
end

section
variable {w0 W W' : World} {H R D V : Nat} {M N M' : Mo} {d : Dv} {k : Nat}
set_option maxRecDepth 100000
set_option maxHeartbeats 1000000
theorem case4 (Q : Exit → Act → World → Prop) (l v5 : Value) (f : Nat → Value) (s : Rd w0 W H R D V M M d) (hM : M.Inv k) (hk : k < 1000) (q : d.what = 4) (kk : 0 ≤ d.kind ∧ d.kind ≤ 4)
    (hP : ∀ c a a' w, Q (.panic c) a w → Q (.panic c) a' w) (hQ : ∀ f' W' M', M'.Inv (k + 1) → Rd w0 W' H R D V M' M' d → Q .normal (fr l (pH H) (pH R) v5 (pH D) (pH V) f') W') : SwitchWp Q (fr l (pH H) (pH R) v5 (pH D) (pH V) f) W := by
  obtain ⟨e, M1, hM1, hA⟩ := step_decl (H := H) (R := R) hM hk d.a d.name d.kind d.v
  have HA := hide hA
  have HQ := hide hQ
  have HP := hide hP
  have HI := hide hM1
  unfold SwitchWp
  simp only [cl, cr, Tryd.f3, Option.getD_some]
  have c0 := s.d0
  rw [q] at c0
  have c4 := s.d4
  have k1 : 0 ≤ d.kind := kk.1
  have k2 : d.kind ≤ 4 := kk.2
  have hl := lt_of_block s.db
  have HS := hide (s.b (Below.refl _ _).drew)
  clear s q hQ hP hA hM hM1  kk
  unfold pH fr
  go_wp2_with fail
  refine wp_region_held (S := Dvs D V d) (by kernel_rfl) ?_
  change wpAnyH _ _ _ _ _ _ _ _ (World.drew _)
  refine wh 0 (.pointer (some ⟨D, 1, none⟩)) HS.out.dvs ?_ (hQ := fun _ _ _ h => HP.out _ _ _ _ h)
  refine wg 1 (.int .i64 d.a) rfl (Or.inl ⟨by kernel_rfl, fun W hW => by have h0 := hW.d1; clear hW; go_simp⟩) HS.out.dvs ?_ (hQ := fun _ _ _ h => HP.out _ _ _ _ h)
  refine wh 2 (.pointer (some ⟨D, 3, none⟩)) HS.out.dvs ?_ (hQ := fun _ _ _ h => HP.out _ _ _ _ h)
  refine wg 3 (.string d.name) rfl (Or.inl ⟨by kernel_rfl, fun W hW => by have h0 := hW.d3; clear hW; go_simp⟩) HS.out.dvs ?_ (hQ := fun _ _ _ h => HP.out _ _ _ _ h)
  refine wh 4 (.pointer (some ⟨D, 4, none⟩)) HS.out.dvs ?_ (hQ := fun _ _ _ h => HP.out _ _ _ _ h)
  refine wg 5 (.int .i64 d.kind) rfl (Or.inl ⟨by kernel_rfl, fun W hW => by have h0 := hW.d4; clear hW; go_simp⟩) HS.out.dvs ?_ (hQ := fun _ _ _ h => HP.out _ _ _ _ h)
  refine wg 6 (.agg #[.int .i64 3, .int .i64 d.v, .string ⟨#[]⟩]) rfl (Or.inl ⟨by kernel_rfl, fun W hW => by have h0 := hW.v0; have h1 := hW.v1; have h2 := hW.v2; clear hW; go_simp⟩) HS.out.dvs ?_ (hQ := fun _ _ _ h => HP.out _ _ _ _ h)
  refine wh 8 (.pointer (some ⟨R, 0, none⟩)) HS.out.dvs ?_ (hQ := fun _ _ _ h => HP.out _ _ _ _ h)
  refine wh 9 (.pointer (some ⟨D, 1, none⟩)) HS.out.dvs ?_ (hQ := fun _ _ _ h => HP.out _ _ _ _ h)
  refine wg 10 (.int .i64 d.a) rfl (Or.inl ⟨by kernel_rfl, fun W hW => by have h0 := hW.d1; clear hW; go_simp⟩) HS.out.dvs ?_ (hQ := fun _ _ _ h => HP.out _ _ _ _ h)
  refine wh 11 (.pointer (some ⟨D, 3, none⟩)) HS.out.dvs ?_ (hQ := fun _ _ _ h => HP.out _ _ _ _ h)
  refine wg 12 (.string d.name) rfl (Or.inl ⟨by kernel_rfl, fun W hW => by have h0 := hW.d3; clear hW; go_simp⟩) HS.out.dvs ?_ (hQ := fun _ _ _ h => HP.out _ _ _ _ h)
  refine wh 13 (.pointer (some ⟨D, 4, none⟩)) HS.out.dvs ?_ (hQ := fun _ _ _ h => HP.out _ _ _ _ h)
  refine wg 14 (.int .i64 d.kind) rfl (Or.inl ⟨by kernel_rfl, fun W hW => by have h0 := hW.d4; clear hW; go_simp⟩) HS.out.dvs ?_ (hQ := fun _ _ _ h => HP.out _ _ _ _ h)
  refine wh 15 (.pointer (some ⟨D, 5, none⟩)) HS.out.dvs ?_ (hQ := fun _ _ _ h => HP.out _ _ _ _ h)
  refine wg 16 (.int .i64 d.v) rfl (Or.inl ⟨by kernel_rfl, fun W hW => by have h0 := hW.d5; clear hW; go_simp⟩) HS.out.dvs ?_ (hQ := fun _ _ _ h => HP.out _ _ _ _ h)
  refine wq1 7 fun K hK => ?_
  go_simp
  refine Calls.mono (HA.out.1 _ HS.out.hh) ?_
  rintro e1 w1 ⟨rfl, hh1, hf1⟩
  have HS1 := hide (HS.out.h hh1 hf1)
  refine hK.out _ _ HS1.out.dvs (fun _ => ?_)
  clear hK K hh1 hf1 HS
  refine wq1 17 fun K hK => ?_
  go_simp
  refine Calls.mono (HA.out.2 _ HS1.out.hr) ?_
  rintro e1 w2 ⟨rfl, hh2, hf2⟩
  have HS2 := hide (HS1.out.r hh2 hf2)
  refine hK.out _ _ HS2.out.dvs (fun _ => ?_)
  clear hK K hh2 hf2 HS1
  refine wq1 18 fun K hK => ?_
  go_simp
  refine Calls.mono (bare_same HS2.out.err e) ?_
  rintro e1 w3 ⟨rfl, hb3⟩
  have HS3 := hide (HS2.out.b hb3)
  refine hK.out _ _ HS3.out.dvs (fun _ => ?_)
  clear hK K hb3 HS2
  refine wh 19 (.bool false) HS3.out.dvs ?_ (hQ := fun _ _ _ h => HP.out _ _ _ _ h)
  refine wpAnyH_done (by kernel_rfl) ?_ _
  go_simp
  go_wp2_with fail
  exact fin Q .normal _ rfl rfl rfl rfl rfl rfl rfl (HQ.out _ _ _ HI.out HS3.out)
end

section
variable {w0 W W' : World} {H R D V : Nat} {M N M' : Mo} {d : Dv} {k : Nat}
set_option maxRecDepth 100000
set_option maxHeartbeats 1000000
theorem case5 (Q : Exit → Act → World → Prop) (l v5 : Value) (f : Nat → Value) (s : Rd w0 W H R D V M M d) (hM : M.Inv k) (hk : k < 1000) (q : d.what = 5)
    (hP : ∀ c a a' w, Q (.panic c) a w → Q (.panic c) a' w) (hQ : ∀ f' W' M', M'.Inv (k + 1) → Rd w0 W' H R D V M' M' d → Q .normal (fr l (pH H) (pH R) v5 (pH D) (pH V) f') W') : SwitchWp Q (fr l (pH H) (pH R) v5 (pH D) (pH V) f) W := by
  obtain ⟨e, M1, hM1, hA⟩ := step_write (H := H) (R := R) hM hk d.a d.name d.v
  have HA := hide hA
  have HQ := hide hQ
  have HP := hide hP
  have HI := hide hM1
  unfold SwitchWp
  simp only [cl, cr, Tryd.f3, Option.getD_some]
  have c0 := s.d0
  rw [q] at c0
  have hl := lt_of_block s.db
  have HS := hide (s.b (Below.refl _ _).drew)
  clear s q hQ hP hA hM hM1 
  unfold pH fr
  go_wp2_with fail
  refine wp_region_held (S := Dvs D V d) (by kernel_rfl) ?_
  change wpAnyH _ _ _ _ _ _ _ _ (World.drew _)
  refine wh 0 (.pointer (some ⟨D, 1, none⟩)) HS.out.dvs ?_ (hQ := fun _ _ _ h => HP.out _ _ _ _ h)
  refine wg 1 (.int .i64 d.a) rfl (Or.inl ⟨by kernel_rfl, fun W hW => by have h0 := hW.d1; clear hW; go_simp⟩) HS.out.dvs ?_ (hQ := fun _ _ _ h => HP.out _ _ _ _ h)
  refine wh 2 (.pointer (some ⟨D, 3, none⟩)) HS.out.dvs ?_ (hQ := fun _ _ _ h => HP.out _ _ _ _ h)
  refine wg 3 (.string d.name) rfl (Or.inl ⟨by kernel_rfl, fun W hW => by have h0 := hW.d3; clear hW; go_simp⟩) HS.out.dvs ?_ (hQ := fun _ _ _ h => HP.out _ _ _ _ h)
  refine wg 4 (.agg #[.int .i64 3, .int .i64 d.v, .string ⟨#[]⟩]) rfl (Or.inl ⟨by kernel_rfl, fun W hW => by have h0 := hW.v0; have h1 := hW.v1; have h2 := hW.v2; clear hW; go_simp⟩) HS.out.dvs ?_ (hQ := fun _ _ _ h => HP.out _ _ _ _ h)
  refine wh 6 (.pointer (some ⟨R, 0, none⟩)) HS.out.dvs ?_ (hQ := fun _ _ _ h => HP.out _ _ _ _ h)
  refine wh 7 (.pointer (some ⟨D, 1, none⟩)) HS.out.dvs ?_ (hQ := fun _ _ _ h => HP.out _ _ _ _ h)
  refine wg 8 (.int .i64 d.a) rfl (Or.inl ⟨by kernel_rfl, fun W hW => by have h0 := hW.d1; clear hW; go_simp⟩) HS.out.dvs ?_ (hQ := fun _ _ _ h => HP.out _ _ _ _ h)
  refine wh 9 (.pointer (some ⟨D, 3, none⟩)) HS.out.dvs ?_ (hQ := fun _ _ _ h => HP.out _ _ _ _ h)
  refine wg 10 (.string d.name) rfl (Or.inl ⟨by kernel_rfl, fun W hW => by have h0 := hW.d3; clear hW; go_simp⟩) HS.out.dvs ?_ (hQ := fun _ _ _ h => HP.out _ _ _ _ h)
  refine wh 11 (.pointer (some ⟨D, 5, none⟩)) HS.out.dvs ?_ (hQ := fun _ _ _ h => HP.out _ _ _ _ h)
  refine wg 12 (.int .i64 d.v) rfl (Or.inl ⟨by kernel_rfl, fun W hW => by have h0 := hW.d5; clear hW; go_simp⟩) HS.out.dvs ?_ (hQ := fun _ _ _ h => HP.out _ _ _ _ h)
  refine wq1 5 fun K hK => ?_
  go_simp
  refine Calls.mono (HA.out.1 _ HS.out.hh) ?_
  rintro e1 w1 ⟨rfl, hh1, hf1⟩
  have HS1 := hide (HS.out.h hh1 hf1)
  refine hK.out _ _ HS1.out.dvs (fun _ => ?_)
  clear hK K hh1 hf1 HS
  refine wq1 13 fun K hK => ?_
  go_simp
  refine Calls.mono (HA.out.2 _ HS1.out.hr) ?_
  rintro e1 w2 ⟨rfl, hh2, hf2⟩
  have HS2 := hide (HS1.out.r hh2 hf2)
  refine hK.out _ _ HS2.out.dvs (fun _ => ?_)
  clear hK K hh2 hf2 HS1
  refine wq1 14 fun K hK => ?_
  go_simp
  refine Calls.mono (bare_same HS2.out.err e) ?_
  rintro e1 w3 ⟨rfl, hb3⟩
  have HS3 := hide (HS2.out.b hb3)
  refine hK.out _ _ HS3.out.dvs (fun _ => ?_)
  clear hK K hb3 HS2
  refine wh 15 (.bool false) HS3.out.dvs ?_ (hQ := fun _ _ _ h => HP.out _ _ _ _ h)
  refine wpAnyH_done (by kernel_rfl) ?_ _
  go_simp
  go_wp2_with fail
  exact fin Q .normal _ rfl rfl rfl rfl rfl rfl rfl (HQ.out _ _ _ HI.out HS3.out)
end

section
variable {w0 W W' : World} {H R D V : Nat} {M N M' : Mo} {d : Dv} {k : Nat}
set_option maxRecDepth 100000
set_option maxHeartbeats 1000000
theorem case6 (Q : Exit → Act → World → Prop) (l v5 : Value) (f : Nat → Value) (s : Rd w0 W H R D V M M d) (hM : M.Inv k) (hk : k < 1000) (q : d.what = 6)
    (hP : ∀ c a a' w, Q (.panic c) a w → Q (.panic c) a' w) (hQ : ∀ f' W' M', M'.Inv (k + 1) → Rd w0 W' H R D V M' M' d → Q .normal (fr l (pH H) (pH R) v5 (pH D) (pH V) f') W') : SwitchWp Q (fr l (pH H) (pH R) v5 (pH D) (pH V) f) W := by
  obtain ⟨e, M1, hM1, hA⟩ := step_start (H := H) (R := R) hM hk d.a d.name d.v
  have HA := hide hA
  have HQ := hide hQ
  have HP := hide hP
  have HI := hide hM1
  unfold SwitchWp
  simp only [cl, cr, Tryd.f3, Option.getD_some]
  have c0 := s.d0
  rw [q] at c0
  have hl := lt_of_block s.db
  have HS := hide (s.b (Below.refl _ _).drew)
  clear s q hQ hP hA hM hM1 
  unfold pH fr
  go_wp2_with fail
  refine wp_region_held (S := Dvs D V d) (by kernel_rfl) ?_
  change wpAnyH _ _ _ _ _ _ _ _ (World.drew _)
  refine wh 0 (.pointer (some ⟨D, 1, none⟩)) HS.out.dvs ?_ (hQ := fun _ _ _ h => HP.out _ _ _ _ h)
  refine wg 1 (.int .i64 d.a) rfl (Or.inl ⟨by kernel_rfl, fun W hW => by have h0 := hW.d1; clear hW; go_simp⟩) HS.out.dvs ?_ (hQ := fun _ _ _ h => HP.out _ _ _ _ h)
  refine wh 2 (.pointer (some ⟨D, 3, none⟩)) HS.out.dvs ?_ (hQ := fun _ _ _ h => HP.out _ _ _ _ h)
  refine wg 3 (.string d.name) rfl (Or.inl ⟨by kernel_rfl, fun W hW => by have h0 := hW.d3; clear hW; go_simp⟩) HS.out.dvs ?_ (hQ := fun _ _ _ h => HP.out _ _ _ _ h)
  refine wg 4 (.agg #[.int .i64 3, .int .i64 d.v, .string ⟨#[]⟩]) rfl (Or.inl ⟨by kernel_rfl, fun W hW => by have h0 := hW.v0; have h1 := hW.v1; have h2 := hW.v2; clear hW; go_simp⟩) HS.out.dvs ?_ (hQ := fun _ _ _ h => HP.out _ _ _ _ h)
  refine wh 6 (.pointer (some ⟨R, 0, none⟩)) HS.out.dvs ?_ (hQ := fun _ _ _ h => HP.out _ _ _ _ h)
  refine wh 7 (.pointer (some ⟨D, 1, none⟩)) HS.out.dvs ?_ (hQ := fun _ _ _ h => HP.out _ _ _ _ h)
  refine wg 8 (.int .i64 d.a) rfl (Or.inl ⟨by kernel_rfl, fun W hW => by have h0 := hW.d1; clear hW; go_simp⟩) HS.out.dvs ?_ (hQ := fun _ _ _ h => HP.out _ _ _ _ h)
  refine wh 9 (.pointer (some ⟨D, 3, none⟩)) HS.out.dvs ?_ (hQ := fun _ _ _ h => HP.out _ _ _ _ h)
  refine wg 10 (.string d.name) rfl (Or.inl ⟨by kernel_rfl, fun W hW => by have h0 := hW.d3; clear hW; go_simp⟩) HS.out.dvs ?_ (hQ := fun _ _ _ h => HP.out _ _ _ _ h)
  refine wh 11 (.pointer (some ⟨D, 5, none⟩)) HS.out.dvs ?_ (hQ := fun _ _ _ h => HP.out _ _ _ _ h)
  refine wg 12 (.int .i64 d.v) rfl (Or.inl ⟨by kernel_rfl, fun W hW => by have h0 := hW.d5; clear hW; go_simp⟩) HS.out.dvs ?_ (hQ := fun _ _ _ h => HP.out _ _ _ _ h)
  refine wq1 5 fun K hK => ?_
  go_simp
  refine Calls.mono (HA.out.1 _ HS.out.hh) ?_
  rintro e1 w1 ⟨rfl, hh1, hf1⟩
  have HS1 := hide (HS.out.h hh1 hf1)
  refine hK.out _ _ HS1.out.dvs (fun _ => ?_)
  clear hK K hh1 hf1 HS
  refine wq1 13 fun K hK => ?_
  go_simp
  refine Calls.mono (HA.out.2 _ HS1.out.hr) ?_
  rintro e1 w2 ⟨rfl, hh2, hf2⟩
  have HS2 := hide (HS1.out.r hh2 hf2)
  refine hK.out _ _ HS2.out.dvs (fun _ => ?_)
  clear hK K hh2 hf2 HS1
  refine wq1 14 fun K hK => ?_
  go_simp
  refine Calls.mono (bare_same HS2.out.err e) ?_
  rintro e1 w3 ⟨rfl, hb3⟩
  have HS3 := hide (HS2.out.b hb3)
  refine hK.out _ _ HS3.out.dvs (fun _ => ?_)
  clear hK K hb3 HS2
  refine wh 15 (.bool false) HS3.out.dvs ?_ (hQ := fun _ _ _ h => HP.out _ _ _ _ h)
  refine wpAnyH_done (by kernel_rfl) ?_ _
  go_simp
  go_wp2_with fail
  exact fin Q .normal _ rfl rfl rfl rfl rfl rfl rfl (HQ.out _ _ _ HI.out HS3.out)
end
end Go.Proofs.YtomogijjkdiomaaDoor
