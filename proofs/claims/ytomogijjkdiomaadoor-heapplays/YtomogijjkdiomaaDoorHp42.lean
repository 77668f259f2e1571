/-
  The switch of the law, case by case.
-/
import Derived.Test.YtomogijjkdiomaaDoorHp28
import Derived.Test.YtomogijjkdiomaaDoorHp41
import Derived.Test.YtomogijjkdiomaaDoorHp38
import Derived.Test.YtomogijjkdiomaaDoorHp39
import Derived.Test.YtomogijjkdiomaaDoorHp40
set_option maxRecDepth 100000
set_option maxHeartbeats 16000000
namespace Go.Proofs.YtomogijjkdiomaaDoor
open Go.RowKit

section
variable {w0 W W' : World} {H R D V : Nat} {M N M' : Mo} {d : Dv} {k : Nat}
set_option maxRecDepth 100000
set_option maxHeartbeats 1000000
theorem case7 (Q : Exit → Act → World → Prop) (l v5 : Value) (f : Nat → Value) (s : Rd w0 W H R D V M M d) (hM : M.Inv k) (hk : k < 1000) (q : d.what = 7)
    (hP : ∀ c a a' w, Q (.panic c) a w → Q (.panic c) a' w) (hQ : ∀ f' W' M', M'.Inv (k + 1) → Rd w0 W' H R D V M' M' d → Q .normal (fr l (pH H) (pH R) v5 (pH D) (pH V) f') W') : SwitchWp Q (fr l (pH H) (pH R) v5 (pH D) (pH V) f) W := by
  obtain ⟨e, M1, hM1, hA⟩ := step_drop (H := H) (R := R) hM hk d.a d.name
  have HA := hide hA
  have HQ := hide hQ
  have HP := hide hP
  have HI := hide hM1
  unfold SwitchWp
  simp only [cl, cr, Tryd.f3, Option.getD_some]
  have c0 := s.d0
  rw [q] at c0
  have hl := lt_of_block s.db
  have HS := hide (s.b (Below.refl _ _).drew)
  clear s q hQ hP hA hM hM1 
  unfold pH fr
  go_wp2_with fail
  refine wp_region_held (S := Dvs D V d) (by kernel_rfl) ?_
  change wpAnyH _ _ _ _ _ _ _ _ (World.drew _)
  refine wh 0 (.pointer (some ⟨D, 1, none⟩)) HS.out.dvs ?_ (hQ := fun _ _ _ h => HP.out _ _ _ _ h)
  refine wg 1 (.int .i64 d.a) rfl (Or.inl ⟨by kernel_rfl, fun W hW => by have h0 := hW.d1; clear hW; go_simp⟩) HS.out.dvs ?_ (hQ := fun _ _ _ h => HP.out _ _ _ _ h)
  refine wh 2 (.pointer (some ⟨D, 3, none⟩)) HS.out.dvs ?_ (hQ := fun _ _ _ h => HP.out _ _ _ _ h)
  refine wg 3 (.string d.name) rfl (Or.inl ⟨by kernel_rfl, fun W hW => by have h0 := hW.d3; clear hW; go_simp⟩) HS.out.dvs ?_ (hQ := fun _ _ _ h => HP.out _ _ _ _ h)
  refine wh 5 (.pointer (some ⟨R, 0, none⟩)) HS.out.dvs ?_ (hQ := fun _ _ _ h => HP.out _ _ _ _ h)
  refine wh 6 (.pointer (some ⟨D, 1, none⟩)) HS.out.dvs ?_ (hQ := fun _ _ _ h => HP.out _ _ _ _ h)
  refine wg 7 (.int .i64 d.a) rfl (Or.inl ⟨by kernel_rfl, fun W hW => by have h0 := hW.d1; clear hW; go_simp⟩) HS.out.dvs ?_ (hQ := fun _ _ _ h => HP.out _ _ _ _ h)
  refine wh 8 (.pointer (some ⟨D, 3, none⟩)) HS.out.dvs ?_ (hQ := fun _ _ _ h => HP.out _ _ _ _ h)
  refine wg 9 (.string d.name) rfl (Or.inl ⟨by kernel_rfl, fun W hW => by have h0 := hW.d3; clear hW; go_simp⟩) HS.out.dvs ?_ (hQ := fun _ _ _ h => HP.out _ _ _ _ h)
  refine wq1 4 fun K hK => ?_
  go_simp
  refine Calls.mono (HA.out.1 _ HS.out.hh) ?_
  rintro e1 w1 ⟨rfl, hh1, hf1⟩
  have HS1 := hide (HS.out.h hh1 hf1)
  refine hK.out _ _ HS1.out.dvs (fun _ => ?_)
  clear hK K hh1 hf1 HS
  refine wq1 10 fun K hK => ?_
  go_simp
  refine Calls.mono (HA.out.2 _ HS1.out.hr) ?_
  rintro e1 w2 ⟨rfl, hh2, hf2⟩
  have HS2 := hide (HS1.out.r hh2 hf2)
  refine hK.out _ _ HS2.out.dvs (fun _ => ?_)
  clear hK K hh2 hf2 HS1
  refine wh 11 (.bool false) HS2.out.dvs ?_ (hQ := fun _ _ _ h => HP.out _ _ _ _ h)
  refine wpAnyH_done (by kernel_rfl) ?_ _
  go_simp
  go_wp2_with fail
  exact fin Q .normal _ rfl rfl rfl rfl rfl rfl rfl (HQ.out _ _ _ HI.out HS2.out)
end

section
variable {w0 W W' : World} {H R D V : Nat} {M N M' : Mo} {d : Dv} {k : Nat}
set_option maxRecDepth 100000
set_option maxHeartbeats 1000000
theorem case8z (Q : Exit → Act → World → Prop) (l v5 : Value) (f : Nat → Value) (s : Rd w0 W H R D V M M d) (hM : M.Inv k) (q : d.what = 8) (e n : Int) (x : Value) (a b : Int) (hx : x = .agg #[.int .i64 a, .int .i64 b, .string ⟨#[]⟩]) (hb : b = n) (he : (e = 0 ∧ a = 3) ∨ (e ≠ 0 ∧ a = 0 ∧ b = 0))
    (hA : Alike H R M M 20 21 #[pH H, .int .i64 d.a, .string d.name] #[pH R, .int .i64 d.a, .string d.name] (.tuple #[x, errW e]) (.tuple #[.int .i64 n, .int .i64 e]))
    (hQ : ∀ f' W' M', M'.Inv (k + 1) → Rd w0 W' H R D V M' M' d → Q .normal (fr l (pH H) (pH R) v5 (pH D) (pH V) f') W') : SwitchWp Q (fr l (pH H) (pH R) v5 (pH D) (pH V) f) W := by
  have HA := hide hA
  have HQ := hide hQ
  have HI := hide hM.more
  subst hx hb
  unfold SwitchWp
  simp only [cl, cr, Tryd.f3, Option.getD_some]
  have c0 := s.d0
  rw [q] at c0
  have c1 := s.d1
  have c3 := s.d3
  have hl := lt_of_block s.db
  have HS := hide s
  clear s q hQ hA hM
  unfold pH fr
  go_wp2_with fail
  refine Calls.mono (HA.out.1 _ HS.out.hh) ?_
  rintro e1 w1 ⟨rfl, hh1, hf1⟩
  have HS1 := hide (HS.out.h hh1 hf1)
  have c1 := HS1.out.d1
  have c3 := HS1.out.d3
  have hl := lt_of_block HS1.out.db
  have HSa := hide (HS1.out.b ((Below.refl _ w1).alloc (Nat.le_refl _) (.cells #[.int .i64 a, .int .i64 b, .string ⟨#[]⟩] 36)))
  clear hh1 hf1 HS
  go_wp2_with fail
  refine Calls.mono (HA.out.2 _ HSa.out.hr) ?_
  rintro e1 w2 ⟨rfl, hh2, hf2⟩
  have HS2 := hide (HSa.out.r hh2 hf2)
  have xb : w2.heap[w1.heap.size]? = some (.cells #[.int .i64 a, .int .i64 b, .string ⟨#[]⟩] 36 (0, 0)) := hf2.rest _ _ 36 (heap_alloc_new w1 _) (by decide)
  have HX := hide xb
  have HBR := hide (bare_same HS2.out.err e)
  clear hh2 hf2 HS1 HSa c1 c3 hl
  go_wp2_with fail
  refine Calls.mono HBR.out ?_
  rintro e1 w3 ⟨rfl, hb3⟩
  have HS3 := hide (HS2.out.b hb3)
  have xb3 := (hb3.block _ (lt_of_block HX.out)).trans HX.out
  have x0 : w3.cell? ⟨w1.heap.size, 0, none⟩ = some (.int .i64 a) := by simp [World.cell?, xb3]
  have x1 : w3.cell? ⟨w1.heap.size, 1, none⟩ = some (.int .i64 b) := by simp [World.cell?, xb3]
  have x2 : w3.cell? ⟨w1.heap.size, 2, none⟩ = some (.string ⟨#[]⟩) := by simp [World.cell?, xb3]
  have xl := lt_of_block xb3
  clear hb3 xb3 HX HS2 HBR
  rcases he with ⟨rfl, rfl⟩ | ⟨he, rfl, rfl⟩
  · go_wp2_with fail
    exact fin Q .normal _ rfl rfl rfl rfl rfl rfl rfl (HQ.out _ _ _ HI.out HS3.out)
  · go_wp2_with fail
    exact fin Q .normal _ rfl rfl rfl rfl rfl rfl rfl (HQ.out _ _ _ HI.out HS3.out)
end

section
variable {w0 W W' : World} {H R D V : Nat} {M N M' : Mo} {d : Dv} {k : Nat}
set_option maxRecDepth 100000
set_option maxHeartbeats 1000000
theorem case9 (Q : Exit → Act → World → Prop) (l v5 : Value) (f : Nat → Value) (s : Rd w0 W H R D V M M d) (hM : M.Inv k) (hk : k < 1000) (q : d.what < 0 ∨ 8 < d.what)
    (hP : ∀ c a a' w, Q (.panic c) a w → Q (.panic c) a' w) (hQ : ∀ f' W' M', M'.Inv (k + 1) → Rd w0 W' H R D V M' M' d → Q .normal (fr l (pH H) (pH R) v5 (pH D) (pH V) f') W') : SwitchWp Q (fr l (pH H) (pH R) v5 (pH D) (pH V) f) W := by
  obtain ⟨r, hA⟩ := step_find (H := H) (R := R) hM hk d.a d.name
  have HA := hide hA
  have HQ := hide hQ
  have HP := hide hP
  have HI := hide hM.more
  unfold SwitchWp
  simp only [cl, cr, Tryd.f3, Option.getD_some]
  have c0 := s.d0
  have q0 : ¬ d.what = 0 := by omega
  have q1 : ¬ d.what = 1 := by omega
  have q2 : ¬ d.what = 2 := by omega
  have q3 : ¬ d.what = 3 := by omega
  have q4 : ¬ d.what = 4 := by omega
  have q5 : ¬ d.what = 5 := by omega
  have q6 : ¬ d.what = 6 := by omega
  have q7 : ¬ d.what = 7 := by omega
  have q8 : ¬ d.what = 8 := by omega
  have hl := lt_of_block s.db
  have HS := hide (s.b (Below.refl _ _).drew)
  clear s q hQ hP hA hM 
  unfold pH fr
  go_wp2_with fail
  refine wp_region_held (S := Dvs D V d) (by kernel_rfl) ?_
  change wpAnyH _ _ _ _ _ _ _ _ (World.drew _)
  refine wh 0 (.pointer (some ⟨D, 1, none⟩)) HS.out.dvs ?_ (hQ := fun _ _ _ h => HP.out _ _ _ _ h)
  refine wg 1 (.int .i64 d.a) rfl (Or.inl ⟨by kernel_rfl, fun W hW => by have h0 := hW.d1; clear hW; go_simp⟩) HS.out.dvs ?_ (hQ := fun _ _ _ h => HP.out _ _ _ _ h)
  refine wh 2 (.pointer (some ⟨D, 3, none⟩)) HS.out.dvs ?_ (hQ := fun _ _ _ h => HP.out _ _ _ _ h)
  refine wg 3 (.string d.name) rfl (Or.inl ⟨by kernel_rfl, fun W hW => by have h0 := hW.d3; clear hW; go_simp⟩) HS.out.dvs ?_ (hQ := fun _ _ _ h => HP.out _ _ _ _ h)
  refine wh 5 (.pointer (some ⟨R, 0, none⟩)) HS.out.dvs ?_ (hQ := fun _ _ _ h => HP.out _ _ _ _ h)
  refine wh 6 (.pointer (some ⟨D, 1, none⟩)) HS.out.dvs ?_ (hQ := fun _ _ _ h => HP.out _ _ _ _ h)
  refine wg 7 (.int .i64 d.a) rfl (Or.inl ⟨by kernel_rfl, fun W hW => by have h0 := hW.d1; clear hW; go_simp⟩) HS.out.dvs ?_ (hQ := fun _ _ _ h => HP.out _ _ _ _ h)
  refine wh 8 (.pointer (some ⟨D, 3, none⟩)) HS.out.dvs ?_ (hQ := fun _ _ _ h => HP.out _ _ _ _ h)
  refine wg 9 (.string d.name) rfl (Or.inl ⟨by kernel_rfl, fun W hW => by have h0 := hW.d3; clear hW; go_simp⟩) HS.out.dvs ?_ (hQ := fun _ _ _ h => HP.out _ _ _ _ h)
  refine wq1 4 fun K hK => ?_
  go_simp
  refine Calls.mono (HA.out.1 _ HS.out.hh) ?_
  rintro e1 w1 ⟨rfl, hh1, hf1⟩
  have HS1 := hide (HS.out.h hh1 hf1)
  refine hK.out _ _ HS1.out.dvs (fun _ => ?_)
  clear hK K hh1 hf1 HS
  refine wq1 10 fun K hK => ?_
  go_simp
  refine Calls.mono (HA.out.2 _ HS1.out.hr) ?_
  rintro e1 w2 ⟨rfl, hh2, hf2⟩
  have HS2 := hide (HS1.out.r hh2 hf2)
  refine hK.out _ _ HS2.out.dvs (fun _ => ?_)
  clear hK K hh2 hf2 HS1
  refine wh 11 (.bool false) HS2.out.dvs ?_ (hQ := fun _ _ _ h => HP.out _ _ _ _ h)
  refine wpAnyH_done (by kernel_rfl) ?_ _
  go_simp
  go_wp2_with fail
  exact fin Q .normal _ rfl rfl rfl rfl rfl rfl rfl (HQ.out _ _ _ HI.out HS2.out)
end

section
variable {w0 W W' : World} {H R D V : Nat} {M N M' : Mo} {d : Dv} {k : Nat}
theorem case8 (Q : Exit → Act → World → Prop) (l v5 : Value) (f : Nat → Value) (s : Rd w0 W H R D V M M d) (hM : M.Inv k) (hk : k < 1000) (q : d.what = 8)
    (hQ : ∀ f' W' M', M'.Inv (k + 1) → Rd w0 W' H R D V M' M' d → Q .normal (fr l (pH H) (pH R) v5 (pH D) (pH V) f') W') : SwitchWp Q (fr l (pH H) (pH R) v5 (pH D) (pH V) f) W := by
  obtain ⟨e, n, hn, hA⟩ := step_read (H := H) (R := R) hM hk d.a d.name
  by_cases he : e = 0
  · exact case8z Q l v5 f s hM q e n (rdV e n) 3 n (by simp [rdV, he, vA]) rfl (.inl ⟨he, rfl⟩) hA hQ
  · exact case8z Q l v5 f s hM q e n (rdV e n) 0 0 (by simp [rdV, he]) (hn he).symm (.inr ⟨he, rfl, rfl⟩) hA hQ
set_option maxRecDepth 100000
set_option maxHeartbeats 4000000
theorem case4_no (Q : Exit → Act → World → Prop) (l v5 : Value) (f : Nat → Value) (s : Rd w0 W H R D V M M d) (q : d.what = 4) (kk : ¬ (0 ≤ d.kind ∧ d.kind ≤ 4))
    (hQ : ∀ f' W', Rd w0 W' H R D V M M d → Q (.exit 1) (fr l (pH H) (pH R) v5 (pH D) (pH V) f') W') : SwitchWp Q (fr l (pH H) (pH R) v5 (pH D) (pH V) f) W := by
  have HQ := hide hQ
  unfold SwitchWp
  simp only [cl, cr, Tryd.f3, Option.getD_some]
  have c0 := s.d0
  rw [q] at c0
  have c4 := s.d4
  have hl := lt_of_block s.db
  have HS := hide s
  clear s q hQ
  rcases Int.lt_or_le d.kind 0 with k1 | k1
  · clear kk
    unfold pH fr
    go_wp2_with fail
    exact fin Q (.exit 1) _ rfl rfl rfl rfl rfl rfl rfl (HQ.out _ _ HS.out)
  · have k2 : 4 < d.kind := by omega
    have k3 : ¬ d.kind < 0 := by omega
    clear kk
    unfold pH fr
    go_wp2_with fail
    exact fin Q (.exit 1) _ rfl rfl rfl rfl rfl rfl rfl (HQ.out _ _ HS.out)
end

def R2Wp (Q : Exit → Act → World → Prop) (a : Act) (w : World) : Prop := Code.wp Tryd.prog (cr (cl (cl (cr (cl (cr (cr (cr (cr (Tryd.f3.body.getD .skip)))))))))) Q a w
def XWp (Q : Exit → Act → World → Prop) (a : Act) (w : World) : Prop := Code.wp Tryd.prog (cl (cl (cr (cl (cl (cr (cl (cr (cr (cr (cr (Tryd.f3.body.getD .skip)))))))))))) Q a w
def X2Wp (Q : Exit → Act → World → Prop) (a : Act) (w : World) : Prop := Code.wp Tryd.prog (cr (cl (cl (cr (cl (cl (cr (cl (cr (cr (cr (cr (Tryd.f3.body.getD .skip))))))))))))) Q a w
def X3Wp (Q : Exit → Act → World → Prop) (a : Act) (w : World) : Prop := Code.wp Tryd.prog (cr (cr (cl (cl (cr (cl (cl (cr (cl (cr (cr (cr (cr (Tryd.f3.body.getD .skip)))))))))))))) Q a w
def YWp (Q : Exit → Act → World → Prop) (a : Act) (w : World) : Prop := Code.wp Tryd.prog (cr (cr (cr (cl (cl (cr (cl (cl (cr (cl (cr (cr (cr (cr (Tryd.f3.body.getD .skip))))))))))))))) Q a w
def R7Wp (Q : Exit → Act → World → Prop) (a : Act) (w : World) : Prop := Code.wp Tryd.prog (cr (cr (cl (cl (cr (cl (cr (cr (cr (cr (Tryd.f3.body.getD .skip))))))))))) Q a w
section
variable {w0 W W' : World} {H R D V : Nat} {M N M' : Mo} {d : Dv} {k : Nat}
set_option maxRecDepth 100000
set_option maxHeartbeats 4000000
/-- What is asked of case 0: a new object in both heaps. -/
def Case0 : Prop := ∀ {w0 W : World} {H R D V : Nat} {M : Mo} {d : Dv} {k : Nat} (Q : Exit → Act → World → Prop) (l v5 : Value) (f : Nat → Value), Rd w0 W H R D V M M d → w0.heap.size ≤ D → M.Inv k → k < 1000 → d.what = 0 → (∀ c a a' w, Q (.panic c) a w → Q (.panic c) a' w) →
  (∀ f' W' M' d', d'.a = d.a → d'.name = d.name → M'.Inv (k + 1) → Rd w0 W' H R D V M' M' d' → Q .normal (fr l (pH H) (pH R) v5 (pH D) (pH V) f') W') → SwitchWp Q (fr l (pH H) (pH R) v5 (pH D) (pH V) f) W
theorem switch_all (h0 : Case0) (Q : Exit → Act → World → Prop) (l v5 : Value) (f : Nat → Value) (s : Rd w0 W H R D V M M d) (ld : w0.heap.size ≤ D) (hM : M.Inv k) (hk : k < 1000) (hn : d.name.size ≤ 20) (hP : ∀ c a a' w, Q (.panic c) a w → Q (.panic c) a' w)
    (hE : ∀ f' W' M' d', M'.Inv (k + 1) → Rd w0 W' H R D V M' M' d' → Q (.exit 1) (fr l (pH H) (pH R) v5 (pH D) (pH V) f') W')
    (hQ : ∀ f' W' M' d', M'.Inv (k + 1) → Rd w0 W' H R D V M' M' d' → Q .normal (fr l (pH H) (pH R) v5 (pH D) (pH V) f') W') : SwitchWp Q (fr l (pH H) (pH R) v5 (pH D) (pH V) f) W := by
  have e : ∀ f' W', Rd w0 W' H R D V M M d → Q (.exit 1) (fr l (pH H) (pH R) v5 (pH D) (pH V) f') W' := fun f' W' h => hE f' W' M d hM.more h
  have g : ∀ f' W' M', M'.Inv (k + 1) → Rd w0 W' H R D V M' M' d → Q .normal (fr l (pH H) (pH R) v5 (pH D) (pH V) f') W' := fun f' W' M' a b => hQ f' W' M' d a b
  by_cases q0 : d.what = 0
  · exact h0 Q l v5 f s ld hM hk q0 hP fun f' W' M' d' _ _ a b => hQ f' W' M' d' a b
  by_cases q1 : d.what = 1
  · by_cases a1 : d.a < -1
    · exact case1_a1 Q l v5 f s q1 a1 hP e
    by_cases a2 : (M.rooms.length : Int) ≤ d.a
    · exact case1_a2 Q l v5 f s q1 a1 a2 hP e
    by_cases b1 : d.b < -1
    · exact case1_b1 Q l v5 f s q1 a1 a2 b1 hP e
    by_cases b2 : (M.objs.length : Int) ≤ d.b
    · exact case1_b2 Q l v5 f s q1 a1 a2 b1 b2 hP e
    exact case1_ok Q l v5 f s q1 a1 a2 b1 b2 hP hM hk g
  by_cases q2 : d.what = 2
  · exact case2 Q l v5 f s hM hk hn q2 hP g
  by_cases q3 : d.what = 3
  · exact case3 Q l v5 f s hM hk q3 hP g
  by_cases q4 : d.what = 4
  · by_cases kk : 0 ≤ d.kind ∧ d.kind ≤ 4
    · exact case4 Q l v5 f s hM hk q4 kk hP g
    · exact case4_no Q l v5 f s q4 kk e
  by_cases q5 : d.what = 5
  · exact case5 Q l v5 f s hM hk q5 hP g
  by_cases q6 : d.what = 6
  · exact case6 Q l v5 f s hM hk q6 hP g
  by_cases q7 : d.what = 7
  · exact case7 Q l v5 f s hM hk q7 hP g
  by_cases q8 : d.what = 8
  · exact case8 Q l v5 f s hM hk q8 g
  exact case9 Q l v5 f s hM hk (by omega) hP g
end
end Go.Proofs.YtomogijjkdiomaaDoor
