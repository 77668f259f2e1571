/-
  heap.Of; what the tests of a round come to, all together.
-/
import Derived.Test.YtomogijjkdiomaaDoorHp32
import Derived.Test.YtomogijjkdiomaaDoorHp33
import Derived.Test.YtomogijjkdiomaaDoorHp34
import Derived.Test.YtomogijjkdiomaaDoorHp35
import Derived.Test.YtomogijjkdiomaaDoorHp36
import Derived.Test.YtomogijjkdiomaaDoorHp37
import Derived.Test.YtomogijjkdiomaaDoorHp28
set_option maxRecDepth 100000
set_option maxHeartbeats 16000000
namespace Go.Proofs.YtomogijjkdiomaaDoor
open Go.RowKit

section
variable {w0 W W' : World} {H R D V : Nat} {M N M' : Mo} {d : Dv} {k : Nat}
set_option maxRecDepth 100000
set_option maxHeartbeats 4000000
theorem of_num (n : Int) (w : World) : Calls Tryd.prog 4 #[.int .i64 n] w fun e w' => e = .returned (.agg #[.int .i64 3, .int .i64 n, .string ⟨#[]⟩]) ∧ Below w.heap.size w w' := by
  go_enter Tryd.func4, Tryd.ntmps4
  go_wp2
  exact bodyPost_ret (v := .agg #[.int .i64 3, .int .i64 n, .string ⟨#[]⟩]) (by simp [results, Tryd.results4, go_sem]) rfl ⟨rfl, (Below.refl _ _).alloc (Nat.le_refl _) _⟩
theorem piece_a (Q : Exit → Act → World → Prop) (l v5 : Value) (f : Nat → Value) (s : Rd w0 W H R D V M M d) (h18 : f 18 = .int .i64 0)
    (hP : ∀ c a a' w, Q (.panic c) a w → Q (.panic c) a' w) (hQ : ∀ f' W', Below W.heap.size W W' → Same f f' → f' 18 = .int .i64 (M.codeOf d.a) → f' 19 = f 19 → f' 20 = f 20 → Q .normal (fr l (pH H) (pH R) v5 (pH D) (pH V) f') W') : PieceAWp Q (fr l (pH H) (pH R) v5 (pH D) (pH V) f) W := by
  rcases ob_cases M d.a with ⟨e0, h0⟩ | ⟨i, x, e1, hx, e0⟩
  · have hc : M.codeOf d.a = 0 := by simp [Mo.codeOf, e0]
    rcases Int.lt_or_le d.a 0 with hn | hp
    · exact pA_neg Q l v5 f s hn hP fun f' W' hb hs a b c => hQ f' W' hb hs (by rw [a, h18, hc]) b c
    · exact pA_out Q l v5 f s d.a.toNat (by omega) (by omega) hP fun f' W' hb hs a b c => hQ f' W' hb hs (by rw [a, h18, hc]) b c
  · have hc : M.codeOf d.a = x.code := by simp [Mo.codeOf, e0]
    exact pA_inn Q l v5 f s i x e1 hx hP fun f' W' hb hs a b c => hQ f' W' hb hs (by rw [a, hc]) b c
theorem piece_b (Q : Exit → Act → World → Prop) (l v5 : Value) (f : Nat → Value) (s : Rd w0 W H R D V M M d) (h19 : f 19 = .int .i64 (-1)) (h20 : f 20 = .int .i64 (-1))
    (hP : ∀ c a a' w, Q (.panic c) a w → Q (.panic c) a' w) (hQ : ∀ f' W', Below W.heap.size W W' → Same f f' → f' 18 = f 18 → f' 19 = .int .i64 (M.objOf d.a) → f' 20 = .int .i64 (M.outOf d.a) → Q .normal (fr l (pH H) (pH R) v5 (pH D) (pH V) f') W') : PieceBWp Q (fr l (pH H) (pH R) v5 (pH D) (pH V) f) W := by
  rcases ro_cases M d.a with ⟨e0, h0⟩ | ⟨i, x, e1, hx, e0⟩
  · have hc : M.objOf d.a = -1 := by simp [Mo.objOf, e0]
    have hc2 : M.outOf d.a = -1 := by simp [Mo.outOf, e0]
    rcases Int.lt_or_le d.a 0 with hn | hp
    · exact pB_neg Q l v5 f s hn hP fun f' W' hb hs a b c => hQ f' W' hb hs a (by rw [b, h19, hc]) (by rw [c, h20, hc2])
    · exact pB_out Q l v5 f s d.a.toNat (by omega) (by omega) hP fun f' W' hb hs a b c => hQ f' W' hb hs a (by rw [b, h19, hc]) (by rw [c, h20, hc2])
  · have hc : M.objOf d.a = x.object := by simp [Mo.objOf, e0]
    have hc2 : M.outOf d.a = x.outer := by simp [Mo.outOf, e0]
    exact pB_inn Q l v5 f s i x e1 hx hP fun f' W' hb hs a b c => hQ f' W' hb hs a (by rw [b, hc]) (by rw [c, hc2])
end

def T2Wp (Q : Exit → Act → World → Prop) (a : Act) (w : World) : Prop := Code.wp Tryd.prog (cr (cr (cr (cr (cr (cl (cl (cr (cl (cl (cr (cl (cr (cr (cr (cr (Tryd.f3.body.getD .skip))))))))))))))))) Q a w
def T3Wp (Q : Exit → Act → World → Prop) (a : Act) (w : World) : Prop := Code.wp Tryd.prog (cr (cr (cr (cr (cr (cr (cl (cl (cr (cl (cl (cr (cl (cr (cr (cr (cr (Tryd.f3.body.getD .skip)))))))))))))))))) Q a w
def T4Wp (Q : Exit → Act → World → Prop) (a : Act) (w : World) : Prop := Code.wp Tryd.prog (cr (cr (cr (cr (cr (cr (cr (cl (cl (cr (cl (cl (cr (cl (cr (cr (cr (cr (Tryd.f3.body.getD .skip))))))))))))))))))) Q a w
def T5Wp (Q : Exit → Act → World → Prop) (a : Act) (w : World) : Prop := Code.wp Tryd.prog (cr (cr (cr (cr (cr (cr (cr (cr (cl (cl (cr (cl (cl (cr (cl (cr (cr (cr (cr (Tryd.f3.body.getD .skip)))))))))))))))))))) Q a w
section
variable {w0 W W' : World} {H R D V : Nat} {M N M' : Mo} {d : Dv} {k : Nat}
set_option maxRecDepth 100000
set_option maxHeartbeats 4000000
theorem valP_is (o : Option Pr) : ∃ a b : Int, valP o = .agg #[.int .i64 a, .int .i64 b, .string ⟨#[]⟩] ∧ (o.map (·.v)).getD 0 = b := by
  rcases o with _ | p
  · exact ⟨0, 0, rfl, rfl⟩
  · exact ⟨3, p.v, rfl, rfl⟩
theorem tail_z (Q : Exit → Act → World → Prop) (l v5 : Value) (f : Nat → Value) (s : Rd w0 W H R D V M M d) (hM : M.Inv k) (hk : k < 1000) (X : Nat) (a b : Int) (ok : Bool)
    (xb : W.heap[X]? = some (.cells #[.int .i64 a, .int .i64 b, .string ⟨#[]⟩] 36 (0, 0))) (f12 : f 12 = .pointer (some ⟨X, 0, none⟩)) (f13 : f 13 = .bool ok) (f14 : f 14 = .int .i64 b) (f15 : f 15 = .bool ok)
    (f16 : f 16 = .int .i64 (M.objs.length : Int)) (f17 : f 17 = .int .i64 (M.rooms.length : Int)) (f18 : f 18 = .int .i64 0) (f19 : f 19 = .int .i64 (-1)) (f20 : f 20 = .int .i64 (-1))
    (hP : ∀ c a a' w, Q (.panic c) a w → Q (.panic c) a' w) (hQ : ∀ f' W', Rd w0 W' H R D V M M d → Q .normal (fr l (pH H) (pH R) v5 (pH D) (pH V) f') W') : T5Wp Q (fr l (pH H) (pH R) v5 (pH D) (pH V) f) W := by
  refine wp_seq (x := cl (cr (cr (cr (cr (cr (cr (cr (cr (cl (cl (cr (cl (cl (cr (cl (cr (cr (cr (cr (Tryd.f3.body.getD .skip))))))))))))))))))))) (y := cr (cr (cr (cr (cr (cr (cr (cr (cr (cl (cl (cr (cl (cl (cr (cl (cr (cr (cr (cr (Tryd.f3.body.getD .skip))))))))))))))))))))) ?_
  refine piece_a _ l v5 f s f18 hP fun f1 W1 hb1 ⟨a12, a13, a14, a15, a16, a17⟩ a18 a19 a20 => ?_
  refine wp_seq (x := cl (cr (cr (cr (cr (cr (cr (cr (cr (cr (cl (cl (cr (cl (cl (cr (cl (cr (cr (cr (cr (Tryd.f3.body.getD .skip)))))))))))))))))))))) (y := cr (cr (cr (cr (cr (cr (cr (cr (cr (cr (cl (cl (cr (cl (cl (cr (cl (cr (cr (cr (cr (Tryd.f3.body.getD .skip)))))))))))))))))))))) ?_
  refine piece_b _ l v5 f1 (s.b hb1) (a19.trans f19) (a20.trans f20) hP fun f2 W2 hb2 ⟨b12, b13, b14, b15, b16, b17⟩ b18 b19 b20 => ?_
  exact tailB Q l v5 f2 ((s.b hb1).b hb2) hM hk X a b ok ((hb2.block _ (Nat.lt_of_lt_of_le (lt_of_block xb) hb1.size)).trans ((hb1.block _ (lt_of_block xb)).trans xb)) ⟨b12.trans (a12.trans f12), b13.trans (a13.trans f13), b14.trans (a14.trans f14), b15.trans (a15.trans f15), b16.trans (a16.trans f16), b17.trans (a17.trans f17), b18.trans a18, b19, b20⟩ hP hQ
theorem tail_all (Q : Exit → Act → World → Prop) (l v5 : Value) (f : Nat → Value) (s : Rd w0 W H R D V M M d) (hM : M.Inv k) (hk : k < 1000)
    (hP : ∀ c a a' w, Q (.panic c) a w → Q (.panic c) a' w) (hQ : ∀ f' W', Rd w0 W' H R D V M M d → Q .normal (fr l (pH H) (pH R) v5 (pH D) (pH V) f') W') : TailWp Q (fr l (pH H) (pH R) v5 (pH D) (pH V) f) W := by
  obtain ⟨a, b, hv, hb⟩ := valP_is (M.prop d.a d.name)
  have HG : Hid (∀ W, HeapH H W M → Calls Tryd.prog 24 #[.pointer (some ⟨H, 0, none⟩), .int .i64 d.a, .string d.name] W fun e w' => e = .returned (.tuple #[.agg #[.int .i64 a, .int .i64 b, .string ⟨#[]⟩], .bool (M.prop d.a d.name).isSome]) ∧ Below W.heap.size W w') := fun W hW => by
    obtain ⟨_, _, _, _, h⟩ := hW
    rw [← hv]
    exact get_any h hM.small (by omega) d.a d.name
  have HGR : Hid (∀ W, HeapR R W M → Calls Tryd.prog 25 #[.pointer (some ⟨R, 0, none⟩), .int .i64 d.a, .string d.name] W fun e w' => e = .returned (.tuple #[.int .i64 b, .bool (M.prop d.a d.name).isSome]) ∧ Below W.heap.size W w') := fun W hW => by
    obtain ⟨_, _, _, _, _, h⟩ := hW
    rw [← hb]
    exact rget_any h hM.small (by omega) d.a d.name
  have HMN : Hid (∀ W, HeapH H W M → Calls Tryd.prog 26 #[.pointer (some ⟨H, 0, none⟩)] W fun e w' => e = .returned (.tuple #[.int .i64 M.objs.length, .int .i64 M.rooms.length]) ∧ Below W.heap.size W w') := fun W hW => by
    obtain ⟨_, _, _, _, h⟩ := hW
    exact many_any h
  generalize (M.prop d.a d.name).isSome = ok at HG HGR
  clear hv hb
  have HM := hide hM
  have c1 := s.d1
  have c3 := s.d3
  have hl := lt_of_block s.db
  have HS := hide s
  have HQ := hide hQ
  have HP := hide hP
  clear s hM hQ hP
  unfold TailWp
  simp only [cl, cr, Tryd.f3, Option.getD_some]
  unfold pH fr
  refine wp_seq_k fun K1 hK1 => ?_
  replace hK1 : ∀ a w, T2Wp Q a w → K1 a w := hK1
  go_wp2_with fail
  refine Calls.mono (HG.out _ HS.out.hh) ?_
  rintro e1 w1 ⟨rfl, hb1⟩
  have HS1 := hide (HS.out.b hb1)
  have c1 := HS1.out.d1
  have c3 := HS1.out.d3
  have hl := lt_of_block HS1.out.db
  have HSa := hide (HS1.out.b ((Below.refl _ w1).alloc (Nat.le_refl _) (.cells #[.int .i64 a, .int .i64 b, .string ⟨#[]⟩] 36)))
  clear hb1 HS HG
  go_wp2_with fail
  unfold T2Wp
  simp only [cl, cr, Tryd.f3, Option.getD_some]
  refine wp_seq_k fun K2 hK2 => ?_
  replace hK2 : ∀ a w, T3Wp Q a w → K2 a w := hK2
  go_wp2_with fail
  refine Calls.mono (HGR.out _ HSa.out.hr) ?_
  rintro e1 w2 ⟨rfl, hb2⟩
  have HS2 := hide (HSa.out.b hb2)
  have xb : w2.heap[w1.heap.size]? = some (.cells #[.int .i64 a, .int .i64 b, .string ⟨#[]⟩] 36 (0, 0)) := (hb2.block _ (by simp)).trans (heap_alloc_new w1 _)
  have HX := hide xb
  clear hb2 HS1 HSa c1 c3 hl xb HGR
  go_wp2_with fail
  unfold T3Wp
  simp only [cl, cr, Tryd.f3, Option.getD_some]
  refine wp_seq_k fun K3 hK3 => ?_
  replace hK3 : ∀ a w, T4Wp Q a w → K3 a w := hK3
  go_wp2_with fail
  refine Calls.mono (HMN.out _ HS2.out.hh) ?_
  rintro e1 w3 ⟨rfl, hb3⟩
  have HS3 := hide (HS2.out.b hb3)
  have HX3 := hide ((hb3.block _ (lt_of_block HX.out)).trans HX.out)
  clear hb3 HS2 HX HMN
  go_wp2_with fail
  unfold T4Wp
  simp only [cl, cr, Tryd.f3, Option.getD_some]
  refine wp_seq_k fun K4 hK4 => ?_
  replace hK4 : ∀ a w, T5Wp Q a w → K4 a w := hK4
  go_wp2_with fail
  rw [fr_of _ rfl rfl rfl rfl rfl rfl rfl]
  exact tail_z Q l v5 _ HS3.out HM.out hk _ a b ok HX3.out rfl rfl rfl rfl rfl rfl rfl rfl rfl HP.out HQ.out
end

section
variable {w0 W W' : World} {H R D V : Nat} {M N M' : Mo} {d : Dv} {k : Nat}
set_option maxRecDepth 100000
set_option maxHeartbeats 8000000
theorem case1_a1 (Q : Exit → Act → World → Prop) (l v5 : Value) (f : Nat → Value) (s : Rd w0 W H R D V M M d) (q : d.what = 1) (ha : d.a < -1)
    (hP : ∀ c a a' w, Q (.panic c) a w → Q (.panic c) a' w) (hQ : ∀ f' W', Rd w0 W' H R D V M M d → Q (.exit 1) (fr l (pH H) (pH R) v5 (pH D) (pH V) f') W') : SwitchWp Q (fr l (pH H) (pH R) v5 (pH D) (pH V) f) W := by
  obtain ⟨cv, pv, rv, ps, rs, hr⟩ := s.hr
  obtain ⟨pc, cc, rfl⟩ : ∃ p c, cv = .slice p M.objs.length c := by
    rcases row_form hr.co with ⟨h1, h2⟩ | ⟨g, c, h1⟩
    · exact ⟨none, 0, by rw [h1, h2]⟩
    · exact ⟨_, _, h1⟩
  obtain ⟨pr, cr, rfl⟩ : ∃ p c, rv = .slice p M.rooms.length c := by
    have h0 := hr.ro.row
    rw [List.length_map] at h0
    rcases row_form h0 with ⟨h1, h2⟩ | ⟨g, c, h1⟩
    · exact ⟨none, 0, by rw [h1, h2]⟩
    · exact ⟨_, _, h1⟩
  obtain ⟨r0, _, r2, hRl⟩ := hr.c
  have c0 := s.d0
  rw [q] at c0
  have c1 := s.d1
  have c2 := s.d2
  have hl := lt_of_block s.db
  have HR0 := hide hr
  have HQ := hide hQ
  have HP := hide hP
  have HSS := hide s
  clear hQ hP hr s q
  unfold SwitchWp
  simp only [Go.Proofs.YtomogijjkdiomaaDoor.cl, Go.Proofs.YtomogijjkdiomaaDoor.cr, Tryd.f3, Option.getD_some]
  unfold pH fr
  go_wp2_with fail
  refine wp_region_held (S := fun W' => W' = W.drew) (by kernel_rfl) ?_
  change wpAnyH _ _ _ _ _ _ _ _ (World.drew _)
  have HS : Hid (W.drew = W.drew) := rfl
  refine wh 0 (.pointer (some ⟨D, 1, none⟩)) HS.out ?_ (hQ := fun _ _ _ h => HP.out _ _ _ _ h)
  refine wg 1 (.int .i64 d.a) rfl (Or.inl ⟨by kernel_rfl, fun W hW => by subst hW; go_simp⟩) HS.out ?_ (hQ := fun _ _ _ h => HP.out _ _ _ _ h)
  refine wh 2 (.bool true) HS.out ?_ (hQ := fun _ _ _ h => HP.out _ _ _ _ h)
  refine wh 3 (.bool true) HS.out ?_ (hQ := fun _ _ _ h => HP.out _ _ _ _ h)
  refine wg 4 undef rfl (Or.inr ⟨by kernel_rfl, rfl⟩) HS.out ?_ (hQ := fun _ _ _ h => HP.out _ _ _ _ h)
  refine wg 5 undef rfl (Or.inr ⟨by kernel_rfl, rfl⟩) HS.out ?_ (hQ := fun _ _ _ h => HP.out _ _ _ _ h)
  refine wg 6 undef rfl (Or.inr ⟨by kernel_rfl, rfl⟩) HS.out ?_ (hQ := fun _ _ _ h => HP.out _ _ _ _ h)
  refine wg 7 undef rfl (Or.inr ⟨by kernel_rfl, rfl⟩) HS.out ?_ (hQ := fun _ _ _ h => HP.out _ _ _ _ h)
  refine wg 8 undef rfl (Or.inr ⟨by kernel_rfl, rfl⟩) HS.out ?_ (hQ := fun _ _ _ h => HP.out _ _ _ _ h)
  refine wg 9 undef rfl (Or.inr ⟨by kernel_rfl, rfl⟩) HS.out ?_ (hQ := fun _ _ _ h => HP.out _ _ _ _ h)
  refine wg 10 undef rfl (Or.inr ⟨by kernel_rfl, rfl⟩) HS.out ?_ (hQ := fun _ _ _ h => HP.out _ _ _ _ h)
  refine wg 11 undef rfl (Or.inr ⟨by kernel_rfl, rfl⟩) HS.out ?_ (hQ := fun _ _ _ h => HP.out _ _ _ _ h)
  refine wh 12 (.bool true) HS.out ?_ (hQ := fun _ _ _ h => HP.out _ _ _ _ h)
  refine wh 13 (.bool true) HS.out ?_ (hQ := fun _ _ _ h => HP.out _ _ _ _ h)
  refine wg 14 undef rfl (Or.inr ⟨by kernel_rfl, rfl⟩) HS.out ?_ (hQ := fun _ _ _ h => HP.out _ _ _ _ h)
  refine wg 15 undef rfl (Or.inr ⟨by kernel_rfl, rfl⟩) HS.out ?_ (hQ := fun _ _ _ h => HP.out _ _ _ _ h)
  refine wg 16 undef rfl (Or.inr ⟨by kernel_rfl, rfl⟩) HS.out ?_ (hQ := fun _ _ _ h => HP.out _ _ _ _ h)
  refine wh 17 (.bool true) HS.out ?_ (hQ := fun _ _ _ h => HP.out _ _ _ _ h)
  refine wh 18 (.bool true) HS.out ?_ (hQ := fun _ _ _ h => HP.out _ _ _ _ h)
  refine wg 19 undef rfl (Or.inr ⟨by kernel_rfl, rfl⟩) HS.out ?_ (hQ := fun _ _ _ h => HP.out _ _ _ _ h)
  refine wg 20 undef rfl (Or.inr ⟨by kernel_rfl, rfl⟩) HS.out ?_ (hQ := fun _ _ _ h => HP.out _ _ _ _ h)
  refine wg 21 undef rfl (Or.inr ⟨by kernel_rfl, rfl⟩) HS.out ?_ (hQ := fun _ _ _ h => HP.out _ _ _ _ h)
  refine wg 22 undef rfl (Or.inr ⟨by kernel_rfl, rfl⟩) HS.out ?_ (hQ := fun _ _ _ h => HP.out _ _ _ _ h)
  refine wg 23 undef rfl (Or.inr ⟨by kernel_rfl, rfl⟩) HS.out ?_ (hQ := fun _ _ _ h => HP.out _ _ _ _ h)
  refine wg 24 undef rfl (Or.inr ⟨by kernel_rfl, rfl⟩) HS.out ?_ (hQ := fun _ _ _ h => HP.out _ _ _ _ h)
  refine wg 25 undef rfl (Or.inr ⟨by kernel_rfl, rfl⟩) HS.out ?_ (hQ := fun _ _ _ h => HP.out _ _ _ _ h)
  refine wg 26 undef rfl (Or.inr ⟨by kernel_rfl, rfl⟩) HS.out ?_ (hQ := fun _ _ _ h => HP.out _ _ _ _ h)
  refine wh 27 (.bool true) HS.out ?_ (hQ := fun _ _ _ h => HP.out _ _ _ _ h)
  refine wpAnyH_done (by kernel_rfl) ?_ _
  go_simp
  go_wp2_with fail
  exact fin Q (.exit 1) _ rfl rfl rfl rfl rfl rfl rfl (HQ.out _ _ (HSS.out.b (Below.refl _ _).drew))
end

section
variable {w0 W W' : World} {H R D V : Nat} {M N M' : Mo} {d : Dv} {k : Nat}
set_option maxRecDepth 100000
set_option maxHeartbeats 8000000
theorem case1_a2 (Q : Exit → Act → World → Prop) (l v5 : Value) (f : Nat → Value) (s : Rd w0 W H R D V M M d) (q : d.what = 1) (ha1 : ¬ d.a < -1) (ha : (M.rooms.length : Int) ≤ d.a)
    (hP : ∀ c a a' w, Q (.panic c) a w → Q (.panic c) a' w) (hQ : ∀ f' W', Rd w0 W' H R D V M M d → Q (.exit 1) (fr l (pH H) (pH R) v5 (pH D) (pH V) f') W') : SwitchWp Q (fr l (pH H) (pH R) v5 (pH D) (pH V) f) W := by
  obtain ⟨cv, pv, rv, ps, rs, hr⟩ := s.hr
  obtain ⟨pc, cc, rfl⟩ : ∃ p c, cv = .slice p M.objs.length c := by
    rcases row_form hr.co with ⟨h1, h2⟩ | ⟨g, c, h1⟩
    · exact ⟨none, 0, by rw [h1, h2]⟩
    · exact ⟨_, _, h1⟩
  obtain ⟨pr, cr, rfl⟩ : ∃ p c, rv = .slice p M.rooms.length c := by
    have h0 := hr.ro.row
    rw [List.length_map] at h0
    rcases row_form h0 with ⟨h1, h2⟩ | ⟨g, c, h1⟩
    · exact ⟨none, 0, by rw [h1, h2]⟩
    · exact ⟨_, _, h1⟩
  obtain ⟨r0, _, r2, hRl⟩ := hr.c
  have c0 := s.d0
  rw [q] at c0
  have c1 := s.d1
  have c2 := s.d2
  have hl := lt_of_block s.db
  have HR0 := hide hr
  have HQ := hide hQ
  have HP := hide hP
  have HSS := hide s
  clear hQ hP hr s q
  unfold SwitchWp
  simp only [Go.Proofs.YtomogijjkdiomaaDoor.cl, Go.Proofs.YtomogijjkdiomaaDoor.cr, Tryd.f3, Option.getD_some]
  unfold pH fr
  go_wp2_with fail
  refine wp_region_held (S := fun W' => W' = W.drew) (by kernel_rfl) ?_
  change wpAnyH _ _ _ _ _ _ _ _ (World.drew _)
  have HS : Hid (W.drew = W.drew) := rfl
  refine wh 0 (.pointer (some ⟨D, 1, none⟩)) HS.out ?_ (hQ := fun _ _ _ h => HP.out _ _ _ _ h)
  refine wg 1 (.int .i64 d.a) rfl (Or.inl ⟨by kernel_rfl, fun W hW => by subst hW; go_simp⟩) HS.out ?_ (hQ := fun _ _ _ h => HP.out _ _ _ _ h)
  refine wh 2 (.bool false) HS.out ?_ (hQ := fun _ _ _ h => HP.out _ _ _ _ h)
  refine wh 3 (.bool false) HS.out ?_ (hQ := fun _ _ _ h => HP.out _ _ _ _ h)
  refine wh 4 (.pointer (some ⟨D, 1, none⟩)) HS.out ?_ (hQ := fun _ _ _ h => HP.out _ _ _ _ h)
  refine wg 5 (.int .i64 d.a) rfl (Or.inl ⟨by kernel_rfl, fun W hW => by subst hW; go_simp⟩) HS.out ?_ (hQ := fun _ _ _ h => HP.out _ _ _ _ h)
  refine wh 6 (.pointer (some ⟨R, 0, none⟩)) HS.out ?_ (hQ := fun _ _ _ h => HP.out _ _ _ _ h)
  refine wh 7 (.pointer (some ⟨R, 0, none⟩)) HS.out ?_ (hQ := fun _ _ _ h => HP.out _ _ _ _ h)
  refine wh 8 (.pointer (some ⟨R, 2, none⟩)) HS.out ?_ (hQ := fun _ _ _ h => HP.out _ _ _ _ h)
  refine wg 9 (.slice pr M.rooms.length cr) rfl (Or.inl ⟨by kernel_rfl, fun W hW => by subst hW; go_simp⟩) HS.out ?_ (hQ := fun _ _ _ h => HP.out _ _ _ _ h)
  refine wh 10 (.int .i64 (M.rooms.length : Int)) HS.out ?_ (hQ := fun _ _ _ h => HP.out _ _ _ _ h)
  refine wh 11 (.bool true) HS.out ?_ (hQ := fun _ _ _ h => HP.out _ _ _ _ h)
  refine wh 12 (.bool true) HS.out ?_ (hQ := fun _ _ _ h => HP.out _ _ _ _ h)
  refine wh 13 (.bool true) HS.out ?_ (hQ := fun _ _ _ h => HP.out _ _ _ _ h)
  refine wg 14 undef rfl (Or.inr ⟨by kernel_rfl, rfl⟩) HS.out ?_ (hQ := fun _ _ _ h => HP.out _ _ _ _ h)
  refine wg 15 undef rfl (Or.inr ⟨by kernel_rfl, rfl⟩) HS.out ?_ (hQ := fun _ _ _ h => HP.out _ _ _ _ h)
  refine wg 16 undef rfl (Or.inr ⟨by kernel_rfl, rfl⟩) HS.out ?_ (hQ := fun _ _ _ h => HP.out _ _ _ _ h)
  refine wh 17 (.bool true) HS.out ?_ (hQ := fun _ _ _ h => HP.out _ _ _ _ h)
  refine wh 18 (.bool true) HS.out ?_ (hQ := fun _ _ _ h => HP.out _ _ _ _ h)
  refine wg 19 undef rfl (Or.inr ⟨by kernel_rfl, rfl⟩) HS.out ?_ (hQ := fun _ _ _ h => HP.out _ _ _ _ h)
  refine wg 20 undef rfl (Or.inr ⟨by kernel_rfl, rfl⟩) HS.out ?_ (hQ := fun _ _ _ h => HP.out _ _ _ _ h)
  refine wg 21 undef rfl (Or.inr ⟨by kernel_rfl, rfl⟩) HS.out ?_ (hQ := fun _ _ _ h => HP.out _ _ _ _ h)
  refine wg 22 undef rfl (Or.inr ⟨by kernel_rfl, rfl⟩) HS.out ?_ (hQ := fun _ _ _ h => HP.out _ _ _ _ h)
  refine wg 23 undef rfl (Or.inr ⟨by kernel_rfl, rfl⟩) HS.out ?_ (hQ := fun _ _ _ h => HP.out _ _ _ _ h)
  refine wg 24 undef rfl (Or.inr ⟨by kernel_rfl, rfl⟩) HS.out ?_ (hQ := fun _ _ _ h => HP.out _ _ _ _ h)
  refine wg 25 undef rfl (Or.inr ⟨by kernel_rfl, rfl⟩) HS.out ?_ (hQ := fun _ _ _ h => HP.out _ _ _ _ h)
  refine wg 26 undef rfl (Or.inr ⟨by kernel_rfl, rfl⟩) HS.out ?_ (hQ := fun _ _ _ h => HP.out _ _ _ _ h)
  refine wh 27 (.bool true) HS.out ?_ (hQ := fun _ _ _ h => HP.out _ _ _ _ h)
  refine wpAnyH_done (by kernel_rfl) ?_ _
  go_simp
  go_wp2_with fail
  exact fin Q (.exit 1) _ rfl rfl rfl rfl rfl rfl rfl (HQ.out _ _ (HSS.out.b (Below.refl _ _).drew))
end
end Go.Proofs.YtomogijjkdiomaaDoor
