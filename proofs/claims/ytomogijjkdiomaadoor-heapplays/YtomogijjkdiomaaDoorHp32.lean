/-
  The last test of a round, whole.
-/
import Derived.Test.YtomogijjkdiomaaDoorHp31
import Derived.Test.YtomogijjkdiomaaDoorHp28
set_option maxRecDepth 100000
set_option maxHeartbeats 16000000
namespace Go.Proofs.YtomogijjkdiomaaDoor
open Go.RowKit

def TailBWp (Q : Exit → Act → World → Prop) (a : Act) (w : World) : Prop := Code.wp Tryd.prog (cr (cr (cr (cr (cr (cr (cr (cr (cr (cr (cl (cl (cr (cl (cl (cr (cl (cr (cr (cr (cr (Tryd.f3.body.getD .skip)))))))))))))))))))))) Q a w
section
variable {w0 W W' : World} {H R D V : Nat} {M N M' : Mo} {d : Dv} {k : Nat}
set_option maxRecDepth 100000
set_option maxHeartbeats 4000000
theorem names_len (hM : M.Inv k) (o : Int) : (M.names o).length ≤ k ∧ ∀ x ∈ M.names o, x.size ≤ 20 := by
  rcases ob_cases M o with ⟨e0, _⟩ | ⟨i, x, rfl, hx, e1⟩
  · simp [Mo.names, e0]
  · have h1 := hM.small.ps x (List.mem_of_getElem? hx)
    have h2 := hM.short i x hx
    simp only [Mo.names, e1]
    refine ⟨by simpa using h1, fun n hn => ?_⟩
    obtain ⟨p, hp, rfl⟩ := List.mem_map.1 hn
    exact h2 p hp
theorem slice_of {w : World} {B : Nat} {e : TypeId} {sz n : Nat} {v : Value} {xs : List Value} (h : w.ownsRow B e sz v n xs) : ∃ p c, v = .slice p n c := by
  rcases row_form h with ⟨rfl, rfl⟩ | ⟨g, c, rfl⟩
  · exact ⟨_, _, rfl⟩
  · exact ⟨_, _, rfl⟩
theorem stay {W : World} {g : FuncId} {ga : Array Value} {v : Value} (hc : Calls Tryd.prog g ga W (fun e w' => e = .returned v ∧ w' = W)) : Calls Tryd.prog g ga W fun e w' => e = .returned v ∧ Below W.heap.size W w' := hc.mono fun _ _ ⟨p, q⟩ => ⟨p, q ▸ Below.refl _ _⟩
theorem ask_of (s : Rd w0 W H R D V M M d) (hM : M.Inv k) (hk : k < 1000) {X : Nat} {a b : Int} (xb : W.heap[X]? = some (.cells #[.int .i64 a, .int .i64 b, .string ⟨#[]⟩] 36 (0, 0))) : ∃ pc pr cc cr, Ask W H R D X M d b pc pr cc cr := by
  obtain ⟨_, _, _, _, h⟩ := s.hh
  obtain ⟨cv, pv, rv, ps, rs, hr⟩ := s.hr
  obtain ⟨pc, cc, rfl⟩ := slice_of hr.co
  obtain ⟨pr, cr, rfl⟩ : ∃ p c, rv = .slice p M.rooms.length c := by
    have := slice_of hr.ro.row
    rwa [List.length_map] at this
  obtain ⟨r0, _, r2, hRl⟩ := hr.c
  have hK := Nat.le_of_lt hk
  refine ⟨pc, pr, cc, cr, ?_⟩
  constructor
  · exact fun W' hW => has_any (h.later hW) hM.small hK d.a d.name
  · exact fun W' hW => rhas_any (hr.later hW) hM.small hK hM.ok d.a d.name
  · exact fun W' hW => kind_any (h.later hW) hM.small hK d.a d.name
  · exact fun W' hW => rkind_any (hr.later hW) hM.small hK hM.ok d.a d.name
  · exact fun W' hW => rkeys_any (hr.later hW) hM.small hK hM.short d.a
  · exact fun W' hW => stay (code_any (h.later hW) d.a)
  · exact fun W' hW => stay (objOf_any (h.later hW) d.a)
  · exact fun W' hW => stay (outOf_any (h.later hW) d.a)
  · exact fun W' hW => keys_any (h.later hW) hM.small hK d.a
  · exact fun W' v hrow => join_any hrow (Nat.le_trans (names_len hM d.a).1 hK) (names_len hM d.a).2
  · exact fun W' hW => (hW.cell (p := ⟨D, 1, none⟩) (lt_of_block s.db)).trans s.d1
  · exact fun W' hW => (hW.cell (p := ⟨D, 3, none⟩) (lt_of_block s.db)).trans s.d3
  · exact fun W' hW => (hW.cell (p := ⟨R, 0, none⟩) (lt_of_block hr.blk)).trans r0
  · exact fun W' hW => (hW.cell (p := ⟨R, 2, none⟩) (lt_of_block hr.blk)).trans r2
  · exact fun W' hW => (hW.cell (p := ⟨X, 1, none⟩) (lt_of_block xb)).trans (by simp [World.cell?, xb])
theorem tailB (Q : Exit → Act → World → Prop) (l v5 : Value) (f : Nat → Value) (s : Rd w0 W H R D V M M d) (hM : M.Inv k) (hk : k < 1000) (X : Nat) (a b : Int) (ok : Bool)
    (xb : W.heap[X]? = some (.cells #[.int .i64 a, .int .i64 b, .string ⟨#[]⟩] 36 (0, 0))) (hT : Tmp f X M d b ok)
    (hP : ∀ c a a' w, Q (.panic c) a w → Q (.panic c) a' w) (hQ : ∀ f' W', Rd w0 W' H R D V M M d → Q .normal (fr l (pH H) (pH R) v5 (pH D) (pH V) f') W') : TailBWp Q (fr l (pH H) (pH R) v5 (pH D) (pH V) f) W := by
  obtain ⟨pc, pr, cc, cr, hA⟩ := ask_of s hM hk xb
  refine wp_seq (x := Go.Proofs.YtomogijjkdiomaaDoor.cl (Go.Proofs.YtomogijjkdiomaaDoor.cr (Go.Proofs.YtomogijjkdiomaaDoor.cr (Go.Proofs.YtomogijjkdiomaaDoor.cr (Go.Proofs.YtomogijjkdiomaaDoor.cr (Go.Proofs.YtomogijjkdiomaaDoor.cr (Go.Proofs.YtomogijjkdiomaaDoor.cr (Go.Proofs.YtomogijjkdiomaaDoor.cr (Go.Proofs.YtomogijjkdiomaaDoor.cr (Go.Proofs.YtomogijjkdiomaaDoor.cr (Go.Proofs.YtomogijjkdiomaaDoor.cr (Go.Proofs.YtomogijjkdiomaaDoor.cl (Go.Proofs.YtomogijjkdiomaaDoor.cl (Go.Proofs.YtomogijjkdiomaaDoor.cr (Go.Proofs.YtomogijjkdiomaaDoor.cl (Go.Proofs.YtomogijjkdiomaaDoor.cl (Go.Proofs.YtomogijjkdiomaaDoor.cr (Go.Proofs.YtomogijjkdiomaaDoor.cl (Go.Proofs.YtomogijjkdiomaaDoor.cr (Go.Proofs.YtomogijjkdiomaaDoor.cr (Go.Proofs.YtomogijjkdiomaaDoor.cr (Go.Proofs.YtomogijjkdiomaaDoor.cr (Tryd.f3.body.getD .skip))))))))))))))))))))))) (y := Go.Proofs.YtomogijjkdiomaaDoor.cr (Go.Proofs.YtomogijjkdiomaaDoor.cr (Go.Proofs.YtomogijjkdiomaaDoor.cr (Go.Proofs.YtomogijjkdiomaaDoor.cr (Go.Proofs.YtomogijjkdiomaaDoor.cr (Go.Proofs.YtomogijjkdiomaaDoor.cr (Go.Proofs.YtomogijjkdiomaaDoor.cr (Go.Proofs.YtomogijjkdiomaaDoor.cr (Go.Proofs.YtomogijjkdiomaaDoor.cr (Go.Proofs.YtomogijjkdiomaaDoor.cr (Go.Proofs.YtomogijjkdiomaaDoor.cr (Go.Proofs.YtomogijjkdiomaaDoor.cl (Go.Proofs.YtomogijjkdiomaaDoor.cl (Go.Proofs.YtomogijjkdiomaaDoor.cr (Go.Proofs.YtomogijjkdiomaaDoor.cl (Go.Proofs.YtomogijjkdiomaaDoor.cl (Go.Proofs.YtomogijjkdiomaaDoor.cr (Go.Proofs.YtomogijjkdiomaaDoor.cl (Go.Proofs.YtomogijjkdiomaaDoor.cr (Go.Proofs.YtomogijjkdiomaaDoor.cr (Go.Proofs.YtomogijjkdiomaaDoor.cr (Go.Proofs.YtomogijjkdiomaaDoor.cr (Tryd.f3.body.getD .skip))))))))))))))))))))))) ?_
  refine wp_region_held (S := fun W' => Below W.heap.size W W') (by kernel_rfl) ?_
  refine seg0 _ l v5 f X b ok pc pr cc cr hA hT _ ((Below.refl W.heap.size W).drew) hP fun f' W' hb h469 => ?_
  have HQ := hide hQ
  have HS := hide (s.b hb)
  clear hQ s hb hA hT hP hM xb
  show Code.wp Tryd.prog (Go.Proofs.YtomogijjkdiomaaDoor.cr (Go.Proofs.YtomogijjkdiomaaDoor.cr (Go.Proofs.YtomogijjkdiomaaDoor.cr (Go.Proofs.YtomogijjkdiomaaDoor.cr (Go.Proofs.YtomogijjkdiomaaDoor.cr (Go.Proofs.YtomogijjkdiomaaDoor.cr (Go.Proofs.YtomogijjkdiomaaDoor.cr (Go.Proofs.YtomogijjkdiomaaDoor.cr (Go.Proofs.YtomogijjkdiomaaDoor.cr (Go.Proofs.YtomogijjkdiomaaDoor.cr (Go.Proofs.YtomogijjkdiomaaDoor.cr (Go.Proofs.YtomogijjkdiomaaDoor.cl (Go.Proofs.YtomogijjkdiomaaDoor.cl (Go.Proofs.YtomogijjkdiomaaDoor.cr (Go.Proofs.YtomogijjkdiomaaDoor.cl (Go.Proofs.YtomogijjkdiomaaDoor.cl (Go.Proofs.YtomogijjkdiomaaDoor.cr (Go.Proofs.YtomogijjkdiomaaDoor.cl (Go.Proofs.YtomogijjkdiomaaDoor.cr (Go.Proofs.YtomogijjkdiomaaDoor.cr (Go.Proofs.YtomogijjkdiomaaDoor.cr (Go.Proofs.YtomogijjkdiomaaDoor.cr (Tryd.f3.body.getD .skip))))))))))))))))))))))) Q _ W'
  simp only [Go.Proofs.YtomogijjkdiomaaDoor.cl, Go.Proofs.YtomogijjkdiomaaDoor.cr, Tryd.f3, Option.getD_some]
  unfold pH fr
  rw [h469]
  go_wp2_with fail
  exact fin Q .normal _ rfl rfl rfl rfl rfl rfl rfl (HQ.out _ _ HS.out)
end

def PieceAWp (Q : Exit → Act → World → Prop) (a : Act) (w : World) : Prop := Code.wp Tryd.prog (cl (cr (cr (cr (cr (cr (cr (cr (cr (cl (cl (cr (cl (cl (cr (cl (cr (cr (cr (cr (Tryd.f3.body.getD .skip))))))))))))))))))))) Q a w
def PieceBWp (Q : Exit → Act → World → Prop) (a : Act) (w : World) : Prop := Code.wp Tryd.prog (cl (cr (cr (cr (cr (cr (cr (cr (cr (cr (cl (cl (cr (cl (cl (cr (cl (cr (cr (cr (cr (Tryd.f3.body.getD .skip)))))))))))))))))))))) Q a w
/-- Temporaries that stay. -/
def Same (f f' : Nat → Value) : Prop := f' 12 = f 12 ∧ f' 13 = f 13 ∧ f' 14 = f 14 ∧ f' 15 = f 15 ∧ f' 16 = f 16 ∧ f' 17 = f 17
theorem slice_of' {w : World} {B : Nat} {e : TypeId} {sz n : Nat} {v : Value} {xs : List Value} (h : w.ownsRow B e sz v n xs) : ∃ p c, v = .slice p n c := by
  rcases row_form h with ⟨rfl, rfl⟩ | ⟨g, c, rfl⟩
  · exact ⟨_, _, rfl⟩
  · exact ⟨_, _, rfl⟩
section
variable {w0 W W' : World} {H R D V : Nat} {M N M' : Mo} {d : Dv} {k : Nat}
set_option maxRecDepth 100000
set_option maxHeartbeats 4000000
theorem pA_neg (Q : Exit → Act → World → Prop) (l v5 : Value) (f : Nat → Value) (s : Rd w0 W H R D V M M d) (hneg : d.a < 0)
    (hP : ∀ c a a' w, Q (.panic c) a w → Q (.panic c) a' w) (hQ : ∀ f' W', Below W.heap.size W W' → Same f f' → f' 18 = f 18 → f' 19 = f 19 → f' 20 = f 20 → Q .normal (fr l (pH H) (pH R) v5 (pH D) (pH V) f') W') : PieceAWp Q (fr l (pH H) (pH R) v5 (pH D) (pH V) f) W := by
  obtain ⟨cv, pv, rv, ps, rs, hr⟩ := s.hr
  obtain ⟨pc, cc, rfl⟩ := slice_of' hr.co
  obtain ⟨r0, _, r2, hRl⟩ := hr.c
  have c1 := s.d1
  have hl := lt_of_block s.db
  have HQ := hide hQ
  have HP := hide hP
  clear hQ hP hr s
  unfold PieceAWp
  simp only [Go.Proofs.YtomogijjkdiomaaDoor.cl, Go.Proofs.YtomogijjkdiomaaDoor.cr, Tryd.f3, Option.getD_some]
  unfold pH fr
  go_wp2_with fail
  refine wp_region_held (S := fun W' => W' = W.drew) (by kernel_rfl) ?_
  change wpAnyH _ _ _ _ _ _ _ _ (World.drew _)
  have HS : Hid (W.drew = W.drew) := rfl
  refine wh 0 (.pointer (some ⟨D, 1, none⟩)) HS.out ?_ (hQ := fun _ _ _ h => HP.out _ _ _ _ h)
  refine wg 1 (.int .i64 d.a) rfl (Or.inl ⟨by kernel_rfl, fun W hW => by subst hW; go_simp⟩) HS.out ?_ (hQ := fun _ _ _ h => HP.out _ _ _ _ h)
  refine wh 2 (.bool false) HS.out ?_ (hQ := fun _ _ _ h => HP.out _ _ _ _ h)
  refine wh 3 (.bool false) HS.out ?_ (hQ := fun _ _ _ h => HP.out _ _ _ _ h)
  refine wg 4 undef rfl (Or.inr ⟨by kernel_rfl, rfl⟩) HS.out ?_ (hQ := fun _ _ _ h => HP.out _ _ _ _ h)
  refine wg 5 undef rfl (Or.inr ⟨by kernel_rfl, rfl⟩) HS.out ?_ (hQ := fun _ _ _ h => HP.out _ _ _ _ h)
  refine wg 6 undef rfl (Or.inr ⟨by kernel_rfl, rfl⟩) HS.out ?_ (hQ := fun _ _ _ h => HP.out _ _ _ _ h)
  refine wg 7 undef rfl (Or.inr ⟨by kernel_rfl, rfl⟩) HS.out ?_ (hQ := fun _ _ _ h => HP.out _ _ _ _ h)
  refine wg 8 undef rfl (Or.inr ⟨by kernel_rfl, rfl⟩) HS.out ?_ (hQ := fun _ _ _ h => HP.out _ _ _ _ h)
  refine wg 9 undef rfl (Or.inr ⟨by kernel_rfl, rfl⟩) HS.out ?_ (hQ := fun _ _ _ h => HP.out _ _ _ _ h)
  refine wg 10 undef rfl (Or.inr ⟨by kernel_rfl, rfl⟩) HS.out ?_ (hQ := fun _ _ _ h => HP.out _ _ _ _ h)
  refine wg 11 undef rfl (Or.inr ⟨by kernel_rfl, rfl⟩) HS.out ?_ (hQ := fun _ _ _ h => HP.out _ _ _ _ h)
  refine wh 12 (.bool false) HS.out ?_ (hQ := fun _ _ _ h => HP.out _ _ _ _ h)
  refine wpAnyH_done (by kernel_rfl) ?_ _
  go_simp
  go_wp2_with fail
  exact fin Q .normal _ rfl rfl rfl rfl rfl rfl rfl (HQ.out _ _ ((Below.refl _ _).drew) ⟨rfl, rfl, rfl, rfl, rfl, rfl⟩ rfl rfl rfl)
end
end Go.Proofs.YtomogijjkdiomaaDoor
