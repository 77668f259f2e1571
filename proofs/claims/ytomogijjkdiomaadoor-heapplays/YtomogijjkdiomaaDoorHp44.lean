/-
  A new object: case 0 of the switch.
-/
import Derived.Test.YtomogijjkdiomaaDoorHp43
set_option maxRecDepth 100000
set_option maxHeartbeats 16000000
namespace Go.Proofs.YtomogijjkdiomaaDoor
open Go.RowKit

theorem info3 : (Tryd.prog.info? 3).map (fun i => (i.zero, i.size, i.bytes)) = some (some (.int .i64 0), 1, 8) := by kernel_rfl
theorem info90 : (Tryd.prog.info? 90).map (fun i => (i.zero, i.size, i.bytes)) = some (some (.slice none 0 0), 1, 24) := by kernel_rfl
theorem one_of_block {w : World} {p : Nat} {x : Value} {t : TypeId} (h : w.heap[p]? = some (.cells #[x] t (0, 0))) : ∀ (j : Nat) (u : Value), [x][j]? = some u → w.cell? (Addr.add ⟨p, 0, none⟩ j) = some u := fun j u hu => by
  match j, hu with
  | 0, hu => simp at hu; subst hu; simp [Addr.add, World.cell?, h]
  | _ + 1, hu => simp at hu
/-- What the stores of case 0 leave to be read ahead of them. -/
structure Sz (D V R : Nat) (d : Dv) (cv pv : Value) (W : World) : Prop where
  dv : Dvs D V d W
  r0 : W.cell? ⟨R, 0, none⟩ = some cv
  r1 : W.cell? ⟨R, 1, none⟩ = some pv
theorem sz_of {w0 w1 w2 : World} {H R D V : Nat} {M N : Mo} {d : Dv} {cv pv rv : Value} (s : Rd w0 w1 H R D V M N d) (hb : w1.heap[R]? = some (.cells #[cv, pv, rv] 32 (0, 0))) (f : FrT [3, 90] R w1 w2) : Sz D V R d cv pv w2 := by
  have d3 := f.rest _ _ 34 s.db (by decide)
  have v3 : w2.heap[V]? = _ := f.rest _ _ 36 s.vb (by decide)
  have b3 := f.rest _ _ 32 hb (by decide)
  refine ⟨⟨by simp [World.cell?, d3, Dv.cells], by simp [World.cell?, d3, Dv.cells], by simp [World.cell?, d3, Dv.cells], by simp [World.cell?, d3, Dv.cells], by simp [World.cell?, d3, Dv.cells], by simp [World.cell?, d3, Dv.cells], by simp [World.cell?, v3], by simp [World.cell?, v3], by simp [World.cell?, v3]⟩, by simp [World.cell?, b3], by simp [World.cell?, b3]⟩
section
variable {w0 W W' : World} {H R D V : Nat} {M N M' : Mo} {d : Dv} {k : Nat}
set_option maxRecDepth 100000
set_option maxHeartbeats 8000000
theorem case0_pos (Q : Exit → Act → World → Prop) (l v5 : Value) (f : Nat → Value) (s : Rd w0 W H R D V M M d) (hM : M.Inv k) (hk : k < 1000) (q : d.what = 0) (kk : ¬ d.kind < 0)
    (hP : ∀ c a a' w, Q (.panic c) a w → Q (.panic c) a' w) (hQ : ∀ f' W' M' d', d'.a = d.a → d'.name = d.name → M'.Inv (k + 1) → Rd w0 W' H R D V M' M' d' → Q .normal (fr l (pH H) (pH R) v5 (pH D) (pH V) f') W') : SwitchWp Q (fr l (pH H) (pH R) v5 (pH D) (pH V) f) W := by
  obtain ⟨cv, pv, rv, ps, rs, hr⟩ := s.hr
  obtain ⟨pc, cc, rfl⟩ : ∃ p c, cv = .slice p M.objs.length c := by
    rcases row_form hr.co with ⟨h1, h2⟩ | ⟨g, c, h1⟩
    · exact ⟨none, 0, by rw [h1, h2]⟩
    · exact ⟨_, _, h1⟩
  have HOB : Hid (∀ W', HeapH H W' M → Calls Tryd.prog 5 #[.pointer (some ⟨H, 0, none⟩), .int .i64 d.kind] W' fun e w' => e = .returned (.int .i64 M.objs.length) ∧ HeapH H w' ⟨M.objs ++ [⟨d.kind, []⟩], M.rooms⟩ ∧ FrT Th H W' w') := fun W' hW => by
    obtain ⟨_, _, _, _, h⟩ := hW
    exact object_ok h hM.small (by omega) d.kind
  have HI := hide (hM.pushO d.kind)
  have HSM := hide hM.small.o
  have HK := hide hk
  obtain ⟨r0, _, _, hRl⟩ := hr.c
  have c0 := s.d0
  rw [q] at c0
  have c4 := s.d4
  have hl := lt_of_block s.db
  have HR0 := hide hr
  have HQ := hide hQ
  have HP := hide hP
  have HS1 := hide (s.b (Below.refl _ _).drew)
  clear hQ hP hr s q hM hk
  unfold SwitchWp
  simp only [Go.Proofs.YtomogijjkdiomaaDoor.cl, Go.Proofs.YtomogijjkdiomaaDoor.cr, Tryd.f3, Option.getD_some]
  unfold pH fr
  go_wp2_with fail
  refine wp_region_held (S := fun W' => Dvs D V d W' ∧ W'.cell? ⟨R, 0, none⟩ = some (.slice pc M.objs.length cc)) (by kernel_rfl) ?_
  change wpAnyH _ _ _ _ _ _ _ _ (World.drew _)
  have HT : Hid (Dvs D V d W.drew ∧ W.drew.cell? ⟨R, 0, none⟩ = some (.slice pc M.objs.length cc)) := ⟨HS1.out.dvs, r0⟩
  refine wh 0 (.pointer (some ⟨D, 4, none⟩)) HT.out ?_ (hQ := fun _ _ _ h => HP.out _ _ _ _ h)
  refine wg 1 (.int .i64 d.kind) rfl (Or.inl ⟨by kernel_rfl, fun W hW => by have h0 := hW.1.d4; clear hW; go_simp⟩) HT.out ?_ (hQ := fun _ _ _ h => HP.out _ _ _ _ h)
  refine wh 3 (.pointer (some ⟨R, 0, none⟩)) HT.out ?_ (hQ := fun _ _ _ h => HP.out _ _ _ _ h)
  refine wh 4 (.pointer (some ⟨R, 0, none⟩)) HT.out ?_ (hQ := fun _ _ _ h => HP.out _ _ _ _ h)
  refine wh 5 (.pointer (some ⟨R, 0, none⟩)) HT.out ?_ (hQ := fun _ _ _ h => HP.out _ _ _ _ h)
  refine wg 6 (.slice pc M.objs.length cc) rfl (Or.inl ⟨by kernel_rfl, fun W hW => by have h0 := hW.2; clear hW; go_simp⟩) HT.out ?_ (hQ := fun _ _ _ h => HP.out _ _ _ _ h)
  refine wh 7 (.int .i64 (M.objs.length : Int)) HT.out ?_ (hQ := fun _ _ _ h => HP.out _ _ _ _ h)
  refine wq1 2 fun K hK => ?_
  go_simp
  refine Calls.mono (HOB.out _ HS1.out.hh) ?_
  rintro e1 w1 ⟨rfl, hh1, hf1⟩
  have HS2 := hide (HS1.out.h hh1 hf1)
  have HRR := hide (HR0.out.later ((Below.refl _ _).drew))
  have HW1 : Hid (WP R w1 M (.slice pc M.objs.length cc) pv rv ps rs) := ⟨hf1.rest _ _ 32 HRR.out.blk (by decide), row_keep HRR.out.co hf1 (by decide), HRR.out.ob.keep hf1 (by decide) (by decide), HRR.out.ro.keep hf1 (by decide) (by decide)⟩
  obtain ⟨k0, k1, _, hRl1⟩ := HW1.out.c
  have HT1 : Hid (Dvs D V d w1 ∧ w1.cell? ⟨R, 0, none⟩ = some (.slice pc M.objs.length cc)) := ⟨HS2.out.dvs, k0⟩
  refine hK.out _ _ HT1.out (fun _ => ?_)
  clear hK K hh1 hf1 HS1 HRR r0 c0 c4
  refine wh 8 (.bool false) HT1.out ?_ (hQ := fun _ _ _ h => HP.out _ _ _ _ h)
  refine wpAnyH_done (by kernel_rfl) ?_ _
  go_simp
  go_wp2_with fail
  obtain ⟨ia, ha0, ha1, ha2, ha3⟩ := info_parts info3
  obtain ⟨ib, hb0, hb1, hb2, hb3⟩ := info_parts info90
  have HROW : Hid (w1.ownsRow R 90 1 pv M.objs.length (flat (M.objs.map Ob.r) ps)) := by have := HW1.out.ob.row; rw [List.length_map] at this; exact this
  have F0 : FrT [3, 90] R w1 w1.drew := FrT.of (Below.refl _ _).drew (Nat.le_of_lt hRl1)
  have G0 : w1.grownBy w1.drew (Value.slice pc M.objs.length cc).ownBlock := ⟨rfl, rfl, rfl, Nat.le_refl _, fun _ _ _ => rfl⟩
  refine wp_region_U 18 (Sz D V R d (.slice pc M.objs.length cc) pv) (by kernel_rfl) ?_
  have HZ0 := hide (sz_of HS2.out HW1.out.blk F0)
  clear HT HT1
  refine uh 0 (.pointer (some ⟨R, 0, none⟩)) HZ0.out ?_ (hQ := fun _ _ _ h => HP.out _ _ _ _ h)
  refine uh 1 (.pointer (some ⟨R, 0, none⟩)) HZ0.out ?_ (hQ := fun _ _ _ h => HP.out _ _ _ _ h)
  refine uh 2 (.pointer (some ⟨R, 0, none⟩)) HZ0.out ?_ (hQ := fun _ _ _ h => HP.out _ _ _ _ h)
  refine uh 3 (.pointer (some ⟨R, 0, none⟩)) HZ0.out ?_ (hQ := fun _ _ _ h => HP.out _ _ _ _ h)
  refine uh 4 (.pointer (some ⟨R, 0, none⟩)) HZ0.out ?_ (hQ := fun _ _ _ h => HP.out _ _ _ _ h)
  refine ug 5 (.slice pc M.objs.length cc) rfl (Or.inl ⟨by kernel_rfl, fun W hW => by have h0 := hW.r0; clear hW; go_simp⟩) HZ0.out ?_ (hQ := fun _ _ _ h => HP.out _ _ _ _ h)
  refine uh 6 (.pointer (some ⟨D, 4, none⟩)) HZ0.out ?_ (hQ := fun _ _ _ h => HP.out _ _ _ _ h)
  refine ug 7 (.int .i64 d.kind) rfl (Or.inl ⟨by kernel_rfl, fun W hW => by have h0 := hW.dv.d4; clear hW; go_simp⟩) HZ0.out ?_ (hQ := fun _ _ _ h => HP.out _ _ _ _ h)
  refine uh 10 (.pointer (some ⟨R, 0, none⟩)) HZ0.out ?_ (hQ := fun _ _ _ h => HP.out _ _ _ _ h)
  refine uh 11 (.pointer (some ⟨R, 0, none⟩)) HZ0.out ?_ (hQ := fun _ _ _ h => HP.out _ _ _ _ h)
  refine uh 12 (.pointer (some ⟨R, 1, none⟩)) HZ0.out ?_ (hQ := fun _ _ _ h => HP.out _ _ _ _ h)
  refine ug 13 pv rfl (Or.inl ⟨by kernel_rfl, fun W hW => by have h0 := hW.r1; clear hW; go_simp⟩) HZ0.out ?_ (hQ := fun _ _ _ h => HP.out _ _ _ _ h)
  refine uq2 8 14 (fun K hK => ?a8) fun K hK => ?a14
  case a14 =>
    go_simp
    have F1 : FrT [3, 90] R w1 ((w1.drew).alloc (.cells #[.slice none 0 0] 90)) := F0.trans (FrT.of ((Below.refl _ _).alloc (Nat.le_refl _) _) (Nat.le_trans (Nat.le_of_lt hRl1) F0.below.size))
    have B14 : ((w1.drew).alloc (.cells #[.slice none 0 0] 90)).heap[w1.heap.size]? = some (.cells #[.slice none 0 0] 90) := heap_alloc_new _ _
    have G1 : w1.grownBy ((w1.drew).alloc (.cells #[.slice none 0 0] 90)) (Value.slice pc M.objs.length cc).ownBlock := grown_trans G0 (World.grownBy_alloc _ _ _)
    refine hK.out _ _ (fun _ => sz_of HS2.out HW1.out.blk F1) ?_
    clear hK K
    refine uq1 8 fun K hK => ?_
    go_simp
    have F2 : FrT [3, 90] R w1 (((w1.drew).alloc (.cells #[.slice none 0 0] 90)).alloc (.cells #[.int .i64 d.kind] 3)) := F1.trans (FrT.of ((Below.refl _ _).alloc (Nat.le_refl _) _) (Nat.le_trans (Nat.le_of_lt hRl1) F1.below.size))
    have B8 : (((w1.drew).alloc (.cells #[.slice none 0 0] 90)).alloc (.cells #[.int .i64 d.kind] 3)).heap[w1.heap.size + 1]? = some (.cells #[.int .i64 d.kind] 3) := by have h := heap_alloc_new ((w1.drew).alloc (.cells #[.slice none 0 0] 90)) (.cells #[.int .i64 d.kind] 3); rwa [show ((w1.drew).alloc (.cells #[.slice none 0 0] 90)).heap.size = w1.heap.size + 1 by simp] at h
    have B14_2 := (((Below.refl _ ((w1.drew).alloc (.cells #[.slice none 0 0] 90))).alloc (Nat.le_refl _) (.cells #[.int .i64 d.kind] 3)).block _ (lt_of_block B14)).trans B14
    have G2 : w1.grownBy (((w1.drew).alloc (.cells #[.slice none 0 0] 90)).alloc (.cells #[.int .i64 d.kind] 3)) (Value.slice pc M.objs.length cc).ownBlock := grown_trans G1 (World.grownBy_alloc _ _ _)
    refine hK.out _ _ (fun _ => sz_of HS2.out HW1.out.blk F2) ?_
    clear hK K
    refine uq1 9 fun K hK => ?_
    have R9 : (((w1.drew).alloc (.cells #[.slice none 0 0] 90)).alloc (.cells #[.int .i64 d.kind] 3)).ownsRow R 3 1 (.slice pc M.objs.length cc) M.objs.length (M.objs.map fun o => .int .i64 o.code) := (HW1.out.co.drew.alloc _).alloc _
    refine step_append_lies _ rfl _ _ 28 rfl R 3 ia _ 1 8 Tryd.underlying28 ha0 ha1 ha2 ha3 rfl (by decide) _ _ _ rfl R9 ⟨w1.heap.size + 1, 0, none⟩ 1 1 [.int .i64 d.kind] rfl rfl (one_of_block B8) (by intro u hu; rw [List.mem_singleton.1 hu]; rfl) (by decide) (by have := HSM.out; have := HK.out; unfold maxLen; omega) (by have := HSM.out; have := HK.out; omega) (Nat.le_trans (Nat.le_of_lt hRl1) F2.below.size) _ rfl ?_
    intro g9 c9 w9 hown9 hgr9 hg9 _
    have G9 : w1.grownBy w9 (Value.slice pc M.objs.length cc).ownBlock := grown_trans G2 hgr9
    have F9 : FrT [3, 90] R w1 w9 := FrT.grown G9 (Nat.le_of_lt hRl1) fun q hq => by
      obtain ⟨cq, hcq⟩ := row_tag HW1.out.co hq
      exact ⟨(HW1.out.co.lt q hq).1, cq, 3, hcq, by simp⟩
    have B14_9 : w9.heap[w1.heap.size]? = some (.cells #[.slice none 0 0] 90) := (hgr9.block _ (lt_of_block B14_2) (fun e => by
      obtain ⟨cq, hcq⟩ := row_tag R9 e.symm
      exact tags_ne hcq B14_2 (by decide) rfl)).trans B14_2
    refine hK.out _ _ (fun _ => sz_of HS2.out HW1.out.blk F9) ?_
    clear hK K
    refine uq1 15 fun K hK => ?_
    have R15 : (w9).ownsRow R 90 1 pv M.objs.length (flat (M.objs.map Ob.r) ps) := by
      have h9 := row_keep (B := R) HROW.out (FrT.grown G9 (T := [3]) (Nat.le_of_lt hRl1) fun q hq => by
        obtain ⟨cq, hcq⟩ := row_tag HW1.out.co hq
        exact ⟨(HW1.out.co.lt q hq).1, cq, 3, hcq, by simp⟩) (by decide)
      exact h9
    refine step_append_lies _ rfl _ _ 29 rfl R 90 ib _ 1 24 Tryd.underlying29 hb0 hb1 hb2 hb3 rfl (by decide) _ _ _ rfl R15 ⟨w1.heap.size, 0, none⟩ 1 1 [.slice none 0 0] rfl rfl (one_of_block B14_9) (by intro u hu; rw [List.mem_singleton.1 hu]; rfl) (by decide) (by have := HSM.out; have := HK.out; unfold maxLen; omega) (by have := HSM.out; have := HK.out; omega) (Nat.le_trans (Nat.le_of_lt hRl1) F9.below.size) _ rfl ?_
    intro g15 c15 w15 hown15 hgr15 hg15 _
    have G15 : w9.grownBy w15 pv.ownBlock := hgr15
    have F15 : FrT [3, 90] R w1 w15 := F9.trans (FrT.grown G15 (Nat.le_trans (Nat.le_of_lt hRl1) F9.below.size) fun q hq => by
      have h9 := row_keep (B := R) HROW.out (FrT.grown G9 (T := [3]) (Nat.le_of_lt hRl1) fun q hq => by
        obtain ⟨cq, hcq⟩ := row_tag HW1.out.co hq
        exact ⟨(HW1.out.co.lt q hq).1, cq, 3, hcq, by simp⟩) (by decide)
      obtain ⟨cq, hcq⟩ := row_tag h9 hq
      exact ⟨(h9.lt q hq).1, cq, 90, hcq, by simp⟩)
    have b15 := F15.rest _ _ 32 HW1.out.blk (by decide)
    have HZ := hide (HW1.out.pushO d.kind (cv' := .slice (some ⟨g9, 0, none⟩) (M.objs.length + 1) c9) (pv' := .slice (some ⟨g15, 0, none⟩) (M.objs.length + 1) c15) G9 hown9 G15 hown15)
    have HFIN := hide (HS2.out.r ⟨_, _, _, _, _, HZ.out.1⟩ HZ.out.2)
    have j0 : w15.cell? ⟨R, 0, none⟩ = some (.slice pc M.objs.length cc) := by simp [World.cell?, b15]
    have jf : w15.frozen? ⟨R, 0, none⟩ = false := by simp [World.frozen?, b15]
    have j1 : w15.cell? ⟨R, 1, none⟩ = some pv := by simp [World.cell?, b15]
    have jg : w15.frozen? ⟨R, 1, none⟩ = false := by simp [World.frozen?, b15]
    have jl : R < w15.heap.size := lt_of_block b15
    refine hK.out _ _ (fun _ => sz_of HS2.out HW1.out.blk F15) ?_
    have S15 := hide (sz_of HS2.out HW1.out.blk F15)
    clear hK K
    refine uh 16 (.pointer (some ⟨R, 0, none⟩)) S15.out ?_ (hQ := fun _ _ _ h => HP.out _ _ _ _ h)
    refine uh 17 (.pointer (some ⟨R, 0, none⟩)) S15.out ?_ (hQ := fun _ _ _ h => HP.out _ _ _ _ h)
    clear b15 G15 F15 G9 F9 hown9 hown15 hgr9 hgr15 hg9 hg15 R9 R15 F0 G0 k0 k1
    refine uq1 18 fun K hK => ?_
    go_simp
    refine hK.out _ _ (fun e => ?_) ?_
    · exact Bool.noConfusion ((show _ = true by kernel_rfl : _).symm.trans e)
    clear hK K
    refine uz 19 (.pointer (some ⟨R, 0, none⟩)) ?_ (hQ := fun _ _ _ h => HP.out _ _ _ _ h)
    refine uz 20 (.pointer (some ⟨R, 1, none⟩)) ?_ (hQ := fun _ _ _ h => HP.out _ _ _ _ h)
    refine uq1 21 fun K hK => ?_
    go_simp
    refine hK.out _ _ (fun e => ?_) ?_
    · exact Bool.noConfusion ((show _ = true by kernel_rfl : _).symm.trans e)
    clear hK K
    refine udone (by kernel_rfl) ?_ _
    go_simp
    go_wp2_with fail
    exact fin Q .normal _ rfl rfl rfl rfl rfl rfl rfl (HQ.out _ _ _ _ rfl rfl HI.out HFIN.out)
  case a8 =>
    go_simp
    have F1 : FrT [3, 90] R w1 ((w1.drew).alloc (.cells #[.int .i64 d.kind] 3)) := F0.trans (FrT.of ((Below.refl _ _).alloc (Nat.le_refl _) _) (Nat.le_trans (Nat.le_of_lt hRl1) F0.below.size))
    have B8 : ((w1.drew).alloc (.cells #[.int .i64 d.kind] 3)).heap[w1.heap.size]? = some (.cells #[.int .i64 d.kind] 3) := heap_alloc_new _ _
    have G1 : w1.grownBy ((w1.drew).alloc (.cells #[.int .i64 d.kind] 3)) (Value.slice pc M.objs.length cc).ownBlock := grown_trans G0 (World.grownBy_alloc _ _ _)
    refine hK.out _ _ (fun _ => sz_of HS2.out HW1.out.blk F1) ?_
    clear hK K
    refine uq2 9 14 (fun K hK => ?b9) fun K hK => ?b14
    case b9 =>
      have R9 : ((w1.drew).alloc (.cells #[.int .i64 d.kind] 3)).ownsRow R 3 1 (.slice pc M.objs.length cc) M.objs.length (M.objs.map fun o => .int .i64 o.code) := HW1.out.co.drew.alloc _
      refine step_append_lies _ rfl _ _ 28 rfl R 3 ia _ 1 8 Tryd.underlying28 ha0 ha1 ha2 ha3 rfl (by decide) _ _ _ rfl R9 ⟨w1.heap.size, 0, none⟩ 1 1 [.int .i64 d.kind] rfl rfl (one_of_block B8) (by intro u hu; rw [List.mem_singleton.1 hu]; rfl) (by decide) (by have := HSM.out; have := HK.out; unfold maxLen; omega) (by have := HSM.out; have := HK.out; omega) (Nat.le_trans (Nat.le_of_lt hRl1) F1.below.size) _ rfl ?_
      intro g9 c9 w9 hown9 hgr9 hg9 _
      have G9 : w1.grownBy w9 (Value.slice pc M.objs.length cc).ownBlock := grown_trans G1 hgr9
      have F9 : FrT [3, 90] R w1 w9 := FrT.grown G9 (Nat.le_of_lt hRl1) fun q hq => by
        obtain ⟨cq, hcq⟩ := row_tag HW1.out.co hq
        exact ⟨(HW1.out.co.lt q hq).1, cq, 3, hcq, by simp⟩
      refine hK.out _ _ (fun _ => sz_of HS2.out HW1.out.blk F9) ?_
      clear hK K
      refine uq1 14 fun K hK => ?_
      go_simp
      have F3 : FrT [3, 90] R w1 ((w9).alloc (.cells #[.slice none 0 0] 90)) := F9.trans (FrT.of ((Below.refl _ _).alloc (Nat.le_refl _) _) (Nat.le_trans (Nat.le_of_lt hRl1) F9.below.size))
      have B14 : ((w9).alloc (.cells #[.slice none 0 0] 90)).heap[(w9).heap.size]? = some (.cells #[.slice none 0 0] 90) := heap_alloc_new _ _
      have G3 : w9.grownBy ((w9).alloc (.cells #[.slice none 0 0] 90)) pv.ownBlock := World.grownBy_alloc _ _ _
      refine hK.out _ _ (fun _ => sz_of HS2.out HW1.out.blk F3) ?_
      clear hK K
      refine uq1 15 fun K hK => ?_
      have R15 : ((w9).alloc (.cells #[.slice none 0 0] 90)).ownsRow R 90 1 pv M.objs.length (flat (M.objs.map Ob.r) ps) := by
        have h9 := row_keep (B := R) HROW.out (FrT.grown G9 (T := [3]) (Nat.le_of_lt hRl1) fun q hq => by
          obtain ⟨cq, hcq⟩ := row_tag HW1.out.co hq
          exact ⟨(HW1.out.co.lt q hq).1, cq, 3, hcq, by simp⟩) (by decide)
        exact h9.alloc _
      refine step_append_lies _ rfl _ _ 29 rfl R 90 ib _ 1 24 Tryd.underlying29 hb0 hb1 hb2 hb3 rfl (by decide) _ _ _ rfl R15 ⟨(w9).heap.size, 0, none⟩ 1 1 [.slice none 0 0] rfl rfl (one_of_block B14) (by intro u hu; rw [List.mem_singleton.1 hu]; rfl) (by decide) (by have := HSM.out; have := HK.out; unfold maxLen; omega) (by have := HSM.out; have := HK.out; omega) (Nat.le_trans (Nat.le_of_lt hRl1) F3.below.size) _ rfl ?_
      intro g15 c15 w15 hown15 hgr15 hg15 _
      have G15 : w9.grownBy w15 pv.ownBlock := grown_trans G3 hgr15
      have F15 : FrT [3, 90] R w1 w15 := F9.trans (FrT.grown G15 (Nat.le_trans (Nat.le_of_lt hRl1) F9.below.size) fun q hq => by
        have h9 := row_keep (B := R) HROW.out (FrT.grown G9 (T := [3]) (Nat.le_of_lt hRl1) fun q hq => by
          obtain ⟨cq, hcq⟩ := row_tag HW1.out.co hq
          exact ⟨(HW1.out.co.lt q hq).1, cq, 3, hcq, by simp⟩) (by decide)
        obtain ⟨cq, hcq⟩ := row_tag h9 hq
        exact ⟨(h9.lt q hq).1, cq, 90, hcq, by simp⟩)
      have b15 := F15.rest _ _ 32 HW1.out.blk (by decide)
      have HZ := hide (HW1.out.pushO d.kind (cv' := .slice (some ⟨g9, 0, none⟩) (M.objs.length + 1) c9) (pv' := .slice (some ⟨g15, 0, none⟩) (M.objs.length + 1) c15) G9 hown9 G15 hown15)
      have HFIN := hide (HS2.out.r ⟨_, _, _, _, _, HZ.out.1⟩ HZ.out.2)
      have j0 : w15.cell? ⟨R, 0, none⟩ = some (.slice pc M.objs.length cc) := by simp [World.cell?, b15]
      have jf : w15.frozen? ⟨R, 0, none⟩ = false := by simp [World.frozen?, b15]
      have j1 : w15.cell? ⟨R, 1, none⟩ = some pv := by simp [World.cell?, b15]
      have jg : w15.frozen? ⟨R, 1, none⟩ = false := by simp [World.frozen?, b15]
      have jl : R < w15.heap.size := lt_of_block b15
      refine hK.out _ _ (fun _ => sz_of HS2.out HW1.out.blk F15) ?_
      have S15 := hide (sz_of HS2.out HW1.out.blk F15)
      clear hK K
      refine uh 16 (.pointer (some ⟨R, 0, none⟩)) S15.out ?_ (hQ := fun _ _ _ h => HP.out _ _ _ _ h)
      refine uh 17 (.pointer (some ⟨R, 0, none⟩)) S15.out ?_ (hQ := fun _ _ _ h => HP.out _ _ _ _ h)
      clear b15 G15 F15 G9 F9 hown9 hown15 hgr9 hgr15 hg9 hg15 R9 R15 F0 G0 k0 k1
      refine uq1 18 fun K hK => ?_
      go_simp
      refine hK.out _ _ (fun e => ?_) ?_
      · exact Bool.noConfusion ((show _ = true by kernel_rfl : _).symm.trans e)
      clear hK K
      refine uz 19 (.pointer (some ⟨R, 0, none⟩)) ?_ (hQ := fun _ _ _ h => HP.out _ _ _ _ h)
      refine uz 20 (.pointer (some ⟨R, 1, none⟩)) ?_ (hQ := fun _ _ _ h => HP.out _ _ _ _ h)
      refine uq1 21 fun K hK => ?_
      go_simp
      refine hK.out _ _ (fun e => ?_) ?_
      · exact Bool.noConfusion ((show _ = true by kernel_rfl : _).symm.trans e)
      clear hK K
      refine udone (by kernel_rfl) ?_ _
      go_simp
      go_wp2_with fail
      exact fin Q .normal _ rfl rfl rfl rfl rfl rfl rfl (HQ.out _ _ _ _ rfl rfl HI.out HFIN.out)
    case b14 =>
      go_simp
      have F2 : FrT [3, 90] R w1 (((w1.drew).alloc (.cells #[.int .i64 d.kind] 3)).alloc (.cells #[.slice none 0 0] 90)) := F1.trans (FrT.of ((Below.refl _ _).alloc (Nat.le_refl _) _) (Nat.le_trans (Nat.le_of_lt hRl1) F1.below.size))
      have B14 : (((w1.drew).alloc (.cells #[.int .i64 d.kind] 3)).alloc (.cells #[.slice none 0 0] 90)).heap[w1.heap.size + 1]? = some (.cells #[.slice none 0 0] 90) := by have h := heap_alloc_new ((w1.drew).alloc (.cells #[.int .i64 d.kind] 3)) (.cells #[.slice none 0 0] 90); rwa [show ((w1.drew).alloc (.cells #[.int .i64 d.kind] 3)).heap.size = w1.heap.size + 1 by simp] at h
      have B8_2 := (((Below.refl _ ((w1.drew).alloc (.cells #[.int .i64 d.kind] 3))).alloc (Nat.le_refl _) (.cells #[.slice none 0 0] 90)).block _ (lt_of_block B8)).trans B8
      have G2 : w1.grownBy (((w1.drew).alloc (.cells #[.int .i64 d.kind] 3)).alloc (.cells #[.slice none 0 0] 90)) (Value.slice pc M.objs.length cc).ownBlock := grown_trans G1 (World.grownBy_alloc _ _ _)
      refine hK.out _ _ (fun _ => sz_of HS2.out HW1.out.blk F2) ?_
      clear hK K
      refine uq1 9 fun K hK => ?_
      have R9 : (((w1.drew).alloc (.cells #[.int .i64 d.kind] 3)).alloc (.cells #[.slice none 0 0] 90)).ownsRow R 3 1 (.slice pc M.objs.length cc) M.objs.length (M.objs.map fun o => .int .i64 o.code) := (HW1.out.co.drew.alloc _).alloc _
      refine step_append_lies _ rfl _ _ 28 rfl R 3 ia _ 1 8 Tryd.underlying28 ha0 ha1 ha2 ha3 rfl (by decide) _ _ _ rfl R9 ⟨w1.heap.size, 0, none⟩ 1 1 [.int .i64 d.kind] rfl rfl (one_of_block B8_2) (by intro u hu; rw [List.mem_singleton.1 hu]; rfl) (by decide) (by have := HSM.out; have := HK.out; unfold maxLen; omega) (by have := HSM.out; have := HK.out; omega) (Nat.le_trans (Nat.le_of_lt hRl1) F2.below.size) _ rfl ?_
      intro g9 c9 w9 hown9 hgr9 hg9 _
      have G9 : w1.grownBy w9 (Value.slice pc M.objs.length cc).ownBlock := grown_trans G2 hgr9
      have F9 : FrT [3, 90] R w1 w9 := FrT.grown G9 (Nat.le_of_lt hRl1) fun q hq => by
        obtain ⟨cq, hcq⟩ := row_tag HW1.out.co hq
        exact ⟨(HW1.out.co.lt q hq).1, cq, 3, hcq, by simp⟩
      have B14_9 : w9.heap[w1.heap.size + 1]? = some (.cells #[.slice none 0 0] 90) := (hgr9.block _ (lt_of_block B14) (fun e => by
        obtain ⟨cq, hcq⟩ := row_tag R9 e.symm
        exact tags_ne hcq B14 (by decide) rfl)).trans B14
      refine hK.out _ _ (fun _ => sz_of HS2.out HW1.out.blk F9) ?_
      clear hK K
      refine uq1 15 fun K hK => ?_
      have R15 : (w9).ownsRow R 90 1 pv M.objs.length (flat (M.objs.map Ob.r) ps) := by
        have h9 := row_keep (B := R) HROW.out (FrT.grown G9 (T := [3]) (Nat.le_of_lt hRl1) fun q hq => by
          obtain ⟨cq, hcq⟩ := row_tag HW1.out.co hq
          exact ⟨(HW1.out.co.lt q hq).1, cq, 3, hcq, by simp⟩) (by decide)
        exact h9
      refine step_append_lies _ rfl _ _ 29 rfl R 90 ib _ 1 24 Tryd.underlying29 hb0 hb1 hb2 hb3 rfl (by decide) _ _ _ rfl R15 ⟨w1.heap.size + 1, 0, none⟩ 1 1 [.slice none 0 0] rfl rfl (one_of_block B14_9) (by intro u hu; rw [List.mem_singleton.1 hu]; rfl) (by decide) (by have := HSM.out; have := HK.out; unfold maxLen; omega) (by have := HSM.out; have := HK.out; omega) (Nat.le_trans (Nat.le_of_lt hRl1) F9.below.size) _ rfl ?_
      intro g15 c15 w15 hown15 hgr15 hg15 _
      have G15 : w9.grownBy w15 pv.ownBlock := hgr15
      have F15 : FrT [3, 90] R w1 w15 := F9.trans (FrT.grown G15 (Nat.le_trans (Nat.le_of_lt hRl1) F9.below.size) fun q hq => by
        have h9 := row_keep (B := R) HROW.out (FrT.grown G9 (T := [3]) (Nat.le_of_lt hRl1) fun q hq => by
          obtain ⟨cq, hcq⟩ := row_tag HW1.out.co hq
          exact ⟨(HW1.out.co.lt q hq).1, cq, 3, hcq, by simp⟩) (by decide)
        obtain ⟨cq, hcq⟩ := row_tag h9 hq
        exact ⟨(h9.lt q hq).1, cq, 90, hcq, by simp⟩)
      have b15 := F15.rest _ _ 32 HW1.out.blk (by decide)
      have HZ := hide (HW1.out.pushO d.kind (cv' := .slice (some ⟨g9, 0, none⟩) (M.objs.length + 1) c9) (pv' := .slice (some ⟨g15, 0, none⟩) (M.objs.length + 1) c15) G9 hown9 G15 hown15)
      have HFIN := hide (HS2.out.r ⟨_, _, _, _, _, HZ.out.1⟩ HZ.out.2)
      have j0 : w15.cell? ⟨R, 0, none⟩ = some (.slice pc M.objs.length cc) := by simp [World.cell?, b15]
      have jf : w15.frozen? ⟨R, 0, none⟩ = false := by simp [World.frozen?, b15]
      have j1 : w15.cell? ⟨R, 1, none⟩ = some pv := by simp [World.cell?, b15]
      have jg : w15.frozen? ⟨R, 1, none⟩ = false := by simp [World.frozen?, b15]
      have jl : R < w15.heap.size := lt_of_block b15
      refine hK.out _ _ (fun _ => sz_of HS2.out HW1.out.blk F15) ?_
      have S15 := hide (sz_of HS2.out HW1.out.blk F15)
      clear hK K
      refine uh 16 (.pointer (some ⟨R, 0, none⟩)) S15.out ?_ (hQ := fun _ _ _ h => HP.out _ _ _ _ h)
      refine uh 17 (.pointer (some ⟨R, 0, none⟩)) S15.out ?_ (hQ := fun _ _ _ h => HP.out _ _ _ _ h)
      clear b15 G15 F15 G9 F9 hown9 hown15 hgr9 hgr15 hg9 hg15 R9 R15 F0 G0 k0 k1
      refine uq1 18 fun K hK => ?_
      go_simp
      refine hK.out _ _ (fun e => ?_) ?_
      · exact Bool.noConfusion ((show _ = true by kernel_rfl : _).symm.trans e)
      clear hK K
      refine uz 19 (.pointer (some ⟨R, 0, none⟩)) ?_ (hQ := fun _ _ _ h => HP.out _ _ _ _ h)
      refine uz 20 (.pointer (some ⟨R, 1, none⟩)) ?_ (hQ := fun _ _ _ h => HP.out _ _ _ _ h)
      refine uq1 21 fun K hK => ?_
      go_simp
      refine hK.out _ _ (fun e => ?_) ?_
      · exact Bool.noConfusion ((show _ = true by kernel_rfl : _).symm.trans e)
      clear hK K
      refine udone (by kernel_rfl) ?_ _
      go_simp
      go_wp2_with fail
      exact fin Q .normal _ rfl rfl rfl rfl rfl rfl rfl (HQ.out _ _ _ _ rfl rfl HI.out HFIN.out)
end
end Go.Proofs.YtomogijjkdiomaaDoor
