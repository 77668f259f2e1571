/-
  The document's parser: values.
-/
import Derived.Test.YtoimgcjbcbhclaaGreatDoorRn21
namespace Go.Proofs.YtoimgcjbcbhclaaGreatDoor.Old
open Go.RowKit
abbrev lvO : Obj := .cells #[.string tOr, .string tAnd, .string tSame, .string tLess, .string tPM, .string tMul] 9
set_option maxRecDepth 100000 in
set_option maxHeartbeats 2000000 in
theorem rvalue_any {c : PC} {F : Fns} (hF : RCt c F) (w : World) (d i : Nat) (r : PR Tr) (hd : d ≤ 30) (hs : r = zq2 c.l (zb7 c.l F) d i) (ho : r ≠ .out) (h : Ps c w i 0 (-1)) :
  Calls Tryz.prog 193 #[pPtr c, .int .i64 ((d : Int) + 1)] w (zj3 c w (NV w.heap.size) ZN r) := by
 have HC := qh (zk8 h)
 have HO := qh ho
 have HLT := qh h.rlt
 have HP := qh h
 unfold zq2 at hs
 by_cases h30 : d = 30
 ·
  rw [if_pos h30] at hs; have hq : r = .bad 4 (tkA c.l i).pl := hs; subst hq; subst h30; have HC2 := qh (zwz c w i 4 (by decide) h); clear h hs ho hF; go_enter Tryz.func193, Tryz.ntmps193; go_wp2_with fail
  refine cm HC.out ?_; rintro e w1 ⟨rfl, rfl⟩; clear HC; go_wp2_with fail; refine cm HC2.out ?_; rintro e w2 ⟨⟨v, rfl, q, rfl⟩, hp, he, ha⟩; have HP2 := qh hp; have HA2 := qh ha; clear hp ha HC2 HP; go_wp2_with fail
  go_ret; exact ⟨⟨_, rfl, _, rfl⟩, HP2.out, he, HA2.out⟩
 ·
  rw [if_neg h30] at hs; have hd2 : d + 1 ≤ 30 := by omega
  have hdd : decide ((30 : Int) < (d : Int) + 1) = false := decide_eq_false (by omega); unfold zb7 at hs; have h1 := h.c1; have f1 := h.fz 1; have hR := h.rlt; have HS := qh hs; have HF := qh hF; have HH := qh h
  have hcast : (((d + 1 : Nat) : Nat) : Int) = (d : Int) + 1 := by omega
  have HCP := qh (fun r hr ho => hF.pr (w.alloc lvO) (d + 1) i r w.heap.size hd2 hr ho (h.alloc lvO) (zqx _ _) (Nat.ne_of_gt h.rlt)); rw [hcast] at HCP
  have HAL : Hid (Ap c.P w.heap.size w (w.alloc lvO)) := (Ap.refl c.P w.heap.size w).alloc qv _; clear h hs ho hF h30 hcast
  cases hr : F.pr 2 (d + 1) i with
  | out => rw [hr] at HS; exact absurd HS.out HO.out
  | bad er pl =>
   have HC2 := qh (HCP.out _ hr.symm (by nofun)); rw [hr] at HS; have hq : r = .bad er pl := zzq HS; subst hq; clear hr HCP HS; go_enter Tryz.func193, Tryz.ntmps193; go_wp2_with fail; refine cm HC.out ?_
   rintro e w1 ⟨rfl, rfl⟩; clear HC; go_wp2_with fail; refine cm HC2.out ?_; rintro e w2 ⟨⟨v, rfl, q, rfl⟩, ⟨j, hp⟩, he, ha⟩; have HP2 := qh hp; have HA2 := qh (HAL.out.next ha)
   have HC3 := qh (rnext_old c w2 j er pl he tEq hp); clear hp ha HC2 HAL h1 f1; go_wp2_with fail; refine cm HC3.out ?_; rintro e w3 ⟨rfl, hb⟩; have HP3 := qh (HP2.out.later hb)
   have HA3 := qh (HA2.out.next (Ap.of hb)); clear hb HC3; go_wp2_with fail; go_ret; exact ⟨⟨_, rfl, _, rfl⟩, ⟨j, HP3.out⟩, he, HA3.out⟩
  | ok t i1 =>
   have HC2 := qh (HCP.out _ hr.symm (by nofun)); rw [hr] at HS
   have HS2 : Hid (r = if fx c.l i1 = tEq then (if t.kd = 23 ∨ t.kd = 36 then (zq2 c.l F.vl (d + 1) (i1 + 1)).bind fun v i2 => .ok (.mk 24 zzx 0 [t, v]) i2 else badF c.l 1 i) else .ok t i1) := zzq HS
   clear hr HCP HS; go_enter Tryz.func193, Tryz.ntmps193; go_wp2_with fail; refine cm HC.out ?_; rintro e w1 ⟨rfl, rfl⟩; clear HC; go_wp2_with fail; refine cm HC2.out ?_; rintro e w2 ⟨⟨v, rfl, q, rfl, hn⟩, hp, ha⟩
   have HP2 := qh hp; have HA2 := qh (HAL.out.next ha); have HN2 : Hid (NV w1.heap.size w2 t (nPtr q)) := NV.mono ⟨q, rfl, hn⟩ HAL.out.size; have HC3 := qh (zzy c w2 i1 tEq (by decide) hp)
   have hfl := zbz hp.base.ends hp.lt (s := tEq); have HFL := qh hfl; clear hp ha hn HC2 HAL h1 f1 hR hfl
   by_cases hx : fx c.l i1 = tEq
   ·
    rw [decide_eq_true hx] at HC3; rw [if_pos hx] at HS2; have hl := HFL.out hx (by decide); clear hx HFL; go_wp2_with fail; refine cm HC3.out ?_; rintro e w3 ⟨rfl, hb⟩; have HP3 := qh (HP2.out.later hb)
    have HA3 := qh (HA2.out.next (Ap.of hb)); have HN3 := qh (NV.later HN2.out (Ap.of (R := c.P) hb) HLT.out); clear hb HC3 HN2 HP2 HA2; obtain ⟨u0, ps0, hblk, _⟩ := NAt.opens (zb2 HN3.out)
    have kk : w3.cell? ⟨q, 0, none⟩ = some (.int .i64 t.kd) := by rw [zqy hblk]; rfl
    have hql := zzz hblk; have h1 := HP3.out.c1; have f1 := HP3.out.fz 1; have hR := HP3.out.rlt; have hl3 := HP3.out.base.len; have hlt : (i1 : Int) < (c.l.length : Int) := by have := HP3.out.lt; omega
    clear hblk
    by_cases ht : t.kd = 23 ∨ t.kd = 36
    ·
     rw [if_pos ht] at HS2; have hnj : ((i1 : Int) + 1) = (((i1 + 1 : Nat)) : Int) := by omega
     have HP4 : Hid (Ps c (w3.setCell ⟨c.P, 1, none⟩ (.int .i64 ((i1 : Int) + 1))) (i1 + 1) 0 (-1)) := by rw [hnj]; exact HP3.out.step hl
     have HA4 : Hid (Ap c.P w1.heap.size w1 (w3.setCell ⟨c.P, 1, none⟩ (.int .i64 ((i1 : Int) + 1)))) := HA3.out.setCell (p := ⟨c.P, 1, none⟩) (Or.inr rfl) _
     have HN4 : Hid (NV w1.heap.size (w3.setCell ⟨c.P, 1, none⟩ (.int .i64 ((i1 : Int) + 1))) t (nPtr q)) := NV.later HN3.out ((Ap.refl c.P w3.heap.size w3).setCell (p := ⟨c.P, 1, none⟩) (Or.inr rfl) _) HLT.out
     have hcast2 : ((d + 1 : Nat) : Int) + 1 = (d : Int) + 1 + 1 := by omega
     cases hr2 : zq2 c.l F.vl (d + 1) (i1 + 1) with
     | out => rw [hr2] at HS2; exact absurd HS2.out HO.out
     | bad er pl =>
      have hc4 := HF.out.vl _ (d + 1) (i1 + 1) _ hd2 hr2.symm (by nofun) HP4.out; rw [hcast2] at hc4; have HC4 := qh hc4; rw [hr2] at HS2; have hq : r = .bad er pl := zzq HS2; subst hq; clear hr2 HS2 hc4 hcast2 hnj
      rcases ht with ht | ht
      ·
       have b1 : (t.kd != 23) = false := by rw [ht]; rfl
       clear ht; go_wp2_with fail; refine cm HC4.out ?_; rintro e w4 ⟨⟨v, rfl, q4, rfl⟩, ⟨j4, hp4⟩, he, ha4⟩; have HP5 := qh hp4; have HA5 := qh (HA4.out.next ha4); clear hp4 ha4 HC4 kk h1 f1; go_wp2_with fail; go_ret
       exact ⟨⟨_, rfl, _, rfl⟩, ⟨j4, (HP5.out.alloc _).alloc _⟩, he, (HA5.out.alloc HA5.out.size _).alloc (by have := HA5.out.size; simp; omega) _⟩
      ·
       have b1 : (t.kd != 23) = true := by rw [ht]; rfl
       have b2 : (t.kd != 36) = false := by rw [ht]; rfl
       clear ht; go_wp2_with fail; refine cm HC4.out ?_; rintro e w4 ⟨⟨v, rfl, q4, rfl⟩, ⟨j4, hp4⟩, he, ha4⟩; have HP5 := qh hp4; have HA5 := qh (HA4.out.next ha4); clear hp4 ha4 HC4 kk h1 f1; go_wp2_with fail; go_ret
       exact ⟨⟨_, rfl, _, rfl⟩, ⟨j4, (HP5.out.alloc _).alloc _⟩, he, (HA5.out.alloc HA5.out.size _).alloc (by have := HA5.out.size; simp; omega) _⟩
     | ok v j2 =>
      have hc4 := HF.out.vl _ (d + 1) (i1 + 1) _ hd2 hr2.symm (by nofun) HP4.out; rw [hcast2] at hc4; have HC4 := qh hc4; rw [hr2] at HS2; have hq : r = .ok (.mk 24 zzx 0 [t, v]) j2 := zzq HS2; subst hq
      clear hr2 HS2 hc4 hcast2 hnj
      rcases ht with ht | ht
      ·
       have b1 : (t.kd != 23) = false := by rw [ht]; rfl
       clear ht; go_wp2_with fail; refine cm HC4.out ?_; rintro e w4 ⟨⟨v', rfl, q4, rfl, hn4⟩, hp4, ha4⟩; have HP5 := qh hp4; have HA5 := qh (HA4.out.next ha4); have HN5 := qh (zb2 (NV.later HN4.out ha4 HLT.out))
       have HV5 : Hid (NAt (fun b => w1.heap.size ≤ b) w4 v q4) := NAt.mono (fun b hb _ => Nat.le_trans HA4.out.size hb) _ _ hn4; clear hp4 ha4 hn4 HC4 kk h1 f1; go_wp2_with fail; go_ret
       exact ⟨⟨_, rfl, (zhx (NAts.cons HN5.out (NAts.cons HV5.out NAts.nil)) HA5.out.size (by simp [maxLen]) #[nPtr q, nPtr q4] rfl 2 rfl 24 zzx 0 _ rfl).nv⟩, (HP5.out.alloc _).alloc _, (HA5.out.alloc HA5.out.size _).alloc (by have := HA5.out.size; simp; omega) _⟩
      ·
       have b1 : (t.kd != 23) = true := by rw [ht]; rfl
       have b2 : (t.kd != 36) = false := by rw [ht]; rfl
       clear ht; go_wp2_with fail; refine cm HC4.out ?_; rintro e w4 ⟨⟨v', rfl, q4, rfl, hn4⟩, hp4, ha4⟩; have HP5 := qh hp4; have HA5 := qh (HA4.out.next ha4); have HN5 := qh (zb2 (NV.later HN4.out ha4 HLT.out))
       have HV5 : Hid (NAt (fun b => w1.heap.size ≤ b) w4 v q4) := NAt.mono (fun b hb _ => Nat.le_trans HA4.out.size hb) _ _ hn4; clear hp4 ha4 hn4 HC4 kk h1 f1; go_wp2_with fail; go_ret
       exact ⟨⟨_, rfl, (zhx (NAts.cons HN5.out (NAts.cons HV5.out NAts.nil)) HA5.out.size (by simp [maxLen]) #[nPtr q, nPtr q4] rfl 2 rfl 24 zzx 0 _ rfl).nv⟩, (HP5.out.alloc _).alloc _, (HA5.out.alloc HA5.out.size _).alloc (by have := HA5.out.size; simp; omega) _⟩
    ·
     rw [if_neg ht] at HS2; have hq : r = .bad 1 (tkA c.l i).pl := zzq HS2; subst hq; have b1 : (t.kd != 23) = true := bne_iff_ne.2 fun h => ht (Or.inl h)
     have b2 : (t.kd != 36) = true := bne_iff_ne.2 fun h => ht (Or.inr h); have HP4 : Hid (Ps c (w3.setCell ⟨c.P, 1, none⟩ (.int .i64 (i : Int))) i 0 (-1)) := HP3.out.step HH.out.lt
     have HA4 : Hid (Ap c.P w1.heap.size w1 (w3.setCell ⟨c.P, 1, none⟩ (.int .i64 (i : Int)))) := HA3.out.setCell (p := ⟨c.P, 1, none⟩) (Or.inr rfl) _; have HC4 := qh (zwz c _ i 1 (by decide) HP4.out); clear ht HS2
     go_wp2_with fail; refine cm HC4.out ?_; rintro e w4 ⟨⟨v, rfl, q4, rfl⟩, hp4, he, ha4⟩; have HP5 := qh hp4; have HA5 := qh (HA4.out.next ha4); clear hp4 ha4 HC4; go_wp2_with fail; go_ret
     exact ⟨⟨_, rfl, _, rfl⟩, HP5.out, he, HA5.out⟩
   ·
    rw [decide_eq_false hx] at HC3; rw [if_neg hx] at HS2; have hq : r = .ok t i1 := zzq HS2; subst hq; clear hx HFL HS2; go_wp2_with fail; refine cm HC3.out ?_; rintro e w3 ⟨rfl, hb⟩
    have HP3 := qh (HP2.out.later hb); have HA3 := qh (HA2.out.next (Ap.of hb)); have HN3 := qh (NV.later HN2.out (Ap.of (R := c.P) hb) HLT.out); clear hb HC3 HN2 HP2 HA2; go_wp2_with fail; go_ret
    exact ⟨⟨_, rfl, HN3.out⟩, HP3.out, HA3.out⟩
end Go.Proofs.YtoimgcjbcbhclaaGreatDoor.Old
namespace Go.Proofs.YtoimgcjbcbhclaaGreatDoor.Old
open Go.RowKit
open Go.ChangeMaps (setBlock)
def uns : List (ByteArray × Int) := [(tNot, 32), (zhw, 33), (zhy, 34)]
def unM : Array MapEntry := zx5 (zj0 uns)
theorem un_sg (x : ByteArray) : (zxy uns x).map (fun k => k) = (sgP 1 x).map (·.kd) := by
 unfold zxy uns
 by_cases h1 : x = tNot
 ·
  subst h1; rfl
 ·
  by_cases h2 : x = zhw
  ·
   subst h2; rfl
  ·
   by_cases h3 : x = zhy
   ·
    subst h3; rfl
   ·
    have e1 : sgP 1 x = none := by
     cases hs : sgP 1 x with
     | none => rfl
     | some s =>
      unfold sgP at hs; rw [Option.filter_eq_some_iff] at hs; obtain ⟨q1, q2⟩ := hs; unfold sgOf at q1; have q3 : x = s.tx := by simpa using List.find?_some q1
      have q4 := List.mem_of_find?_eq_some q1; have q5 : s.parts = 1 := by simpa using q2
      have key : ∀ s ∈ sgs, s.parts = 1 → s.tx = tNot ∨ s.tx = zhw ∨ s.tx = zhy := by decide +kernel
      rcases key s q4 q5 with h | h | h
      ·
       exact absurd (q3.trans h) h1
      ·
       exact absurd (q3.trans h) h2
      ·
       exact absurd (q3.trans h) h3
    rw [e1]; simp [h1, h2, h3]
theorem uns_made (W : World) : ∃ m1 m2 : Array MapEntry,
  (Instr.makeMap 89 none).run Tryz.prog W = .ok (.map (some W.heap.size)) (W.alloc (.map #[] 0))
  ∧ (Instr.mapUpdate 89 (.map (some W.heap.size)) (.string tNot) (.int .i64 32)).run Tryz.prog (W.alloc (.map #[] 0)) = .ok () (W.alloc (.map m1 1))
  ∧ (Instr.mapUpdate 89 (.map (some W.heap.size)) (.string zhw) (.int .i64 33)).run Tryz.prog (W.alloc (.map m1 1)) = .ok () (W.alloc (.map m2 2))
  ∧ (Instr.mapUpdate 89 (.map (some W.heap.size)) (.string zhy) (.int .i64 34)).run Tryz.prog (W.alloc (.map m2 2)) = .ok () (W.alloc (.map unM 3))
  ∧ (Instr.range 89 (.map (some W.heap.size))).run Tryz.prog (W.alloc (.map unM 3)) = .ok (.pointer (some ⟨W.heap.size + 1, 0, none⟩)) ((W.alloc (.map unM 3)).alloc (.mapIter (some W.heap.size) 3 #[] 3)) := by
 refine ⟨zx5 (zj0 (uns.take 1)), zx5 (zj0 (uns.take 2)), mkMap 89 W, ?_, ?_, ?_, ?_⟩
 ·
  exact zx0 89 3 W [] tNot _ 0 _ _ rfl rfl rfl Tryz.underlying89 rfl
 ·
  exact zx0 89 3 W (zj0 (uns.take 1)) zhw _ 1 _ _ rfl rfl rfl Tryz.underlying89 (by decide +kernel)
 ·
  exact zx0 89 3 W (zj0 (uns.take 2)) zhy _ 2 _ _ rfl rfl rfl Tryz.underlying89 (by decide +kernel)
 ·
  have := run_range_map (P := Tryz.prog) (W.alloc (.map unM 3)) 89 9 3 W.heap.size unM 3 Tryz.underlying89 (zqx _ _); rw [World.size_alloc] at this; exact this
structure Itr (M : Nat) (seen : Array Nat) (W : World) : Prop where
 it : W.heap[M + 1]? = some (.mapIter (some M) 3 seen 3)
 mp : W.heap[M]? = some (.map unM 3)
theorem left_push (seen : Array Nat) (e : MapEntry) (he : e ∈ (leftOf unM seen).toList) : (leftOf unM (seen.push e.born)).size < (leftOf unM seen).size := by
 have h1 : leftOf unM (seen.push e.born) = (leftOf unM seen).filter (fun x => !(x.born == e.born)) := by
  unfold leftOf; rw [Array.filter_filter]
  congr 1
  funext x
  rw [Array.contains_push]
  cases (x.born == e.born) <;> cases seen.contains x.born <;> rfl
 rw [h1]
 generalize leftOf unM seen = L at he
 have h2 : (L.filter (fun x => !(x.born == e.born))).toList = L.toList.filter (fun x => !(x.born == e.born)) := Array.toList_filter
 have h3 : (L.toList.filter (fun x => !(x.born == e.born))).length < L.toList.length := List.length_filter_lt_length_iff_exists.2 ⟨e, he, by simp⟩
 rw [← h2] at h3
 rw [Array.length_toList, Array.length_toList] at h3; exact h3
theorem unM_mem {e : MapEntry} (h : e ∈ unM.toList) : (e.key = .string tNot ∧ e.val = .int .i64 32) ∨ (e.key = .string zhw ∧ e.val = .int .i64 33) ∨ (e.key = .string zhy ∧ e.val = .int .i64 34) := by
 have : unM.toList = [⟨.string tNot, .int .i64 32, 0⟩, ⟨.string zhw, .int .i64 33, 1⟩, ⟨.string zhy, .int .i64 34, 2⟩] := rfl
 rw [this] at h
 rcases List.mem_cons.1 h with rfl | h
 ·
  exact Or.inl ⟨rfl, rfl⟩
 rcases List.mem_cons.1 h with rfl | h
 ·
  exact Or.inr (Or.inl ⟨rfl, rfl⟩)
 rcases List.mem_cons.1 h with rfl | h
 ·
  exact Or.inr (Or.inr ⟨rfl, rfl⟩)
 cases h
theorem left_mem {seen : Array Nat} {e : MapEntry} (h : e ∈ (leftOf unM seen).toList) : e ∈ unM.toList ∧ seen.contains e.born = false := by
 unfold leftOf at h
 rw [Array.toList_filter, List.mem_filter] at h
 exact ⟨h.1, by simpa using h.2⟩
theorem itr_step {M : Nat} {seen : Array Nat} {W : World} (h : Itr M seen W) (ty : TypeId) :
  ((leftOf unM seen).size = 0 ∧ (Instr.next (.pointer (some ⟨M + 1, 0, none⟩)) false ty).run Tryz.prog W = .ok (.tuple #[.bool false]) W) ∨
  ∃ e ∈ (leftOf unM seen).toList, ∃ X : World, (Instr.next (.pointer (some ⟨M + 1, 0, none⟩)) false ty).run Tryz.prog W = .ok (.tuple #[.bool true, e.key, e.val]) X
   ∧ (Instr.entry (.pointer (some ⟨M + 1, 0, none⟩))).run Tryz.prog X = .ok (.tuple #[e.key, e.val]) X ∧ Itr M (seen.push e.born) X ∧ (∀ k, k ≠ M + 1 → X.heap[k]? = W.heap[k]?) ∧ X.os = W.os ∧ X.tape = W.tape ∧ X.output = W.output ∧ X.heap.size = W.heap.size := by
 rcases run_next_at (P := Tryz.prog) W ty (M + 1) M 3 3 seen unM 3 h.it h.mp (by decide +kernel) qv with hh | ⟨e, he, w1, hw, hr⟩
 ·
  exact Or.inl hh
 ·
  refine Or.inr ⟨e, he, _, hr, ?_⟩; have hl : M + 1 < W.heap.size := zzz h.it
  have k1 : ∀ k, (setBlock w1 (M + 1) (.mapIter (some M) 3 (seen.push e.born) 3)).heap[k]? = if k = M + 1 then some (.mapIter (some M) 3 (seen.push e.born) 3) else W.heap[k]? := by
   intro k
   rcases hw with rfl | rfl <;>
   ·
    unfold setBlock
    by_cases hk : k = M + 1
    ·
     subst hk; simp [hl]
    ·
     rw [if_neg hk]; simp [Ne.symm hk] <;> rfl
  have hI : Itr M (seen.push e.born) (setBlock w1 (M + 1) (.mapIter (some M) 3 (seen.push e.born) 3)) := ⟨by rw [k1, if_pos rfl], by rw [k1, if_neg (by omega)]; exact h.mp⟩
  refine ⟨run_entry_at _ (M + 1) M 3 seen unM 3 e hI.it hI.mp (left_mem he).1 (by decide +kernel), hI, fun k hk => by rw [k1, if_neg hk], ?_, ?_, ?_, ?_⟩
  ·
   rcases hw with rfl | rfl <;> rfl
  ·
   rcases hw with rfl | rfl <;> rfl
  ·
   rcases hw with rfl | rfl <;> rfl
  ·
   rcases hw with rfl | rfl <;> simp [setBlock]
end Go.Proofs.YtoimgcjbcbhclaaGreatDoor.Old
namespace Go.Proofs.YtoimgcjbcbhclaaGreatDoor.Old
open Go.RowKit
theorem rfirst_any {c : PC} {F : Fns} (hF : RCt c F) (hN : ∃ k, FNx c.l k F) (hK : FOk F) (w : World) (d i : Nat) (r : PR Tr) (hd : d ≤ 30) (hs : r = zf9 c.l F d i) (ho : r ≠ .out) (h : Ps c w i 0 (-1)) :
  Calls Tryz.prog 297 #[pPtr c, .int .i64 (d : Int)] w (zj3 c w (NV w.heap.size) ZN r) := by
 unfold zf9 at hs
 by_cases h1 : (tkA c.l i).kd = 1
 ·
  rw [if_pos h1] at hs; subst hs; exact rfirst_name w d i h1 h
 ·
  rw [if_neg h1] at hs
  by_cases h3 : (tkA c.l i).kd = 3
  ·
   rw [if_pos h3] at hs; subst hs; exact rfirst_num w d i h3 h
  ·
   rw [if_neg h3] at hs
   by_cases h4 : (tkA c.l i).kd = 4
   ·
    rw [if_pos h4] at hs; subst hs; exact rfirst_str w d i h4 h
   ·
    rw [if_neg h4] at hs
    by_cases hp : fx c.l i = zxk
    ·
     rw [if_pos hp] at hs; exact rfirst_par hF w d i r hd h1 h3 h4 hp hs ho h
    ·
     rw [if_neg hp] at hs
     by_cases hf : fx c.l i = zzw
     ·
      rw [if_pos hf] at hs; exact rfirst_fun hF hN hK w d i r hd h1 h3 h4 hp hf hs ho h
     ·
      rw [if_neg hf] at hs
      by_cases hb : fx c.l i = zz4
      ·
       rw [if_pos hb] at hs; exact rfirst_obj hF w d i r hd h1 h3 h4 hp hf hb hs ho h
      ·
       rw [if_neg hb] at hs
       by_cases hl : (tkA c.l i).kd = 2 ∧ 0 < litK (tkA c.l i).tx
       ·
        rw [if_pos hl] at hs; subst hs; exact rfirst_lit w d i h1 h3 h4 hp hf hb hl.1 hl.2 h
       ·
        rw [if_neg hl] at hs; subst hs; exact rfirst_no w d i h1 h3 h4 hp hf hb hl h
end Go.Proofs.YtoimgcjbcbhclaaGreatDoor.Old
