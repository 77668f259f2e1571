/-
  Arguments, parameters, properties, objects, functions, what stands behind a head.
-/
import Derived.Test.YtoimgcjbcbhclaaGreatDoorAo1
import Derived.Test.YtoimgcjbcbhclaaGreatDoorAo0
import Derived.Test.YtoimgcjbcbhclaaGreatDoorAo6
import Derived.MapKept
import Derived.Deep.MidRow
import Derived.Laws.AppendOwnNone
set_option maxRecDepth 100000
set_option maxHeartbeats 16000000
namespace Go.Proofs.YtoimgcjbcbhclaaGreatDoor
open Go.RowKit
def FOk (F : Fns) : Prop := ∀ d i t j, F.st d i = .ok t j → t.kd = 15 → ∃ v r, t.kids = v :: r
theorem deepP_ok {l : List Tk} {f : Nat → Nat → PR Tr} {d i j : Nat} {t : Tr} (h : deepP l f d i = .ok t j) : f (d + 1) i = .ok t j := by
 unfold deepP at h
 split at h
 ·
  cases h
 ·
  exact h
section
variable {l : List Tk} {F : Fns} (hF : FOk F)
include l F hF
theorem blockLoop_all {d : Nat} : ∀ n acc i ts j, (∀ t ∈ acc, t.kd = 15 → ∃ v r, t.kids = v :: r) → blockLoop l F d n acc i = .ok ts j → ∀ t ∈ ts, t.kd = 15 → ∃ v r, t.kids = v :: r := by
 intro n
 induction n with
 | zero => intro acc i ts j _ h; cases h
 | succ n ih =>
  intro acc i ts j hacc h; unfold blockLoop at h
  split at h
  ·
   cases h; exact hacc
  ·
   cases hr : deepP l F.st d i with
   | out => rw [hr] at h; cases h
   | bad er p => rw [hr] at h; cases h
   | ok t j1 =>
    rw [hr, bind_ok] at h; refine ih _ _ _ _ (fun u hu => ?_) h
    rcases List.mem_append.1 hu with hu | hu
    ·
     exact hacc u hu
    ·
     rw [List.mem_singleton] at hu; subst hu; exact hF _ _ _ _ (deepP_ok hr)
theorem blockP_exprOk {d i j : Nat} {t : Tr} (h : blockP l F d i = .ok t j) : ExprOk t := by
 unfold blockP at h
 cases hm : mustP l tLBrace i with
 | out => rw [hm] at h; cases h
 | bad er p => rw [hm] at h; cases h
 | ok x j1 =>
  rw [hm, bind_ok] at h
  cases hb : blockLoop l F d F.fuel [] j1 with
  | out => rw [hb] at h; cases h
  | bad er p => rw [hb] at h; cases h
  | ok ts j2 =>
   rw [hb, bind_ok] at h; cases h; intro k1 r hk h15; have hk' : ts = k1 :: r := hk; exact blockLoop_all hF _ _ _ _ _ (fun _ hu => absurd hu (by simp)) hb k1 (by rw [hk']; simp) h15
end
theorem en183 : ∀ args W, (callFunc 247 args).run Tryz.prog W = .ok (.enter 247 args) W := fun _ _ => by kernel_rfl
theorem en218 : ∀ args W, (callFunc 282 args).run Tryz.prog W = .ok (.enter 282 args) W := fun _ _ => by kernel_rfl
theorem en184 : ∀ args W, (callFunc 248 args).run Tryz.prog W = .ok (.enter 248 args) W := fun _ _ => by kernel_rfl
theorem asksName (c : Ctx) : Asks c 247 (isName c.l) := fun w d i h => atName_any c w i d h
section
variable {c : Ctx}
include c
theorem arg_any {F : Fns} (hF : FC c F) : Does c 313 NV (argP c.l F) := by
 have hmf := mf_bound c.R 243
 intro w d i r hs ho h
 have HR0 := hide h
 have HA0 := hide (Ap.refl c.R w.heap.size w)
 have HLT := hide h.rlt
 unfold argP at hs
 have HS := hide hs
 have HO := hide ho
 clear h hs ho
 go_enter Tryz.func313, Tryz.ntmps313
 cases hr : deepP c.l F.vl d i with
 | out =>
  rw [hr] at HS; exact absurd HS.out.symm HO.out
 | bad er p =>
  have HC := hide (deepV hF w d i HR0.out (by rw [hr]; nofun))
  rw [hr] at HC HS; exact zccb
 | ok x1 j1 =>
  have HC := hide (deepV hF w d i HR0.out (by rw [hr]; nofun))
  rw [hr] at HC HS; clear hr; go_wp2_with fail; refine cm HC.out ?_; intro e w1 hp; obtain ⟨⟨v1, rfl, p1, rfl, hn1⟩, hrd, ha⟩ := hp; clear HC; have HA1 := hide (HA0.out.next ha); have HR1 := hide hrd
  have HN1 := hide (nat_mono hn1 HA0.out.size); clear hn1; clear hrd ha HA0 HR0; go_wp2_with fail; go_ret; exact ppOk HS.out.symm ⟨p1, rfl, HN1.out⟩ HR1.out HA1.out
theorem param_any : Does c 282 NV (fun _ => paramP c.l) := by
 intro w d i r hs ho h
 have HR0 := hide h
 have HA0 := hide (Ap.refl c.R w.heap.size w)
 have HLT := hide h.rlt
 dsimp only at hs
 unfold paramP at hs
 have HS := hide hs
 have HO := hide ho
 clear h hs ho
 go_enter Tryz.func282, Tryz.ntmps282
 cases hr : nameP c.l i with
 | out =>
  exact zbak
 | bad er p =>
  have HC := hide (name_any c w i d HR0.out); exact zbas
 | ok x1 j1 =>
  have HC := hide (name_any c w i d HR0.out); rw [hr] at HC HS; simp only [bind_ok] at HS; clear hr; go_wp2_with fail; refine cm HC.out ?_; intro e w1 hp; obtain ⟨⟨v1, rfl, rfl⟩, hrd, ha⟩ := hp; clear HC
  have HA1 := hide (HA0.out.next ha); have HR1 := hide hrd; clear hrd ha HA0 HR0; have HC := hide (node_any 23 x1 (.slice none 0 0) w1 ⟨_, _, _, rfl⟩); go_wp2_with fail; refine cm HC.out ?_; rintro e wn ⟨rfl, rfl⟩
  clear HC; go_wp2_with fail; go_ret; obtain ⟨m1, m2, m3⟩ := made0 HR1.out HA1.out (KV.nil _ _) 23 x1 _ rfl; exact ppOk HS.out.symm m1.nv m2 m3
theorem prop_any {F : Fns} (hF : FC c F) : Does c 248 NV (propP c.l F) := by
 have hmf := mf_bound c.R 243
 intro w d i r hs ho h
 have HR0 := hide h
 have HA0 := hide (Ap.refl c.R w.heap.size w)
 have HLT := hide h.rlt
 unfold propP at hs
 have HS := hide hs
 have HO := hide ho
 clear h hs ho
 go_enter Tryz.func248, Tryz.ntmps248
 cases hr : nameP c.l i with
 | out =>
  exact zbak
 | bad er p =>
  have HC := hide (name_any c w i d HR0.out); exact zbas
 | ok x1 j1 =>
  have HC := hide (name_any c w i d HR0.out); rw [hr] at HC HS; simp only [bind_ok] at HS; clear hr; go_wp2_with fail; refine cm HC.out ?_; intro e w1 hp; obtain ⟨⟨v1, rfl, rfl⟩, hrd, ha⟩ := hp; clear HC
  have HA1 := hide (HA0.out.next ha); have HR1 := hide hrd; clear hrd ha HA0 HR0
  cases hr : mustP c.l tColon j1 with
  | out =>
   exact zbak
  | bad er p =>
   have HC := hide (must_any c tColon w1 j1 d HR1.out (by decide)); exact zbbz
  | ok x2 j2 =>
   have HC := hide (must_any c tColon w1 j1 d HR1.out (by decide)); rw [hr] at HC HS; simp only [bind_ok] at HS; clear hr; go_wp2_with fail; refine cm HC.out ?_; intro e w2 hp; obtain ⟨⟨v2, rfl, rfl⟩, hrd, ha⟩ := hp
   clear HC; have HA2 := hide (HA1.out.next ha); have HR2 := hide hrd; clear hrd ha HA1 HR1
   cases hr : deepP c.l F.vl d j2 with
   | out =>
    exact zbak
   | bad er p =>
    have HC := hide (deepV hF w2 d j2 HR2.out (by rw [hr]; nofun))
    exact zbby
   | ok x3 j3 =>
    have HC := hide (deepV hF w2 d j2 HR2.out (by rw [hr]; nofun))
    rw [hr] at HC HS; simp only [bind_ok] at HS; clear hr; go_wp2_with fail; refine cm HC.out ?_; intro e w3 hp; obtain ⟨⟨v3, rfl, p3, rfl, hn3⟩, hrd, ha⟩ := hp; clear HC; have HA3 := hide (HA2.out.next ha)
    have HR3 := hide hrd; have HN3 := hide (nat_mono hn3 HA2.out.size); clear hn3; clear hrd ha HA2 HR2
    have HC := hide (node_any 39 x1 (.slice (some ⟨w3.heap.size, 0, none⟩) 1 1) (w3.alloc (.cells #[nPtr p3] 22)) ⟨_, _, _, rfl⟩); go_wp2_with fail; refine cm HC.out ?_; rintro e wn ⟨rfl, rfl⟩; clear HC; go_wp2_with fail
    go_ret; obtain ⟨m1, m2, m3⟩ := made HR3.out HA3.out (NAts.cons HN3.out NAts.nil) (by simp [maxLen]) #[nPtr p3] rfl 1 rfl 39 x1 (w3.heap.size + 1) rfl; exact ppOk HS.out.symm m1.nv m2 m3
theorem paramP_go (hE : Ends c.l) (d i : Nat) (t : Tr) (j : Nat) (hi : i < c.l.length) (h : (fun (_ : Nat) => paramP c.l) d i = .ok t j) : i < j := ((paramP_nx (q := True) hE hi).2 t j h).1
theorem propP_go {F : Fns} {k : Nat} (hN : FNx c.l k F) (hE : Ends c.l) (d i : Nat) (t : Tr) (j : Nat) (hi : i < c.l.length) (h : propP c.l F d i = .ok t j) : i < j := ((propP_nx (q := False) hE hN hi (fun h => h.elim)).2 t j h).1
theorem argP_go {F : Fns} {k : Nat} (hN : FNx c.l k F) (d i : Nat) (t : Tr) (j : Nat) (hi : i < c.l.length) (h : argP c.l F d i = .ok t j) : i < j := ((argP_nx (q := False) hN hi (fun h => h.elim)).2 t j h).1
theorem params_any {F : Fns} : Does c 245 NV (fun _ => paramsP c.l F) := by
 have hmf := mf_bound c.R 247
 have hmf2 := mf_bound c.R 282
 intro w d i r hs ho h
 have HE := hide h.base.ends
 have HR0 := hide h
 have HA0 := hide (Ap.refl c.R w.heap.size w)
 have HLT := hide h.rlt
 dsimp only at hs
 unfold paramsP at hs
 have HS := hide hs
 have HO := hide ho
 clear h hs ho
 go_enter Tryz.func245, Tryz.ntmps245
 cases hr : listP c.l tOpen tShut (isName c.l) (paramP c.l) F.fuel i with
 | out =>
  exact zbak
 | bad er p =>
  have HC := hide (list_any 247 282 (isName c.l) (fun _ => paramP c.l) tOpen tShut (asksName c) param_any en183 en218 (by decide) (by decide) (paramP_go HE.out) F.fuel w d i _ rfl (by rw [hr]; nofun) HR0.out)
  exact zbas
 | ok x1 j1 =>
  have HC := hide (list_any 247 282 (isName c.l) (fun _ => paramP c.l) tOpen tShut (asksName c) param_any en183 en218 (by decide) (by decide) (paramP_go HE.out) F.fuel w d i _ rfl (by rw [hr]; nofun) HR0.out)
  rw [hr] at HC HS; simp only [bind_ok] at HS; clear hr; go_wp2_with fail; refine cm HC.out ?_; intro e w1 hp; obtain ⟨⟨v1, rfl, hn1⟩, hrd, ha⟩ := hp; clear HC; have HA1 := hide (HA0.out.next ha); have HR1 := hide hrd
  have HN1 := hide (KV.mono hn1.1 HA0.out.size); clear hn1; clear hrd ha HA0 HR0; obtain ⟨va, vc, rfl⟩ := HN1.out.shape; have HC := hide (node_any 40 noText (.slice va x1.length vc) w1 ⟨_, _, _, rfl⟩); go_wp2_with fail
  refine cm HC.out ?_; rintro e wn ⟨rfl, rfl⟩; clear HC; go_wp2_with fail; go_ret; obtain ⟨m1, m2, m3⟩ := made0 HR1.out HA1.out HN1.out 40 noText _ rfl; exact ppOk HS.out.symm m1.nv m2 m3
theorem object_any {F : Fns} (hF : FC c F) (hN : ∃ k, FNx c.l k F) : Does c 172 NV (objectP c.l F) := by
 have hmf := mf_bound c.R 247
 have hmf2 := mf_bound c.R 248
 obtain ⟨k, hN⟩ := hN
 intro w d i r hs ho h
 have HE := hide h.base.ends
 have HNX := hide hN
 clear hN
 have HR0 := hide h
 have HA0 := hide (Ap.refl c.R w.heap.size w)
 have HLT := hide h.rlt
 unfold objectP at hs
 have HS := hide hs
 have HO := hide ho
 clear h hs ho
 go_enter Tryz.func172, Tryz.ntmps172
 cases hr : listP c.l tLBrace tRBrace (isName c.l) (propP c.l F d) F.fuel i with
 | out =>
  exact zbak
 | bad er p =>
  have HC := hide (list_any 247 248 (isName c.l) (propP c.l F) tLBrace tRBrace (asksName c) (prop_any hF) en183 en184 (by decide) (by decide) (propP_go HNX.out HE.out) F.fuel w d i _ rfl (by rw [hr]; nofun) HR0.out)
  exact zbas
 | ok x1 j1 =>
  have HC := hide (list_any 247 248 (isName c.l) (propP c.l F) tLBrace tRBrace (asksName c) (prop_any hF) en183 en184 (by decide) (by decide) (propP_go HNX.out HE.out) F.fuel w d i _ rfl (by rw [hr]; nofun) HR0.out)
  rw [hr] at HC HS; simp only [bind_ok] at HS; clear hr; go_wp2_with fail; refine cm HC.out ?_; intro e w1 hp; obtain ⟨⟨v1, rfl, hn1⟩, hrd, ha⟩ := hp; clear HC; have HA1 := hide (HA0.out.next ha); have HR1 := hide hrd
  have HN1 := hide (KV.mono hn1.1 HA0.out.size); clear hn1; clear hrd ha HA0 HR0; obtain ⟨va, vc, rfl⟩ := HN1.out.shape; have HC := hide (node_any 38 noText (.slice va x1.length vc) w1 ⟨_, _, _, rfl⟩); go_wp2_with fail
  refine cm HC.out ?_; rintro e wn ⟨rfl, rfl⟩; clear HC; go_wp2_with fail; go_ret; obtain ⟨m1, m2, m3⟩ := made0 HR1.out HA1.out HN1.out 38 noText _ rfl; exact ppOk HS.out.symm m1.nv m2 m3
theorem empty_any : Does c 166 NV (fun _ i => (mustP c.l tSemi i).bind fun _ i1 => .ok (.mk 16 noText 0 []) i1) := by
 intro w d i r hs ho h
 have HR0 := hide h
 have HA0 := hide (Ap.refl c.R w.heap.size w)
 have HLT := hide h.rlt
 dsimp only at hs
 have HS := hide hs
 have HO := hide ho
 clear h hs ho
 go_enter Tryz.func166, Tryz.ntmps166
 cases hr : mustP c.l tSemi i with
 | out =>
  exact zbak
 | bad er p =>
  have HC := hide (must_any c tSemi w i d HR0.out (by decide)); exact zbas
 | ok x1 j1 =>
  have HC := hide (must_any c tSemi w i d HR0.out (by decide)); rw [hr] at HC HS; simp only [bind_ok] at HS; clear hr; go_wp2_with fail; refine cm HC.out ?_; intro e w1 hp; obtain ⟨⟨v1, rfl, rfl⟩, hrd, ha⟩ := hp; clear HC
  have HA1 := hide (HA0.out.next ha); have HR1 := hide hrd; clear hrd ha HA0 HR0; have HC := hide (node_any 16 noText (.slice none 0 0) w1 ⟨_, _, _, rfl⟩); go_wp2_with fail; refine cm HC.out ?_; rintro e wn ⟨rfl, rfl⟩
  clear HC; go_wp2_with fail; go_ret; obtain ⟨m1, m2, m3⟩ := made0 HR1.out HA1.out (KV.nil _ _) 16 noText _ rfl; exact ppOk HS.out.symm m1.nv m2 m3
end
theorem mapOf_snoc (l : List (ByteArray × Value)) (k : ByteArray) (v : Value) : (mapOf l).push { key := .string k, val := v, born := l.length } = mapOf (l ++ [(k, v)]) := by
 unfold mapOf
 rw [List.zipIdx_append, List.map_append]
 simp [mkE, List.zipIdx]
def setMap (W : World) (m : Nat) (o : Obj) : World := { W with heap := W.heap.setIfInBounds m o }
theorem setMap_size (W : World) (m : Nat) (o : Obj) : (setMap W m o).heap.size = W.heap.size := by simp [setMap]
theorem setMap_at {W : World} {m : Nat} {o : Obj} (h : m < W.heap.size) : (setMap W m o).heap[m]? = some o := by simp [setMap, h]
theorem setMap_other {W : World} {m k : Nat} {o : Obj} (h : k ≠ m) : (setMap W m o).heap[k]? = W.heap[k]? := by simp [setMap, Ne.symm h]
theorem setMap_below {B : Nat} {w W : World} {m : Nat} {o : Obj} (h : Below B w W) (hm : B ≤ m) : Below B w (setMap W m o) :=
 ⟨h.os, h.tape, h.output, by rw [setMap_size]; exact h.size, fun k hk => by rw [setMap_other (by omega)]; exact h.block k hk⟩
theorem update_new (T E : TypeId) (m : Nat) (l : List (ByteArray × Value)) (s : ByteArray) (v : Value) (W : World) (hT : Tryz.prog.underlying T = some (.map 9 E)) (hm : W.heap[m]? = some (.map (mapOf l) l.length)) (hn : l.find? (fun e => decide (s = e.1)) = none) :
  (Instr.mapUpdate T (.map (some m)) (.string s) v).run Tryz.prog W = .ok () (setMap W m (.map (mapOf (l ++ [(s, v)])) (l.length + 1))) := by
 obtain ⟨o, h1, h2⟩ := find_ents s l 0 0
 have h9 := Tryz.underlying9
 have ho : o = none := by
  rw [hn] at h2
  cases o with
  | none => rfl
  | some y => simp at h2
 subst ho
 have h3 : (Instr.findKey 9 (.string s) (mapOf l).toList).run Tryz.prog W = .ok none W := by
  unfold Instr.findKey; rw [Sem.run_bind, run_underlying h9 W]; simp only [Result.andThen_ok, mapOf]; rw [h1]; rfl
 have hck : ∀ b, (Instr.checkKey b 10000 9 (.string s)).run Tryz.prog W = .ok () W := by
  exact zbds
 have hg : (getObj m).run Tryz.prog W = .ok (.map (mapOf l) l.length) W := by simp [getObj, Sem.run, hm]
 unfold Instr.mapUpdate
 rw [Sem.run_bind, run_underlying hT W]
 simp only [Result.andThen_ok, Sem.run_bind, hg, hck, h3]
 rw [mapOf_snoc]
 simp [setObj, Sem.run, hm, setMap]
theorem mkMap (T : TypeId) (W : World) : (Instr.makeMap T none).run Tryz.prog W = .ok (.map (some W.heap.size)) (W.alloc (.map #[] 0)) := rfl
def sgCells : Array Value := (sgs.flatMap fun e => [.string e.tx, .int .i64 e.kd, .int .i64 e.parts, .int .i64 e.str]).toArray
theorem sgSize : sgCells.size = 56 := by decide +kernel
theorem sgIdx (k : Nat) (hk : k < 14) (W : World) : (Instr.index 190 (.agg sgCells) (.int .i64 (k : Int))).run Tryz.prog W = .ok (sgV (sgs.getD k ⟨noText, 0, 0, 0⟩)) W := by
 have h : k = 0 ∨ k = 1 ∨ k = 2 ∨ k = 3 ∨ k = 4 ∨ k = 5 ∨ k = 6 ∨ k = 7 ∨ k = 8 ∨ k = 9 ∨ k = 10 ∨ k = 11 ∨ k = 12 ∨ k = 13 := by omega
 rcases h with rfl | rfl | rfl | rfl | rfl | rfl | rfl | rfl | rfl | rfl | rfl | rfl | rfl | rfl <;> (show _ = _; kernel_rfl)
def sgL (j : Nat) : List (ByteArray × Value) := (sgs.take j).map fun e => (e.tx, sgV e)
theorem sgL_len {j : Nat} (hj : j ≤ 14) : (sgL j).length = j := by
 unfold sgL
 rw [List.length_map, List.length_take]
 have : sgs.length = 14 := rfl
 omega
theorem sgL_next {j : Nat} (hj : j < 14) : sgL (j + 1) = sgL j ++ [((sgs.getD j ⟨noText, 0, 0, 0⟩).tx, sgV (sgs.getD j ⟨noText, 0, 0, 0⟩))] := by
 have h : j = 0 ∨ j = 1 ∨ j = 2 ∨ j = 3 ∨ j = 4 ∨ j = 5 ∨ j = 6 ∨ j = 7 ∨ j = 8 ∨ j = 9 ∨ j = 10 ∨ j = 11 ∨ j = 12 ∨ j = 13 := by omega
 rcases h with rfl | rfl | rfl | rfl | rfl | rfl | rfl | rfl | rfl | rfl | rfl | rfl | rfl | rfl <;> rfl
theorem sgL_new {j : Nat} (hj : j < 14) : (sgL j).find? (fun e => decide ((sgs.getD j ⟨noText, 0, 0, 0⟩).tx = e.1)) = none := by
 have key : ∀ j, j < 14 → ((sgs.take j).map (·.tx)).find? (fun e => decide ((sgs.getD j ⟨noText, 0, 0, 0⟩).tx = e)) = none := by decide +kernel
 have := key j hj
 unfold sgL
 rw [List.find?_map] at this ⊢
 simpa [Function.comp_def] using this
theorem signsByText_any (w : World) (t : TypeId) (fr : Nat × Nat) (hg : w.heap[2]? = some (.cells sgCells t fr)) :
  Calls Tryz.prog 162 #[] w fun e w' => e = .returned (.map (some w.heap.size)) ∧ w'.heap[w.heap.size]? = some (.map sgMap 14) ∧ Below w.heap.size w w' := by
 have HG : Hid ((w.alloc (.map #[] 0)).heap[2]? = some (.cells sgCells t fr)) := (Below.heap_alloc w _ 2 (lt_of_heap hg)).trans hg
 obtain ⟨cs, hcs⟩ : ∃ cs, cs = sgCells := ⟨_, rfl⟩
 have hix : ∀ k : Nat, k < 14 → ∀ W, (Instr.index 190 (.agg cs) (.int .i64 (k : Int))).run Tryz.prog W = .ok (sgV (sgs.getD k ⟨noText, 0, 0, 0⟩)) W := by rw [hcs]; exact sgIdx
 have hsz : cs.size = 56 := by rw [hcs]; exact sgSize
 rw [← hcs] at HG
 have HIX := hide hix
 have Hsz := hide hsz
 have hmk := mkMap 199
 clear hg hix hcs hsz
 go_enter Tryz.func162, Tryz.ntmps162
 go_wp2_with (refine wpList_load_row rfl 190 _ rfl 2 rfl t cs fr _ HG.out Tryz.underlying190 rfl (by rw [Hsz.out]; kernel_rfl) ?_)
 go_loopw [6] (fun i wr => ∃ j : Nat, j ≤ 14 ∧ i = .int .i64 j ∧ wr.heap[w.heap.size]? = some (.map (mapOf (sgL j)) j) ∧ Below w.heap.size w wr) (fun i _ => 14 - (intOf i).toNat)
 case atStart => exact ⟨0, Nat.zero_le _, rfl, heap_new _ _, (Below.refl _ _).alloc (Nat.le_refl _) _⟩
 case round =>
  obtain ⟨j, hj, rfl, hm, hb⟩ := hrel; have HM := hide hm; have HB := hide hb; clear hm hb
  by_cases hlt : j < 14
  ·
   have hck := unhide HIX j hlt; obtain ⟨x, hx⟩ : ∃ x, x = sgs.getD j ⟨noText, 0, 0, 0⟩ := ⟨_, rfl⟩
   have hm2 : (wr.alloc (.cells #[.string x.tx, .int .i64 x.kd, .int .i64 x.parts, .int .i64 x.str] 189)).heap[w.heap.size]? = some (.map (mapOf (sgL j)) (sgL j).length) := by
    rw [sgL_len (by omega)]; exact (Below.heap_alloc _ _ _ (lt_of_heap HM.out)).trans HM.out
   have hup := update_new 199 189 w.heap.size (sgL j) x.tx (sgV x) _ Tryz.underlying199 hm2 (by rw [hx]; exact sgL_new hlt)
   rw [← hx] at hck; have HX := hide hx; have HM2 := hide hm2; simp only [sgV] at hck hup; clear hx hm2; go_wp2_with fail
   go_roundw
   case rel =>
    refine ⟨j + 1, by omega, by go_num, ?_, setMap_below (HB.out.alloc HB.out.size _) (Nat.le_refl _)⟩; rw [setMap_at (by simp; have := HB.out.size; omega), sgL_next hlt, ← HX.out, sgL_len (by omega)]
    rfl
   case measure => simp [intOf]; omega
  ·
   have hj14 : j = 14 := by omega
   subst hj14; go_wp2_with fail; go_ret; exact ⟨rfl, HM.out, HB.out⟩
end Go.Proofs.YtoimgcjbcbhclaaGreatDoor
