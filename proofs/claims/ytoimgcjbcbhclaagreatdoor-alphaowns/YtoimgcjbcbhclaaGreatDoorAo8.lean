/-
  The reader that is made of the tokens.
-/
import Derived.Test.YtoimgcjbcbhclaaGreatDoorAo1
import Derived.Test.YtoimgcjbcbhclaaGreatDoorAo7
import Derived.Test.YtoimgcjbcbhclaaGreatDoorAo0
set_option maxRecDepth 100000
set_option maxHeartbeats 16000000
namespace Go.Proofs.YtoimgcjbcbhclaaGreatDoor
open Go.RowKit
theorem setMap_twice (W : World) (m : Nat) (a b : Obj) : setMap (setMap W m a) m b = setMap W m b := by simp [setMap]
theorem upd (T E : TypeId) (m : Nat) (W : World) (l : List (ByteArray × Value)) (s : ByteArray) (v : Value) (hT : Tryz.prog.underlying T = some (.map 9 E)) (hm : m < W.heap.size) (hn : l.find? (fun e => decide (s = e.1)) = none) :
  (Instr.mapUpdate T (.map (some m)) (.string s) v).run Tryz.prog (setMap W m (.map (mapOf l) l.length)) = .ok () (setMap W m (.map (mapOf (l ++ [(s, v)])) (l.length + 1))) := by
 rw [update_new T E m l s v _ hT (setMap_at hm) hn, setMap_twice]
theorem upd0 (T E : TypeId) (m : Nat) (W : World) (s : ByteArray) (v : Value) (hT : Tryz.prog.underlying T = some (.map 9 E)) (hm : W.heap[m]? = some (.map #[] 0)) :
  (Instr.mapUpdate T (.map (some m)) (.string s) v).run Tryz.prog W = .ok () (setMap W m (.map (mapOf [(s, v)]) 1)) :=
 update_new T E m [] s v W hT hm rfl
theorem reader_made {w w1 X Y Z V : World} {l : List Tk} {tb cap R mS : Nat} {cur : Array Value} (hE : Ends l) (h0 : 0 < l.length) (hl : l.length ≤ 3001) (ht : w.heap[tb]? = some (.cells cur 138 (0, 0))) (hcap : l.length ≤ cap ∧ cap ≤ maxLen ∧ cur.size = cap * 4 ∧ cur.toList.take (l.length * 4) = tksCells l)
  (hh : ∃ t fr, w.heap[3]? = some (.cells hdCells t fr)) (hS : w1.heap[mS]? = some (.map sgMap 14)) (hSm : mS = w.heap.size) (hb : Below w.heap.size w w1) (hR : R = w1.heap.size)
  (hX : X = setMap ((w1.alloc (.cells #[.slice (some ⟨tb, 0, none⟩) l.length cap, .int .i64 0, .int .i64 0, .map (some mS), .map none, .map none] 203)).alloc (.map #[] 0)) (R + 1) (.map (stMap R) 12))
  (hY : Y = X.setCell ⟨R, 4, none⟩ (.map (some (R + 1)))) (hZ : Z = setMap (Y.alloc (.map #[] 0)) (R + 2) (.map (vlMap R) 3)) (hV : V = Z.setCell ⟨R, 5, none⟩ (.map (some (R + 2)))) :
  Rdr ⟨R, l, tb, cap, mS, R + 1, R + 2, R + 3⟩ V 0 0 ∧ Below w.heap.size w V := by
 have hsz := hb.size
 have ltb := lt_of_heap ht
 obtain ⟨t4, fr4, hh⟩ := hh
 have l4 := lt_of_heap hh
 have lmS := lt_of_heap hS
 have sX : X.heap.size = R + 2 := by rw [hX, setMap_size, hR]; simp
 have sY : Y.heap.size = R + 2 := by rw [hY, World.size_setCell, sX]
 have sZ : Z.heap.size = R + 3 := by rw [hZ, setMap_size]; simp [sY]
 have sV : V.heap.size = R + 3 := by rw [hV, World.size_setCell, sZ]
 have xl : ∀ b, b < R → X.heap[b]? = w1.heap[b]? := fun b hb => by
  rw [hX, setMap_other (by omega), Below.heap_alloc _ _ b (by simp; omega), Below.heap_alloc _ _ b (by omega)]
 have xR : X.heap[R]? = some (.cells #[.slice (some ⟨tb, 0, none⟩) l.length cap, .int .i64 0, .int .i64 0, .map (some mS), .map none, .map none] 203 (0, 0)) := by
  rw [hX, setMap_other (by omega), Below.heap_alloc _ _ R (by simp; omega), hR]
  exact heap_new _ _
 have xT : X.heap[R + 1]? = some (.map (stMap R) 12) := by rw [hX, setMap_at (by simp; omega)]
 have vl : ∀ b, b < R → V.heap[b]? = w1.heap[b]? := fun b hb => by
  rw [hV, Below.heap_setCell Z ⟨R, 5, none⟩ _ b (by simp; omega), hZ, setMap_other (by omega), Below.heap_alloc _ _ b (by omega), hY, Below.heap_setCell X ⟨R, 4, none⟩ _ b (by simp; omega)]
  exact xl b hb
 have zR : Z.heap[R]? = some (.cells #[.slice (some ⟨tb, 0, none⟩) l.length cap, .int .i64 0, .int .i64 0, .map (some mS), .map (some (R + 1)), .map none] 203 (0, 0)) := by
  rw [hZ, setMap_other (by omega), Below.heap_alloc _ _ R (by omega), hY, heap_set xR]; rfl
 have vR : V.heap[R]? = some (.cells #[.slice (some ⟨tb, 0, none⟩) l.length cap, .int .i64 0, .int .i64 0, .map (some mS), .map (some (R + 1)), .map (some (R + 2))] 203 (0, 0)) := by
  rw [hV, heap_set zR]; rfl
 have vT : V.heap[R + 1]? = some (.map (stMap R) 12) := by
  rw [hV, Below.heap_setCell Z ⟨R, 5, none⟩ _ (R + 1) (by simp), hZ, setMap_other (by omega), Below.heap_alloc _ _ (R + 1) (by omega), hY, Below.heap_setCell X ⟨R, 4, none⟩ _ (R + 1) (by simp)]; exact xT
 have vV : V.heap[R + 2]? = some (.map (vlMap R) 3) := by
  rw [hV, Below.heap_setCell Z ⟨R, 5, none⟩ _ (R + 2) (by simp), hZ, setMap_at (by simp; omega)]
 have lw : ∀ b, b < w.heap.size → V.heap[b]? = w.heap[b]? := fun b h => (vl b (by omega)).trans (hb.block b h)
 refine ⟨⟨⟨hE, ⟨cur, (lw tb ltb).trans ht, hcap⟩, ?_, (vl mS (by omega)).trans hS, ?_, vT, ?_, vV, ?_, hl, ⟨t4, fr4, (lw 3 l4).trans hh⟩, ?_, ?_, ?_⟩, vR, h0, by decide⟩, ?_⟩
 ·
  show tb ≠ R; omega
 ·
  show mS ≠ R; omega
 ·
  show R + 1 ≠ R; omega
 ·
  show R + 2 ≠ R; omega
 ·
  show 3 ≠ R; omega
 ·
  show tb < R + 3 ∧ mS < R + 3 ∧ R + 1 < R + 3 ∧ R + 2 < R + 3 ∧ 3 < R + 3 ∧ R < R + 3; omega
 ·
  show R + 3 ≤ V.heap.size; omega
 ·
  have bX : Below w.heap.size w X := by rw [hX]; exact setMap_below ((hb.alloc hsz _).alloc (by simp; omega) _) (by omega)
  have bY : Below w.heap.size w Y := by rw [hY]; exact bX.setCell (p := ⟨R, 4, none⟩) (by show w.heap.size ≤ R; omega) _
  have bZ : Below w.heap.size w Z := by rw [hZ]; exact setMap_below (bY.alloc bY.size _) (by omega)
  rw [hV]; exact bZ.setCell (p := ⟨R, 5, none⟩) (by show w.heap.size ≤ R; omega) _
theorem newReader_any (w : World) (l : List Tk) (tb cap : Nat) (cur : Array Value) (hE : Ends l) (h0 : 0 < l.length) (hl : l.length ≤ 3001) (ht : w.heap[tb]? = some (.cells cur 138 (0, 0))) (hcap : l.length ≤ cap ∧ cap ≤ maxLen ∧ cur.size = cap * 4 ∧ cur.toList.take (l.length * 4) = tksCells l)
  (hh : ∃ t fr, w.heap[3]? = some (.cells hdCells t fr)) (hs3 : ∃ t fr, w.heap[2]? = some (.cells sgCells t fr)) :
  Calls Tryz.prog 102 #[.slice (some ⟨tb, 0, none⟩) l.length cap] w fun e w' => ∃ c : Ctx, e = .returned (rPtr c) ∧ c.l = l ∧ w.heap.size ≤ c.R ∧ Rdr c w' 0 0 ∧ Below w.heap.size w w' := by
 obtain ⟨t3, fr3, hs3⟩ := hs3
 have HC := hide (signsByText_any w t3 fr3 hs3)
 have HMK := fun (w1 X Y Z V : World) (R : Nat) => reader_made (w := w) (w1 := w1) (X := X) (Y := Y) (Z := Z) (V := V) (R := R) (mS := w.heap.size) hE h0 hl ht hcap hh
 have HMADE := hide HMK
 have hmk := mkMap 201
 clear hs3 HMK hE h0 hl ht hcap hh
 go_enter Tryz.func102, Tryz.ntmps102
 go_wp2_with fail
 refine cm HC.out ?_
 rintro e w1 ⟨rfl, hm1, hb1⟩
 clear HC
 have HM1 := hide hm1
 have HB1 := hide hb1
 clear hm1 hb1
 have s0 : ((w1.alloc (.cells #[.slice (some ⟨tb, 0, none⟩) l.length cap, .int .i64 0, .int .i64 0, .map (some w.heap.size), .map none, .map none] 203)).alloc (.map #[] 0)).heap.size = w1.heap.size + 2 := by simp
 have m0 : ((w1.alloc (.cells #[.slice (some ⟨tb, 0, none⟩) l.length cap, .int .i64 0, .int .i64 0, .map (some w.heap.size), .map none, .map none] 203)).alloc (.map #[] 0)).heap[w1.heap.size + 1]? = some (.map #[] 0) := by
  have := heap_new (w1.alloc (.cells #[.slice (some ⟨tb, 0, none⟩) l.length cap, .int .i64 0, .int .i64 0, .map (some w.heap.size), .map none, .map none] 203)) (.map #[] 0); simpa using this
 have rA : (w1.alloc (.cells #[.slice (some ⟨tb, 0, none⟩) l.length cap, .int .i64 0, .int .i64 0, .map (some w.heap.size), .map none, .map none] 203)).heap[w1.heap.size]? = some (.cells #[.slice (some ⟨tb, 0, none⟩) l.length cap, .int .i64 0, .int .i64 0, .map (some w.heap.size), .map none, .map none] 203) := heap_new _ _
 obtain ⟨X1, hX1⟩ : ∃ X, X = setMap ((w1.alloc (.cells #[.slice (some ⟨tb, 0, none⟩) l.length cap, .int .i64 0, .int .i64 0, .map (some w.heap.size), .map none, .map none] 203)).alloc (.map #[] 0)) (w1.heap.size + 1) (.map (mapOf [(tVar, .func (.func 163) #[.pointer (some ⟨w1.heap.size, 0, none⟩)] #[])]) 1) := ⟨_, rfl⟩
 have u1 : (Instr.mapUpdate 201 (.map (some (w1.heap.size + 1))) (.string tVar) (.func (.func 163) #[.pointer (some ⟨w1.heap.size, 0, none⟩)] #[])).run Tryz.prog ((w1.alloc (.cells #[.slice (some ⟨tb, 0, none⟩) l.length cap, .int .i64 0, .int .i64 0, .map (some w.heap.size), .map none, .map none] 203)).alloc (.map #[] 0)) = .ok () X1 := by rw [hX1]; exact upd0 201 261 (w1.heap.size + 1) _ _ _ Tryz.underlying201 m0
 obtain ⟨X2, hX2⟩ : ∃ X, X = setMap ((w1.alloc (.cells #[.slice (some ⟨tb, 0, none⟩) l.length cap, .int .i64 0, .int .i64 0, .map (some w.heap.size), .map none, .map none] 203)).alloc (.map #[] 0)) (w1.heap.size + 1) (.map (mapOf [(tVar, .func (.func 163) #[.pointer (some ⟨w1.heap.size, 0, none⟩)] #[]), (tLet, .func (.func 163) #[.pointer (some ⟨w1.heap.size, 0, none⟩)] #[])]) 2) := ⟨_, rfl⟩
 have u2 : (Instr.mapUpdate 201 (.map (some (w1.heap.size + 1))) (.string tLet) (.func (.func 163) #[.pointer (some ⟨w1.heap.size, 0, none⟩)] #[])).run Tryz.prog X1 = .ok () X2 := by rw [hX1, hX2]; exact upd 201 261 (w1.heap.size + 1) _ [(tVar, .func (.func 163) #[.pointer (some ⟨w1.heap.size, 0, none⟩)] #[])] _ _ Tryz.underlying201 (by rw [s0]; omega) (by rfl)
 obtain ⟨X3, hX3⟩ : ∃ X, X = setMap ((w1.alloc (.cells #[.slice (some ⟨tb, 0, none⟩) l.length cap, .int .i64 0, .int .i64 0, .map (some w.heap.size), .map none, .map none] 203)).alloc (.map #[] 0)) (w1.heap.size + 1) (.map (mapOf [(tVar, .func (.func 163) #[.pointer (some ⟨w1.heap.size, 0, none⟩)] #[]), (tLet, .func (.func 163) #[.pointer (some ⟨w1.heap.size, 0, none⟩)] #[]), (tConst, .func (.func 163) #[.pointer (some ⟨w1.heap.size, 0, none⟩)] #[])]) 3) := ⟨_, rfl⟩
 have u3 : (Instr.mapUpdate 201 (.map (some (w1.heap.size + 1))) (.string tConst) (.func (.func 163) #[.pointer (some ⟨w1.heap.size, 0, none⟩)] #[])).run Tryz.prog X2 = .ok () X3 := by rw [hX2, hX3]; exact upd 201 261 (w1.heap.size + 1) _ [(tVar, .func (.func 163) #[.pointer (some ⟨w1.heap.size, 0, none⟩)] #[]), (tLet, .func (.func 163) #[.pointer (some ⟨w1.heap.size, 0, none⟩)] #[])] _ _ Tryz.underlying201 (by rw [s0]; omega) (by rfl)
 obtain ⟨X4, hX4⟩ : ∃ X, X = setMap ((w1.alloc (.cells #[.slice (some ⟨tb, 0, none⟩) l.length cap, .int .i64 0, .int .i64 0, .map (some w.heap.size), .map none, .map none] 203)).alloc (.map #[] 0)) (w1.heap.size + 1) (.map (mapOf [(tVar, .func (.func 163) #[.pointer (some ⟨w1.heap.size, 0, none⟩)] #[]), (tLet, .func (.func 163) #[.pointer (some ⟨w1.heap.size, 0, none⟩)] #[]), (tConst, .func (.func 163) #[.pointer (some ⟨w1.heap.size, 0, none⟩)] #[]), (tFunction, .func (.func 164) #[.pointer (some ⟨w1.heap.size, 0, none⟩)] #[])]) 4) := ⟨_, rfl⟩
 have u4 : (Instr.mapUpdate 201 (.map (some (w1.heap.size + 1))) (.string tFunction) (.func (.func 164) #[.pointer (some ⟨w1.heap.size, 0, none⟩)] #[])).run Tryz.prog X3 = .ok () X4 := by rw [hX3, hX4]; exact upd 201 261 (w1.heap.size + 1) _ [(tVar, .func (.func 163) #[.pointer (some ⟨w1.heap.size, 0, none⟩)] #[]), (tLet, .func (.func 163) #[.pointer (some ⟨w1.heap.size, 0, none⟩)] #[]), (tConst, .func (.func 163) #[.pointer (some ⟨w1.heap.size, 0, none⟩)] #[])] _ _ Tryz.underlying201 (by rw [s0]; omega) (by rfl)
 obtain ⟨X5, hX5⟩ : ∃ X, X = setMap ((w1.alloc (.cells #[.slice (some ⟨tb, 0, none⟩) l.length cap, .int .i64 0, .int .i64 0, .map (some w.heap.size), .map none, .map none] 203)).alloc (.map #[] 0)) (w1.heap.size + 1) (.map (mapOf [(tVar, .func (.func 163) #[.pointer (some ⟨w1.heap.size, 0, none⟩)] #[]), (tLet, .func (.func 163) #[.pointer (some ⟨w1.heap.size, 0, none⟩)] #[]), (tConst, .func (.func 163) #[.pointer (some ⟨w1.heap.size, 0, none⟩)] #[]), (tFunction, .func (.func 164) #[.pointer (some ⟨w1.heap.size, 0, none⟩)] #[]), (tLBrace, .func (.func 165) #[.pointer (some ⟨w1.heap.size, 0, none⟩)] #[])]) 5) := ⟨_, rfl⟩
 have u5 : (Instr.mapUpdate 201 (.map (some (w1.heap.size + 1))) (.string tLBrace) (.func (.func 165) #[.pointer (some ⟨w1.heap.size, 0, none⟩)] #[])).run Tryz.prog X4 = .ok () X5 := by rw [hX4, hX5]; exact upd 201 261 (w1.heap.size + 1) _ [(tVar, .func (.func 163) #[.pointer (some ⟨w1.heap.size, 0, none⟩)] #[]), (tLet, .func (.func 163) #[.pointer (some ⟨w1.heap.size, 0, none⟩)] #[]), (tConst, .func (.func 163) #[.pointer (some ⟨w1.heap.size, 0, none⟩)] #[]), (tFunction, .func (.func 164) #[.pointer (some ⟨w1.heap.size, 0, none⟩)] #[])] _ _ Tryz.underlying201 (by rw [s0]; omega) (by rfl)
 obtain ⟨X6, hX6⟩ : ∃ X, X = setMap ((w1.alloc (.cells #[.slice (some ⟨tb, 0, none⟩) l.length cap, .int .i64 0, .int .i64 0, .map (some w.heap.size), .map none, .map none] 203)).alloc (.map #[] 0)) (w1.heap.size + 1) (.map (mapOf [(tVar, .func (.func 163) #[.pointer (some ⟨w1.heap.size, 0, none⟩)] #[]), (tLet, .func (.func 163) #[.pointer (some ⟨w1.heap.size, 0, none⟩)] #[]), (tConst, .func (.func 163) #[.pointer (some ⟨w1.heap.size, 0, none⟩)] #[]), (tFunction, .func (.func 164) #[.pointer (some ⟨w1.heap.size, 0, none⟩)] #[]), (tLBrace, .func (.func 165) #[.pointer (some ⟨w1.heap.size, 0, none⟩)] #[]), (tSemi, .func (.func 166) #[.pointer (some ⟨w1.heap.size, 0, none⟩)] #[])]) 6) := ⟨_, rfl⟩
 have u6 : (Instr.mapUpdate 201 (.map (some (w1.heap.size + 1))) (.string tSemi) (.func (.func 166) #[.pointer (some ⟨w1.heap.size, 0, none⟩)] #[])).run Tryz.prog X5 = .ok () X6 := by rw [hX5, hX6]; exact upd 201 261 (w1.heap.size + 1) _ [(tVar, .func (.func 163) #[.pointer (some ⟨w1.heap.size, 0, none⟩)] #[]), (tLet, .func (.func 163) #[.pointer (some ⟨w1.heap.size, 0, none⟩)] #[]), (tConst, .func (.func 163) #[.pointer (some ⟨w1.heap.size, 0, none⟩)] #[]), (tFunction, .func (.func 164) #[.pointer (some ⟨w1.heap.size, 0, none⟩)] #[]), (tLBrace, .func (.func 165) #[.pointer (some ⟨w1.heap.size, 0, none⟩)] #[])] _ _ Tryz.underlying201 (by rw [s0]; omega) (by rfl)
 obtain ⟨X7, hX7⟩ : ∃ X, X = setMap ((w1.alloc (.cells #[.slice (some ⟨tb, 0, none⟩) l.length cap, .int .i64 0, .int .i64 0, .map (some w.heap.size), .map none, .map none] 203)).alloc (.map #[] 0)) (w1.heap.size + 1) (.map (mapOf [(tVar, .func (.func 163) #[.pointer (some ⟨w1.heap.size, 0, none⟩)] #[]), (tLet, .func (.func 163) #[.pointer (some ⟨w1.heap.size, 0, none⟩)] #[]), (tConst, .func (.func 163) #[.pointer (some ⟨w1.heap.size, 0, none⟩)] #[]), (tFunction, .func (.func 164) #[.pointer (some ⟨w1.heap.size, 0, none⟩)] #[]), (tLBrace, .func (.func 165) #[.pointer (some ⟨w1.heap.size, 0, none⟩)] #[]), (tSemi, .func (.func 166) #[.pointer (some ⟨w1.heap.size, 0, none⟩)] #[]), (tIf, .func (.func 167) #[.pointer (some ⟨w1.heap.size, 0, none⟩)] #[])]) 7) := ⟨_, rfl⟩
 have u7 : (Instr.mapUpdate 201 (.map (some (w1.heap.size + 1))) (.string tIf) (.func (.func 167) #[.pointer (some ⟨w1.heap.size, 0, none⟩)] #[])).run Tryz.prog X6 = .ok () X7 := by rw [hX6, hX7]; exact upd 201 261 (w1.heap.size + 1) _ [(tVar, .func (.func 163) #[.pointer (some ⟨w1.heap.size, 0, none⟩)] #[]), (tLet, .func (.func 163) #[.pointer (some ⟨w1.heap.size, 0, none⟩)] #[]), (tConst, .func (.func 163) #[.pointer (some ⟨w1.heap.size, 0, none⟩)] #[]), (tFunction, .func (.func 164) #[.pointer (some ⟨w1.heap.size, 0, none⟩)] #[]), (tLBrace, .func (.func 165) #[.pointer (some ⟨w1.heap.size, 0, none⟩)] #[]), (tSemi, .func (.func 166) #[.pointer (some ⟨w1.heap.size, 0, none⟩)] #[])] _ _ Tryz.underlying201 (by rw [s0]; omega) (by rfl)
 obtain ⟨X8, hX8⟩ : ∃ X, X = setMap ((w1.alloc (.cells #[.slice (some ⟨tb, 0, none⟩) l.length cap, .int .i64 0, .int .i64 0, .map (some w.heap.size), .map none, .map none] 203)).alloc (.map #[] 0)) (w1.heap.size + 1) (.map (mapOf [(tVar, .func (.func 163) #[.pointer (some ⟨w1.heap.size, 0, none⟩)] #[]), (tLet, .func (.func 163) #[.pointer (some ⟨w1.heap.size, 0, none⟩)] #[]), (tConst, .func (.func 163) #[.pointer (some ⟨w1.heap.size, 0, none⟩)] #[]), (tFunction, .func (.func 164) #[.pointer (some ⟨w1.heap.size, 0, none⟩)] #[]), (tLBrace, .func (.func 165) #[.pointer (some ⟨w1.heap.size, 0, none⟩)] #[]), (tSemi, .func (.func 166) #[.pointer (some ⟨w1.heap.size, 0, none⟩)] #[]), (tIf, .func (.func 167) #[.pointer (some ⟨w1.heap.size, 0, none⟩)] #[]), (tWhile, .func (.func 168) #[.pointer (some ⟨w1.heap.size, 0, none⟩)] #[])]) 8) := ⟨_, rfl⟩
 have u8 : (Instr.mapUpdate 201 (.map (some (w1.heap.size + 1))) (.string tWhile) (.func (.func 168) #[.pointer (some ⟨w1.heap.size, 0, none⟩)] #[])).run Tryz.prog X7 = .ok () X8 := by rw [hX7, hX8]; exact upd 201 261 (w1.heap.size + 1) _ [(tVar, .func (.func 163) #[.pointer (some ⟨w1.heap.size, 0, none⟩)] #[]), (tLet, .func (.func 163) #[.pointer (some ⟨w1.heap.size, 0, none⟩)] #[]), (tConst, .func (.func 163) #[.pointer (some ⟨w1.heap.size, 0, none⟩)] #[]), (tFunction, .func (.func 164) #[.pointer (some ⟨w1.heap.size, 0, none⟩)] #[]), (tLBrace, .func (.func 165) #[.pointer (some ⟨w1.heap.size, 0, none⟩)] #[]), (tSemi, .func (.func 166) #[.pointer (some ⟨w1.heap.size, 0, none⟩)] #[]), (tIf, .func (.func 167) #[.pointer (some ⟨w1.heap.size, 0, none⟩)] #[])] _ _ Tryz.underlying201 (by rw [s0]; omega) (by rfl)
 obtain ⟨X9, hX9⟩ : ∃ X, X = setMap ((w1.alloc (.cells #[.slice (some ⟨tb, 0, none⟩) l.length cap, .int .i64 0, .int .i64 0, .map (some w.heap.size), .map none, .map none] 203)).alloc (.map #[] 0)) (w1.heap.size + 1) (.map (mapOf [(tVar, .func (.func 163) #[.pointer (some ⟨w1.heap.size, 0, none⟩)] #[]), (tLet, .func (.func 163) #[.pointer (some ⟨w1.heap.size, 0, none⟩)] #[]), (tConst, .func (.func 163) #[.pointer (some ⟨w1.heap.size, 0, none⟩)] #[]), (tFunction, .func (.func 164) #[.pointer (some ⟨w1.heap.size, 0, none⟩)] #[]), (tLBrace, .func (.func 165) #[.pointer (some ⟨w1.heap.size, 0, none⟩)] #[]), (tSemi, .func (.func 166) #[.pointer (some ⟨w1.heap.size, 0, none⟩)] #[]), (tIf, .func (.func 167) #[.pointer (some ⟨w1.heap.size, 0, none⟩)] #[]), (tWhile, .func (.func 168) #[.pointer (some ⟨w1.heap.size, 0, none⟩)] #[]), (tWith, .func (.func 168) #[.pointer (some ⟨w1.heap.size, 0, none⟩)] #[])]) 9) := ⟨_, rfl⟩
 have u9 : (Instr.mapUpdate 201 (.map (some (w1.heap.size + 1))) (.string tWith) (.func (.func 168) #[.pointer (some ⟨w1.heap.size, 0, none⟩)] #[])).run Tryz.prog X8 = .ok () X9 := by rw [hX8, hX9]; exact upd 201 261 (w1.heap.size + 1) _ [(tVar, .func (.func 163) #[.pointer (some ⟨w1.heap.size, 0, none⟩)] #[]), (tLet, .func (.func 163) #[.pointer (some ⟨w1.heap.size, 0, none⟩)] #[]), (tConst, .func (.func 163) #[.pointer (some ⟨w1.heap.size, 0, none⟩)] #[]), (tFunction, .func (.func 164) #[.pointer (some ⟨w1.heap.size, 0, none⟩)] #[]), (tLBrace, .func (.func 165) #[.pointer (some ⟨w1.heap.size, 0, none⟩)] #[]), (tSemi, .func (.func 166) #[.pointer (some ⟨w1.heap.size, 0, none⟩)] #[]), (tIf, .func (.func 167) #[.pointer (some ⟨w1.heap.size, 0, none⟩)] #[]), (tWhile, .func (.func 168) #[.pointer (some ⟨w1.heap.size, 0, none⟩)] #[])] _ _ Tryz.underlying201 (by rw [s0]; omega) (by rfl)
 obtain ⟨X10, hX10⟩ : ∃ X, X = setMap ((w1.alloc (.cells #[.slice (some ⟨tb, 0, none⟩) l.length cap, .int .i64 0, .int .i64 0, .map (some w.heap.size), .map none, .map none] 203)).alloc (.map #[] 0)) (w1.heap.size + 1) (.map (mapOf [(tVar, .func (.func 163) #[.pointer (some ⟨w1.heap.size, 0, none⟩)] #[]), (tLet, .func (.func 163) #[.pointer (some ⟨w1.heap.size, 0, none⟩)] #[]), (tConst, .func (.func 163) #[.pointer (some ⟨w1.heap.size, 0, none⟩)] #[]), (tFunction, .func (.func 164) #[.pointer (some ⟨w1.heap.size, 0, none⟩)] #[]), (tLBrace, .func (.func 165) #[.pointer (some ⟨w1.heap.size, 0, none⟩)] #[]), (tSemi, .func (.func 166) #[.pointer (some ⟨w1.heap.size, 0, none⟩)] #[]), (tIf, .func (.func 167) #[.pointer (some ⟨w1.heap.size, 0, none⟩)] #[]), (tWhile, .func (.func 168) #[.pointer (some ⟨w1.heap.size, 0, none⟩)] #[]), (tWith, .func (.func 168) #[.pointer (some ⟨w1.heap.size, 0, none⟩)] #[]), (tReturn, .func (.func 169) #[.pointer (some ⟨w1.heap.size, 0, none⟩)] #[])]) 10) := ⟨_, rfl⟩
 have u10 : (Instr.mapUpdate 201 (.map (some (w1.heap.size + 1))) (.string tReturn) (.func (.func 169) #[.pointer (some ⟨w1.heap.size, 0, none⟩)] #[])).run Tryz.prog X9 = .ok () X10 := by rw [hX9, hX10]; exact upd 201 261 (w1.heap.size + 1) _ [(tVar, .func (.func 163) #[.pointer (some ⟨w1.heap.size, 0, none⟩)] #[]), (tLet, .func (.func 163) #[.pointer (some ⟨w1.heap.size, 0, none⟩)] #[]), (tConst, .func (.func 163) #[.pointer (some ⟨w1.heap.size, 0, none⟩)] #[]), (tFunction, .func (.func 164) #[.pointer (some ⟨w1.heap.size, 0, none⟩)] #[]), (tLBrace, .func (.func 165) #[.pointer (some ⟨w1.heap.size, 0, none⟩)] #[]), (tSemi, .func (.func 166) #[.pointer (some ⟨w1.heap.size, 0, none⟩)] #[]), (tIf, .func (.func 167) #[.pointer (some ⟨w1.heap.size, 0, none⟩)] #[]), (tWhile, .func (.func 168) #[.pointer (some ⟨w1.heap.size, 0, none⟩)] #[]), (tWith, .func (.func 168) #[.pointer (some ⟨w1.heap.size, 0, none⟩)] #[])] _ _ Tryz.underlying201 (by rw [s0]; omega) (by rfl)
 obtain ⟨X11, hX11⟩ : ∃ X, X = setMap ((w1.alloc (.cells #[.slice (some ⟨tb, 0, none⟩) l.length cap, .int .i64 0, .int .i64 0, .map (some w.heap.size), .map none, .map none] 203)).alloc (.map #[] 0)) (w1.heap.size + 1) (.map (mapOf [(tVar, .func (.func 163) #[.pointer (some ⟨w1.heap.size, 0, none⟩)] #[]), (tLet, .func (.func 163) #[.pointer (some ⟨w1.heap.size, 0, none⟩)] #[]), (tConst, .func (.func 163) #[.pointer (some ⟨w1.heap.size, 0, none⟩)] #[]), (tFunction, .func (.func 164) #[.pointer (some ⟨w1.heap.size, 0, none⟩)] #[]), (tLBrace, .func (.func 165) #[.pointer (some ⟨w1.heap.size, 0, none⟩)] #[]), (tSemi, .func (.func 166) #[.pointer (some ⟨w1.heap.size, 0, none⟩)] #[]), (tIf, .func (.func 167) #[.pointer (some ⟨w1.heap.size, 0, none⟩)] #[]), (tWhile, .func (.func 168) #[.pointer (some ⟨w1.heap.size, 0, none⟩)] #[]), (tWith, .func (.func 168) #[.pointer (some ⟨w1.heap.size, 0, none⟩)] #[]), (tReturn, .func (.func 169) #[.pointer (some ⟨w1.heap.size, 0, none⟩)] #[]), (tThrow, .func (.func 169) #[.pointer (some ⟨w1.heap.size, 0, none⟩)] #[])]) 11) := ⟨_, rfl⟩
 have u11 : (Instr.mapUpdate 201 (.map (some (w1.heap.size + 1))) (.string tThrow) (.func (.func 169) #[.pointer (some ⟨w1.heap.size, 0, none⟩)] #[])).run Tryz.prog X10 = .ok () X11 := by rw [hX10, hX11]; exact upd 201 261 (w1.heap.size + 1) _ [(tVar, .func (.func 163) #[.pointer (some ⟨w1.heap.size, 0, none⟩)] #[]), (tLet, .func (.func 163) #[.pointer (some ⟨w1.heap.size, 0, none⟩)] #[]), (tConst, .func (.func 163) #[.pointer (some ⟨w1.heap.size, 0, none⟩)] #[]), (tFunction, .func (.func 164) #[.pointer (some ⟨w1.heap.size, 0, none⟩)] #[]), (tLBrace, .func (.func 165) #[.pointer (some ⟨w1.heap.size, 0, none⟩)] #[]), (tSemi, .func (.func 166) #[.pointer (some ⟨w1.heap.size, 0, none⟩)] #[]), (tIf, .func (.func 167) #[.pointer (some ⟨w1.heap.size, 0, none⟩)] #[]), (tWhile, .func (.func 168) #[.pointer (some ⟨w1.heap.size, 0, none⟩)] #[]), (tWith, .func (.func 168) #[.pointer (some ⟨w1.heap.size, 0, none⟩)] #[]), (tReturn, .func (.func 169) #[.pointer (some ⟨w1.heap.size, 0, none⟩)] #[])] _ _ Tryz.underlying201 (by rw [s0]; omega) (by rfl)
 obtain ⟨X12, hX12⟩ : ∃ X, X = setMap ((w1.alloc (.cells #[.slice (some ⟨tb, 0, none⟩) l.length cap, .int .i64 0, .int .i64 0, .map (some w.heap.size), .map none, .map none] 203)).alloc (.map #[] 0)) (w1.heap.size + 1) (.map (mapOf [(tVar, .func (.func 163) #[.pointer (some ⟨w1.heap.size, 0, none⟩)] #[]), (tLet, .func (.func 163) #[.pointer (some ⟨w1.heap.size, 0, none⟩)] #[]), (tConst, .func (.func 163) #[.pointer (some ⟨w1.heap.size, 0, none⟩)] #[]), (tFunction, .func (.func 164) #[.pointer (some ⟨w1.heap.size, 0, none⟩)] #[]), (tLBrace, .func (.func 165) #[.pointer (some ⟨w1.heap.size, 0, none⟩)] #[]), (tSemi, .func (.func 166) #[.pointer (some ⟨w1.heap.size, 0, none⟩)] #[]), (tIf, .func (.func 167) #[.pointer (some ⟨w1.heap.size, 0, none⟩)] #[]), (tWhile, .func (.func 168) #[.pointer (some ⟨w1.heap.size, 0, none⟩)] #[]), (tWith, .func (.func 168) #[.pointer (some ⟨w1.heap.size, 0, none⟩)] #[]), (tReturn, .func (.func 169) #[.pointer (some ⟨w1.heap.size, 0, none⟩)] #[]), (tThrow, .func (.func 169) #[.pointer (some ⟨w1.heap.size, 0, none⟩)] #[]), (tTry, .func (.func 170) #[.pointer (some ⟨w1.heap.size, 0, none⟩)] #[])]) 12) := ⟨_, rfl⟩
 have u12 : (Instr.mapUpdate 201 (.map (some (w1.heap.size + 1))) (.string tTry) (.func (.func 170) #[.pointer (some ⟨w1.heap.size, 0, none⟩)] #[])).run Tryz.prog X11 = .ok () X12 := by rw [hX11, hX12]; exact upd 201 261 (w1.heap.size + 1) _ [(tVar, .func (.func 163) #[.pointer (some ⟨w1.heap.size, 0, none⟩)] #[]), (tLet, .func (.func 163) #[.pointer (some ⟨w1.heap.size, 0, none⟩)] #[]), (tConst, .func (.func 163) #[.pointer (some ⟨w1.heap.size, 0, none⟩)] #[]), (tFunction, .func (.func 164) #[.pointer (some ⟨w1.heap.size, 0, none⟩)] #[]), (tLBrace, .func (.func 165) #[.pointer (some ⟨w1.heap.size, 0, none⟩)] #[]), (tSemi, .func (.func 166) #[.pointer (some ⟨w1.heap.size, 0, none⟩)] #[]), (tIf, .func (.func 167) #[.pointer (some ⟨w1.heap.size, 0, none⟩)] #[]), (tWhile, .func (.func 168) #[.pointer (some ⟨w1.heap.size, 0, none⟩)] #[]), (tWith, .func (.func 168) #[.pointer (some ⟨w1.heap.size, 0, none⟩)] #[]), (tReturn, .func (.func 169) #[.pointer (some ⟨w1.heap.size, 0, none⟩)] #[]), (tThrow, .func (.func 169) #[.pointer (some ⟨w1.heap.size, 0, none⟩)] #[])] _ _ Tryz.underlying201 (by rw [s0]; omega) (by rfl)
 have xR : X12.heap[w1.heap.size]? = some (.cells #[.slice (some ⟨tb, 0, none⟩) l.length cap, .int .i64 0, .int .i64 0, .map (some w.heap.size), .map none, .map none] 203) := by rw [hX12, setMap_other (by omega), Below.heap_alloc _ _ _ (by simp)]; exact rA
 have s12 : X12.heap.size = w1.heap.size + 2 := by rw [hX12, setMap_size, s0]
 have yR : (X12.setCell ⟨w1.heap.size, 4, none⟩ (.map (some (w1.heap.size + 1)))).heap[w1.heap.size]? = some (.cells #[.slice (some ⟨tb, 0, none⟩) l.length cap, .int .i64 0, .int .i64 0, .map (some w.heap.size), .map (some (w1.heap.size + 1)), .map none] 203) := by rw [heap_set xR]; rfl
 have z0 : ((X12.setCell ⟨w1.heap.size, 4, none⟩ (.map (some (w1.heap.size + 1)))).alloc (.map #[] 0)).heap.size = w1.heap.size + 3 := by simp [s12]
 have n0 : ((X12.setCell ⟨w1.heap.size, 4, none⟩ (.map (some (w1.heap.size + 1)))).alloc (.map #[] 0)).heap[w1.heap.size + 2]? = some (.map #[] 0) := by
  have := heap_new (X12.setCell ⟨w1.heap.size, 4, none⟩ (.map (some (w1.heap.size + 1)))) (.map #[] 0); rw [World.size_setCell, s12] at this; exact this
 obtain ⟨Z1, hZ1⟩ : ∃ Z, Z = setMap ((X12.setCell ⟨w1.heap.size, 4, none⟩ (.map (some (w1.heap.size + 1)))).alloc (.map #[] 0)) (w1.heap.size + 2) (.map (mapOf [(tOpen, .func (.func 171) #[.pointer (some ⟨w1.heap.size, 0, none⟩)] #[])]) 1) := ⟨_, rfl⟩
 have v1 : (Instr.mapUpdate 201 (.map (some (w1.heap.size + 2))) (.string tOpen) (.func (.func 171) #[.pointer (some ⟨w1.heap.size, 0, none⟩)] #[])).run Tryz.prog ((X12.setCell ⟨w1.heap.size, 4, none⟩ (.map (some (w1.heap.size + 1)))).alloc (.map #[] 0)) = .ok () Z1 := by rw [hZ1]; exact upd0 201 261 (w1.heap.size + 2) _ _ _ Tryz.underlying201 n0
 obtain ⟨Z2, hZ2⟩ : ∃ Z, Z = setMap ((X12.setCell ⟨w1.heap.size, 4, none⟩ (.map (some (w1.heap.size + 1)))).alloc (.map #[] 0)) (w1.heap.size + 2) (.map (mapOf [(tOpen, .func (.func 171) #[.pointer (some ⟨w1.heap.size, 0, none⟩)] #[]), (tLBrace, .func (.func 172) #[.pointer (some ⟨w1.heap.size, 0, none⟩)] #[])]) 2) := ⟨_, rfl⟩
 have v2 : (Instr.mapUpdate 201 (.map (some (w1.heap.size + 2))) (.string tLBrace) (.func (.func 172) #[.pointer (some ⟨w1.heap.size, 0, none⟩)] #[])).run Tryz.prog Z1 = .ok () Z2 := by rw [hZ1, hZ2]; exact upd 201 261 (w1.heap.size + 2) _ [(tOpen, .func (.func 171) #[.pointer (some ⟨w1.heap.size, 0, none⟩)] #[])] _ _ Tryz.underlying201 (by rw [z0]; omega) (by rfl)
 obtain ⟨Z3, hZ3⟩ : ∃ Z, Z = setMap ((X12.setCell ⟨w1.heap.size, 4, none⟩ (.map (some (w1.heap.size + 1)))).alloc (.map #[] 0)) (w1.heap.size + 2) (.map (mapOf [(tOpen, .func (.func 171) #[.pointer (some ⟨w1.heap.size, 0, none⟩)] #[]), (tLBrace, .func (.func 172) #[.pointer (some ⟨w1.heap.size, 0, none⟩)] #[]), (tFunction, .func (.func 173) #[.pointer (some ⟨w1.heap.size, 0, none⟩)] #[])]) 3) := ⟨_, rfl⟩
 have v3 : (Instr.mapUpdate 201 (.map (some (w1.heap.size + 2))) (.string tFunction) (.func (.func 173) #[.pointer (some ⟨w1.heap.size, 0, none⟩)] #[])).run Tryz.prog Z2 = .ok () Z3 := by rw [hZ2, hZ3]; exact upd 201 261 (w1.heap.size + 2) _ [(tOpen, .func (.func 171) #[.pointer (some ⟨w1.heap.size, 0, none⟩)] #[]), (tLBrace, .func (.func 172) #[.pointer (some ⟨w1.heap.size, 0, none⟩)] #[])] _ _ Tryz.underlying201 (by rw [z0]; omega) (by rfl)
 have zR : Z3.heap[w1.heap.size]? = some (.cells #[.slice (some ⟨tb, 0, none⟩) l.length cap, .int .i64 0, .int .i64 0, .map (some w.heap.size), .map (some (w1.heap.size + 1)), .map none] 203) := by rw [hZ3, setMap_other (by omega), Below.heap_alloc _ _ _ (by rw [World.size_setCell, s12]; omega)]; exact yR
 have a4 : X12.cell? ⟨w1.heap.size, 4, none⟩ = some (.map none) := by rw [cell_of xR]; rfl
 have a4f := frozen_of xR 4
 have a5 : Z3.cell? ⟨w1.heap.size, 5, none⟩ = some (.map none) := by rw [cell_of zR]; rfl
 have a5f := frozen_of zR 5
 have HALL := hide (HMADE.out w1 X12 _ Z3 (Z3.setCell ⟨w1.heap.size, 5, none⟩ (.map (some (w1.heap.size + 2)))) w1.heap.size HM1.out (by first | rfl | trivial) HB1.out rfl (by rw [hX12]; rfl) rfl (by rw [hZ3]; rfl) rfl)
 have HLE : Hid (w.heap.size ≤ w1.heap.size) := HB1.out.size
 clear hX1 hX2 hX3 hX4 hX5 hX6 hX7 hX8 hX9 hX10 hX11 hX12 hZ1 hZ2 hZ3 xR yR zR rA m0 n0 z0 s0 HMADE
 go_wp2_with fail
 go_ret
 obtain ⟨m1, m2⟩ := unhide HALL
 exact ⟨_, rfl, rfl, HLE.out, m1, m2⟩
theorem program_any {c : Ctx} {F : Fns} (hF : FC c F) (hN : ∃ k, FNx c.l k F) (hK : FOk F) (w : World) (r : PR Tr) (hs : progP c.l F = r) (ho : r ≠ .out) (h : Rdr c w 0 0) : Calls Tryz.prog 103 #[rPtr c] w (PPost c w 0 (NV w.heap.size) r) := by
 have hmf := mf_bound c.R 176
 have HR0 := hide h
 have HE := hide h.base.ends
 have HL := hide h.base.len
 have HLO := hide h.base.size
 obtain ⟨i0, hi0, hz0, hz1, hz2⟩ := info_parts info22
 have HA0 := hide (Ap.refl c.R w.heap.size w)
 have HLT := hide h.rlt
 have HFC := hide hF
 have HNX := hide hN
 have HFO := hide hK
 unfold progP at hs
 have HS := hide hs
 have HO := hide ho
 clear h hs ho hF hN hK
 go_enter Tryz.func103, Tryz.ntmps103
 go_wp2_with fail
 go_loopw [3] (fun v wr => ∃ k acc j, (progLoop c.l F k acc j).bind (fun ts i => PR.ok (codeT (.mk 1 noText 0 ts)) i) = r ∧ Rdr c wr j 0 ∧ Ap c.R w.heap.size w wr ∧ KV w.heap.size wr acc v ∧ acc.length ≤ j ∧ ∀ t ∈ acc, t.kd = 15 → ∃ v r, t.kids = v :: r) (fun _ wr => c.l.length - nxt c wr)
 case atStart => exact ⟨F.fuel, [], 0, HS.out, HR0.out, HA0.out, KV.nil _ _, Nat.zero_le _, fun _ hu => absurd hu (by simp)⟩
 case round =>
  obtain ⟨k, acc, j, hq, hrd, hap, hkv, hle, hex⟩ := hrel; have HEX := hide hex; clear hex HS HR0 HA0
  cases k with
  | zero => exact absurd hq.symm HO.out
  | succ k =>
   have hL := unhide HL; have hjl := hrd.lt; have HR2 := hide hrd; have HRM := hide hrd; have HA2 := hide hap; have HK2 := hide hkv; have HLE := hide hle; have hfl := fldKind (tkA c.l j)
   by_cases hx : (tkA c.l j).kd = 6
   ·
    have HQ : Hid (PR.ok (codeT (.mk 1 noText 0 acc)) j = r) := by
     unfold progLoop at hq; rw [if_pos hx, bind_ok] at hq; exact hq
    have b6 : ((tkA c.l j).kd != 6) = false := by rw [hx]; rfl
    have HC := hide (token_any c wr j 0 hrd); unfold tkV at HC; obtain ⟨va, vc, rfl⟩ := hkv.shape; clear hq hrd hap hkv hle hx; go_wp2_with fail; refine cm HC.out ?_; rintro e w3 ⟨rfl, hb3⟩
    have HA3 := hide (HA2.out.next (Ap.of hb3)); have HR3 := hide (HR2.out.later hb3); have HK3 := hide (KV.later HK2.out (Ap.of hb3) HLT.out); clear hb3 HC HA2 HR2 HK2
    have HC := hide (node_any 1 noText (.slice va acc.length vc) w3 ⟨_, _, _, rfl⟩); go_wp2_with fail; refine cm HC.out ?_; rintro e wn ⟨rfl, rfl⟩; clear HC
    obtain ⟨m1, m2, m3⟩ := made0 HR3.out HA3.out HK3.out 1 noText _ rfl
    have HC := hide (code_any w.heap.size (.mk 1 noText 0 acc) (nPtr w3.heap.size) _ m1 (fun k1 r1 hk1 h15 => unhide HEX k1 (by have hk2 : acc = k1 :: r1 := hk1; rw [hk2]; simp) h15))
    have HM2 := hide m2; have HM3 := hide m3; clear m1 m2 m3; go_wp2_with fail; refine cm HC.out ?_; rintro e w5 ⟨rfl, hev, hbw⟩; have HEV := hide hev; have HR5 := hide (HM2.out.ap hbw HLO.out)
    have HA5 := hide (HM3.out.trans (Ap.of hbw)); clear hev hbw; go_wp2_with fail; go_ret; exact ppOk HQ.out.symm HEV.out.nv HR5.out HA5.out
   ·
    have HQ : Hid ((deepP c.l F.st 0 j).bind (fun t i1 => (progLoop c.l F k (acc ++ [t]) i1).bind fun ts i => PR.ok (codeT (.mk 1 noText 0 ts)) i) = r) := by
     unfold progLoop at hq; rw [if_neg hx] at hq; rw [← hq]
     cases deepP c.l F.st 0 j <;> rfl
    have b6 : ((tkA c.l j).kd != 6) = true := bne_iff_ne.2 hx; have HC := hide (token_any c wr j 0 hrd); unfold tkV at HC; clear hq hrd hap hkv hle hx
    cases hr : deepP c.l F.st 0 j with
    | out =>
     exact zbfk
    | bad er p =>
     have HRR := hide hr; rw [hr] at HQ; simp only [bind_bad] at HQ; clear hr; go_wp2_with fail; refine cm HC.out ?_; rintro e w3 ⟨rfl, hb3⟩; have HA3 := hide (HA2.out.next (Ap.of hb3))
     have HR3 := hide (HR2.out.later hb3); clear hb3 HC HA2 HR2; have HC := hide (deepS HFC.out w3 0 j HR3.out (by rw [HRR.out]; nofun))
     exact zbfd
    | ok t j2 =>
     have HRR := hide hr; rw [hr] at HQ; simp only [bind_ok] at HQ; clear hr; go_wp2_with fail; refine cm HC.out ?_; rintro e w3 ⟨rfl, hb3⟩; have HA3 := hide (HA2.out.next (Ap.of hb3)); have HR3 := hide (HR2.out.later hb3)
     have HK3 := hide (KV.later HK2.out (Ap.of hb3) HLT.out); clear hb3 HC HA2 HR2 HK2; have HC := hide (deepS HFC.out w3 0 j HR3.out (by rw [HRR.out]; nofun))
     rw [HRR.out] at HC; go_wp2_with fail; refine cm HC.out ?_; intro e w4 hp; obtain ⟨⟨v4, rfl, p4, rfl, hn4⟩, hrd, ha⟩ := hp; have HA4 := hide (HA3.out.next ha); have HR4 := hide hrd
     have HN4 := hide (apart_own HK3.out HA3.out.size ha HLT.out hn4); have HK4 := hide (KV.later HK3.out ha HLT.out); have hlt2 := hrd.lt; have hgt : j < j2 := by
      obtain ⟨kk, hkk⟩ := unhide HNX; exact ((deepP_nx (l := c.l) (d := 0) (hkk.st (0 + 1) j hjl)).2 t j2 HRR.out).1
     clear hrd ha hn4 HC HA3 HR3 HK3; obtain ⟨ps, hown, hk4, hkt⟩ := unhide HN4; have hlen := NAts.length _ _ hk4; have hOB := own_lt hown; rw [hlen] at hown; have HOWN := hide hown; have HLEN := hide hlen
     have HKK := hide hkt; have hsz := HA4.out.size; have hle := unhide HLE; have HOB := hide hOB; clear hown hk4 hkt HK4 HN4 hOB hlen
     go_wp2_with (at_builtin; refine wpList_append_lies _ rfl _ _ 46 rfl w.heap.size 22 i0 (.pointer none) 1 8 Tryz.underlying46 hi0 hz0 hz1 hz2 rfl (by decide) _ _ _ rfl (HOWN.out.alloc _) ⟨w4.heap.size, 0, none⟩ 1 1 [nPtr p4] rfl rfl (one_cells w4 p4 _ rfl) (one_one p4) (by decide) (by unfold maxLen; omega) (by omega) (by simp; omega) (w4.heap.size + 1) (by simp) ?_)
     intro g cap w5 hown' hgrow hg _
     have HK5 : Hid (KV w.heap.size w5 (acc ++ [t]) (.slice (some ⟨g, 0, none⟩) (acc.length + 1) cap)) := kv_push HKK.out (by rw [List.map_append]; exact hown') (by simp [HLEN.out]) hgrow hg
     have HA5 := hide ((HA4.out.alloc hsz (.cells #[nPtr p4] 22)).grown hgrow (by simp; omega) (fun k hk => (unhide HOB k hk).2))
     have HR5 := hide (HR4.out.ap (((Below.refl w.heap.size w4).alloc hsz (.cells #[nPtr p4] 22)).grown hgrow (by simp; omega) (fun k hk => (unhide HOB k hk).2)) HLO.out)
     clear hown' hgrow hg HKK HOWN; go_wp2_with fail
     go_roundw
     case rel => exact ⟨k, acc ++ [t], j2, HQ.out, HR5.out, HA5.out, HK5.out, by simp; omega, fun u hu => by
       rcases List.mem_append.1 hu with hu | hu
       ·
        exact unhide HEX u hu
       ·
        rw [List.mem_singleton] at hu; subst hu; exact unhide HFO _ _ _ _ (deepP_ok HRR.out)⟩
     case measure => rw [nxt_eq HR5.out, nxt_eq HRM.out]; omega
end Go.Proofs.YtoimgcjbcbhclaaGreatDoor
