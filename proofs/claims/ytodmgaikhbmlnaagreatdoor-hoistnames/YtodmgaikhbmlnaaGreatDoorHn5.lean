/-
  The reader that is made of the tokens.
-/
import Derived.Test.YtodmgaikhbmlnaaGreatDoorHn0
import Derived.Test.YtodmgaikhbmlnaaGreatDoorHn4
import Derived.Recover
import Derived.Defers
set_option maxRecDepth 100000
set_option maxHeartbeats 16000000
namespace Go.Proofs.YtodmgaikhbmlnaaGreatDoor
open Go.RowKit
theorem setMap_twice (W : World) (m : Nat) (a b : Obj) : zkq (zkq W m a) m b = zkq W m b := by simp [zkq]
theorem upd (T E : TypeId) (m : Nat) (W : World) (l : List (ByteArray × Value)) (s : ByteArray) (v : Value) (hT : Tryz.prog.underlying T = some (.map 9 E)) (hm : m < W.heap.size) (hn : l.find? (fun e => decide (s = e.1)) = none) :
  (Instr.mapUpdate T (.map (some m)) (.string s) v).run Tryz.prog (zkq W m (.map (zx6 l) l.length)) = .ok () (zkq W m (.map (zx6 (l ++ [(s, v)])) (l.length + 1))) := by
 rw [zg5 T E m l s v _ hT (zm4 hm) hn, setMap_twice]
theorem upd0 (T E : TypeId) (m : Nat) (W : World) (s : ByteArray) (v : Value) (hT : Tryz.prog.underlying T = some (.map 9 E)) (hm : W.heap[m]? = some (.map #[] 0)) :
  (Instr.mapUpdate T (.map (some m)) (.string s) v).run Tryz.prog W = .ok () (zkq W m (.map (zx6 [(s, v)]) 1)) :=
 zg5 T E m [] s v W hT hm rfl
theorem reader_made {w w1 X Y Z V : World} {l : List Tk} {tb cap R mS : Nat} {cur : Array Value} (hE : Ends l) (h0 : 0 < l.length) (hl : l.length ≤ 3001) (ht : w.heap[tb]? = some (.cells cur 123 (0, 0))) (hcap : l.length ≤ cap ∧ cap ≤ maxLen ∧ cur.size = cap * 4 ∧ cur.toList.take (l.length * 4) = zj1 l)
  (hh : ∃ t fr, w.heap[5]? = some (.cells hdCells t fr)) (hS : w1.heap[mS]? = some (.map sgMap 14)) (hSm : mS = w.heap.size) (hb : Below w.heap.size w w1) (hR : R = w1.heap.size)
  (hX : X = zkq ((w1.alloc (.cells #[.slice (some ⟨tb, 0, none⟩) l.length cap, .int .i64 0, .int .i64 0, .map (some mS), .map none, .map none] 170)).alloc (.map #[] 0)) (R + 1) (.map (stMap R) 12))
  (hY : Y = X.setCell ⟨R, 4, none⟩ (.map (some (R + 1)))) (hZ : Z = zkq (Y.alloc (.map #[] 0)) (R + 2) (.map (vlMap R) 3)) (hV : V = Z.setCell ⟨R, 5, none⟩ (.map (some (R + 2)))) :
  Rdr ⟨R, l, tb, cap, mS, R + 1, R + 2, R + 3⟩ V 0 0 ∧ Below w.heap.size w V := by
 have hsz := hb.size
 have ltb := zzq ht
 obtain ⟨t4, fr4, hh⟩ := hh
 have l4 := zzq hh
 have lmS := zzq hS
 have sX : X.heap.size = R + 2 := by rw [hX, zfv, hR]; simp
 have sY : Y.heap.size = R + 2 := by rw [hY, World.size_setCell, sX]
 have sZ : Z.heap.size = R + 3 := by rw [hZ, zfv]; simp [sY]
 have sV : V.heap.size = R + 3 := by rw [hV, World.size_setCell, sZ]
 have xl : ∀ b, b < R → X.heap[b]? = w1.heap[b]? := fun b hb => by
  rw [hX, zv5 (by omega), Below.heap_alloc _ _ b (by simp; omega), Below.heap_alloc _ _ b (by omega)]
 have xR : X.heap[R]? = some (.cells #[.slice (some ⟨tb, 0, none⟩) l.length cap, .int .i64 0, .int .i64 0, .map (some mS), .map none, .map none] 170 (0, 0)) := by
  rw [hX, zv5 (by omega), Below.heap_alloc _ _ R (by simp; omega), hR]
  exact zqx _ _
 have xT : X.heap[R + 1]? = some (.map (stMap R) 12) := by rw [hX, zm4 (by simp; omega)]
 have vl : ∀ b, b < R → V.heap[b]? = w1.heap[b]? := fun b hb => by
  rw [hV, Below.heap_setCell Z ⟨R, 5, none⟩ _ b (by simp; omega), hZ, zv5 (by omega), Below.heap_alloc _ _ b (by omega), hY, Below.heap_setCell X ⟨R, 4, none⟩ _ b (by simp; omega)]
  exact xl b hb
 have zR : Z.heap[R]? = some (.cells #[.slice (some ⟨tb, 0, none⟩) l.length cap, .int .i64 0, .int .i64 0, .map (some mS), .map (some (R + 1)), .map none] 170 (0, 0)) := by
  rw [hZ, zv5 (by omega), Below.heap_alloc _ _ R (by omega), hY, zqq xR]; rfl
 have vR : V.heap[R]? = some (.cells #[.slice (some ⟨tb, 0, none⟩) l.length cap, .int .i64 0, .int .i64 0, .map (some mS), .map (some (R + 1)), .map (some (R + 2))] 170 (0, 0)) := by
  rw [hV, zqq zR]; rfl
 have vT : V.heap[R + 1]? = some (.map (stMap R) 12) := by
  rw [hV, Below.heap_setCell Z ⟨R, 5, none⟩ _ (R + 1) (by simp), hZ, zv5 (by omega), Below.heap_alloc _ _ (R + 1) (by omega), hY, Below.heap_setCell X ⟨R, 4, none⟩ _ (R + 1) (by simp)]; exact xT
 have vV : V.heap[R + 2]? = some (.map (vlMap R) 3) := by
  rw [hV, Below.heap_setCell Z ⟨R, 5, none⟩ _ (R + 2) (by simp), hZ, zm4 (by simp; omega)]
 have lw : ∀ b, b < w.heap.size → V.heap[b]? = w.heap[b]? := fun b h => (vl b (by omega)).trans (hb.block b h)
 refine ⟨⟨⟨hE, ⟨cur, (lw tb ltb).trans ht, hcap⟩, ?_, (vl mS (by omega)).trans hS, ?_, vT, ?_, vV, ?_, hl, ⟨t4, fr4, (lw 5 l4).trans hh⟩, ?_, ?_, ?_⟩, vR, h0, by decide⟩, ?_⟩
 ·
  show tb ≠ R; omega
 ·
  show mS ≠ R; omega
 ·
  show R + 1 ≠ R; omega
 ·
  show R + 2 ≠ R; omega
 ·
  show 5 ≠ R; omega
 ·
  show tb < R + 3 ∧ mS < R + 3 ∧ R + 1 < R + 3 ∧ R + 2 < R + 3 ∧ 5 < R + 3 ∧ R < R + 3; omega
 ·
  show R + 3 ≤ V.heap.size; omega
 ·
  have bX : Below w.heap.size w X := by rw [hX]; exact zgw ((hb.alloc hsz _).alloc (by simp; omega) _) (by omega)
  have bY : Below w.heap.size w Y := by rw [hY]; exact bX.setCell (p := ⟨R, 4, none⟩) (by show w.heap.size ≤ R; omega) _
  have bZ : Below w.heap.size w Z := by rw [hZ]; exact zgw (bY.alloc bY.size _) (by omega)
  rw [hV]; exact bZ.setCell (p := ⟨R, 5, none⟩) (by show w.heap.size ≤ R; omega) _
theorem newReader_any (w : World) (l : List Tk) (tb cap : Nat) (cur : Array Value) (hE : Ends l) (h0 : 0 < l.length) (hl : l.length ≤ 3001) (ht : w.heap[tb]? = some (.cells cur 123 (0, 0))) (hcap : l.length ≤ cap ∧ cap ≤ maxLen ∧ cur.size = cap * 4 ∧ cur.toList.take (l.length * 4) = zj1 l)
  (hh : ∃ t fr, w.heap[5]? = some (.cells hdCells t fr)) (hs3 : ∃ t fr, w.heap[4]? = some (.cells sgCells t fr)) :
  Calls Tryz.prog 111 #[.slice (some ⟨tb, 0, none⟩) l.length cap] w fun e w' => ∃ c : Ctx, e = .returned (rPtr c) ∧ c.l = l ∧ w.heap.size ≤ c.R ∧ Rdr c w' 0 0 ∧ Below w.heap.size w w' := by
 obtain ⟨t3, fr3, hs3⟩ := hs3
 have HC := qh (signsByText_any w t3 fr3 hs3)
 have HMK := fun (w1 X Y Z V : World) (R : Nat) => reader_made (w := w) (w1 := w1) (X := X) (Y := Y) (Z := Z) (V := V) (R := R) (mS := w.heap.size) hE h0 hl ht hcap hh
 have HMADE := qh HMK
 have hmk := mkMap 168
 clear hs3 HMK hE h0 hl ht hcap hh
 go_enter Tryz.func111, Tryz.ntmps111
 go_wp2_with fail
 refine cm HC.out ?_
 rintro e w1 ⟨rfl, hm1, hb1⟩
 clear HC
 have HM1 := qh hm1
 have HB1 := qh hb1
 clear hm1 hb1
 have s0 : ((w1.alloc (.cells #[.slice (some ⟨tb, 0, none⟩) l.length cap, .int .i64 0, .int .i64 0, .map (some w.heap.size), .map none, .map none] 170)).alloc (.map #[] 0)).heap.size = w1.heap.size + 2 := by simp
 have m0 : ((w1.alloc (.cells #[.slice (some ⟨tb, 0, none⟩) l.length cap, .int .i64 0, .int .i64 0, .map (some w.heap.size), .map none, .map none] 170)).alloc (.map #[] 0)).heap[w1.heap.size + 1]? = some (.map #[] 0) := by
  have := zqx (w1.alloc (.cells #[.slice (some ⟨tb, 0, none⟩) l.length cap, .int .i64 0, .int .i64 0, .map (some w.heap.size), .map none, .map none] 170)) (.map #[] 0); simpa using this
 have rA : (w1.alloc (.cells #[.slice (some ⟨tb, 0, none⟩) l.length cap, .int .i64 0, .int .i64 0, .map (some w.heap.size), .map none, .map none] 170)).heap[w1.heap.size]? = some (.cells #[.slice (some ⟨tb, 0, none⟩) l.length cap, .int .i64 0, .int .i64 0, .map (some w.heap.size), .map none, .map none] 170) := zqx _ _
 obtain ⟨X1, hX1⟩ : ∃ X, X = zkq ((w1.alloc (.cells #[.slice (some ⟨tb, 0, none⟩) l.length cap, .int .i64 0, .int .i64 0, .map (some w.heap.size), .map none, .map none] 170)).alloc (.map #[] 0)) (w1.heap.size + 1) (.map (zx6 [(tVar, .func (.func 157) #[.pointer (some ⟨w1.heap.size, 0, none⟩)] #[])]) 1) := ⟨_, rfl⟩
 have u1 : (Instr.mapUpdate 168 (.map (some (w1.heap.size + 1))) (.string tVar) (.func (.func 157) #[.pointer (some ⟨w1.heap.size, 0, none⟩)] #[])).run Tryz.prog ((w1.alloc (.cells #[.slice (some ⟨tb, 0, none⟩) l.length cap, .int .i64 0, .int .i64 0, .map (some w.heap.size), .map none, .map none] 170)).alloc (.map #[] 0)) = .ok () X1 := by rw [hX1]; exact upd0 168 225 (w1.heap.size + 1) _ _ _ Tryz.underlying168 m0
 obtain ⟨X2, hX2⟩ : ∃ X, X = zkq ((w1.alloc (.cells #[.slice (some ⟨tb, 0, none⟩) l.length cap, .int .i64 0, .int .i64 0, .map (some w.heap.size), .map none, .map none] 170)).alloc (.map #[] 0)) (w1.heap.size + 1) (.map (zx6 [(tVar, .func (.func 157) #[.pointer (some ⟨w1.heap.size, 0, none⟩)] #[]), (tLet, .func (.func 157) #[.pointer (some ⟨w1.heap.size, 0, none⟩)] #[])]) 2) := ⟨_, rfl⟩
 have u2 : (Instr.mapUpdate 168 (.map (some (w1.heap.size + 1))) (.string tLet) (.func (.func 157) #[.pointer (some ⟨w1.heap.size, 0, none⟩)] #[])).run Tryz.prog X1 = .ok () X2 := by rw [hX1, hX2]; exact upd 168 225 (w1.heap.size + 1) _ [(tVar, .func (.func 157) #[.pointer (some ⟨w1.heap.size, 0, none⟩)] #[])] _ _ Tryz.underlying168 (by rw [s0]; omega) (by rfl)
 obtain ⟨X3, hX3⟩ : ∃ X, X = zkq ((w1.alloc (.cells #[.slice (some ⟨tb, 0, none⟩) l.length cap, .int .i64 0, .int .i64 0, .map (some w.heap.size), .map none, .map none] 170)).alloc (.map #[] 0)) (w1.heap.size + 1) (.map (zx6 [(tVar, .func (.func 157) #[.pointer (some ⟨w1.heap.size, 0, none⟩)] #[]), (tLet, .func (.func 157) #[.pointer (some ⟨w1.heap.size, 0, none⟩)] #[]), (zq1, .func (.func 157) #[.pointer (some ⟨w1.heap.size, 0, none⟩)] #[])]) 3) := ⟨_, rfl⟩
 have u3 : (Instr.mapUpdate 168 (.map (some (w1.heap.size + 1))) (.string zq1) (.func (.func 157) #[.pointer (some ⟨w1.heap.size, 0, none⟩)] #[])).run Tryz.prog X2 = .ok () X3 := by rw [hX2, hX3]; exact upd 168 225 (w1.heap.size + 1) _ [(tVar, .func (.func 157) #[.pointer (some ⟨w1.heap.size, 0, none⟩)] #[]), (tLet, .func (.func 157) #[.pointer (some ⟨w1.heap.size, 0, none⟩)] #[])] _ _ Tryz.underlying168 (by rw [s0]; omega) (by rfl)
 obtain ⟨X4, hX4⟩ : ∃ X, X = zkq ((w1.alloc (.cells #[.slice (some ⟨tb, 0, none⟩) l.length cap, .int .i64 0, .int .i64 0, .map (some w.heap.size), .map none, .map none] 170)).alloc (.map #[] 0)) (w1.heap.size + 1) (.map (zx6 [(tVar, .func (.func 157) #[.pointer (some ⟨w1.heap.size, 0, none⟩)] #[]), (tLet, .func (.func 157) #[.pointer (some ⟨w1.heap.size, 0, none⟩)] #[]), (zq1, .func (.func 157) #[.pointer (some ⟨w1.heap.size, 0, none⟩)] #[]), (zzw, .func (.func 158) #[.pointer (some ⟨w1.heap.size, 0, none⟩)] #[])]) 4) := ⟨_, rfl⟩
 have u4 : (Instr.mapUpdate 168 (.map (some (w1.heap.size + 1))) (.string zzw) (.func (.func 158) #[.pointer (some ⟨w1.heap.size, 0, none⟩)] #[])).run Tryz.prog X3 = .ok () X4 := by rw [hX3, hX4]; exact upd 168 225 (w1.heap.size + 1) _ [(tVar, .func (.func 157) #[.pointer (some ⟨w1.heap.size, 0, none⟩)] #[]), (tLet, .func (.func 157) #[.pointer (some ⟨w1.heap.size, 0, none⟩)] #[]), (zq1, .func (.func 157) #[.pointer (some ⟨w1.heap.size, 0, none⟩)] #[])] _ _ Tryz.underlying168 (by rw [s0]; omega) (by rfl)
 obtain ⟨X5, hX5⟩ : ∃ X, X = zkq ((w1.alloc (.cells #[.slice (some ⟨tb, 0, none⟩) l.length cap, .int .i64 0, .int .i64 0, .map (some w.heap.size), .map none, .map none] 170)).alloc (.map #[] 0)) (w1.heap.size + 1) (.map (zx6 [(tVar, .func (.func 157) #[.pointer (some ⟨w1.heap.size, 0, none⟩)] #[]), (tLet, .func (.func 157) #[.pointer (some ⟨w1.heap.size, 0, none⟩)] #[]), (zq1, .func (.func 157) #[.pointer (some ⟨w1.heap.size, 0, none⟩)] #[]), (zzw, .func (.func 158) #[.pointer (some ⟨w1.heap.size, 0, none⟩)] #[]), (zz4, .func (.func 159) #[.pointer (some ⟨w1.heap.size, 0, none⟩)] #[])]) 5) := ⟨_, rfl⟩
 have u5 : (Instr.mapUpdate 168 (.map (some (w1.heap.size + 1))) (.string zz4) (.func (.func 159) #[.pointer (some ⟨w1.heap.size, 0, none⟩)] #[])).run Tryz.prog X4 = .ok () X5 := by rw [hX4, hX5]; exact upd 168 225 (w1.heap.size + 1) _ [(tVar, .func (.func 157) #[.pointer (some ⟨w1.heap.size, 0, none⟩)] #[]), (tLet, .func (.func 157) #[.pointer (some ⟨w1.heap.size, 0, none⟩)] #[]), (zq1, .func (.func 157) #[.pointer (some ⟨w1.heap.size, 0, none⟩)] #[]), (zzw, .func (.func 158) #[.pointer (some ⟨w1.heap.size, 0, none⟩)] #[])] _ _ Tryz.underlying168 (by rw [s0]; omega) (by rfl)
 obtain ⟨X6, hX6⟩ : ∃ X, X = zkq ((w1.alloc (.cells #[.slice (some ⟨tb, 0, none⟩) l.length cap, .int .i64 0, .int .i64 0, .map (some w.heap.size), .map none, .map none] 170)).alloc (.map #[] 0)) (w1.heap.size + 1) (.map (zx6 [(tVar, .func (.func 157) #[.pointer (some ⟨w1.heap.size, 0, none⟩)] #[]), (tLet, .func (.func 157) #[.pointer (some ⟨w1.heap.size, 0, none⟩)] #[]), (zq1, .func (.func 157) #[.pointer (some ⟨w1.heap.size, 0, none⟩)] #[]), (zzw, .func (.func 158) #[.pointer (some ⟨w1.heap.size, 0, none⟩)] #[]), (zz4, .func (.func 159) #[.pointer (some ⟨w1.heap.size, 0, none⟩)] #[]), (zqz, .func (.func 160) #[.pointer (some ⟨w1.heap.size, 0, none⟩)] #[])]) 6) := ⟨_, rfl⟩
 have u6 : (Instr.mapUpdate 168 (.map (some (w1.heap.size + 1))) (.string zqz) (.func (.func 160) #[.pointer (some ⟨w1.heap.size, 0, none⟩)] #[])).run Tryz.prog X5 = .ok () X6 := by rw [hX5, hX6]; exact upd 168 225 (w1.heap.size + 1) _ [(tVar, .func (.func 157) #[.pointer (some ⟨w1.heap.size, 0, none⟩)] #[]), (tLet, .func (.func 157) #[.pointer (some ⟨w1.heap.size, 0, none⟩)] #[]), (zq1, .func (.func 157) #[.pointer (some ⟨w1.heap.size, 0, none⟩)] #[]), (zzw, .func (.func 158) #[.pointer (some ⟨w1.heap.size, 0, none⟩)] #[]), (zz4, .func (.func 159) #[.pointer (some ⟨w1.heap.size, 0, none⟩)] #[])] _ _ Tryz.underlying168 (by rw [s0]; omega) (by rfl)
 obtain ⟨X7, hX7⟩ : ∃ X, X = zkq ((w1.alloc (.cells #[.slice (some ⟨tb, 0, none⟩) l.length cap, .int .i64 0, .int .i64 0, .map (some w.heap.size), .map none, .map none] 170)).alloc (.map #[] 0)) (w1.heap.size + 1) (.map (zx6 [(tVar, .func (.func 157) #[.pointer (some ⟨w1.heap.size, 0, none⟩)] #[]), (tLet, .func (.func 157) #[.pointer (some ⟨w1.heap.size, 0, none⟩)] #[]), (zq1, .func (.func 157) #[.pointer (some ⟨w1.heap.size, 0, none⟩)] #[]), (zzw, .func (.func 158) #[.pointer (some ⟨w1.heap.size, 0, none⟩)] #[]), (zz4, .func (.func 159) #[.pointer (some ⟨w1.heap.size, 0, none⟩)] #[]), (zqz, .func (.func 160) #[.pointer (some ⟨w1.heap.size, 0, none⟩)] #[]), (tIf, .func (.func 161) #[.pointer (some ⟨w1.heap.size, 0, none⟩)] #[])]) 7) := ⟨_, rfl⟩
 have u7 : (Instr.mapUpdate 168 (.map (some (w1.heap.size + 1))) (.string tIf) (.func (.func 161) #[.pointer (some ⟨w1.heap.size, 0, none⟩)] #[])).run Tryz.prog X6 = .ok () X7 := by rw [hX6, hX7]; exact upd 168 225 (w1.heap.size + 1) _ [(tVar, .func (.func 157) #[.pointer (some ⟨w1.heap.size, 0, none⟩)] #[]), (tLet, .func (.func 157) #[.pointer (some ⟨w1.heap.size, 0, none⟩)] #[]), (zq1, .func (.func 157) #[.pointer (some ⟨w1.heap.size, 0, none⟩)] #[]), (zzw, .func (.func 158) #[.pointer (some ⟨w1.heap.size, 0, none⟩)] #[]), (zz4, .func (.func 159) #[.pointer (some ⟨w1.heap.size, 0, none⟩)] #[]), (zqz, .func (.func 160) #[.pointer (some ⟨w1.heap.size, 0, none⟩)] #[])] _ _ Tryz.underlying168 (by rw [s0]; omega) (by rfl)
 obtain ⟨X8, hX8⟩ : ∃ X, X = zkq ((w1.alloc (.cells #[.slice (some ⟨tb, 0, none⟩) l.length cap, .int .i64 0, .int .i64 0, .map (some w.heap.size), .map none, .map none] 170)).alloc (.map #[] 0)) (w1.heap.size + 1) (.map (zx6 [(tVar, .func (.func 157) #[.pointer (some ⟨w1.heap.size, 0, none⟩)] #[]), (tLet, .func (.func 157) #[.pointer (some ⟨w1.heap.size, 0, none⟩)] #[]), (zq1, .func (.func 157) #[.pointer (some ⟨w1.heap.size, 0, none⟩)] #[]), (zzw, .func (.func 158) #[.pointer (some ⟨w1.heap.size, 0, none⟩)] #[]), (zz4, .func (.func 159) #[.pointer (some ⟨w1.heap.size, 0, none⟩)] #[]), (zqz, .func (.func 160) #[.pointer (some ⟨w1.heap.size, 0, none⟩)] #[]), (tIf, .func (.func 161) #[.pointer (some ⟨w1.heap.size, 0, none⟩)] #[]), (zjz, .func (.func 162) #[.pointer (some ⟨w1.heap.size, 0, none⟩)] #[])]) 8) := ⟨_, rfl⟩
 have u8 : (Instr.mapUpdate 168 (.map (some (w1.heap.size + 1))) (.string zjz) (.func (.func 162) #[.pointer (some ⟨w1.heap.size, 0, none⟩)] #[])).run Tryz.prog X7 = .ok () X8 := by rw [hX7, hX8]; exact upd 168 225 (w1.heap.size + 1) _ [(tVar, .func (.func 157) #[.pointer (some ⟨w1.heap.size, 0, none⟩)] #[]), (tLet, .func (.func 157) #[.pointer (some ⟨w1.heap.size, 0, none⟩)] #[]), (zq1, .func (.func 157) #[.pointer (some ⟨w1.heap.size, 0, none⟩)] #[]), (zzw, .func (.func 158) #[.pointer (some ⟨w1.heap.size, 0, none⟩)] #[]), (zz4, .func (.func 159) #[.pointer (some ⟨w1.heap.size, 0, none⟩)] #[]), (zqz, .func (.func 160) #[.pointer (some ⟨w1.heap.size, 0, none⟩)] #[]), (tIf, .func (.func 161) #[.pointer (some ⟨w1.heap.size, 0, none⟩)] #[])] _ _ Tryz.underlying168 (by rw [s0]; omega) (by rfl)
 obtain ⟨X9, hX9⟩ : ∃ X, X = zkq ((w1.alloc (.cells #[.slice (some ⟨tb, 0, none⟩) l.length cap, .int .i64 0, .int .i64 0, .map (some w.heap.size), .map none, .map none] 170)).alloc (.map #[] 0)) (w1.heap.size + 1) (.map (zx6 [(tVar, .func (.func 157) #[.pointer (some ⟨w1.heap.size, 0, none⟩)] #[]), (tLet, .func (.func 157) #[.pointer (some ⟨w1.heap.size, 0, none⟩)] #[]), (zq1, .func (.func 157) #[.pointer (some ⟨w1.heap.size, 0, none⟩)] #[]), (zzw, .func (.func 158) #[.pointer (some ⟨w1.heap.size, 0, none⟩)] #[]), (zz4, .func (.func 159) #[.pointer (some ⟨w1.heap.size, 0, none⟩)] #[]), (zqz, .func (.func 160) #[.pointer (some ⟨w1.heap.size, 0, none⟩)] #[]), (tIf, .func (.func 161) #[.pointer (some ⟨w1.heap.size, 0, none⟩)] #[]), (zjz, .func (.func 162) #[.pointer (some ⟨w1.heap.size, 0, none⟩)] #[]), (zv4, .func (.func 162) #[.pointer (some ⟨w1.heap.size, 0, none⟩)] #[])]) 9) := ⟨_, rfl⟩
 have u9 : (Instr.mapUpdate 168 (.map (some (w1.heap.size + 1))) (.string zv4) (.func (.func 162) #[.pointer (some ⟨w1.heap.size, 0, none⟩)] #[])).run Tryz.prog X8 = .ok () X9 := by rw [hX8, hX9]; exact upd 168 225 (w1.heap.size + 1) _ [(tVar, .func (.func 157) #[.pointer (some ⟨w1.heap.size, 0, none⟩)] #[]), (tLet, .func (.func 157) #[.pointer (some ⟨w1.heap.size, 0, none⟩)] #[]), (zq1, .func (.func 157) #[.pointer (some ⟨w1.heap.size, 0, none⟩)] #[]), (zzw, .func (.func 158) #[.pointer (some ⟨w1.heap.size, 0, none⟩)] #[]), (zz4, .func (.func 159) #[.pointer (some ⟨w1.heap.size, 0, none⟩)] #[]), (zqz, .func (.func 160) #[.pointer (some ⟨w1.heap.size, 0, none⟩)] #[]), (tIf, .func (.func 161) #[.pointer (some ⟨w1.heap.size, 0, none⟩)] #[]), (zjz, .func (.func 162) #[.pointer (some ⟨w1.heap.size, 0, none⟩)] #[])] _ _ Tryz.underlying168 (by rw [s0]; omega) (by rfl)
 obtain ⟨X10, hX10⟩ : ∃ X, X = zkq ((w1.alloc (.cells #[.slice (some ⟨tb, 0, none⟩) l.length cap, .int .i64 0, .int .i64 0, .map (some w.heap.size), .map none, .map none] 170)).alloc (.map #[] 0)) (w1.heap.size + 1) (.map (zx6 [(tVar, .func (.func 157) #[.pointer (some ⟨w1.heap.size, 0, none⟩)] #[]), (tLet, .func (.func 157) #[.pointer (some ⟨w1.heap.size, 0, none⟩)] #[]), (zq1, .func (.func 157) #[.pointer (some ⟨w1.heap.size, 0, none⟩)] #[]), (zzw, .func (.func 158) #[.pointer (some ⟨w1.heap.size, 0, none⟩)] #[]), (zz4, .func (.func 159) #[.pointer (some ⟨w1.heap.size, 0, none⟩)] #[]), (zqz, .func (.func 160) #[.pointer (some ⟨w1.heap.size, 0, none⟩)] #[]), (tIf, .func (.func 161) #[.pointer (some ⟨w1.heap.size, 0, none⟩)] #[]), (zjz, .func (.func 162) #[.pointer (some ⟨w1.heap.size, 0, none⟩)] #[]), (zv4, .func (.func 162) #[.pointer (some ⟨w1.heap.size, 0, none⟩)] #[]), (zw6, .func (.func 163) #[.pointer (some ⟨w1.heap.size, 0, none⟩)] #[])]) 10) := ⟨_, rfl⟩
 have u10 : (Instr.mapUpdate 168 (.map (some (w1.heap.size + 1))) (.string zw6) (.func (.func 163) #[.pointer (some ⟨w1.heap.size, 0, none⟩)] #[])).run Tryz.prog X9 = .ok () X10 := by rw [hX9, hX10]; exact upd 168 225 (w1.heap.size + 1) _ [(tVar, .func (.func 157) #[.pointer (some ⟨w1.heap.size, 0, none⟩)] #[]), (tLet, .func (.func 157) #[.pointer (some ⟨w1.heap.size, 0, none⟩)] #[]), (zq1, .func (.func 157) #[.pointer (some ⟨w1.heap.size, 0, none⟩)] #[]), (zzw, .func (.func 158) #[.pointer (some ⟨w1.heap.size, 0, none⟩)] #[]), (zz4, .func (.func 159) #[.pointer (some ⟨w1.heap.size, 0, none⟩)] #[]), (zqz, .func (.func 160) #[.pointer (some ⟨w1.heap.size, 0, none⟩)] #[]), (tIf, .func (.func 161) #[.pointer (some ⟨w1.heap.size, 0, none⟩)] #[]), (zjz, .func (.func 162) #[.pointer (some ⟨w1.heap.size, 0, none⟩)] #[]), (zv4, .func (.func 162) #[.pointer (some ⟨w1.heap.size, 0, none⟩)] #[])] _ _ Tryz.underlying168 (by rw [s0]; omega) (by rfl)
 obtain ⟨X11, hX11⟩ : ∃ X, X = zkq ((w1.alloc (.cells #[.slice (some ⟨tb, 0, none⟩) l.length cap, .int .i64 0, .int .i64 0, .map (some w.heap.size), .map none, .map none] 170)).alloc (.map #[] 0)) (w1.heap.size + 1) (.map (zx6 [(tVar, .func (.func 157) #[.pointer (some ⟨w1.heap.size, 0, none⟩)] #[]), (tLet, .func (.func 157) #[.pointer (some ⟨w1.heap.size, 0, none⟩)] #[]), (zq1, .func (.func 157) #[.pointer (some ⟨w1.heap.size, 0, none⟩)] #[]), (zzw, .func (.func 158) #[.pointer (some ⟨w1.heap.size, 0, none⟩)] #[]), (zz4, .func (.func 159) #[.pointer (some ⟨w1.heap.size, 0, none⟩)] #[]), (zqz, .func (.func 160) #[.pointer (some ⟨w1.heap.size, 0, none⟩)] #[]), (tIf, .func (.func 161) #[.pointer (some ⟨w1.heap.size, 0, none⟩)] #[]), (zjz, .func (.func 162) #[.pointer (some ⟨w1.heap.size, 0, none⟩)] #[]), (zv4, .func (.func 162) #[.pointer (some ⟨w1.heap.size, 0, none⟩)] #[]), (zw6, .func (.func 163) #[.pointer (some ⟨w1.heap.size, 0, none⟩)] #[]), (zf9, .func (.func 163) #[.pointer (some ⟨w1.heap.size, 0, none⟩)] #[])]) 11) := ⟨_, rfl⟩
 have u11 : (Instr.mapUpdate 168 (.map (some (w1.heap.size + 1))) (.string zf9) (.func (.func 163) #[.pointer (some ⟨w1.heap.size, 0, none⟩)] #[])).run Tryz.prog X10 = .ok () X11 := by rw [hX10, hX11]; exact upd 168 225 (w1.heap.size + 1) _ [(tVar, .func (.func 157) #[.pointer (some ⟨w1.heap.size, 0, none⟩)] #[]), (tLet, .func (.func 157) #[.pointer (some ⟨w1.heap.size, 0, none⟩)] #[]), (zq1, .func (.func 157) #[.pointer (some ⟨w1.heap.size, 0, none⟩)] #[]), (zzw, .func (.func 158) #[.pointer (some ⟨w1.heap.size, 0, none⟩)] #[]), (zz4, .func (.func 159) #[.pointer (some ⟨w1.heap.size, 0, none⟩)] #[]), (zqz, .func (.func 160) #[.pointer (some ⟨w1.heap.size, 0, none⟩)] #[]), (tIf, .func (.func 161) #[.pointer (some ⟨w1.heap.size, 0, none⟩)] #[]), (zjz, .func (.func 162) #[.pointer (some ⟨w1.heap.size, 0, none⟩)] #[]), (zv4, .func (.func 162) #[.pointer (some ⟨w1.heap.size, 0, none⟩)] #[]), (zw6, .func (.func 163) #[.pointer (some ⟨w1.heap.size, 0, none⟩)] #[])] _ _ Tryz.underlying168 (by rw [s0]; omega) (by rfl)
 obtain ⟨X12, hX12⟩ : ∃ X, X = zkq ((w1.alloc (.cells #[.slice (some ⟨tb, 0, none⟩) l.length cap, .int .i64 0, .int .i64 0, .map (some w.heap.size), .map none, .map none] 170)).alloc (.map #[] 0)) (w1.heap.size + 1) (.map (zx6 [(tVar, .func (.func 157) #[.pointer (some ⟨w1.heap.size, 0, none⟩)] #[]), (tLet, .func (.func 157) #[.pointer (some ⟨w1.heap.size, 0, none⟩)] #[]), (zq1, .func (.func 157) #[.pointer (some ⟨w1.heap.size, 0, none⟩)] #[]), (zzw, .func (.func 158) #[.pointer (some ⟨w1.heap.size, 0, none⟩)] #[]), (zz4, .func (.func 159) #[.pointer (some ⟨w1.heap.size, 0, none⟩)] #[]), (zqz, .func (.func 160) #[.pointer (some ⟨w1.heap.size, 0, none⟩)] #[]), (tIf, .func (.func 161) #[.pointer (some ⟨w1.heap.size, 0, none⟩)] #[]), (zjz, .func (.func 162) #[.pointer (some ⟨w1.heap.size, 0, none⟩)] #[]), (zv4, .func (.func 162) #[.pointer (some ⟨w1.heap.size, 0, none⟩)] #[]), (zw6, .func (.func 163) #[.pointer (some ⟨w1.heap.size, 0, none⟩)] #[]), (zf9, .func (.func 163) #[.pointer (some ⟨w1.heap.size, 0, none⟩)] #[]), (tTry, .func (.func 164) #[.pointer (some ⟨w1.heap.size, 0, none⟩)] #[])]) 12) := ⟨_, rfl⟩
 have u12 : (Instr.mapUpdate 168 (.map (some (w1.heap.size + 1))) (.string tTry) (.func (.func 164) #[.pointer (some ⟨w1.heap.size, 0, none⟩)] #[])).run Tryz.prog X11 = .ok () X12 := by rw [hX11, hX12]; exact upd 168 225 (w1.heap.size + 1) _ [(tVar, .func (.func 157) #[.pointer (some ⟨w1.heap.size, 0, none⟩)] #[]), (tLet, .func (.func 157) #[.pointer (some ⟨w1.heap.size, 0, none⟩)] #[]), (zq1, .func (.func 157) #[.pointer (some ⟨w1.heap.size, 0, none⟩)] #[]), (zzw, .func (.func 158) #[.pointer (some ⟨w1.heap.size, 0, none⟩)] #[]), (zz4, .func (.func 159) #[.pointer (some ⟨w1.heap.size, 0, none⟩)] #[]), (zqz, .func (.func 160) #[.pointer (some ⟨w1.heap.size, 0, none⟩)] #[]), (tIf, .func (.func 161) #[.pointer (some ⟨w1.heap.size, 0, none⟩)] #[]), (zjz, .func (.func 162) #[.pointer (some ⟨w1.heap.size, 0, none⟩)] #[]), (zv4, .func (.func 162) #[.pointer (some ⟨w1.heap.size, 0, none⟩)] #[]), (zw6, .func (.func 163) #[.pointer (some ⟨w1.heap.size, 0, none⟩)] #[]), (zf9, .func (.func 163) #[.pointer (some ⟨w1.heap.size, 0, none⟩)] #[])] _ _ Tryz.underlying168 (by rw [s0]; omega) (by rfl)
 have xR : X12.heap[w1.heap.size]? = some (.cells #[.slice (some ⟨tb, 0, none⟩) l.length cap, .int .i64 0, .int .i64 0, .map (some w.heap.size), .map none, .map none] 170) := by rw [hX12, zv5 (by omega), Below.heap_alloc _ _ _ (by simp)]; exact rA
 have s12 : X12.heap.size = w1.heap.size + 2 := by rw [hX12, zfv, s0]
 have yR : (X12.setCell ⟨w1.heap.size, 4, none⟩ (.map (some (w1.heap.size + 1)))).heap[w1.heap.size]? = some (.cells #[.slice (some ⟨tb, 0, none⟩) l.length cap, .int .i64 0, .int .i64 0, .map (some w.heap.size), .map (some (w1.heap.size + 1)), .map none] 170) := by rw [zqq xR]; rfl
 have z0 : ((X12.setCell ⟨w1.heap.size, 4, none⟩ (.map (some (w1.heap.size + 1)))).alloc (.map #[] 0)).heap.size = w1.heap.size + 3 := by simp [s12]
 have n0 : ((X12.setCell ⟨w1.heap.size, 4, none⟩ (.map (some (w1.heap.size + 1)))).alloc (.map #[] 0)).heap[w1.heap.size + 2]? = some (.map #[] 0) := by
  have := zqx (X12.setCell ⟨w1.heap.size, 4, none⟩ (.map (some (w1.heap.size + 1)))) (.map #[] 0); rw [World.size_setCell, s12] at this; exact this
 obtain ⟨Z1, hZ1⟩ : ∃ Z, Z = zkq ((X12.setCell ⟨w1.heap.size, 4, none⟩ (.map (some (w1.heap.size + 1)))).alloc (.map #[] 0)) (w1.heap.size + 2) (.map (zx6 [(zxw, .func (.func 165) #[.pointer (some ⟨w1.heap.size, 0, none⟩)] #[])]) 1) := ⟨_, rfl⟩
 have v1 : (Instr.mapUpdate 168 (.map (some (w1.heap.size + 2))) (.string zxw) (.func (.func 165) #[.pointer (some ⟨w1.heap.size, 0, none⟩)] #[])).run Tryz.prog ((X12.setCell ⟨w1.heap.size, 4, none⟩ (.map (some (w1.heap.size + 1)))).alloc (.map #[] 0)) = .ok () Z1 := by rw [hZ1]; exact upd0 168 225 (w1.heap.size + 2) _ _ _ Tryz.underlying168 n0
 obtain ⟨Z2, hZ2⟩ : ∃ Z, Z = zkq ((X12.setCell ⟨w1.heap.size, 4, none⟩ (.map (some (w1.heap.size + 1)))).alloc (.map #[] 0)) (w1.heap.size + 2) (.map (zx6 [(zxw, .func (.func 165) #[.pointer (some ⟨w1.heap.size, 0, none⟩)] #[]), (zz4, .func (.func 166) #[.pointer (some ⟨w1.heap.size, 0, none⟩)] #[])]) 2) := ⟨_, rfl⟩
 have v2 : (Instr.mapUpdate 168 (.map (some (w1.heap.size + 2))) (.string zz4) (.func (.func 166) #[.pointer (some ⟨w1.heap.size, 0, none⟩)] #[])).run Tryz.prog Z1 = .ok () Z2 := by rw [hZ1, hZ2]; exact upd 168 225 (w1.heap.size + 2) _ [(zxw, .func (.func 165) #[.pointer (some ⟨w1.heap.size, 0, none⟩)] #[])] _ _ Tryz.underlying168 (by rw [z0]; omega) (by rfl)
 obtain ⟨Z3, hZ3⟩ : ∃ Z, Z = zkq ((X12.setCell ⟨w1.heap.size, 4, none⟩ (.map (some (w1.heap.size + 1)))).alloc (.map #[] 0)) (w1.heap.size + 2) (.map (zx6 [(zxw, .func (.func 165) #[.pointer (some ⟨w1.heap.size, 0, none⟩)] #[]), (zz4, .func (.func 166) #[.pointer (some ⟨w1.heap.size, 0, none⟩)] #[]), (zzw, .func (.func 167) #[.pointer (some ⟨w1.heap.size, 0, none⟩)] #[])]) 3) := ⟨_, rfl⟩
 have v3 : (Instr.mapUpdate 168 (.map (some (w1.heap.size + 2))) (.string zzw) (.func (.func 167) #[.pointer (some ⟨w1.heap.size, 0, none⟩)] #[])).run Tryz.prog Z2 = .ok () Z3 := by rw [hZ2, hZ3]; exact upd 168 225 (w1.heap.size + 2) _ [(zxw, .func (.func 165) #[.pointer (some ⟨w1.heap.size, 0, none⟩)] #[]), (zz4, .func (.func 166) #[.pointer (some ⟨w1.heap.size, 0, none⟩)] #[])] _ _ Tryz.underlying168 (by rw [z0]; omega) (by rfl)
 have zR : Z3.heap[w1.heap.size]? = some (.cells #[.slice (some ⟨tb, 0, none⟩) l.length cap, .int .i64 0, .int .i64 0, .map (some w.heap.size), .map (some (w1.heap.size + 1)), .map none] 170) := by rw [hZ3, zv5 (by omega), Below.heap_alloc _ _ _ (by rw [World.size_setCell, s12]; omega)]; exact yR
 have a4 : X12.cell? ⟨w1.heap.size, 4, none⟩ = some (.map none) := by rw [zqj xR]; rfl
 have a4f := zj5 xR 4
 have a5 : Z3.cell? ⟨w1.heap.size, 5, none⟩ = some (.map none) := by rw [zqj zR]; rfl
 have a5f := zj5 zR 5
 have HALL := qh (HMADE.out w1 X12 _ Z3 (Z3.setCell ⟨w1.heap.size, 5, none⟩ (.map (some (w1.heap.size + 2)))) w1.heap.size HM1.out (by first | rfl | trivial) HB1.out rfl (by rw [hX12]; rfl) rfl (by rw [hZ3]; rfl) rfl)
 have HLE : Hid (w.heap.size ≤ w1.heap.size) := HB1.out.size
 clear hX1 hX2 hX3 hX4 hX5 hX6 hX7 hX8 hX9 hX10 hX11 hX12 hZ1 hZ2 hZ3 xR yR zR rA m0 n0 z0 s0 HMADE
 go_wp2_with fail
 go_ret
 obtain ⟨m1, m2⟩ := zzz HALL
 exact ⟨_, rfl, rfl, HLE.out, m1, m2⟩
theorem program_any {c : Ctx} {F : Fns} (hF : FC c F) (hN : ∃ k, FNx c.l k F) (hK : FOk F) (w : World) (r : PR Tr) (hs : zh5 c.l F = r) (ho : r ≠ .out) (h : Rdr c w 0 0) : Calls Tryz.prog 112 #[rPtr c] w (zk6 c w 0 (NV w.heap.size) r) := by
 have hmf := zk5 c.R 170
 have HR0 := qh h
 have HE := qh h.base.ends
 have HL := qh h.base.len
 have HLO := qh h.base.size
 obtain ⟨i0, hi0, hz0, hz1, hz2⟩ := info_parts zkw
 have HA0 := qh (Ap.refl c.R w.heap.size w)
 have HLT := qh h.rlt
 have HFC := qh hF
 have HNX := qh hN
 have HFO := qh hK
 unfold zh5 at hs
 have HS := qh hs
 have HO := qh ho
 clear h hs ho hF hN hK
 go_enter Tryz.func112, Tryz.ntmps112
 go_wp2_with fail
 go_loopw [3] (fun v wr => ∃ k acc j, (zjv c.l F k acc j).bind (fun ts i => PR.ok (zh0 (.mk 1 zzx 0 ts)) i) = r ∧ Rdr c wr j 0 ∧ Ap c.R w.heap.size w wr ∧ KV w.heap.size wr acc v ∧ acc.length ≤ j ∧ ∀ t ∈ acc, t.kd = 15 → ∃ v r, t.kids = v :: r) (fun _ wr => c.l.length - nxt c wr)
 case atStart => exact ⟨F.fuel, [], 0, HS.out, HR0.out, HA0.out, KV.nil _ _, Nat.zero_le _, fun _ hu => absurd hu (by simp)⟩
 case round =>
  obtain ⟨k, acc, j, hq, hrd, hap, hkv, hle, hex⟩ := hrel; have HEX := qh hex; clear hex HS HR0 HA0
  cases k with
  | zero => exact absurd hq.symm HO.out
  | succ k =>
   have hL := zzz HL; have hjl := hrd.lt; have HR2 := qh hrd; have HRM := qh hrd; have HA2 := qh hap; have HK2 := qh hkv; have HLE := qh hle; have hfl := zg4 (tkA c.l j)
   by_cases hx : (tkA c.l j).kd = 6
   ·
    have HQ : Hid (PR.ok (zh0 (.mk 1 zzx 0 acc)) j = r) := by
     unfold zjv at hq; rw [if_pos hx, zzv] at hq; exact hq
    have b6 : ((tkA c.l j).kd != 6) = false := by rw [hx]; rfl
    have HC := qh (zjk c wr j 0 hrd); unfold tkV at HC; obtain ⟨va, vc, rfl⟩ := hkv.shape; clear hq hrd hap hkv hle hx; go_wp2_with fail; refine cm HC.out ?_; rintro e w3 ⟨rfl, hb3⟩
    have HA3 := qh (HA2.out.next (Ap.of hb3)); have HR3 := qh (HR2.out.later hb3); have HK3 := qh (KV.later HK2.out (Ap.of hb3) HLT.out); clear hb3 HC HA2 HR2 HK2
    have HC := qh (zqw 1 zzx (.slice va acc.length vc) w3 ⟨_, _, _, rfl⟩); go_wp2_with fail; refine cm HC.out ?_; rintro e wn ⟨rfl, rfl⟩; clear HC
    obtain ⟨m1, m2, m3⟩ := made0 HR3.out HA3.out HK3.out 1 zzx _ rfl
    have HC := qh (qzq w.heap.size (.mk 1 zzx 0 acc) (nPtr w3.heap.size) _ m1 (fun k1 r1 hk1 h15 => zzz HEX k1 (by have hk2 : acc = k1 :: r1 := hk1; rw [hk2]; simp) h15))
    have HM2 := qh m2; have HM3 := qh m3; clear m1 m2 m3; go_wp2_with fail; refine cm HC.out ?_; rintro e w5 ⟨rfl, hev, hbw⟩; have HEV := qh hev; have HR5 := qh (HM2.out.ap hbw HLO.out)
    have HA5 := qh (HM3.out.trans (Ap.of hbw)); clear hev hbw; go_wp2_with fail; go_ret; exact ppOk HQ.out.symm HEV.out.nv HR5.out HA5.out
   ·
    have HQ : Hid ((zq4 c.l F.st 0 j).bind (fun t i1 => (zjv c.l F k (acc ++ [t]) i1).bind fun ts i => PR.ok (zh0 (.mk 1 zzx 0 ts)) i) = r) := by
     unfold zjv at hq; rw [if_neg hx] at hq; rw [← hq]
     cases zq4 c.l F.st 0 j <;> rfl
    have b6 : ((tkA c.l j).kd != 6) = true := bne_iff_ne.2 hx; have HC := qh (zjk c wr j 0 hrd); unfold tkV at HC; clear hq hrd hap hkv hle hx
    cases hr : zq4 c.l F.st 0 j with
    | out =>
     rw [hr] at HQ; simp only [zqv] at HQ; exact absurd HQ.out.symm HO.out
    | bad er p =>
     have HRR := qh hr; rw [hr] at HQ; simp only [zz6] at HQ; clear hr; go_wp2_with fail; refine cm HC.out ?_; rintro e w3 ⟨rfl, hb3⟩; have HA3 := qh (HA2.out.next (Ap.of hb3))
     have HR3 := qh (HR2.out.later hb3); clear hb3 HC HA2 HR2; have HC := qh (deepS HFC.out w3 0 j HR3.out (by rw [HRR.out]; nofun))
     rw [HRR.out] at HC; go_wp2_with fail; refine cm HC.out ?_; intro e w' hp; obtain ⟨rfl, ha⟩ := hp; exact ⟨rfl, zq9 HQ.out.symm (HA3.out.next ha)⟩
    | ok t j2 =>
     have HRR := qh hr; rw [hr] at HQ; simp only [zzv] at HQ; clear hr; go_wp2_with fail; refine cm HC.out ?_; rintro e w3 ⟨rfl, hb3⟩; have HA3 := qh (HA2.out.next (Ap.of hb3)); have HR3 := qh (HR2.out.later hb3)
     have HK3 := qh (KV.later HK2.out (Ap.of hb3) HLT.out); clear hb3 HC HA2 HR2 HK2; have HC := qh (deepS HFC.out w3 0 j HR3.out (by rw [HRR.out]; nofun))
     rw [HRR.out] at HC; go_wp2_with fail; refine cm HC.out ?_; intro e w4 hp; obtain ⟨⟨v4, rfl, p4, rfl, hn4⟩, hrd, ha⟩ := hp; have HA4 := qh (HA3.out.next ha); have HR4 := qh hrd
     have HN4 := qh (zb7 HK3.out HA3.out.size hn4); have HK4 := qh (KV.later HK3.out ha HLT.out); have hlt2 := hrd.lt; have hgt : j < j2 := by
      obtain ⟨kk, hkk⟩ := zzz HNX; exact ((zk1 (l := c.l) (d := 0) (hkk.st (0 + 1) j hjl)).2 t j2 HRR.out).1
     clear hrd ha hn4 HC HA3 HR3 HK3; obtain ⟨ps, hown, hk4⟩ := zzz HK4; have hlen := NAts.length _ _ hk4; have hOB := zxj hown; rw [hlen] at hown; have HOWN := qh hown; have HLEN := qh hlen; have HKK := qh hk4
     have hsz := HA4.out.size; have hle := zzz HLE; have HOB := qh hOB; clear hown hk4 HK4 hOB hlen
     go_wp2_with (at_builtin; refine wpList_append_lies _ rfl _ _ 36 rfl w.heap.size 22 i0 (.pointer none) 1 8 Tryz.underlying36 hi0 hz0 hz1 hz2 rfl (by decide) _ _ _ rfl (HOWN.out.alloc _) ⟨w4.heap.size, 0, none⟩ 1 1 [nPtr p4] rfl rfl (zq3 w4 p4 _ rfl) (zxy p4) (by decide) (by unfold maxLen; omega) (by omega) (by simp; omega) (w4.heap.size + 1) (by simp) ?_)
     intro g cap w5 hown' hgrow hg _
     have HK5 : Hid (KV w.heap.size w5 (acc ++ [t]) (.slice (some ⟨g, 0, none⟩) (acc.length + 1) cap)) := zg2 HKK.out (NAts.cons HN4.out NAts.nil) (by rw [List.map_append]; exact hown') (by simp [HLEN.out]) hgrow hg
     have HA5 := qh ((HA4.out.alloc hsz (.cells #[nPtr p4] 22)).grown hgrow (by simp; omega) (fun k hk => (zzz HOB k hk).2))
     have HR5 := qh (HR4.out.ap (((Below.refl w.heap.size w4).alloc hsz (.cells #[nPtr p4] 22)).grown hgrow (by simp; omega) (fun k hk => (zzz HOB k hk).2)) HLO.out)
     clear hown' hgrow hg HKK HOWN; go_wp2_with fail
     go_roundw
     case rel => exact ⟨k, acc ++ [t], j2, HQ.out, HR5.out, HA5.out, HK5.out, by simp; omega, fun u hu => by
       rcases List.mem_append.1 hu with hu | hu
       ·
        exact zzz HEX u hu
       ·
        rw [List.mem_singleton] at hu; subst hu; exact zzz HFO _ _ _ _ (deepP_ok HRR.out)⟩
     case measure => rw [zyk HR5.out, zyk HRM.out]; omega
theorem catch_idle (p q : Addr) (w : World) :
  CallsD Tryz.prog 110 #[.pointer (some p), .pointer (some q)] .returning w fun e u' w' => e = .returned (.tuple #[]) ∧ u' = .returning ∧ w' = w := by
 refine callsD_of_wpS Tryz.func110 rfl fun c₀ cs hu => ?_
 apply wpS_seq
 apply wpS_region
 simp [wpOpsS, go_sem, recoverD, hu, Tryz.ntmps110, Exit.thenS]
 apply wpS_seq
 apply wpS_seq
 apply wpS_region
 simp [wpOpsS, go_sem, Exit.thenS]
 refine wpS_cond (t := true) (by simp [Act.eval, Array.replicate]) ?_
 simp only [if_true]
 refine wpS_of_wp ?_
 refine wp_ret ?_
 cases c₀
 simp_all [bodyPostS, results, Tryz.results110, Exit.thenS]
theorem catch_fault (p q : Nat) (er : Int) (pl : Nat) (w : World) (a b : Value) (hp : w.cell? ⟨p, 0, none⟩ = some a) (hpf : ∀ o, w.frozen? ⟨p, o, none⟩ = false) (hq : w.cell? ⟨q, 0, none⟩ = some b) (hqf : ∀ o, w.frozen? ⟨q, o, none⟩ = false) (hqp : ¬ q = p) (hpl : p < w.heap.size) (hql : q < w.heap.size) :
  CallsD Tryz.prog 110 #[.pointer (some ⟨p, 0, none⟩), .pointer (some ⟨q, 0, none⟩)] (.panicking (faultV er pl)) w fun e u' w' =>
   e = .returned (.tuple #[]) ∧ u' = .panicking [{ v := .iface 127 (.agg #[.int .i64 er, .int .i64 (pl : Int)]), recovered := true }] ∧ w' = ((((w.setCell ⟨p, 0, none⟩ (.pointer none)).setCell ⟨q, 0, none⟩ (.iface 129 (.pointer (some ⟨w.heap.size + 1, 0, none⟩)))).alloc (.cells #[.int .i64 er, .int .i64 (pl : Int)] 127)).alloc (.cells #[.int .i64 er, .int .i64 (pl : Int)] 130)).drew := by
 refine callsD_of_wpS Tryz.func110 rfl fun c₀ cs hu => ?_
 unfold faultV at hu
 have ta : ∀ W : World, (Instr.typeAssert (.iface 127 (.agg #[.int .i64 er, .int .i64 (pl : Int)])) 20 127 true).run Tryz.prog W = .ok (.tuple #[.agg #[.int .i64 er, .int .i64 (pl : Int)], .bool true]) W := fun W => by kernel_rfl
 rw [Tryz.ntmps110]
 rw [show (#[.pointer (some ⟨p, 0, none⟩), .pointer (some ⟨q, 0, none⟩)] : Array Value) ++ Array.replicate (23 - (#[.pointer (some ⟨p, 0, none⟩), .pointer (some ⟨q, 0, none⟩)] : Array Value).size) undef = #[.pointer (some ⟨p, 0, none⟩), .pointer (some ⟨q, 0, none⟩), undef, undef, undef, undef, undef, undef, undef, undef, undef, undef, undef, undef, undef, undef, undef, undef, undef, undef, undef, undef, undef] from by kernel_rfl]
 apply wpS_seq
 apply wpS_region
 simp [wpOpsS, go_sem, recoverD, hu, Exit.thenS]
 apply wpS_seq
 apply wpS_seq
 apply wpS_region
 simp [wpOpsS, go_sem, Exit.thenS]
 refine wpS_cond (t := false) (by simp [Act.eval]) ?_
 simp only [Bool.false_eq_true, if_false]
 refine wpS_of_wp (wp_skip ?_)
 simp only [Exit.thenS]
 apply wpS_seq
 apply wpS_region
 simp [wpOpsS, go_sem, Exit.thenS, ta]
 apply wpS_seq
 refine wpS_of_wp ?_
 go_wp2_with fail
 simp only [Exit.thenS]
 refine wpS_of_wp ?_
 go_region
 simp [bodyPostS, results, Tryz.results110]
def RdPost (r : PR Tr) (w : World) (e : Ending) (w' : World) : Prop :=
 match r with
 | .ok t _ => ∃ p, e = .returned (.tuple #[nPtr p, .nilIface]) ∧ NAt (From w.heap.size) w' t p ∧ Below w.heap.size w w'
 | .bad er pl => ∃ b, e = .returned (.tuple #[.pointer none, .iface 129 (.pointer (some ⟨b, 0, none⟩))]) ∧ w'.heap[b]? = some (.cells #[.int .i64 er, .int .i64 (pl : Int)] 130 (0, 0)) ∧ w.heap.size ≤ b ∧ Below w.heap.size w w'
 | .out => True
abbrev RW (w : World) : World := (w.alloc (.cells #[.pointer none] 22)).alloc (.cells #[.nilIface] 29)
theorem read_ok (w : World) (l : List Tk) (tb cap : Nat) (t : Tr) (j : Nat)
  (HN : Calls Tryz.prog 111 #[.slice (some ⟨tb, 0, none⟩) l.length cap] (RW w) fun e w' => ∃ c : Ctx, e = .returned (rPtr c) ∧ c.l = l ∧ (RW w).heap.size ≤ c.R ∧ Rdr c w' 0 0 ∧ Below (RW w).heap.size (RW w) w')
  (HP : ∀ (c : Ctx) (W : World), c.l = l → Rdr c W 0 0 → Calls Tryz.prog 112 #[rPtr c] W (zk6 c W 0 (NV W.heap.size) (.ok t j))) :
  Calls Tryz.prog 51 #[.slice (some ⟨tb, 0, none⟩) l.length cap] w (RdPost (.ok t j) w) := by
 have hmf := mf_run
 have HN := qh HN
 have HP := qh HP
 go_enter_defers Tryz.func51, Tryz.ntmps51
 go_wp2_with fail
 refine cm HN.out ?_
 rintro e w2 ⟨c, rfl, hcl, hcR, hrd, hb2⟩
 have HC := qh (HP.out c w2 hcl hrd)
 have HB2 := qh hb2
 have HCR := qh hcR
 clear hcl hcR hrd hb2
 go_wp2_with fail
 refine cm HC.out ?_
 intro e w3 hp
 obtain ⟨⟨v, rfl, p, rfl, hn⟩, hrd, ha⟩ := hp
 have hszR : (RW w).heap.size = w.heap.size + 2 := by simp
 have hsz2 := HB2.out.size
 have hR := zzz HCR
 have c0 : w3.heap[w.heap.size]? = some (.cells #[.pointer none] 22 (0, 0)) := by
  rw [ha.block _ (by omega) (by omega), HB2.out.block _ (by omega), Below.heap_alloc _ _ _ (by simp)]; exact zqx _ _
 have c1 : w3.heap[w.heap.size + 1]? = some (.cells #[.nilIface] 29 (0, 0)) := by
  rw [ha.block _ (by omega) (by omega), HB2.out.block _ (by omega)]; have := zqx (w.alloc (.cells #[.pointer none] 22)) (.cells #[.nilIface] 29); simpa using this
 have d0 : w3.cell? ⟨w.heap.size, 0, none⟩ = some (.pointer none) := by rw [zqj c0]; rfl
 have d0f := zj5 c0
 have d1 : w3.cell? ⟨w.heap.size + 1, 0, none⟩ = some .nilIface := by rw [zqj c1]; rfl
 have d1f := zj5 c1
 have HBW : Hid (Below w.heap.size w w3) := by
  have h1 : Below w.heap.size w (RW w) := (qb.alloc qv _).alloc (by simp) _; have h2 : Below w.heap.size w w2 := h1.trans (HB2.out.mono (by omega))
  exact h2.trans ((ha.mono (B' := w.heap.size) (by omega)).below (by omega))
 have HNN := qh hn
 have H2 : Hid (w.heap.size + 2 ≤ w2.heap.size) := by show _ ≤ _; omega
 clear hn hrd ha c0 c1 HC HN HP hszR hsz2 hR
 go_wp2_with fail
 refine leaves_cons (f := 110) (args := #[.pointer (some ⟨w.heap.size, 0, none⟩), .pointer (some ⟨w.heap.size + 1, 0, none⟩)]) (by simp) (by simp [go_sem]) ?_
 refine (catch_idle ⟨w.heap.size, 0, none⟩ ⟨w.heap.size + 1, 0, none⟩ _).mono ?_
 rintro e u' w'' ⟨rfl, rfl, rfl⟩
 show Leaves _ _ _ _ [] .returning _
 refine ⟨.tuple #[nPtr p, .nilIface], by simp [results, Tryz.results51, go_sem, d0, d1], p, rfl, ?_, ?_⟩
 ·
  refine NAt.mono (J := From w.heap.size) (fun b hb _ => ?_) _ _ (NAt.later (I := fun b => w2.heap.size ≤ b) (fun b hb _ => ?_) _ _ HNN.out)
  ·
   have h2 := zzz H2; have h3 : w2.heap.size ≤ b := hb
   show w.heap.size ≤ b
   omega
  ·
   have h2 := zzz H2; have h3 : w2.heap.size ≤ b := hb
   rw [Below.heap_setCell _ ⟨w.heap.size + 1, 0, none⟩ _ b (by show b ≠ w.heap.size + 1; omega), Below.heap_setCell _ ⟨w.heap.size, 0, none⟩ _ b (by show b ≠ w.heap.size; omega)]
 ·
  exact (HBW.out.setCell (p := ⟨w.heap.size, 0, none⟩) qv _).setCell (p := ⟨w.heap.size + 1, 0, none⟩) (Nat.le_succ _) _
theorem read_bad (w : World) (l : List Tk) (tb cap : Nat) (er : Int) (pl : Nat)
  (HN : Calls Tryz.prog 111 #[.slice (some ⟨tb, 0, none⟩) l.length cap] (RW w) fun e w' => ∃ c : Ctx, e = .returned (rPtr c) ∧ c.l = l ∧ (RW w).heap.size ≤ c.R ∧ Rdr c w' 0 0 ∧ Below (RW w).heap.size (RW w) w')
  (HP : ∀ (c : Ctx) (W : World), c.l = l → Rdr c W 0 0 → Calls Tryz.prog 112 #[rPtr c] W (zk6 c W 0 (NV W.heap.size) (.bad er pl))) :
  Calls Tryz.prog 51 #[.slice (some ⟨tb, 0, none⟩) l.length cap] w (RdPost (.bad er pl) w) := by
 have hmf := mf_run
 have HN := qh HN
 have HP := qh HP
 go_enter_defers Tryz.func51, Tryz.ntmps51
 go_wp2_with fail
 refine cm HN.out ?_
 rintro e w2 ⟨c, rfl, hcl, hcR, hrd, hb2⟩
 have HC := qh (HP.out c w2 hcl hrd)
 have HB2 := qh hb2
 have HCR := qh hcR
 clear hcl hcR hrd hb2
 go_wp2_with fail
 refine cm HC.out ?_
 intro e w3 hp
 obtain ⟨rfl, ha⟩ := hp
 have hszR : (RW w).heap.size = w.heap.size + 2 := by simp
 have hsz2 := HB2.out.size
 have hR := zzz HCR
 have c0 : w3.heap[w.heap.size]? = some (.cells #[.pointer none] 22 (0, 0)) := by
  rw [ha.block _ (by omega) (by omega), HB2.out.block _ (by omega), Below.heap_alloc _ _ _ (by simp)]; exact zqx _ _
 have c1 : w3.heap[w.heap.size + 1]? = some (.cells #[.nilIface] 29 (0, 0)) := by
  rw [ha.block _ (by omega) (by omega), HB2.out.block _ (by omega)]; have := zqx (w.alloc (.cells #[.pointer none] 22)) (.cells #[.nilIface] 29); simpa using this
 have d0 : w3.cell? ⟨w.heap.size, 0, none⟩ = some (.pointer none) := by rw [zqj c0]; rfl
 have d0f := zj5 c0
 have d1 : w3.cell? ⟨w.heap.size + 1, 0, none⟩ = some .nilIface := by rw [zqj c1]; rfl
 have d1f := zj5 c1
 have HBW : Hid (Below w.heap.size w w3) := by
  have h1 : Below w.heap.size w (RW w) := (qb.alloc qv _).alloc (by simp) _; have h2 : Below w.heap.size w w2 := h1.trans (HB2.out.mono (by omega))
  exact h2.trans ((ha.mono (B' := w.heap.size) (by omega)).below (by omega))
 have H2 : Hid (w.heap.size + 2 ≤ w2.heap.size) := by show _ ≤ _; omega
 have h3l : w.heap.size + 1 < w3.heap.size := zzq c1
 have C0 := qh c0
 have C1 := qh c1
 clear ha c0 c1 HC HN HP hszR hsz2 hR H2
 refine leaves_cons (f := 110) (args := #[.pointer (some ⟨w.heap.size, 0, none⟩), .pointer (some ⟨w.heap.size + 1, 0, none⟩)]) (by simp) (by simp [go_sem]) ?_
 refine (catch_fault w.heap.size (w.heap.size + 1) er pl w3 _ _ d0 d0f d1 d1f (by omega) (by omega) h3l).mono ?_
 rintro e u' w'' ⟨rfl, rfl, rfl⟩
 show Leaves _ _ _ _ [] .returning _
 have g0 : ((((w3.setCell ⟨w.heap.size, 0, none⟩ (.pointer none)).setCell ⟨w.heap.size + 1, 0, none⟩ (.iface 129 (.pointer (some ⟨w3.heap.size + 1, 0, none⟩)))).alloc (.cells #[.int .i64 er, .int .i64 (pl : Int)] 127)).alloc (.cells #[.int .i64 er, .int .i64 (pl : Int)] 130)).drew.heap[w.heap.size]? = some (.cells #[.pointer none] 22 (0, 0)) := by
  show ((((w3.setCell ⟨w.heap.size, 0, none⟩ (.pointer none)).setCell ⟨w.heap.size + 1, 0, none⟩ (.iface 129 (.pointer (some ⟨w3.heap.size + 1, 0, none⟩)))).alloc (.cells #[.int .i64 er, .int .i64 (pl : Int)] 127)).alloc (.cells #[.int .i64 er, .int .i64 (pl : Int)] 130)).heap[w.heap.size]? = _
  rw [Below.heap_alloc _ _ _ (by simp; omega), Below.heap_alloc _ _ _ (by simp; omega), Below.heap_setCell _ ⟨w.heap.size + 1, 0, none⟩ _ _ (by show w.heap.size ≠ w.heap.size + 1; omega), zqq C0.out]
  rfl
 have g1 : ((((w3.setCell ⟨w.heap.size, 0, none⟩ (.pointer none)).setCell ⟨w.heap.size + 1, 0, none⟩ (.iface 129 (.pointer (some ⟨w3.heap.size + 1, 0, none⟩)))).alloc (.cells #[.int .i64 er, .int .i64 (pl : Int)] 127)).alloc (.cells #[.int .i64 er, .int .i64 (pl : Int)] 130)).drew.heap[w.heap.size + 1]? = some (.cells #[.iface 129 (.pointer (some ⟨w3.heap.size + 1, 0, none⟩))] 29 (0, 0)) := by
  show ((((w3.setCell ⟨w.heap.size, 0, none⟩ (.pointer none)).setCell ⟨w.heap.size + 1, 0, none⟩ (.iface 129 (.pointer (some ⟨w3.heap.size + 1, 0, none⟩)))).alloc (.cells #[.int .i64 er, .int .i64 (pl : Int)] 127)).alloc (.cells #[.int .i64 er, .int .i64 (pl : Int)] 130)).heap[w.heap.size + 1]? = _
  have hs : (w3.setCell ⟨w.heap.size, 0, none⟩ (.pointer none)).heap[w.heap.size + 1]? = some (.cells #[.nilIface] 29 (0, 0)) := by
   rw [Below.heap_setCell _ ⟨w.heap.size, 0, none⟩ _ _ (by show w.heap.size + 1 ≠ w.heap.size; omega)]; exact zzz C1
  rw [Below.heap_alloc _ _ _ (by simp; omega), Below.heap_alloc _ _ _ (by simp; omega), zqq hs]
  rfl
 have e0 : ((((w3.setCell ⟨w.heap.size, 0, none⟩ (.pointer none)).setCell ⟨w.heap.size + 1, 0, none⟩ (.iface 129 (.pointer (some ⟨w3.heap.size + 1, 0, none⟩)))).alloc (.cells #[.int .i64 er, .int .i64 (pl : Int)] 127)).alloc (.cells #[.int .i64 er, .int .i64 (pl : Int)] 130)).drew.cell? ⟨w.heap.size, 0, none⟩ = some (.pointer none) := by rw [zqj g0]; rfl
 have e1 : ((((w3.setCell ⟨w.heap.size, 0, none⟩ (.pointer none)).setCell ⟨w.heap.size + 1, 0, none⟩ (.iface 129 (.pointer (some ⟨w3.heap.size + 1, 0, none⟩)))).alloc (.cells #[.int .i64 er, .int .i64 (pl : Int)] 127)).alloc (.cells #[.int .i64 er, .int .i64 (pl : Int)] 130)).drew.cell? ⟨w.heap.size + 1, 0, none⟩ = some (.iface 129 (.pointer (some ⟨w3.heap.size + 1, 0, none⟩))) := by rw [zqj g1]; rfl
 obtain ⟨WZ, hWZ⟩ : ∃ WZ, WZ = ((((w3.setCell ⟨w.heap.size, 0, none⟩ (.pointer none)).setCell ⟨w.heap.size + 1, 0, none⟩ (.iface 129 (.pointer (some ⟨w3.heap.size + 1, 0, none⟩)))).alloc (.cells #[.int .i64 er, .int .i64 (pl : Int)] 127)).alloc (.cells #[.int .i64 er, .int .i64 (pl : Int)] 130)).drew := ⟨_, rfl⟩
 rw [← hWZ] at e0 e1
 rw [← hWZ]
 refine ⟨.tuple #[.pointer none, .iface 129 (.pointer (some ⟨w3.heap.size + 1, 0, none⟩))], by simp [results, Tryz.results51, go_sem, e0, e1], w3.heap.size + 1, rfl, ?_, by omega, ?_⟩
 all_goals rw [hWZ]
 ·
  have := zqx (((w3.setCell ⟨w.heap.size, 0, none⟩ (.pointer none)).setCell ⟨w.heap.size + 1, 0, none⟩ (.iface 129 (.pointer (some ⟨w3.heap.size + 1, 0, none⟩)))).alloc (.cells #[.int .i64 er, .int .i64 (pl : Int)] 127)) (.cells #[.int .i64 er, .int .i64 (pl : Int)] 130)
  rw [show ((((w3.setCell ⟨w.heap.size, 0, none⟩ (.pointer none)).setCell ⟨w.heap.size + 1, 0, none⟩ (.iface 129 (.pointer (some ⟨w3.heap.size + 1, 0, none⟩)))).alloc (.cells #[.int .i64 er, .int .i64 (pl : Int)] 127)).heap.size) = w3.heap.size + 1 by simp] at this
  exact this
 ·
  have hs := HBW.out.size
  exact (((((HBW.out.setCell (p := ⟨w.heap.size, 0, none⟩) qv _).setCell (p := ⟨w.heap.size + 1, 0, none⟩) (Nat.le_succ _) _).alloc (by simpa using hs) _).alloc (by simp; omega) _).drew)
end Go.Proofs.YtodmgaikhbmlnaaGreatDoor
