/-
  Library functions at this program's numbers, by the library's own contracts.
-/
import Derived.Shelf.Strconv.Itoa0
import Derived.Shelf.Strconv.Itoa1
import Derived.Shelf.LaysM
import Derived.Shelf.Strconv.Itoa2
import Derived.Shelf.Strconv.Itoa3
import Derived.Test.YtodmgaikhbmlnaaGreatDoorProg
import Derived.Test.YtodmgaikhbmlnaaGreatDoorTk25
import Derived.Lib.AppendIntMem
import Derived.Deep.LoopGhost
namespace Go.Proofs
open Go.Shelf
def Tryz.laysM171_ren : Go.Shelf.Ren := ⟨fun | 171 => 59 | 243 => 127 | 246 => 184 | 283 => 234 | 284 => 235 | 285 => 236 | 286 => 237 | 129 => 200 | 317 => 263 | 318 => 264 | 319 => 265 | 320 => 266 | 337 => 275 | 338 => 276 | n => n, fun | 3 => 3 | 9 => 9 | 2 => 2 | 4 => 4 | 171 => 233 | 0 => 0 | 53 => 210 | 37 => 82 | 5 => 5 | 173 => 235 | 212 => 255 | 51 => 208 | 20 => 20 | 213 => 256 | 46 => 157 | 232 => 267 | 233 => 268 | n => n, fun | 17 => 9 | 18 => 11 | 19 => 12 | n => n⟩
theorem Tryz.laysM171 : Go.Proofs.LaysM.n171 Tryz.prog Tryz.laysM171_ren := {
  mixed := by kernel_rfl
  f129 := Tryz.func200.trans (congrArg some (by kernel_rfl))
  f171 := Tryz.func59.trans (congrArg some (by kernel_rfl))
  f243 := Tryz.func127.trans (congrArg some (by kernel_rfl))
  f246 := Tryz.func184.trans (congrArg some (by kernel_rfl))
  f283 := Tryz.func234.trans (congrArg some (by kernel_rfl))
  f284 := Tryz.func235.trans (congrArg some (by kernel_rfl))
  f285 := Tryz.func236.trans (congrArg some (by kernel_rfl))
  f286 := Tryz.func237.trans (congrArg some (by kernel_rfl))
  f317 := Tryz.func263.trans (congrArg some (by kernel_rfl))
  f318 := Tryz.func264.trans (congrArg some (by kernel_rfl))
  f319 := Tryz.func265.trans (congrArg some (by kernel_rfl))
  f320 := Tryz.func266.trans (congrArg some (by kernel_rfl))
  f337 := Tryz.func275.trans (congrArg some (by kernel_rfl))
  f338 := Tryz.func276.trans (congrArg some (by kernel_rfl))
  t0 := Tryz.underlying0
  a0 := Tryz.isAgg0
  z0 := Tryz.sizeOf0
  v0 := Tryz.zeroValue0
  t2 := Tryz.underlying2
  a2 := Tryz.isAgg2
  z2 := Tryz.sizeOf2
  v2 := Tryz.zeroValue2
  t3 := Tryz.underlying3
  a3 := Tryz.isAgg3
  z3 := Tryz.sizeOf3
  v3 := Tryz.zeroValue3
  t4 := Tryz.underlying4
  a4 := Tryz.isAgg4
  z4 := Tryz.sizeOf4
  v4 := Tryz.zeroValue4
  t5 := Tryz.underlying5
  a5 := Tryz.isAgg5
  z5 := Tryz.sizeOf5
  v5 := Tryz.zeroValue5
  t9 := Tryz.underlying9
  a9 := Tryz.isAgg9
  z9 := Tryz.sizeOf9
  v9 := Tryz.zeroValue9
  t20 := Tryz.underlying20
  a20 := Tryz.isAgg20
  z20 := Tryz.sizeOf20
  v20 := Tryz.zeroValue20
  t37 := Tryz.underlying82
  a37 := Tryz.isAgg82
  z37 := Tryz.sizeOf82
  v37 := Tryz.zeroValue82
  t46 := Tryz.underlying157
  a46 := Tryz.isAgg157
  z46 := Tryz.sizeOf157
  v46 := Tryz.zeroValue157
  t51 := Tryz.underlying208
  a51 := Tryz.isAgg208
  z51 := Tryz.sizeOf208
  v51 := Tryz.zeroValue208
  t53 := Tryz.underlying210
  a53 := Tryz.isAgg210
  z53 := Tryz.sizeOf210
  v53 := Tryz.zeroValue210
  t171 := Tryz.underlying233
  a171 := Tryz.isAgg233
  z171 := Tryz.sizeOf233
  v171 := Tryz.zeroValue233
  t173 := Tryz.underlying235
  a173 := Tryz.isAgg235
  z173 := Tryz.sizeOf235
  v173 := Tryz.zeroValue235
  t212 := Tryz.underlying255
  a212 := Tryz.isAgg255
  z212 := Tryz.sizeOf255
  v212 := Tryz.zeroValue255
  t213 := Tryz.underlying256
  a213 := Tryz.isAgg256
  z213 := Tryz.sizeOf256
  t232 := Tryz.underlying267
  a232 := Tryz.isAgg267
  z232 := Tryz.sizeOf267
  v232 := Tryz.zeroValue267
  t233 := Tryz.underlying268
  a233 := Tryz.isAgg268
  z233 := Tryz.sizeOf268
  v233 := Tryz.zeroValue268
  g17 := by kernel_rfl
  g18 := by kernel_rfl
  g19 := by kernel_rfl
  i0 := by kernel_rfl
  i2 := by kernel_rfl
  i3 := by kernel_rfl
  i4 := by kernel_rfl
  i5 := by kernel_rfl
  i9 := by kernel_rfl
  i20 := by kernel_rfl
  i37 := by kernel_rfl
  i46 := by kernel_rfl
  i51 := by kernel_rfl
  i53 := by kernel_rfl
  i171 := by kernel_rfl
  i173 := by kernel_rfl
  i212 := by kernel_rfl
  i232 := by kernel_rfl
  i233 := by kernel_rfl
  m17 := by kernel_rfl
  m18 := by kernel_rfl
  m19 := by kernel_rfl }
open Go.RowKit Go.Sort Go.Lib in
theorem Tryz.strconv_Itoa (n : Int) (h0 : -9223372036854775808 ≤ n) (h1 : n ≤ 9223372036854775807) (w : World) (htab : Lib.TabIs Tryz.prog w "internal/strconv.uint64pow10" .u64 Lib.pow10Tab) :
    Calls Tryz.prog 59 #[.int .i64 n] w fun e w' => e = .returned (.string ⟨(Lib.itoa n).toArray⟩) ∧ ∃ k os, w' = grow (w.drewN k) os := Any.strconv_Itoa Tryz.laysM171 n h0 h1 w htab
def Tryz.lays171_ren : Go.Shelf.Ren := ⟨fun | 171 => 59 | 243 => 127 | 246 => 184 | 283 => 234 | 284 => 235 | 285 => 236 | 286 => 237 | 129 => 200 | 317 => 263 | 318 => 264 | 319 => 265 | 320 => 266 | 337 => 275 | 338 => 276 | n => n, fun | 3 => 3 | 9 => 9 | 2 => 2 | 4 => 4 | 171 => 233 | 0 => 0 | 53 => 210 | 37 => 82 | 5 => 5 | 173 => 235 | 212 => 255 | 51 => 208 | 20 => 20 | 213 => 256 | 46 => 157 | 232 => 267 | 233 => 268 | n => n, fun | 17 => 9 | 18 => 11 | 19 => 12 | n => n⟩
theorem Tryz.lays171 : Go.Proofs.Lays.n171 Tryz.prog Tryz.lays171_ren := {
  mixed := by kernel_rfl
  f129 := Tryz.func200.trans (congrArg some (by kernel_rfl))
  f171 := Tryz.func59.trans (congrArg some (by kernel_rfl))
  f243 := Tryz.func127.trans (congrArg some (by kernel_rfl))
  f246 := Tryz.func184.trans (congrArg some (by kernel_rfl))
  f283 := Tryz.func234.trans (congrArg some (by kernel_rfl))
  f284 := Tryz.func235.trans (congrArg some (by kernel_rfl))
  f285 := Tryz.func236.trans (congrArg some (by kernel_rfl))
  f286 := Tryz.func237.trans (congrArg some (by kernel_rfl))
  f317 := Tryz.func263.trans (congrArg some (by kernel_rfl))
  f318 := Tryz.func264.trans (congrArg some (by kernel_rfl))
  f319 := Tryz.func265.trans (congrArg some (by kernel_rfl))
  f320 := Tryz.func266.trans (congrArg some (by kernel_rfl))
  f337 := Tryz.func275.trans (congrArg some (by kernel_rfl))
  f338 := Tryz.func276.trans (congrArg some (by kernel_rfl))
  t0 := Tryz.underlying0
  a0 := Tryz.isAgg0
  z0 := Tryz.sizeOf0
  v0 := Tryz.zeroValue0
  t2 := Tryz.underlying2
  a2 := Tryz.isAgg2
  z2 := Tryz.sizeOf2
  v2 := Tryz.zeroValue2
  t3 := Tryz.underlying3
  a3 := Tryz.isAgg3
  z3 := Tryz.sizeOf3
  v3 := Tryz.zeroValue3
  t4 := Tryz.underlying4
  a4 := Tryz.isAgg4
  z4 := Tryz.sizeOf4
  v4 := Tryz.zeroValue4
  t5 := Tryz.underlying5
  a5 := Tryz.isAgg5
  z5 := Tryz.sizeOf5
  v5 := Tryz.zeroValue5
  t9 := Tryz.underlying9
  a9 := Tryz.isAgg9
  z9 := Tryz.sizeOf9
  v9 := Tryz.zeroValue9
  t20 := Tryz.underlying20
  a20 := Tryz.isAgg20
  z20 := Tryz.sizeOf20
  v20 := Tryz.zeroValue20
  t37 := Tryz.underlying82
  a37 := Tryz.isAgg82
  z37 := Tryz.sizeOf82
  v37 := Tryz.zeroValue82
  t46 := Tryz.underlying157
  a46 := Tryz.isAgg157
  z46 := Tryz.sizeOf157
  v46 := Tryz.zeroValue157
  t51 := Tryz.underlying208
  a51 := Tryz.isAgg208
  z51 := Tryz.sizeOf208
  v51 := Tryz.zeroValue208
  t53 := Tryz.underlying210
  a53 := Tryz.isAgg210
  z53 := Tryz.sizeOf210
  v53 := Tryz.zeroValue210
  t171 := Tryz.underlying233
  a171 := Tryz.isAgg233
  z171 := Tryz.sizeOf233
  v171 := Tryz.zeroValue233
  t173 := Tryz.underlying235
  a173 := Tryz.isAgg235
  z173 := Tryz.sizeOf235
  v173 := Tryz.zeroValue235
  t212 := Tryz.underlying255
  a212 := Tryz.isAgg255
  z212 := Tryz.sizeOf255
  v212 := Tryz.zeroValue255
  t213 := Tryz.underlying256
  a213 := Tryz.isAgg256
  z213 := Tryz.sizeOf256
  t232 := Tryz.underlying267
  a232 := Tryz.isAgg267
  z232 := Tryz.sizeOf267
  v232 := Tryz.zeroValue267
  t233 := Tryz.underlying268
  a233 := Tryz.isAgg268
  z233 := Tryz.sizeOf268
  v233 := Tryz.zeroValue268
  g17 := by kernel_rfl
  g18 := by kernel_rfl
  g19 := by kernel_rfl }
open Go.RowKit Go.Sort Go.Lib in
theorem Tryz.strconv_Itoa_small (i : Nat) (hi : i < 100) (w : World) :
    Calls Tryz.prog 59 #[.int .i64 i] w fun e w' => e = .returned (.string ⟨(Lib.decDigits i).toArray⟩) ∧ w' = w := Any.strconv_Itoa_small Tryz.lays171 i hi w
end Go.Proofs
set_option maxRecDepth 100000
set_option maxHeartbeats 16000000
namespace Go.Proofs.YtodmgaikhbmlnaaGreatDoor
open Go.RowKit

/-- The table that numbers are written by. -/
def TabW (w : World) : Prop := Lib.TabIs Tryz.prog w "internal/strconv.uint64pow10" .u64 Lib.pow10Tab
theorem gPow : Tryz.prog.globalNamed "internal/strconv.uint64pow10" = some 9 := by kernel_rfl
theorem TabW.keep {w w' : World} (h : TabW w) (hb : w'.heap[9]? = w.heap[9]?) : TabW w' := by
  unfold TabW Lib.TabIs World.var? at h ⊢
  rw [gPow] at h ⊢
  simp only [Option.bind_some] at h ⊢
  rw [hb]
  exact h
theorem TabW.lt {w : World} (h : TabW w) : 9 < w.heap.size := by
  unfold TabW Lib.TabIs World.var? at h
  rw [gPow] at h
  simp only [Option.bind_some] at h
  rcases Nat.lt_or_ge 9 w.heap.size with h' | h'
  · exact h'
  · rw [Array.getElem?_eq_none h'] at h; simp at h
theorem TabW.later {w w' : World} (h : TabW w) (hb : Below w.heap.size w w') : TabW w' := h.keep (hb.block 9 h.lt)
theorem itoa_any (n : Int) (hn : -9223372036854775808 ≤ n ∧ n ≤ 9223372036854775807) (w : World) (ht : TabW w) : Calls Tryz.prog 59 #[.int .i64 n] w fun e w' => e = .returned (.string (itoaB n)) ∧ Below w.heap.size w w' := by
  exact (Tryz.strconv_Itoa n hn.1 hn.2 w ht).mono fun e w' ⟨a, k, os, b⟩ => ⟨a, by rw [b]; exact Lib.below_grow _ w (Nat.le_refl _) k os⟩

/-- The writer, with its signs. -/
structure Wt (B b m : Nat) (s : WS) (w : World) : Prop where
  wr : Wrt B b m s.1 s.2 w
  signs : w.heap[m]? = some (.map kdMap 14)
  ne : m ≠ b
  heads : 5 < B ∧ ∃ t fr, w.heap[5]? = some (.cells hdCells t fr)
  tab : 9 < B ∧ TabW w

theorem Wt.stay {B b m : Nat} {s : WS} {w w' : World} (h : Wt B b m s w) (hs : ∀ k, k < w.heap.size → w'.heap[k]? = w.heap[k]?) : Wt B b m s w' :=
  ⟨h.wr.stay hs, by rw [hs m (lt_of_heap h.signs)]; exact h.signs, h.ne, ⟨h.heads.1, by
    obtain ⟨t, fr, h5⟩ := h.heads.2
    exact ⟨t, fr, by rw [hs 5 (lt_of_heap h5)]; exact h5⟩⟩, h.tab.1, h.tab.2.keep (hs 9 h.tab.2.lt)⟩
theorem Wt.alloc {B b m : Nat} {s : WS} {w : World} (h : Wt B b m s w) (o : Obj) : Wt B b m s (w.alloc o) := h.stay fun k hk => Below.heap_alloc w o k hk
theorem Wt.drew {B b m : Nat} {s : WS} {w : World} (h : Wt B b m s w) : Wt B b m s w.drew := h.stay fun _ _ => rfl
theorem Wt.below {B b m : Nat} {s : WS} {w w' : World} (h : Wt B b m s w) (hb : Below w.heap.size w w') : Wt B b m s w' := h.stay fun k hk => hb.block k hk
theorem Wt.later {B b m : Nat} {s s' : WS} {w w' : World} (h : Wt B b m s w) (h1 : Wrt B b m s'.1 s'.2 w') (k : Kp B b w w') : Wt B b m s' w' :=
  ⟨h1, k.kept m _ h.signs (by simpa using h.ne) (by intro c fz e; cases e), h.ne, ⟨h.heads.1, by
    obtain ⟨t, fr, h5⟩ := h.heads.2
    exact ⟨t, fr, by rw [k.below.block 5 h.heads.1]; exact h5⟩⟩, h.tab.1, h.tab.2.keep (k.below.block 9 h.tab.1)⟩
theorem Wt.size {B b m : Nat} {s : WS} {w : World} (h : Wt B b m s w) : B ≤ w.heap.size := by have h1 := h.wr.lt; have h2 := h.wr.lo; omega
theorem Kp.of {B b : Nat} {w w' : World} (hB : B ≤ w.heap.size) (h : Below w.heap.size w w') : Kp B b w w' :=
  ⟨h.mono hB, fun k o hk _ _ => by rw [h.block k (lt_of_heap hk)]; exact hk⟩

/-- A program's part, in blocks that were there ahead of the writer's. -/
def NB (B : Nat) (w : World) (t : Tr) (p : Nat) : Prop := NAt (fun k => k < B) w t p
theorem NB.later {B : Nat} {w w' : World} {t : Tr} {p : Nat} (h : NB B w t p) (hb : Below B w w') : NB B w' t p := NAt.later (fun k hk _ => hb.block k hk) _ _ h
theorem NB.lt {B : Nat} {w : World} {t : Tr} {p : Nat} (h : NB B w t p) : p < B := by
  cases t with
  | mk kd tx n ks =>
    unfold NB at h
    rw [NAt] at h
    exact h.1
theorem NB.cells {B : Nat} {w : World} {t : Tr} {p : Nat} (h : NB B w t p) : w.cell? ⟨p, 0, none⟩ = some (.int .i64 t.kd) ∧ w.cell? ⟨p, 1, none⟩ = some (.string t.tx) ∧ w.cell? ⟨p, 2, none⟩ = some (.int .i64 t.n) := by
  obtain ⟨u, ps, hb, _⟩ := NAt.opens2 h
  obtain ⟨h0, h1, h2, _⟩ := node_cells hb
  exact ⟨h0, h1, h2⟩
/-- Its row of parts. -/
theorem NB.row {B : Nat} {w : World} {t : Tr} {p : Nat} (h : NB B w t p) (h0 : 0 < t.kids.length) :
    ∃ (g c : Nat) (ps : List Nat), w.cell? ⟨p, 3, none⟩ = some (.slice (some ⟨g, 0, none⟩) t.kids.length c) ∧ g < B ∧ ps.length = t.kids.length ∧ ∀ j (hj : j < t.kids.length) (hp : j < ps.length), w.cell? ⟨g, j, none⟩ = some (nPtr ps[j]) ∧ NB B w t.kids[j] ps[j] := by
  obtain ⟨u, ps, hb, hr, hI, hk⟩ := NAt.opens2 h
  obtain ⟨_, _, _, h3, _⟩ := node_cells hb
  have hl := NAts.length _ _ hk
  obtain ⟨g, c, rfl, hc⟩ := row_open hr (by omega)
  rw [hl] at h3
  refine ⟨g, c, ps, h3, hI g rfl, hl, fun j hj hp => ⟨hc j hp, ?_⟩⟩
  obtain ⟨hp', hn⟩ := NAts.get _ _ hk j hj
  exact hn
theorem NB.rowLen {B : Nat} {w : World} {t : Tr} {p : Nat} (h : NB B w t p) : ∃ a c, w.cell? ⟨p, 3, none⟩ = some (.slice a t.kids.length c) := by
  obtain ⟨u, ps, hb, hr, hI, hk⟩ := NAt.opens2 h
  obtain ⟨_, _, _, h3, _⟩ := node_cells hb
  obtain ⟨a, c, hu⟩ := row_shut hr
  exact ⟨a, c, by rw [h3, hu, NAts.length _ _ hk]⟩

theorem NB.kid {B : Nat} {w : World} {t : Tr} {p : Nat} (h : NB B w t p) (j : Nat) (hj : j < t.kids.length) :
    ∃ g c q, w.cell? ⟨p, 3, none⟩ = some (.slice (some ⟨g, 0, none⟩) t.kids.length c) ∧ g < B ∧ w.cell? ⟨g, j, none⟩ = some (nPtr q) ∧ NB B w t.kids[j] q := by
  obtain ⟨g, c, ps, h1, h2, h3, h4⟩ := h.row (by omega)
  obtain ⟨h5, h6⟩ := h4 j hj (by omega)
  exact ⟨g, c, _, h1, h2, h5, h6⟩

def WPost (B b m : Nat) (s : WS) (w : World) (e : Ending) (w' : World) : Prop := e = .returned (.tuple #[]) ∧ Wt B b m s w' ∧ Kp B b w w'

/-- Tokens put, in a world that has grown. -/
theorem put_at {B b m : Nat} {s : WS} {w W : World} (ts : List ByteArray) (g n : Nat) (hn : n = ts.length) (cs : Array Value) (hcs : cs.toList = ts.map Value.string) (hg : W.heap[g]? = some (.cells cs 9 (0, 0))) (h : Wt B b m s W) (hk : Kp B b w W) (hlen : s.1.length + sumT ts ≤ 100000000) :
    Calls Tryz.prog 115 #[wPtr b, .slice (some ⟨g, 0, none⟩) n n] W (WPost B b m (putsS ts s) w) := by
  have hgb : g ≠ b := by
    intro e
    subst e
    rcases h.wr with h1 | h1 <;>
    · obtain ⟨_, v, hb, _⟩ := h1
      rw [hg] at hb
      simp at hb
  refine (put_any ts g n hn cs hcs hg hgb h.wr hlen).mono ?_
  rintro e w' ⟨rfl, h1, h2⟩
  exact ⟨rfl, h.later h1 h2, hk.trans h2⟩
theorem new_at {w : World} {o : Obj} {g : Nat} (hg : g = w.heap.size) : (w.alloc o).heap[g]? = some o := by subst hg; exact heap_new _ _

/-- What 'value' does with a part. -/
def VC (B b m : Nat) (t : Tr) (least : Int) (s s' : WS) : Prop :=
  ∀ w p, Wt B b m s w → NB B w t p → Calls Tryz.prog 176 #[wPtr b, nPtr p, .int .i64 least] w (WPost B b m s' w)
/-- What 'statement' does with a part. -/
def SC (B b m : Nat) (t : Tr) (s s' : WS) : Prop :=
  ∀ w p, Wt B b m s w → NB B w t p → Calls Tryz.prog 55 #[wPtr b, nPtr p] w (WPost B b m s' w)


/-- Behind the look at a kind that is no sign. -/
theorem kind_none {B b m : Nat} {s : WS} {w1 : World} (kd : Int) (h : Wt B b m s w1) (hk : sgK kd = none) :
    (Instr.lookup 85 (.map (some m)) (.int .i64 kd) true).run Tryz.prog w1.drew = .ok (.tuple #[.agg #[.string ⟨#[]⟩, .int .i64 0, .int .i64 0, .int .i64 0], .bool false]) w1.drew
    ∧ ∀ o, (Instr.lookup 85 (.map (some m)) (.int .i64 kd) true).run Tryz.prog (w1.alloc o).drew = .ok (.tuple #[.agg #[.string ⟨#[]⟩, .int .i64 0, .int .i64 0, .int .i64 0], .bool false]) (w1.alloc o).drew := by
  have h1 := look_kinds m kd w1.drew h.signs
  have h2 := fun o => look_kinds m kd (w1.alloc o).drew (h.alloc o).signs
  rw [hk] at h1 h2
  exact ⟨h1, h2⟩

theorem value_name {B b m : Nat} (tx : ByteArray) (n : Int) (ks : List Tr) (least : Int) (s : WS) (hl : ¬ (10 : Int) < least) (hlen : s.1.length + sumT [tx] ≤ 100000000) :
    VC B b m (.mk 23 tx n ks) least s (putsS [tx] s) := by
  intro w p hW hN
  have HW0 := hide hW
  have HN := hide hN
  have HK0 := hide (Kp.refl B b w)
  clear hW hN
  obtain ⟨d0, d1, d2⟩ := ((unhide HN).later (unhide HK0).below).cells
  simp only [Tr.kd, Tr.tx, Tr.n] at d0 d1 d2
  have hpl : p < w.heap.size := by have h1 := (unhide HN).lt; have h2 := (unhide HW0).size; simp at h2 ⊢; omega
  go_enter Tryz.func176, Tryz.ntmps176
  have hk : strK 23 = 10 := by decide +kernel
  have HC := hide (strength_any (unhide HW0).wr (unhide HW0).signs p 23 d0 hpl)
  rw [hk] at HC
  clear hk
  clear d0 d1 d2 hpl
  go_wp2_with fail
  refine Calls.mono HC.out ?_
  rintro e w1 ⟨rfl, hb⟩
  have HW1 := hide ((unhide HW0).below hb)
  have HK1 := hide ((unhide HK0).trans (Kp.of (b := b) (unhide HW0).size hb))
  clear hb HC HW0 HK0
  obtain ⟨l1, l2⟩ := kind_none 23 (unhide HW1) (by decide +kernel)
  obtain ⟨d0, d1, d2⟩ := ((unhide HN).later (unhide HK1).below).cells
  simp only [Tr.kd, Tr.tx, Tr.n] at d0 d1 d2
  have hpl : p < w1.heap.size := by have h1 := (unhide HN).lt; have h2 := (unhide HW1).size; simp at h2 ⊢; omega
  obtain ⟨e2, e3, ef⟩ := (unhide HW1).wr.cells
  have hbl := (unhide HW1).wr.lt
  have HW2 := hide ((unhide HW1).alloc (.cells #[.string ⟨#[]⟩, .int .i64 0, .int .i64 0, .int .i64 0] 175)).drew
  have HK2 := hide ((unhide HK1).alloc (unhide HW1).size (.cells #[.string ⟨#[]⟩, .int .i64 0, .int .i64 0, .int .i64 0] 175)).drew
  have HWi := hide ((unhide HW1).alloc (.cells #[.string ⟨#[]⟩, .int .i64 0, .int .i64 0, .int .i64 0] 175))
  have HKi := hide ((unhide HK1).alloc (unhide HW1).size (.cells #[.string ⟨#[]⟩, .int .i64 0, .int .i64 0, .int .i64 0] 175))
  go_wp2_with fail
  go_region
  go_wp2_with fail
  refine Calls.mono (put_at (s := s) (w := w) [tx] _ 1 rfl #[.string tx] rfl (by exact new_at (by simp)) (by exact ((unhide HWi).alloc _).drew) (by exact ((unhide HKi).alloc (unhide HWi).size _).drew) hlen) ?_
  intro e w3 hp
  obtain ⟨rfl, g1, g2⟩ := hp
  have HW3 := hide g1
  have HK3 := hide g2
  clear g1 g2 HW1 HK1
  go_wp2_with fail
  go_end0
  exact ⟨rfl, unhide HW3, unhide HK3⟩

theorem value_num {B b m : Nat} (tx : ByteArray) (n : Int) (ks : List Tr) (least : Int) (s : WS) (hl : ¬ (10 : Int) < least) (hit : ∀ W : World, Wt B b m s W → Calls Tryz.prog 59 #[.int .i64 n] W fun e w' => e = .returned (.string (itoaB n)) ∧ Below W.heap.size W w') (hlen : s.1.length + sumT [itoaB n] ≤ 100000000) :
    VC B b m (.mk 17 tx n ks) least s (putsS [itoaB n] s) := by
  have HHIT := hide hit
  clear hit
  intro w p hW hN
  have HW0 := hide hW
  have HN := hide hN
  have HK0 := hide (Kp.refl B b w)
  clear hW hN
  obtain ⟨d0, d1, d2⟩ := ((unhide HN).later (unhide HK0).below).cells
  simp only [Tr.kd, Tr.tx, Tr.n] at d0 d1 d2
  have hpl : p < w.heap.size := by have h1 := (unhide HN).lt; have h2 := (unhide HW0).size; simp at h2 ⊢; omega
  go_enter Tryz.func176, Tryz.ntmps176
  have hk : strK 17 = 10 := by decide +kernel
  have HC := hide (strength_any (unhide HW0).wr (unhide HW0).signs p 17 d0 hpl)
  rw [hk] at HC
  clear hk
  clear d0 d1 d2 hpl
  go_wp2_with fail
  refine Calls.mono HC.out ?_
  rintro e w1 ⟨rfl, hb⟩
  have HW1 := hide ((unhide HW0).below hb)
  have HK1 := hide ((unhide HK0).trans (Kp.of (b := b) (unhide HW0).size hb))
  clear hb HC HW0 HK0
  obtain ⟨l1, l2⟩ := kind_none 17 (unhide HW1) (by decide +kernel)
  obtain ⟨d0, d1, d2⟩ := ((unhide HN).later (unhide HK1).below).cells
  simp only [Tr.kd, Tr.tx, Tr.n] at d0 d1 d2
  have hpl : p < w1.heap.size := by have h1 := (unhide HN).lt; have h2 := (unhide HW1).size; simp at h2 ⊢; omega
  obtain ⟨e2, e3, ef⟩ := (unhide HW1).wr.cells
  have hbl := (unhide HW1).wr.lt
  have HW2 := hide ((unhide HW1).alloc (.cells #[.string ⟨#[]⟩, .int .i64 0, .int .i64 0, .int .i64 0] 175)).drew
  have HK2 := hide ((unhide HK1).alloc (unhide HW1).size (.cells #[.string ⟨#[]⟩, .int .i64 0, .int .i64 0, .int .i64 0] 175)).drew
  clear HW1 HK1
  have HC := hide ((unhide HHIT) (w1.alloc (.cells #[.string ⟨#[]⟩, .int .i64 0, .int .i64 0, .int .i64 0] 175)).drew (unhide HW2))
  go_wp2_with fail
  go_region
  go_wp2_with fail
  refine Calls.mono HC.out ?_
  rintro e w3 ⟨rfl, hb⟩
  have HW3 := hide ((unhide HW2).below hb)
  have HK3 := hide ((unhide HK2).trans (Kp.of (b := b) (unhide HW2).size hb))
  clear hb HC HW2 HK2
  clear d0 d1 d2 hpl e2 e3 ef hbl l1 l2
  go_wp2_with fail
  refine Calls.mono (put_at (s := s) (w := w) [itoaB n] _ 1 rfl #[.string (itoaB n)] rfl (by exact new_at (by simp)) (by exact (unhide HW3).alloc _) (by exact (unhide HK3).alloc (unhide HW3).size _) hlen) ?_
  intro e w4 hp
  obtain ⟨rfl, g1, g2⟩ := hp
  have HW4 := hide g1
  have HK4 := hide g2
  clear g1 g2 HW3 HK3
  go_wp2_with fail
  go_end0
  exact ⟨rfl, unhide HW4, unhide HK4⟩

theorem value_assign {B b m : Nat} (tx : ByteArray) (n : Int) (t0 t1 : Tr) (ks : List Tr) (least : Int) (s s1 s2 : WS) (hl : ¬ (1 : Int) < least) (h0 : VC B b m t0 9 s s1) (h1 : VC B b m t1 1 (putsS [tEq] s1) s2) (hlen : s1.1.length + sumT [tEq] ≤ 100000000) :
    VC B b m (.mk 24 tx n (t0 :: t1 :: ks)) least s s2 := by
  have HH0 := hide h0
  have HH1 := hide h1
  clear h0 h1
  intro w p hW hN
  have HW0 := hide hW
  have HN := hide hN
  have HK0 := hide (Kp.refl B b w)
  clear hW hN
  obtain ⟨d0, d1, d2⟩ := ((unhide HN).later (unhide HK0).below).cells
  simp only [Tr.kd, Tr.tx, Tr.n] at d0 d1 d2
  have hpl : p < w.heap.size := by have h1 := (unhide HN).lt; have h2 := (unhide HW0).size; simp at h2 ⊢; omega
  go_enter Tryz.func176, Tryz.ntmps176
  have hk : strK 24 = 1 := by decide +kernel
  have HC := hide (strength_any (unhide HW0).wr (unhide HW0).signs p 24 d0 hpl)
  rw [hk] at HC
  clear hk
  clear d0 d1 d2 hpl
  go_wp2_with fail
  refine Calls.mono HC.out ?_
  rintro e w1 ⟨rfl, hb⟩
  have HW1 := hide ((unhide HW0).below hb)
  have HK1 := hide ((unhide HK0).trans (Kp.of (b := b) (unhide HW0).size hb))
  clear hb HC HW0 HK0
  obtain ⟨l1, l2⟩ := kind_none 24 (unhide HW1) (by decide +kernel)
  obtain ⟨d0, d1, d2⟩ := ((unhide HN).later (unhide HK1).below).cells
  simp only [Tr.kd, Tr.tx, Tr.n] at d0 d1 d2
  have hpl : p < w1.heap.size := by have h1 := (unhide HN).lt; have h2 := (unhide HW1).size; simp at h2 ⊢; omega
  obtain ⟨e2, e3, ef⟩ := (unhide HW1).wr.cells
  have hbl := (unhide HW1).wr.lt
  have HW2 := hide ((unhide HW1).alloc (.cells #[.string ⟨#[]⟩, .int .i64 0, .int .i64 0, .int .i64 0] 175)).drew
  have HK2 := hide ((unhide HK1).alloc (unhide HW1).size (.cells #[.string ⟨#[]⟩, .int .i64 0, .int .i64 0, .int .i64 0] 175)).drew
  obtain ⟨g3, cc3, q3, rr3, hg3, rk3, hq3⟩ := ((unhide HN).later (unhide HK1).below).kid 0 (by simp [Tr.kids])
  simp only [Tr.kids, List.length_cons] at rr3
  have HQ3 : Hid (NB B w1 t0 q3) := hq3
  have hgl3 : g3 < w1.heap.size := by have h2 := (unhide HW1).size; simp at h2 ⊢; omega
  clear hq3
  have HQN : Hid (NB B (w1.alloc (.cells #[.string ⟨#[]⟩, .int .i64 0, .int .i64 0, .int .i64 0] 175)).drew t0 q3) := (unhide HQ3).later (((Below.refl B w1).alloc (unhide HW1).size (.cells #[.string ⟨#[]⟩, .int .i64 0, .int .i64 0, .int .i64 0] 175)).drew)
  clear HW1 HK1
  have HC := hide ((unhide HH0) (w1.alloc (.cells #[.string ⟨#[]⟩, .int .i64 0, .int .i64 0, .int .i64 0] 175)).drew q3 (unhide HW2) (unhide HQN))
  go_wp2_with fail
  go_region
  go_wp2_with fail
  refine Calls.mono HC.out ?_
  intro e w4 hp
  obtain ⟨rfl, g1, g2⟩ := hp
  have HW4 := hide g1
  have HK4 := hide ((unhide HK2).trans g2)
  clear g1 g2 HC HW2 HK2
  clear d0 d1 d2 hpl e2 e3 ef hbl l1 l2 rr3 hg3 rk3 HQ3 hgl3 HQN
  go_wp2_with fail
  refine Calls.mono (put_at (s := s1) (w := w) [tEq] _ 1 rfl #[.string tEq] rfl (by exact new_at (by simp)) (by exact (unhide HW4).alloc _) (by exact (unhide HK4).alloc (unhide HW4).size _) hlen) ?_
  intro e w5 hp
  obtain ⟨rfl, g1, g2⟩ := hp
  have HW5 := hide g1
  have HK5 := hide g2
  clear g1 g2 HW4 HK4
  obtain ⟨d0, d1, d2⟩ := ((unhide HN).later (unhide HK5).below).cells
  simp only [Tr.kd, Tr.tx, Tr.n] at d0 d1 d2
  have hpl : p < w5.heap.size := by have h1 := (unhide HN).lt; have h2 := (unhide HW5).size; simp at h2 ⊢; omega
  obtain ⟨g6, cc6, q6, rr6, hg6, rk6, hq6⟩ := ((unhide HN).later (unhide HK5).below).kid 1 (by simp [Tr.kids])
  simp only [Tr.kids, List.length_cons] at rr6
  have HQ6 : Hid (NB B w5 t1 q6) := hq6
  have hgl6 : g6 < w5.heap.size := by have h2 := (unhide HW5).size; simp at h2 ⊢; omega
  clear hq6
  have HC := hide ((unhide HH1) w5 q6 (unhide HW5) (unhide HQ6))
  go_wp2_with fail
  refine Calls.mono HC.out ?_
  intro e w7 hp
  obtain ⟨rfl, g1, g2⟩ := hp
  have HW7 := hide g1
  have HK7 := hide ((unhide HK5).trans g2)
  clear g1 g2 HC HW5 HK5
  clear d0 d1 d2 hpl rr6 hg6 rk6 HQ6 hgl6
  go_wp2_with fail
  go_end0
  exact ⟨rfl, unhide HW7, unhide HK7⟩


/-- How many parts a kind has at least. -/
def needK (kd : Int) : Nat :=
  if kd = 24 ∨ (25 ≤ kd ∧ kd ≤ 31) ∨ kd = 37 ∨ kd = 5 ∨ kd = 7 ∨ kd = 8 ∨ kd = 9 then 2
  else if (32 ≤ kd ∧ kd ≤ 36) ∨ kd = 39 ∨ kd = 15 ∨ kd = 13 ∨ kd = 14 then 1 else 0
mutual
/-- A part with the parts that its kind asks for. -/
def okT : Tr → Prop
  | .mk kd _ _ ks => needK kd ≤ ks.length ∧ okTs ks
def okTs : List Tr → Prop
  | [] => True
  | t :: ts => okT t ∧ okTs ts
end
theorem okT.need {t : Tr} (h : okT t) : needK t.kd ≤ t.kids.length := by
  cases t with
  | mk kd tx n ks => rw [okT] at h; exact h.1
theorem okTs.get : ∀ {ts : List Tr}, okTs ts → ∀ j (hj : j < ts.length), okT ts[j]
  | [], _, j, hj => absurd hj (by simp)
  | t :: ts, h, j, hj => by
    rw [okTs] at h
    cases j with
    | zero => exact h.1
    | succ j => exact okTs.get h.2 j (by simpa using hj)
theorem okT.kids {t : Tr} (h : okT t) : okTs t.kids := by
  cases t with
  | mk kd tx n ks => rw [okT] at h; exact h.2

theorem kid_get {t : Tr} {j : Nat} (hj : j < t.kids.length) : t.kid j = t.kids[j] := by
  unfold Tr.kid
  rw [List.getD_eq_getElem?_getD, List.getElem?_eq_getElem hj]
  rfl
theorem count_kid {t : Tr} {j : Nat} (hj : j < t.kids.length) : t.kids[j].count + 1 ≤ t.count := by
  cases t with
  | mk kd tx n ks =>
    have := counts_le ks j hj
    rw [count_mk]
    simp only [Tr.kids]
    omega

theorem opensK_cases {kd : Int} (h : opensK kd = true) : kd = 24 ∨ kd = 36 ∨ kd = 35 ∨ kd = 25 ∨ kd = 26 ∨ kd = 27 ∨ kd = 28 ∨ kd = 29 ∨ kd = 30 ∨ kd = 31 := by
  unfold opensK at h
  simpa [or_assoc] using h
theorem opensK_not {kd : Int} (h : ¬ opensK kd = true) : kd ≠ 24 ∧ kd ≠ 36 ∧ kd ≠ 35 ∧ kd ≠ 25 ∧ kd ≠ 26 ∧ kd ≠ 27 ∧ kd ≠ 28 ∧ kd ≠ 29 ∧ kd ≠ 30 ∧ kd ≠ 31 := by
  unfold opensK at h
  simpa [not_or, and_assoc] using h

theorem strK_bounds (kd : Int) : 1 ≤ strK kd ∧ strK kd ≤ 10 := by
  have key : ∀ s ∈ sgs, 1 ≤ s.str ∧ s.str ≤ 10 := by decide +kernel
  unfold strK
  split
  · omega
  · split
    · omega
    · split
      · rename_i s hs
        exact key s (List.mem_of_find?_eq_some hs)
      · omega

theorem opens_any {B b m : Nat} {s : WS} {w : World} (t : Tr) (p : Nat) (hW : Wt B b m s w) (hN : NB B w t p) (hok : okT t) :
    Calls Tryz.prog 178 #[wPtr b, nPtr p] w fun e w' => e = .returned (.bool (opensW t.count t)) ∧ Below w.heap.size w w' := by
  have HW := hide hW
  have HN := hide hN
  have HO := hide hok
  clear hW hN hok
  go_enter Tryz.func178, Tryz.ntmps178
  go_wp2_with fail
  go_loopg [1] t.count (fun k n wr => ∃ u q, n = nPtr q ∧ NB B wr u q ∧ okT u ∧ u.count ≤ k ∧ opensW t.count t = opensW k u ∧ Wt B b m s wr ∧ Below w.heap.size w wr)
  case atStart => exact ⟨t, p, rfl, unhide HN, unhide HO, Nat.le_refl _, rfl, unhide HW, Below.refl _ _⟩
  case round =>
    obtain ⟨u, q, rfl, hN, hok, hc, he, hW, hB⟩ := hrel
    obtain ⟨k, rfl⟩ : ∃ k, gk = k + 1 := ⟨gk - 1, by have := count_pos u; omega⟩
    obtain ⟨d0, _, _⟩ := hN.cells
    have hql : q < wr.heap.size := by have h1 := hN.lt; have h2 := hW.size; omega
    have HC := hide (strength_any hW.wr hW.signs q u.kd d0 hql)
    have HN1 := hide hN
    have HW1 := hide hW
    have HB1 := hide hB
    have HE := hide he
    have HOK := hide hok
    have HCT := hide hc
    clear hN hW hB he hok hc d0 HN HW HO
    go_wp2_with fail
    refine Calls.mono HC.out ?_
    rintro e w1 ⟨rfl, hb⟩
    have HN2 := hide ((unhide HN1).later (hb.mono (unhide HW1).size))
    have HW2 := hide ((unhide HW1).below hb)
    have HB2 := hide ((unhide HB1).trans (hb.mono (unhide HB1).size))
    obtain ⟨d0, _, _⟩ := (unhide HN2).cells
    have hql : q < w1.heap.size := by have h1 := hb.size; omega
    clear hb HC HN1 HW1 HB1
    by_cases h37 : u.kd = 37
    · have hv : opensW t.count t = true := by rw [unhide HE, opensW, if_pos (Or.inl h37)]
      have HV := hide hv
      rw [h37] at d0
      clear hv h37
      go_wp2_with fail
      go_ret
      exact ⟨by rw [unhide HV]; rfl, unhide HB2⟩
    · by_cases h38 : u.kd = 38
      · have hv : opensW t.count t = true := by rw [unhide HE, opensW, if_pos (Or.inr h38)]
        have HV := hide hv
        rw [h38] at d0
        clear hv h37 h38
        go_wp2_with fail
        go_ret
        exact ⟨by rw [unhide HV]; rfl, unhide HB2⟩
      · have hv : opensW t.count t = if opensK u.kd = true then (if strK (u.kid 0).kd < strK u.kd then false else opensW k (u.kid 0)) else false := by rw [unhide HE, opensW, if_neg (by omega)]
        by_cases hk : opensK u.kd = true
        · rw [if_pos hk] at hv
          have hcs := opensK_cases hk
          have hlen : 0 < u.kids.length := by
            have h1 := (unhide HOK).need
            have h2 : 1 ≤ needK u.kd := by rcases hcs with h | h | h | h | h | h | h | h | h | h <;> rw [h] <;> decide
            omega
          obtain ⟨g, c, q0, r3, hgB, r0, hq0⟩ := (unhide HN2).kid 0 hlen
          rw [← kid_get hlen] at hq0
          have hct := count_kid hlen
          rw [← kid_get hlen] at hct
          have hok0 : okT (u.kid 0) := by rw [kid_get hlen]; exact okTs.get (unhide HOK).kids 0 hlen
          have hgl : g < w1.heap.size := by have h2 := (unhide HW2).size; omega
          obtain ⟨f0, _, _⟩ := hq0.cells
          have hq0l : q0 < w1.heap.size := by have h1 := hq0.lt; have h2 := (unhide HW2).size; omega
          have HC := hide (strength_any (unhide HW2).wr (unhide HW2).signs q0 (u.kid 0).kd f0 hq0l)
          have HQ := hide hq0
          have HV := hide hv
          have HO0 := hide hok0
          have HCT0 : Hid ((u.kid 0).count ≤ k) := by have := unhide HCT; show _ ≤ _; omega
          have sb1 := strK_bounds u.kd
          have sb2 := strK_bounds (u.kid 0).kd
          generalize strK (u.kid 0).kd = st0 at HC HV sb2
          generalize strK u.kd = st at HV sb1 ⊢
          clear hq0 hv hok0 hct hk h37 h38 f0 HE
          have hlen' : (0 : Int) < (u.kids.length : Int) := by omega
          rcases hcs with h | h | h | h | h | h | h | h | h | h
          all_goals
            rw [h] at d0
            clear h
            go_wp2_with fail
            refine Calls.mono HC.out ?_
            rintro e w2 ⟨rfl, hb⟩
            have HN3 := hide ((unhide HQ).later (hb.mono (unhide HW2).size))
            have HW3 := hide ((unhide HW2).below hb)
            have HB3 := hide ((unhide HB2).trans (hb.mono (unhide HB2).size))
            clear hb HC
            by_cases hlt : st0 < st
            · have hv2 : opensW t.count t = false := by rw [unhide HV, if_pos hlt]
              have HV2 := hide hv2
              clear hv2
              go_wp2_with fail
              go_ret
              exact ⟨by rw [unhide HV2]; rfl, unhide HB3⟩
            · have hv2 : opensW t.count t = opensW k (u.kid 0) := by rw [unhide HV, if_neg hlt]
              have HV2 := hide hv2
              clear hv2
              go_wp2_with fail
              go_roundg k
              case measure => omega
              case rel => exact ⟨u.kid 0, q0, rfl, unhide HN3, unhide HO0, unhide HCT0, unhide HV2, unhide HW3, unhide HB3⟩
        · rw [if_neg hk] at hv
          obtain ⟨n1, n2, n3, n4, n5, n6, n7, n8, n9, n10⟩ := opensK_not hk
          have HV := hide hv
          clear hv hk
          go_wp2_with fail
          go_ret
          exact ⟨by rw [unhide HV]; rfl, unhide HB2⟩
end Go.Proofs.YtodmgaikhbmlnaaGreatDoor
