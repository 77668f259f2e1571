/-
  Library functions at this program's numbers, by the library's own contracts.
-/
import Derived.Shelf.Strings.Builder1
import Derived.Shelf.Strings.Builder2
import Derived.Shelf.Strings.OnBuilder
import Derived.Shelf.Small.Strs
import Derived.Shelf.Strconv.Itoa0
import Derived.Shelf.Strconv.Itoa1
import Derived.Shelf.Strconv.Itoa2
import Derived.Shelf.Strconv.Itoa3
import Derived.Test.YtodmgaikhbmlnaaGreatDoorProg
import Derived.Test.YtodmgaikhbmlnaaGreatDoorTw42
import Derived.Laws.EntriesVeiled
namespace Go.Proofs
open Go.Shelf
def Tryz.lays156_ren : Go.Shelf.Ren := ⟨fun | 156 => 60 | 165 => 128 | 166 => 129 | 169 => 57 | 240 => 180 | 241 => 185 | 276 => 233 | 277 => 238 | n => n, fun | 31 => 54 | 9 => 9 | 3 => 3 | 4 => 4 | 0 => 0 | 20 => 20 | 72 => 84 | 76 => 116 | 70 => 81 | 37 => 82 | 75 => 29 | 127 => 141 | 164 => 143 | 5 => 5 | 80 => 88 | n => n, fun | n => n⟩
theorem Tryz.lays156 : Go.Proofs.Lays.n156 Tryz.prog Tryz.lays156_ren := {
 mixed := by kernel_rfl
 f156 := Tryz.func60.trans (congrArg some (by kernel_rfl))
 f165 := Tryz.func128.trans (congrArg some (by kernel_rfl))
 f166 := Tryz.func129.trans (congrArg some (by kernel_rfl))
 f169 := Tryz.func57.trans (congrArg some (by kernel_rfl))
 f240 := Tryz.func180.trans (congrArg some (by kernel_rfl))
 f241 := Tryz.func185.trans (congrArg some (by kernel_rfl))
 f276 := Tryz.func233.trans (congrArg some (by kernel_rfl))
 f277 := Tryz.func238.trans (congrArg some (by kernel_rfl))
 t0 := Tryz.underlying0
 a0 := Tryz.isAgg0
 z0 := Tryz.sizeOf0
 v0 := Tryz.zeroValue0
 t3 := Tryz.underlying3
 a3 := Tryz.isAgg3
 z3 := Tryz.sizeOf3
 v3 := Tryz.zeroValue3
 t4 := Tryz.underlying4
 a4 := Tryz.isAgg4
 z4 := Tryz.sizeOf4
 v4 := Tryz.zeroValue4
 t9 := Tryz.underlying9
 a9 := Tryz.isAgg9
 z9 := Tryz.sizeOf9
 v9 := Tryz.zeroValue9
 t20 := Tryz.underlying20
 a20 := Tryz.isAgg20
 z20 := Tryz.sizeOf20
 v20 := Tryz.zeroValue20
 t31 := Tryz.underlying54
 a31 := Tryz.isAgg54
 z31 := Tryz.sizeOf54
 v31 := Tryz.zeroValue54
 t37 := Tryz.underlying82
 a37 := Tryz.isAgg82
 z37 := Tryz.sizeOf82
 v37 := Tryz.zeroValue82
 t70 := Tryz.underlying81
 a70 := Tryz.isAgg81
 z70 := Tryz.sizeOf81
 v70 := Tryz.zeroValue81
 t72 := Tryz.underlying84
 a72 := Tryz.isAgg84
 z72 := Tryz.sizeOf84
 v72 := Tryz.zeroValue84
 t75 := Tryz.underlying29
 a75 := Tryz.isAgg29
 z75 := Tryz.sizeOf29
 v75 := Tryz.zeroValue29
 t76 := Tryz.underlying116
 a76 := Tryz.isAgg116
 z76 := Tryz.sizeOf116
 v76 := Tryz.zeroValue116
 t127 := Tryz.underlying141
 a127 := Tryz.isAgg141
 z127 := Tryz.sizeOf141
 v127 := Tryz.zeroValue141
 t164 := Tryz.underlying143
 a164 := Tryz.isAgg143
 z164 := Tryz.sizeOf143
 v164 := Tryz.zeroValue143 }
theorem Tryz.Builder_Extra_156 : Builder.Extra Tryz.prog Tryz.lays156_ren := {
 sizeBuilder := by kernel_rfl
 liesBuilder := by kernel_rfl
 t5 := Tryz.underlying5
 a5 := Tryz.isAgg5
 z5 := Tryz.sizeOf5
 v5 := Tryz.zeroValue5
 infoByte := by kernel_rfl
 cellsByte := by kernel_rfl
 sizeByte := by kernel_rfl
 neB5 := by decide }
open Go.RowKit in
theorem Tryz.strings_Join_none (a : Option Addr) (c : Nat) (sep : ByteArray) (w : World) :
  Calls Tryz.prog 60 #[.slice a 0 c, .string sep] w fun e w' => e = .returned (.string ⟨#[]⟩) ∧ w' = w := Any.strings_Join_none Tryz.lays156 Tryz.Builder_Extra_156 a c sep w
open Go.RowKit in
theorem Tryz.strings_Join (bk o c : Nat) (xs : List ByteArray) (sep : ByteArray) (w : World) (hcells : ∀ (j : Nat) x, xs[j]? = some x → w.cell? ⟨bk, o + j, none⟩ = some (.string x)) (hbk : bk < w.heap.size) (hN : xs.length ≤ 140737488355328) (hcap : xs.length ≤ c) (hlen : (Lib.join (xs.map (·.data.toList)) sep.data.toList).length ≤ 140737488355328) :
  Calls Tryz.prog 60 #[.slice (some ⟨bk, o, none⟩) xs.length c, .string sep] w fun e w' => e = .returned (.string ⟨(Lib.join (xs.map (·.data.toList)) sep.data.toList).toArray⟩) ∧ Below w.heap.size w w' := Any.strings_Join Tryz.lays156 Tryz.Builder_Extra_156 bk o c xs sep w hcells hbk hN hcap hlen
def Tryz.lays171_ren : Go.Shelf.Ren := ⟨fun | 171 => 59 | 243 => 127 | 246 => 184 | 283 => 234 | 284 => 235 | 285 => 236 | 286 => 237 | 129 => 200 | 317 => 263 | 318 => 264 | 319 => 265 | 320 => 266 | 337 => 275 | 338 => 276 | n => n, fun | 3 => 3 | 9 => 9 | 2 => 2 | 4 => 4 | 171 => 233 | 0 => 0 | 53 => 210 | 37 => 82 | 5 => 5 | 173 => 235 | 212 => 255 | 51 => 208 | 20 => 20 | 213 => 256 | 46 => 157 | 232 => 267 | 233 => 268 | n => n, fun | 17 => 9 | 18 => 11 | 19 => 12 | n => n⟩
theorem Tryz.lays171 : Go.Proofs.Lays.n171 Tryz.prog Tryz.lays171_ren := {
 mixed := by kernel_rfl
 f129 := Tryz.func200.trans (congrArg some (by kernel_rfl))
 f171 := Tryz.func59.trans (congrArg some (by kernel_rfl))
 f243 := Tryz.func127.trans (congrArg some (by kernel_rfl))
 f246 := Tryz.func184.trans (congrArg some (by kernel_rfl))
 f283 := Tryz.func234.trans (congrArg some (by kernel_rfl))
 f284 := Tryz.func235.trans (congrArg some (by kernel_rfl))
 f285 := Tryz.func236.trans (congrArg some (by kernel_rfl))
 f286 := Tryz.func237.trans (congrArg some (by kernel_rfl))
 f317 := Tryz.func263.trans (congrArg some (by kernel_rfl))
 f318 := Tryz.func264.trans (congrArg some (by kernel_rfl))
 f319 := Tryz.func265.trans (congrArg some (by kernel_rfl))
 f320 := Tryz.func266.trans (congrArg some (by kernel_rfl))
 f337 := Tryz.func275.trans (congrArg some (by kernel_rfl))
 f338 := Tryz.func276.trans (congrArg some (by kernel_rfl))
 t0 := Tryz.underlying0
 a0 := Tryz.isAgg0
 z0 := Tryz.sizeOf0
 v0 := Tryz.zeroValue0
 t2 := Tryz.underlying2
 a2 := Tryz.isAgg2
 z2 := Tryz.sizeOf2
 v2 := Tryz.zeroValue2
 t3 := Tryz.underlying3
 a3 := Tryz.isAgg3
 z3 := Tryz.sizeOf3
 v3 := Tryz.zeroValue3
 t4 := Tryz.underlying4
 a4 := Tryz.isAgg4
 z4 := Tryz.sizeOf4
 v4 := Tryz.zeroValue4
 t5 := Tryz.underlying5
 a5 := Tryz.isAgg5
 z5 := Tryz.sizeOf5
 v5 := Tryz.zeroValue5
 t9 := Tryz.underlying9
 a9 := Tryz.isAgg9
 z9 := Tryz.sizeOf9
 v9 := Tryz.zeroValue9
 t20 := Tryz.underlying20
 a20 := Tryz.isAgg20
 z20 := Tryz.sizeOf20
 v20 := Tryz.zeroValue20
 t37 := Tryz.underlying82
 a37 := Tryz.isAgg82
 z37 := Tryz.sizeOf82
 v37 := Tryz.zeroValue82
 t46 := Tryz.underlying157
 a46 := Tryz.isAgg157
 z46 := Tryz.sizeOf157
 v46 := Tryz.zeroValue157
 t51 := Tryz.underlying208
 a51 := Tryz.isAgg208
 z51 := Tryz.sizeOf208
 v51 := Tryz.zeroValue208
 t53 := Tryz.underlying210
 a53 := Tryz.isAgg210
 z53 := Tryz.sizeOf210
 v53 := Tryz.zeroValue210
 t171 := Tryz.underlying233
 a171 := Tryz.isAgg233
 z171 := Tryz.sizeOf233
 v171 := Tryz.zeroValue233
 t173 := Tryz.underlying235
 a173 := Tryz.isAgg235
 z173 := Tryz.sizeOf235
 v173 := Tryz.zeroValue235
 t212 := Tryz.underlying255
 a212 := Tryz.isAgg255
 z212 := Tryz.sizeOf255
 v212 := Tryz.zeroValue255
 t213 := Tryz.underlying256
 a213 := Tryz.isAgg256
 z213 := Tryz.sizeOf256
 t232 := Tryz.underlying267
 a232 := Tryz.isAgg267
 z232 := Tryz.sizeOf267
 v232 := Tryz.zeroValue267
 t233 := Tryz.underlying268
 a233 := Tryz.isAgg268
 z233 := Tryz.sizeOf268
 v233 := Tryz.zeroValue268
 g17 := by kernel_rfl
 g18 := by kernel_rfl
 g19 := by kernel_rfl }
open Go.RowKit Go.Sort Go.Lib in
theorem Tryz.strconv_Itoa_small (i : Nat) (hi : i < 100) (w : World) :
  Calls Tryz.prog 59 #[.int .i64 i] w fun e w' => e = .returned (.string ⟨(Lib.decDigits i).toArray⟩) ∧ w' = w := Any.strconv_Itoa_small Tryz.lays171 i hi w
end Go.Proofs
namespace Go.Proofs.YtodmgaikhbmlnaaGreatDoor
def kb (kd : Int) : Nat := if 0 ≤ kd ∧ kd < 100 then 0 else 1
mutual
def Tr.bad : Tr → Nat
 | .mk kd _ _ ks => kb kd + Tr.bads ks
def Tr.bads : List Tr → Nat
 | [] => 0
 | t :: ts => t.bad + Tr.bads ts
end
theorem bad_mk (kd : Int) (tx : ByteArray) (n : Int) (ks : List Tr) : (Tr.mk kd tx n ks).bad = kb kd + Tr.bads ks := by rw [Tr.bad]
theorem bads_nil : Tr.bads [] = 0 := by rw [Tr.bads]
theorem bads_cons (t : Tr) (ts : List Tr) : Tr.bads (t :: ts) = t.bad + Tr.bads ts := by rw [Tr.bads]
theorem bads_app : ∀ (ts us : List Tr), Tr.bads (ts ++ us) = Tr.bads ts + Tr.bads us
 | [], us => by rw [List.nil_append, bads_nil, Nat.zero_add]
 | t :: ts, us => by rw [List.cons_append, bads_cons, bads_cons, bads_app ts us, Nat.add_assoc]
theorem code_bad (t : Tr) : (codeT t).bad = t.bad := by
 unfold codeT
 split
 ·
  rw [bad_mk, bad_mk]
 ·
  rfl
theorem sg_kb {x : ByteArray} {s : Sg} (h : sgOf x = some s) : kb s.kd = 0 := by
 have h1 : s ∈ sgs := List.mem_of_find?_eq_some h
 have h2 : ∀ s ∈ sgs, kb s.kd = 0 := by decide +kernel
 exact h2 s h1
theorem sgP_kb {k : Int} {x : ByteArray} {s : Sg} (h : sgP k x = some s) : kb s.kd = 0 := by
 unfold sgP at h
 exact sg_kb (Option.filter_eq_some_iff.1 h).1
theorem hd_kb (x : ByteArray) : kb (hdKind x) = 0 := by
 unfold hdKind look2
 cases h : hds.find? (fun e => decide (x = e.1)) with
 | none => decide
 | some e =>
  have h1 := List.mem_of_find?_eq_some h; have h2 : ∀ e ∈ hds, kb e.2 = 0 := by decide +kernel
  exact h2 e h1
section
variable {l : List Tk}
def Kb (_ : Nat) (r : PR Tr) : Prop := ∀ t j, r = .ok t j → t.bad ≤ 0
def Kbs (_ : Nat) (r : PR (List Tr)) : Prop := ∀ t j, r = .ok t j → Tr.bads t ≤ 0
theorem deep_kb {f : Nat → Nat → PR Tr} {d i : Nat} (h : Kb i (f (d + 1) i)) : Kb i (deepP l f d i) := by
 unfold deepP
 split
 ·
  intro t j e; cases e
 ·
  exact h
theorem listLoop_kb {shut : ByteArray} {begins : Nat → Bool} {part : Nat → PR Tr} (hp : ∀ i, Kb i (part i)) : ∀ k acc i t j, listLoop l shut begins part k acc i = .ok t j → Tr.bads t ≤ Tr.bads acc := by
 intro k
 induction k with
 | zero => intro acc i t j h; cases h
 | succ k ih =>
  intro acc i t j h; unfold listLoop at h
  split at h
  ·
   cases h
  ·
   obtain ⟨u, i1, h1, h⟩ := binds h; have := hp i u i1 h1
   split at h
   ·
    cases h; rw [bads_app, bads_cons, bads_nil]; first | omega | (simp [kb] <;> omega) | (simp [kb] at * <;> omega)
   ·
    obtain ⟨_, i2, h2, h⟩ := binds h; have h3 := must_eq h2; have h4 := ih _ _ _ _ h; rw [bads_app, bads_cons, bads_nil] at h4
    first | omega | (simp [kb] <;> omega) | (simp [kb] at * <;> omega)
theorem list_kb {opn shut : ByteArray} {begins : Nat → Bool} {part : Nat → PR Tr} (hp : ∀ i, Kb i (part i)) {k i j : Nat} {t : List Tr} (h : listP l opn shut begins part k i = .ok t j) : Tr.bads t ≤ 0 := by
 unfold listP at h
 obtain ⟨_, i1, h1, h⟩ := binds h
 have h2 := must_eq h1
 split at h
 ·
  cases h; rw [bads_nil]; first | omega | (simp [kb] <;> omega) | (simp [kb] at * <;> omega)
 ·
  have := listLoop_kb hp _ _ _ _ _ h; rw [bads_nil] at this
  first | omega | (simp [kb] <;> omega) | (simp [kb] at * <;> omega)
structure FKb (F : Fns) : Prop where
 st : ∀ d i, Kb i (F.st d i)
 vl : ∀ d i, Kb i (F.vl d i)
 pr : ∀ b d i, Kb i (F.pr b d i)
 sg : ∀ d i, Kb i (F.sg d i)
variable {F : Fns} (hF : FKb F)
include hF
theorem blockLoop_kb {d : Nat} : ∀ k acc i t j, blockLoop l F d k acc i = .ok t j → Tr.bads t ≤ Tr.bads acc := by
 intro k
 induction k with
 | zero => intro acc i t j h; cases h
 | succ k ih =>
  intro acc i t j h; unfold blockLoop at h
  split at h
  ·
   cases h; first | omega | (simp [kb] <;> omega) | (simp [kb] at * <;> omega)
  ·
   obtain ⟨u, i1, h1, h⟩ := binds h; have h2 := deep_kb (l := l) (hF.st _ _) u i1 h1; have h4 := ih _ _ _ _ h; rw [bads_app, bads_cons, bads_nil] at h4
   first | omega | (simp [kb] <;> omega) | (simp [kb] at * <;> omega)
theorem block_kb {d i j : Nat} {t : Tr} (h : blockP l F d i = .ok t j) : t.bad ≤ 0 := by
 unfold blockP at h
 obtain ⟨_, i1, h1, h⟩ := binds h
 obtain ⟨ts, i2, h2, h⟩ := binds h
 cases h
 have h3 := must_eq h1
 have h4 := blockLoop_kb hF _ _ _ _ _ h2
 rw [bads_nil] at h4
 rw [bad_mk]; first | omega | (simp [kb] <;> omega) | (simp [kb] at * <;> omega)
omit hF in
theorem param_kb (i : Nat) : Kb i (paramP l i) := by
 intro t j h
 unfold paramP at h
 obtain ⟨_, i1, h1, h⟩ := binds h
 cases h
 have := name_eq h1
 rw [bad_mk, bads_nil]; first | omega | (simp [kb] <;> omega) | (simp [kb] at * <;> omega)
omit hF in
theorem params_kb {i j : Nat} {t : Tr} (h : paramsP l F i = .ok t j) : t.bad ≤ 0 := by
 unfold paramsP at h
 obtain ⟨ts, i1, h1, h⟩ := binds h
 cases h
 have := list_kb param_kb h1
 rw [bad_mk]; first | omega | (simp [kb] <;> omega) | (simp [kb] at * <;> omega)
theorem arg_kb (d i : Nat) : Kb i (argP l F d i) := deep_kb (hF.vl _ _)
theorem prop_kb (d i : Nat) : Kb i (propP l F d i) := by
 intro t j h
 unfold propP at h
 obtain ⟨_, i1, h1, h⟩ := binds h
 obtain ⟨_, i2, h2, h⟩ := binds h
 obtain ⟨u, i3, h3, h⟩ := binds h
 cases h
 have e1 := name_eq h1
 have e2 := must_eq h2
 have e3 := deep_kb (l := l) (hF.vl _ _) u _ h3
 rw [bad_mk, bads_cons, bads_nil]; first | omega | (simp [kb] <;> omega) | (simp [kb] at * <;> omega)
theorem inPar_kb (d i : Nat) : Kb i (inParP l F d i) := by
 intro t j h
 unfold inParP at h
 obtain ⟨_, i1, h1, h⟩ := binds h
 obtain ⟨u, i2, h2, h⟩ := binds h
 obtain ⟨_, i3, h3, h⟩ := binds h
 cases h
 have e1 := must_eq h1
 have e2 := deep_kb (l := l) (hF.vl _ _) _ _ h2
 have e3 := must_eq h3
 first | omega | (simp [kb] <;> omega) | (simp [kb] at * <;> omega)
theorem object_kb (d i : Nat) : Kb i (objectP l F d i) := by
 intro t j h
 unfold objectP at h
 obtain ⟨ts, i1, h1, h⟩ := binds h
 cases h
 have := list_kb (prop_kb hF d) h1
 rw [bad_mk]; first | omega | (simp [kb] <;> omega) | (simp [kb] at * <;> omega)
theorem tail_kb {kd : Int} (hk : kb kd = 0) {s : ByteArray} {d i j : Nat} {t : Tr} (h : funcTail l F kd s d i = .ok t j) : t.bad ≤ 0 := by
 unfold funcTail at h
 obtain ⟨ps, i1, h1, h⟩ := binds h
 obtain ⟨b, i2, h2, h⟩ := binds h
 cases h
 have e1 := params_kb h1
 have e2 := block_kb hF h2
 rw [bad_mk, bads_cons, bads_cons, bads_nil, code_bad, hk]; omega
theorem lambda_kb (d i : Nat) : Kb i (lambdaP l F d i) := by
 intro t j h
 unfold lambdaP at h
 obtain ⟨_, i1, h1, h⟩ := binds h
 have e1 := must_eq h1
 split at h
 ·
  obtain ⟨_, i2, h2, h⟩ := binds h; have e2 := name_eq h2; have := tail_kb hF (by decide) h
  first | omega | (simp [kb] <;> omega) | (simp [kb] at * <;> omega)
 ·
  have := tail_kb hF (by decide) h
  first | omega | (simp [kb] <;> omega) | (simp [kb] at * <;> omega)
theorem func_kb (d i : Nat) : Kb i (funcP l F d i) := by
 intro t j h
 unfold funcP at h
 obtain ⟨_, i1, h1, h⟩ := binds h
 obtain ⟨_, i2, h2, h⟩ := binds h
 have e1 := must_eq h1
 have e2 := name_eq h2
 have := tail_kb hF (by decide) h
 first | omega | (simp [kb] <;> omega) | (simp [kb] at * <;> omega)
theorem alone_kb (d i : Nat) : Kb i (aloneP l F d i) := by
 unfold aloneP
 split
 ·
  exact inPar_kb hF d i
 ·
  exact object_kb hF d i
 ·
  exact lambda_kb hF d i
 ·
  split
  ·
   rename_i hsg; intro t j h; cases h; rw [bad_mk, bads_nil, sg_kb (Option.filter_eq_some_iff.1 hsg).1]; omega
  ·
   split
   ·
    intro t j h; cases h; rw [bad_mk, bads_nil]; first | omega | (simp [kb] <;> omega) | (simp [kb] at * <;> omega)
   ·
    split
    ·
     intro t j h; cases h; rw [bad_mk, bads_nil]; first | omega | (simp [kb] <;> omega) | (simp [kb] at * <;> omega)
    ·
     split
     ·
      intro t j h; cases h; rw [bad_mk, bads_nil]; first | omega | (simp [kb] <;> omega) | (simp [kb] at * <;> omega)
     ·
      intro t j h; cases h
theorem askedLoop_kb {d : Nat} : ∀ k u i t j, askedLoop l F d k u i = .ok t j → t.bad ≤ u.bad := by
 intro k
 induction k with
 | zero => intro u i t j h; cases h
 | succ k ih =>
  intro u i t j h; unfold askedLoop at h
  split at h
  ·
   obtain ⟨s, i1, h1, h⟩ := binds h; have e1 := name_eq h1; have e2 := ih _ _ _ _ h; rw [bad_mk, bads_cons, bads_nil] at e2; have hk36 : kb 36 = 0 := by decide
   omega
  ·
   split at h
   ·
    obtain ⟨ts, i1, h1, h⟩ := binds h; have e1 := list_kb (arg_kb hF d) h1; have e2 := ih _ _ _ _ h; rw [bad_mk, bads_cons] at e2; have hk35 : kb 35 = 0 := by decide
    omega
   ·
    cases h; first | omega | (simp [kb] <;> omega) | (simp [kb] at * <;> omega)
theorem asked_kb (d i : Nat) : Kb i (askedP l F d i) := by
 intro t j h
 unfold askedP at h
 obtain ⟨u, i1, h1, h⟩ := binds h
 have e1 := alone_kb hF d i u i1 h1
 have e2 := askedLoop_kb hF _ _ _ _ _ h
 first | omega | (simp [kb] <;> omega) | (simp [kb] at * <;> omega)
theorem single_kb (d i : Nat) : Kb i (singleP l F d i) := by
 unfold singleP
 split
 ·
  rename_i hsg
  intro t j h; obtain ⟨u, i1, h1, h⟩ := binds h; cases h; have := deep_kb (l := l) (hF.sg _ _) u _ h1; rw [bad_mk, bads_cons, bads_nil, sgP_kb hsg]; omega
 ·
  exact asked_kb hF d i
theorem pairLoop_kb {b : Int} {d : Nat} : ∀ k u i t j, pairLoop l F b d k u i = .ok t j → t.bad ≤ u.bad := by
 intro k
 induction k with
 | zero => intro u i t j h; cases h
 | succ k ih =>
  intro u i t j h; unfold pairLoop at h
  split at h
  ·
   cases h; first | omega | (simp [kb] <;> omega) | (simp [kb] at * <;> omega)
  ·
   rename_i hsg
   split at h
   ·
    cases h; first | omega | (simp [kb] <;> omega) | (simp [kb] at * <;> omega)
   ·
    obtain ⟨v, i1, h1, h⟩ := binds h; have e1 := hF.pr _ _ _ v i1 h1; have e2 := ih _ _ _ _ h; rw [bad_mk, bads_cons, bads_cons, bads_nil, sgP_kb hsg] at e2; omega
theorem pair_kb (b : Int) (d i : Nat) : Kb i (pairP l F b d i) := by
 intro t j h
 unfold pairP at h
 obtain ⟨u, i1, h1, h⟩ := binds h
 have e1 := hF.sg _ _ u i1 h1
 have e2 := pairLoop_kb hF _ _ _ _ _ h
 first | omega | (simp [kb] <;> omega) | (simp [kb] at * <;> omega)
theorem value_kb (d i : Nat) : Kb i (valueP l F d i) := by
 intro t j h
 unfold valueP at h
 obtain ⟨u, i1, h1, h⟩ := binds h
 have e1 := hF.pr _ _ _ u i1 h1
 split at h
 ·
  split at h
  ·
   obtain ⟨v, i2, h2, h⟩ := binds h; cases h; have e2 := deep_kb (l := l) (hF.vl _ _) v _ h2; rw [bad_mk, bads_cons, bads_cons, bads_nil]; first | omega | (simp [kb] <;> omega) | (simp [kb] at * <;> omega)
  ·
   cases h
 ·
  cases h; exact e1
theorem part_kb (d q i : Nat) : Kb i (partP l F d q i) := by
 intro t j h
 unfold partP at h
 split at h
 ·
  unfold declP at h; obtain ⟨s, i1, h1, h⟩ := binds h; have e1 := name_eq h1
  split at h
  ·
   cases h
  ·
   split at h
   ·
    obtain ⟨v, i2, h2, h⟩ := binds h; obtain ⟨_, i3, h3, h⟩ := binds h; cases h; have e2 := deep_kb (l := l) (hF.vl _ _) v _ h2; have e3 := must_eq h3; rw [bad_mk, bads_cons, bads_nil, hd_kb]; omega
   ·
    obtain ⟨_, i3, h3, h⟩ := binds h; cases h; have e3 := must_eq h3; rw [bad_mk, bads_nil, hd_kb]; omega
 ·
  exact func_kb hF d i t j h
 ·
  have := block_kb hF h; first | omega | (simp [kb] <;> omega) | (simp [kb] at * <;> omega)
 ·
  obtain ⟨_, i3, h3, h⟩ := binds h; cases h; have e3 := must_eq h3; rw [bad_mk, bads_nil]; first | omega | (simp [kb] <;> omega) | (simp [kb] at * <;> omega)
 ·
  unfold choiceP at h; obtain ⟨v, i1, h1, h⟩ := binds h; obtain ⟨s, i2, h2, h⟩ := binds h; have e1 := inPar_kb hF d _ v i1 h1; have e2 := deep_kb (l := l) (hF.st _ _) s _ h2
  split at h
  ·
   obtain ⟨s2, i3, h3, h⟩ := binds h; cases h; have e3 := deep_kb (l := l) (hF.st _ _) s2 _ h3; rw [bad_mk, bads_cons, bads_cons, bads_cons, bads_nil, hd_kb]; omega
  ·
   cases h; rw [bad_mk, bads_cons, bads_cons, bads_nil, hd_kb]; omega
 ·
  unfold behindP at h; obtain ⟨v, i1, h1, h⟩ := binds h; obtain ⟨s, i2, h2, h⟩ := binds h; cases h; have e1 := inPar_kb hF d _ v i1 h1; have e2 := deep_kb (l := l) (hF.st _ _) s _ h2
  rw [bad_mk, bads_cons, bads_cons, bads_nil, hd_kb]; omega
 ·
  unfold givingP at h
  split at h
  ·
   obtain ⟨v, i1, h1, h⟩ := binds h; obtain ⟨_, i2, h2, h⟩ := binds h; cases h; have e1 := deep_kb (l := l) (hF.vl _ _) v _ h1; have e2 := must_eq h2; rw [bad_mk, bads_cons, bads_nil, hd_kb]; omega
  ·
   obtain ⟨_, i2, h2, h⟩ := binds h; cases h; have e2 := must_eq h2; rw [bad_mk, bads_nil, hd_kb]; omega
 ·
  unfold attemptP at h; obtain ⟨_, i0, h0, h⟩ := binds h; obtain ⟨b, i1, h1, h⟩ := binds h; obtain ⟨c, i2, h2, h⟩ := binds h; obtain ⟨f, i3, h3, h⟩ := binds h; have e0 := must_eq h0; have e1 := block_kb hF h1
  have e2 : Tr.bads c ≤ 0 := by
   unfold catchP at h2
   split at h2
   ·
    obtain ⟨_, k1, g1, h2⟩ := binds h2; obtain ⟨_, k2, g2, h2⟩ := binds h2; obtain ⟨_, k3, g3, h2⟩ := binds h2; obtain ⟨bb, k4, g4, h2⟩ := binds h2; cases h2; have := must_eq g1; have := name_eq g2; have := must_eq g3
    have := block_kb hF g4; rw [bads_cons, bad_mk, bads_cons, bads_nil]; first | omega | (simp [kb] <;> omega) | (simp [kb] at * <;> omega)
   ·
    cases h2; rw [bads_nil]; first | omega | (simp [kb] <;> omega) | (simp [kb] at * <;> omega)
  have e3 : Tr.bads f ≤ 0 := by
   unfold finallyP at h3
   split at h3
   ·
    obtain ⟨bb, k4, g4, h3⟩ := binds h3; cases h3; have := block_kb hF g4; rw [bads_cons, bad_mk, bads_cons, bads_nil]; first | omega | (simp [kb] <;> omega) | (simp [kb] at * <;> omega)
   ·
    cases h3; rw [bads_nil]; first | omega | (simp [kb] <;> omega) | (simp [kb] at * <;> omega)
  split at h
  ·
   cases h
  ·
   cases h; rw [bad_mk, bads_cons, bads_app]; first | omega | (simp [kb] <;> omega) | (simp [kb] at * <;> omega)
theorem statement_kb (d i : Nat) : Kb i (statementP l F d i) := by
 unfold statementP
 split
 ·
  exact part_kb hF d _ i
 ·
  intro t j h; unfold exprP at h; obtain ⟨v, i1, h1, h⟩ := binds h; obtain ⟨_, i2, h2, h⟩ := binds h; cases h; have e1 := deep_kb (l := l) (hF.vl _ _) v _ h1; have e2 := must_eq h2
  rw [bad_mk, bads_cons, bads_nil]; first | omega | (simp [kb] <;> omega) | (simp [kb] at * <;> omega)
omit hF in
theorem fns_kb : ∀ k, FKb (fns l k) := by
 intro k
 induction k with
 | zero => exact ⟨fun _ _ _ _ h => by (cases h), fun _ _ _ _ h => by (cases h), fun _ _ _ _ _ h => by (cases h), fun _ _ _ _ h => by (cases h)⟩
 | succ k ih => exact ⟨statement_kb ih, value_kb ih, pair_kb ih, single_kb ih⟩
theorem progLoop_kb : ∀ k acc i t j, progLoop l F k acc i = .ok t j → Tr.bads t ≤ Tr.bads acc := by
 intro k
 induction k with
 | zero => intro acc i t j h; cases h
 | succ k ih =>
  intro acc i t j h; unfold progLoop at h
  split at h
  ·
   cases h; first | omega | (simp [kb] <;> omega) | (simp [kb] at * <;> omega)
  ·
   obtain ⟨u, i1, h1, h⟩ := binds h; have h2 := deep_kb (l := l) (hF.st _ _) u i1 h1; have h4 := ih _ _ _ _ h; rw [bads_app, bads_cons, bads_nil] at h4
   first | omega | (simp [kb] <;> omega) | (simp [kb] at * <;> omega)
theorem prog_kb {t : Tr} {j : Nat} (h : progP l F = .ok t j) : t.bad ≤ 0 := by
 unfold progP at h
 obtain ⟨ts, i1, h1, h⟩ := binds h
 cases h
 have := progLoop_kb hF _ _ _ _ _ h1
 rw [bads_nil] at this
 rw [code_bad, bad_mk]; first | omega | (simp [kb] <;> omega) | (simp [kb] at * <;> omega)
end
mutual
theorem wk_small_of : ∀ (t : Tr), t.bad = 0 → 0 ≤ t.kd ∧ t.kd < 100 ∧ ∀ k ∈ t.kids, k.bad = 0
 | .mk kd tx n ks, h => by
  rw [bad_mk] at h; have h1 : kb kd = 0 := by omega
  have h2 : 0 ≤ kd ∧ kd < 100 := by
   unfold kb at h1
   split at h1
   ·
    assumption
   ·
    omega
  exact ⟨h2.1, h2.2, bads_all ks (by omega)⟩
theorem bads_all : ∀ (ks : List Tr), Tr.bads ks = 0 → ∀ k ∈ ks, k.bad = 0
 | [], _ => fun k hk => absurd hk (by simp)
 | t :: ts, h => fun k hk => by
  rw [bads_cons] at h
  rcases List.mem_cons.1 hk with rfl | hk
  ·
   omega
  ·
   exact bads_all ts (by omega) k hk
end
theorem prog_bad {l : List Tk} {t : Tr} {j k : Nat} (h : progP l (fns l k) = .ok t j) : t.bad = 0 := by
 have h1 : t.bad ≤ 0 := prog_kb (fns_kb k) h
 exact Nat.le_zero.1 h1
end Go.Proofs.YtodmgaikhbmlnaaGreatDoor
set_option maxRecDepth 100000
set_option maxHeartbeats 16000000
namespace Go.Proofs.YtodmgaikhbmlnaaGreatDoor
open Go.RowKit
def digB2 (z : Int) : ByteArray := ⟨(Lib.decDigits z.toNat).toArray⟩
def toldS (zs : List Int) : ByteArray := ⟨(Lib.join ((zs.map digB2).map (·.data.toList)) [32]).toArray⟩
theorem info9s : (Tryz.prog.info? 9).map (fun i => (i.zero, i.size, i.bytes)) = some (some (.string ⟨#[]⟩), 1, 16) := by kernel_rfl
theorem dig_len2 : ∀ i, i < 100 → (Lib.decDigits i).length ≤ 2 := by decide +kernel
theorem inter_len (sep : List UInt8) (M : Nat) : ∀ xs : List (List UInt8), (∀ x ∈ xs, x.length ≤ M) → (sep.intercalate xs).length ≤ xs.length * (M + sep.length)
 | [], _ => by simp [List.intercalate]
 | [x], h => by
  have := h x (by simp); simp [List.intercalate]; omega
 | x :: y :: r, h => by
  have h1 := inter_len sep M (y :: r) (fun z hz => h z (by simp [hz])); have h2 := h x (by simp)
  have h3 : sep.intercalate (x :: y :: r) = x ++ (sep ++ sep.intercalate (y :: r)) := by simp [List.intercalate, List.intersperse]
  rw [h3, List.length_append, List.length_append, List.length_cons, Nat.add_mul]; omega
theorem row_cellsV {w : World} {B e n : Nat} {v : Value} {xs : List Value} (h : w.ownsRow B e 1 v n xs) (hn : 0 < n) : ∃ g cap, v = .slice (some ⟨g, 0, none⟩) n cap ∧ g < w.heap.size ∧ n ≤ cap ∧ B ≤ g ∧ ∀ (k : Nat) x, xs[k]? = some x → w.cell? ⟨g, k, none⟩ = some x := by
 rcases h.2 with ⟨_, h0⟩ | ⟨g, cap, cur, rfl, hB, hh, hc, _, _, ht⟩
 ·
  omega
 ·
  refine ⟨g, cap, rfl, lt_of_heap hh, hc, hB, fun k x hk => ?_⟩; rw [cell_of hh]; have h1 : (cur.toList.take (n * 1))[k]? = some x := by rw [ht]; exact hk
  have h2 : k < n := by
   have := (List.getElem?_eq_some_iff.1 h1).1; simp at this; omega
  rw [List.getElem?_take, if_pos (by omega)] at h1; simpa using h1
theorem one_cellsS (w : World) (k : ByteArray) (H : Nat) (h : w.heap.size = H) : ∀ j u, [Value.string k][j]? = some u → (w.alloc (.cells #[.string k] 9)).cell? ((⟨H, 0, none⟩ : Addr).add j) = some u := by
 subst h
 intro j u hj
 match j with
 | 0 =>
  simp only [List.getElem?_cons_zero, Option.some.injEq] at hj; subst hj
  show (w.alloc (.cells #[.string k] 9)).cell? ⟨w.heap.size, 0 + 0, none⟩ = _
  rw [cell_of (heap_new w (.cells #[.string k] 9))]; rfl
 | n + 1 => simp at hj
theorem one_oneS (k : ByteArray) : ∀ u ∈ [Value.string k], u.oneCell' = true := by
 intro u hu
 rw [List.mem_singleton.1 hu]
 rfl
theorem told_any {B : Nat} {zs : List Int} {v : Value} {w : World} (hrow : w.ownsRow B 3 1 v zs.length (zs.map (Value.int .i64))) (hz : ∀ z ∈ zs, 0 ≤ z ∧ z < 100) (hl : zs.length ≤ 100000) :
  Calls Tryz.prog 23 #[v] w fun e w' => e = .returned (.string (toldS zs)) ∧ Below w.heap.size w w' := by
 obtain ⟨i0, hi0, hz0, hz1, hz2⟩ := info_parts info9s
 obtain ⟨va, vc, rfl⟩ := row_form hrow
 have HROW := hide hrow
 have HZ := hide hz
 obtain ⟨ys, hys⟩ : ∃ ys, ys = zs.map (fun z => Value.string (digB2 z)) := ⟨_, rfl⟩
 have HYS := hide hys
 have hyl : ys.length = zs.length := by rw [hys]; simp
 have HYL := hide hyl
 obtain ⟨S, hS⟩ : ∃ S, S = toldS zs := ⟨_, rfl⟩
 rw [← hS]
 have HS := hide hS
 clear hrow hz hys hyl hS
 go_enter Tryz.func23, Tryz.ntmps23
 go_wp2_with fail
 go_loopw [3, 8] (fun o i wr => ∃ k : Nat, k ≤ zs.length ∧ i = .int .i64 k ∧ wr.ownsRow w.heap.size 9 1 o k (ys.take k) ∧ Below w.heap.size w wr) (fun _ i _ => zs.length - (intOf i).toNat)
 case atStart => exact ⟨0, Nat.zero_le _, rfl, ⟨rfl, Or.inl ⟨rfl, rfl⟩⟩, Below.refl _ _⟩
 case round =>
  obtain ⟨k, hk, rfl, hown, hb⟩ := hrel; obtain ⟨oa, oc, rfl⟩ := row_form hown; have HOWN := hide hown; have HB := hide hb; clear hown hb
  by_cases hlt : k < zs.length
  ·
   obtain ⟨g, cap, hv, hgl, _, _, hcell⟩ := row_cellsV HROW.out (by omega); simp only [Value.slice.injEq] at hv; obtain ⟨rfl, _, rfl⟩ := hv; obtain ⟨z, hzk⟩ : ∃ z, zs[k]? = some z := ⟨_, List.getElem?_eq_getElem hlt⟩
   have hzm := unhide HZ z (List.mem_of_getElem? hzk); have hck : wr.cell? ⟨g, k, none⟩ = some (.int .i64 z) := by
    rw [World.cell?_of_block (w := w) (HB.out.block g hgl)]; exact hcell k _ (by rw [List.getElem?_map, hzk]; rfl)
   have hgl2 : g < wr.heap.size := Nat.lt_of_lt_of_le hgl HB.out.size; have hzz : ((z.toNat : Nat) : Int) = z := Int.toNat_of_nonneg hzm.1; have hc := Tryz.strconv_Itoa_small z.toNat (by omega) wr; rw [hzz] at hc
   have HC := hide hc; have hki : (k : Int) < (zs.length : Int) := by omega
   have htk : ys.take (k + 1) = ys.take k ++ [.string (digB2 z)] := by
    have h1 : ys[k]? = some (.string (digB2 z)) := by rw [HYS.out, List.getElem?_map, hzk]; rfl
    rw [List.take_add_one, h1]; rfl
   have HTK := hide htk; have hsz := HB.out.size; clear hc hcell hzk htk hzz; go_wp2_with fail; refine cm HC.out ?_; rintro e w1 ⟨rfl, rfl⟩; clear HC hck; have hown := unhide HOWN
   go_wp2_with (at_builtin; refine wpList_append_lies _ rfl _ _ 54 rfl w.heap.size 9 i0 (.string ⟨#[]⟩) 1 16 Tryz.underlying54 hi0 hz0 hz1 hz2 rfl (by decide) _ _ _ rfl (HOWN.out.alloc _) ⟨w1.heap.size, 0, none⟩ 1 1 [.string (digB2 z)] rfl rfl (one_cellsS w1 (digB2 z) _ rfl) (one_oneS _) (by decide) (by unfold maxLen; omega) (by omega) (by simp; omega) (w1.heap.size + 1) (by simp) ?_)
   intro g2 cap2 w5 hown' hgrow hg _; have HB5 := hide ((HB.out.alloc hsz (.cells #[.string (digB2 z)] 9)).grown hgrow (by simp; omega) (fun k hk => (own_lt HOWN.out k hk).2))
   have HO5 := hide hown'; clear hown' hgrow hg hown HOWN HB; go_wp2_with fail
   go_roundw
   case rel => exact ⟨k + 1, by omega, by go_num, by rw [HTK.out]; exact HO5.out, HB5.out⟩
   case measure => simp [intOf]; omega
  ·
   have hk2 : k = zs.length := by omega
   subst hk2; have hown := unhide HOWN; rw [← HYL.out, List.take_length, HYL.out, HYS.out] at hown
   by_cases h0 : zs.length = 0
   ·
    have hnil : zs = [] := List.length_eq_zero_iff.1 h0; subst hnil; have HC := hide (Tryz.strings_Join_none oa oc ⟨#[32]⟩ wr); clear hown; go_wp2_with fail; refine cm HC.out ?_; rintro e w1 ⟨rfl, rfl⟩; clear HC
    go_wp2_with fail; go_ret; exact ⟨by rw [HS.out]; rfl, HB.out⟩
   ·
    obtain ⟨g, cap, hv, hgl, hnc, _, hcell⟩ := row_cellsV hown (by omega); simp only [Value.slice.injEq] at hv; obtain ⟨rfl, _, rfl⟩ := hv
    have hjl : (Lib.join ((zs.map digB2).map (·.data.toList)) [32]).length ≤ 140737488355328 := by
     have h1 := inter_len [32] 2 ((zs.map digB2).map (·.data.toList)) (fun x hx => by
      simp only [List.mem_map] at hx; obtain ⟨y, ⟨z, hz, rfl⟩, rfl⟩ := hx; have h2 := unhide HZ z hz; have h3 := dig_len2 z.toNat (by omega); simpa [digB2] using h3)
     simp only [List.length_map, List.length_singleton] at h1; unfold Lib.join; omega
    have hc : Calls Tryz.prog 60 #[.slice (some ⟨g, 0, none⟩) (zs.map digB2).length oc, .string ⟨#[32]⟩] wr fun e w' => e = .returned (.string S) ∧ Below wr.heap.size wr w' := by
     rw [HS.out]; exact Tryz.strings_Join g 0 oc (zs.map digB2) ⟨#[32]⟩ wr (fun j x hj => by
     rw [Nat.zero_add]; refine hcell j _ ?_; rw [List.getElem?_map] at hj ⊢
     cases hzj : zs[j]? with
     | none => rw [hzj] at hj; cases hj
     | some z => rw [hzj] at hj; cases hj; rfl) hgl (by simp; omega) (by simp; omega) hjl
    rw [List.length_map] at hc; have HC := hide hc; clear hc hcell hown hjl; go_wp2_with fail; refine cm HC.out ?_; rintro e w1 ⟨rfl, hb1⟩; have HB1 := hide (HB.out.trans (hb1.mono HB.out.size)); clear HC hb1
    go_wp2_with fail; go_ret; exact ⟨rfl, HB1.out⟩
mutual
theorem wk_small (s : Int) : ∀ (t : Tr), t.bad = 0 → ∀ z ∈ wk s t, 0 ≤ z ∧ z < 100
 | .mk kd tx n ks, h => fun z hz => by
  have h1 := wk_small_of _ h; rw [wk] at hz
  rcases List.mem_cons.1 hz with rfl | hz
  ·
   exact ⟨h1.1, h1.2.1⟩
  ·
   split at hz
   ·
    cases hz
   ·
    exact wks_small s ks (fun k hk => h1.2.2 k hk) z hz
theorem wks_small (s : Int) : ∀ (ts : List Tr), (∀ k ∈ ts, k.bad = 0) → ∀ z ∈ wks s ts, 0 ≤ z ∧ z < 100
 | [], _ => fun z hz => by rw [wks] at hz; cases hz
 | t :: ts, h => fun z hz => by
  rw [wks] at hz
  rcases List.mem_append.1 hz with hz | hz
  ·
   exact wk_small s t (h t (by simp)) z hz
  ·
   exact wks_small s ts (fun k hk => h k (by simp [hk])) z hz
end
theorem parse_bad0 {ws gs : List ByteArray} {s : ByteArray} {t : Tr} (h : parseS ws gs s = .ok t) : t.bad = 0 := by
 unfold parseS at h
 split at h
 ·
  cases h
 ·
  split at h
  ·
   cases h
  ·
   rename_i l _
   cases hp : progP l (fns l KK) with
   | out => rw [hp] at h; cases h
   | bad er p => rw [hp] at h; cases h
   | ok t2 j =>
    rw [hp] at h; simp only at h
    split at h
    ·
     cases h
    ·
     cases h; exact prog_bad hp
theorem walks_none (s : ByteArray) (stop : Int) (w : World) (h : ∀ W, Below w.heap.size w W → Calls Tryz.prog 19 #[.string s] W (BoPost none W)) : Calls Tryz.prog 4 #[.string s, .int .i64 stop] w fun e w' => e = .returned (.bool true) ∧ Below w.heap.size w w' := by
 have HB0 : Hid (Below w.heap.size w (w.alloc (.cells #[.int .i64 stop] 3))) := (Below.refl _ _).alloc (Nat.le_refl _) _
 have HC := hide (h _ HB0.out)
 clear h
 go_enter Tryz.func4, Tryz.ntmps4
 go_wp2_with fail
 refine cm HC.out ?_
 rintro e w1 ⟨rfl, hb⟩
 have HB1 := hide (HB0.out.trans (hb.mono HB0.out.size))
 clear hb HC
 go_wp2_with fail
 go_ret
 exact ⟨rfl, HB1.out⟩
theorem walks_some (s : ByteArray) (stop : Int) (t : Tr) (w : World) (hc : t.count ≤ 1500) (hbd : t.bad = 0) (h : ∀ W, Below w.heap.size w W → Calls Tryz.prog 19 #[.string s] W (BoPost (some t) W)) : Calls Tryz.prog 4 #[.string s, .int .i64 stop] w fun e w' => e = .returned (.bool true) ∧ Below w.heap.size w w' := by
 have HB0 : Hid (Below w.heap.size w (w.alloc (.cells #[.int .i64 stop] 3))) := (Below.refl _ _).alloc (Nat.le_refl _) _
 have HC := hide (h _ HB0.out)
 have hen := en22
 clear h
 go_enter Tryz.func4, Tryz.ntmps4
 go_wp2_with fail
 refine cm HC.out ?_
 rintro e w1 ⟨p, q, rfl, hnp, hnq, hb⟩
 have rb : w1.heap[w.heap.size]? = some (.cells #[.int .i64 stop] 3 (0, 0)) := (hb.block _ (by simp)).trans (heap_new _ _)
 have HB1 := hide (HB0.out.trans (hb.mono HB0.out.size))
 have HRB := hide rb
 have HNP := hide hnp
 have HNQ := hide hnq
 have hwl : w.heap.size < w1.heap.size := lt_of_heap rb
 obtain ⟨wa, hwa⟩ : ∃ wa, wa = (w1.alloc (.cells #[.slice none 0 0] 42)).alloc (.cells #[.slice none 0 0] 42) := ⟨_, rfl⟩
 have hba : Below w1.heap.size w1 wa := by rw [hwa]; exact ((Below.refl _ _).alloc (Nat.le_refl _) _).alloc (by simp) _
 have hsa : wa.heap.size = w1.heap.size + 2 := by rw [hwa]; simp
 have hg1 : wa.heap[w1.heap.size]? = some (.cells #[.slice none 0 0] 42 (0, 0)) := by rw [hwa, Below.heap_alloc _ _ _ (by simp), heap_new]
 have hg2 : wa.heap[w1.heap.size + 1]? = some (.cells #[.slice none 0 0] 42 (0, 0)) := by
  rw [hwa]; have h := heap_new (w1.alloc (.cells #[.slice none 0 0] 42)) (.cells #[.slice none 0 0] 42); simpa using h
 have hst : wa.cell? ⟨w.heap.size, 0, none⟩ = some (.int .i64 stop) := by rw [cell_of ((hba.block _ hwl).trans rb)]; rfl
 have hPa : NAt (fun x => x < w1.heap.size + 2 ∧ x ≠ w1.heap.size) wa t p := NAt.later (fun x hx _ => hba.block x (by have := hx; omega)) _ _ (NAt.mono (J := fun x => x < w1.heap.size) (fun x _ hl => hl) _ _ hnp) |> NAt.mono (fun x hx _ => ⟨by have h1 : x < w1.heap.size := hx; omega, by have h1 : x < w1.heap.size := hx; omega⟩) _ _
 have hQa : NAt (fun x => x < w1.heap.size) wa t q := NAt.later (fun x hx _ => hba.block x hx) _ _ (NAt.mono (J := fun x => x < w1.heap.size) (fun x _ hl => hl) _ _ hnq)
 have HC2 := hide (walkG w1.heap.size w.heap.size (w1.heap.size + 2) stop (by omega) (by omega) t.count t (Nat.le_refl _) p [] wa hPa ⟨by omega, by omega, _, hg1, rfl, Or.inl ⟨rfl, rfl⟩⟩ hst (by simp; omega))
 have HBA := hide (HB1.out.trans (hba.mono HB1.out.size))
 have HQA := hide hQa
 have HG2 := hide hg2
 have HST := hide hst
 have HSA := hide hsa
 clear hb HC rb hnp hnq hPa hQa hg1 hg2 hst hba hsa
 go_wp2_with fail
 rw [← hwa]
 refine cm HC2.out ?_
 rintro e w2 ⟨rfl, hg, ha⟩
 have HGT := hide hg
 have HAP := hide ha
 have hs2 := ha.size
 have hsa := unhide HSA
 obtain ⟨w3, hw3⟩ : ∃ w3, w3 = w2.alloc (.cells #[litV (w1.heap.size + 1) w.heap.size w2.heap.size] 44) := ⟨_, rfl⟩
 have hb3 : Below w2.heap.size w2 w3 := by rw [hw3]; exact (Below.refl _ _).alloc (Nat.le_refl _) _
 have hs3 : w3.heap.size = w2.heap.size + 1 := by rw [hw3]; simp
 have hcl : w3.cell? ⟨w2.heap.size, 0, none⟩ = some (litV (w1.heap.size + 1) w.heap.size w2.heap.size) := by rw [hw3, cell_of (heap_new _ _)]; rfl
 have hg3 : w3.heap[w1.heap.size + 1]? = some (.cells #[.slice none 0 0] 42 (0, 0)) := (hb3.block _ (by omega)).trans ((ha.block _ (by omega) (by omega)).trans HG2.out)
 have hst3 : w3.cell? ⟨w.heap.size, 0, none⟩ = some (.int .i64 stop) := by
  rw [World.cell?_of_block (w := w2) (hb3.block w.heap.size (by omega)), ha.cell (p := ⟨w.heap.size, 0, none⟩) (by show w.heap.size < _; omega) (by show w.heap.size ≠ _; omega)]
  exact unhide HST
 have hQ3 : NAt (fun x => x < w2.heap.size + 1 ∧ x ≠ w1.heap.size + 1) w3 t q :=
  NAt.mono (fun x hx _ => ⟨by have h1 : x < w1.heap.size := hx; omega, by have h1 : x < w1.heap.size := hx; omega⟩) _ _ (NAt.later (I := fun x => x < w1.heap.size) (fun x hx _ => (hb3.block x (by have h1 : x < w1.heap.size := hx; omega)).trans (ha.block x (by have h1 : x < w1.heap.size := hx; omega) (by have h1 : x < w1.heap.size := hx; omega))) _ _ HQA.out)
 have HC3 := hide (walkH (w1.heap.size + 1) w.heap.size w2.heap.size (w2.heap.size + 1) stop (by omega) (by omega) (by omega) (by omega) t.count t (Nat.le_refl _) q [] w3 hQ3 ⟨by omega, by omega, _, hg3, rfl, Or.inl ⟨rfl, rfl⟩⟩ hst3 hcl (by simp; omega))
 have HB3 : Hid (Below w.heap.size w w3) := by
  have h1 : Below w.heap.size wa w2 := (ha.mono (by omega)).below (by omega); exact (HBA.out.trans h1).trans (hb3.mono (by have := HBA.out.size; omega))
 have HOG : Hid (Got w1.heap.size (w1.heap.size + 2) (wk stop t) w3) := by
  obtain ⟨g1, g2, v, g3, g4⟩ := hg; exact ⟨g1, by omega, v, (hb3.block _ (by omega)).trans g3, owns_stay (I := fun _ => True) (fun x _ hl => hb3.block x hl) (fun _ _ => trivial) g4⟩
 clear hg ha HC2 hwa hcl hg3 hst3 hQ3 hb3
 go_wp2_with fail
 rw [← hw3]
 refine cm HC3.out ?_
 rintro e w4 ⟨rfl, hgw, ha4⟩
 have HG4 : Hid (Got w1.heap.size (w1.heap.size + 2) (wk stop t) w4) := by
  obtain ⟨g1, g2, v, g3, g4⟩ := unhide HOG
  refine ⟨g1, Nat.le_trans g2 ha4.size, v, (ha4.block _ (by omega) (by omega)).trans g3, owns_stay (I := fun x => x < w3.heap.size ∧ w1.heap.size + 2 ≤ x) (fun x hx _ => ha4.block x (by have := hx.1; omega) (by have := hx.2; omega)) (fun y hy => own_lt g4 y hy) g4⟩
 have HW4 := hide hgw
 have HB4 : Hid (Below w.heap.size w w4) := HB3.out.trans ((ha4.mono (by omega)).below (by omega))
 have hs4 := ha4.size
 clear hgw ha4 HC3 hw3
 obtain ⟨_, _, v1, hv1, ho1⟩ := unhide HG4
 obtain ⟨_, _, v2, hv2, ho2⟩ := unhide HW4
 have e1 : w4.cell? ⟨w1.heap.size, 0, none⟩ = some v1 := by rw [cell_of hv1]; rfl
 have e2 : w4.cell? ⟨w1.heap.size + 1, 0, none⟩ = some v2 := by rw [cell_of hv2]; rfl
 have hzs := wk_small stop t hbd
 have hzl := wk_len stop t
 have HT1 : ∀ W, Below w4.heap.size w4 W → Hid (Calls Tryz.prog 23 #[v1] W fun e w' => e = .returned (.string (toldS (wk stop t))) ∧ Below W.heap.size W w') := fun W hW => told_any (owns_stay (I := fun _ => True) (fun x _ hl => hW.block x hl) (fun _ _ => trivial) ho1) hzs (by omega)
 have HT2 : ∀ W, Below w4.heap.size w4 W → Hid (Calls Tryz.prog 23 #[v2] W fun e w' => e = .returned (.string (toldS (wk stop t))) ∧ Below W.heap.size W w') := fun W hW => told_any (owns_stay (I := fun _ => True) (fun x _ hl => hW.block x hl) (fun _ _ => trivial) ho2) hzs (by omega)
 obtain ⟨S, hS⟩ : ∃ S, S = toldS (wk stop t) := ⟨_, rfl⟩
 rw [← hS] at HT1 HT2
 obtain ⟨a1, k1, rfl⟩ := row_form ho1
 obtain ⟨a2, k2, rfl⟩ := row_form ho2
 rw [List.nil_append] at e2 HT2
 have hl1 := lt_of_heap hv1
 have hl2 := lt_of_heap hv2
 clear hv1 hv2 ho1 ho2 hzs hS
 go_wp2_with fail
 have hS0 : Below w4.heap.size w4 w4.drew := (Below.refl _ _).drew
 refine wp_region_held (S := fun X => Below w4.heap.size w4 X) (by kernel_rfl) ?_
 change wpAnyH _ _ _ _ _ _ _ _ (World.drew _)
 refine wh 0 (nPtr p) hS0 ?_
 refine wh 1 (.bool true) hS0 ?_
 refine wh 2 (.bool true) hS0 ?_
 refine wg 3 (.slice a1 (wk stop t).length k1) rfl (Or.inl ⟨by kernel_rfl, fun X hX => by have hh := (World.cell?_of_block (w := w4) (Below.block hX w1.heap.size hl1)).trans e1; go_simp⟩) hS0 ?_
 refine wg 5 (.slice a2 (wk stop t).length k2) rfl (Or.inl ⟨by kernel_rfl, fun X hX => by have hh := (World.cell?_of_block (w := w4) (Below.block hX (w1.heap.size + 1) hl2)).trans e2; go_simp⟩) hS0 ?_
 refine wq1 4 fun K hK => ?_
 have HC5 := HT1 _ hS0
 go_simp
 refine cm HC5.out ?_
 rintro e w5 ⟨rfl, hb5⟩
 have hS5 : Below w4.heap.size w4 w5 := hS0.trans (hb5.mono (by simp))
 refine hK _ _ hS5 (fun _ => ?_)
 clear hK K HC5
 refine wq1 6 fun K hK => ?_
 have HC6 := HT2 _ hS5
 go_simp
 refine cm HC6.out ?_
 rintro e w6 ⟨rfl, hb6⟩
 have hS6 : Below w4.heap.size w4 w6 := hS5.trans (hb6.mono hS5.size)
 refine hK _ _ hS6 (fun _ => ?_)
 clear hK K HC6
 refine wh 7 (.bool true) hS6 ?_
 refine wh 8 (.bool true) hS6 ?_
 refine wh 9 (.bool true) hS6 ?_
 refine wpAnyH_done (by kernel_rfl) ?_ _
 go_simp
 have HB6 := hide (HB4.out.trans (hS6.mono HB4.out.size))
 clear hb5 hb6 hS5 hS6 hS0 HT1 HT2 e1 e2
 go_wp2_with fail
 go_ret
 exact ⟨rfl, HB6.out⟩
theorem walks_any (ws gs : List ByteArray) (s : ByteArray) (stop : Int) (w : World) (hL : Lists ws gs w) (hT : Tabs w) (hR : RefLists ws w) (hg : gs = signsS) (hws : ∀ x ∈ ws, sgP 2 x = none) : Calls Tryz.prog 4 #[.string s, .int .i64 stop] w fun e w' => e = .returned (.bool true) ∧ Below w.heap.size w w' := by
 have hb : ∀ W, Below w.heap.size w W → Calls Tryz.prog 19 #[.string s] W (BoPost (bothS ws s) W) := fun W hW => both_any ws gs s W (hL.later hW) (hT.later hW) (hR.later hW) hg hws
 cases h : bothS ws s with
 | none => rw [h] at hb; exact walks_none s stop w hb
 | some t =>
  rw [h] at hb; have h1 := bothS_count hg hws h; exact walks_some s stop t w h1.1 (parse_bad0 h1.2.2) hb
end Go.Proofs.YtodmgaikhbmlnaaGreatDoor
