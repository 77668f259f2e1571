/-
  A program's text, of every program that was read.
-/
import Derived.Test.YtodmgaikhbmlnaaGreatDoorTk36
import Derived.Test.YtodmgaikhbmlnaaGreatDoorTk37
import Derived.Test.YtodmgaikhbmlnaaGreatDoorTk23
import Derived.Test.YtodmgaikhbmlnaaGreatDoorTk4
set_option maxRecDepth 100000
set_option maxHeartbeats 16000000
namespace Go.Proofs.YtodmgaikhbmlnaaGreatDoor
open Go.RowKit

theorem string_nil {B b m : Nat} {last : ByteArray} {w : World} (h : Wrt B b m [] last w) :
    Calls Tryz.prog 57 #[wPtr b] w fun e w' => e = .returned (.string ⟨#[]⟩) ∧ Below B w w' := by
  have hlt := h.lt
  have hlo := h.lo
  obtain ⟨p, hB, v, hbk, hown, hne⟩ : ∃ p, WrAt B b m [] last p w := by
    rcases h with h | h
    · exact ⟨_, h⟩
    · exact ⟨_, h⟩
  have hbk' : w.drew.heap[b]? = some (wrObj p v last m) := hbk
  have c1 : w.drew.cell? ⟨b, 1, none⟩ = some v := by rw [Lib.cell_of_heap hbk']; rfl
  rcases hown.2 with ⟨rfl, _⟩ | ⟨g, cap, cur, rfl, hg, hgb, _⟩
  · have hSD : (Builtin.unsafeSliceData_ #[82] 141 #[.slice none 0 0]).run Tryz.prog w.drew = .ok (.pointer none) w.drew := Lib.run_unsafeSliceData_nil _ _ _ _ _
    have hUS : (Builtin.unsafeString_ #[141, 3] 9 #[.pointer none, .int .i64 0]).run Tryz.prog w.drew = .ok (.string .empty) w.drew := Lib.run_unsafeString_none _ _ _ _ _
    clear hown hbk hbk' hne h
    go_enter Tryz.func57, Tryz.ntmps57
    go_wp2
    go_region
    all_goals (go_wp2; go_ret; exact ⟨rfl, Below.drew (Below.refl B w)⟩)
  · simp only [List.length_nil] at c1
    by_cases hc : cap = 0
    · subst hc
      have c1b : w.cell? ⟨b, 1, none⟩ = some (.slice (some ⟨g, 0, none⟩) 0 0) := c1
      have hgb' : w.drew.heap[g]? = some (.cells cur 5 (0, 0)) := hgb
      have hSD : (Builtin.unsafeSliceData_ #[82] 141 #[.slice (some ⟨g, 0, none⟩) 0 0]).run Tryz.prog w.drew = .ok (.pointer (some ⟨w.drew.heap.size, 0, none⟩)) (w.drew.alloc (.view ⟨g, 0, none⟩ 5)) := Lib.run_unsafeSliceData_zero _ _ _ _ Tryz.underlying141 _ _ (5, cur.size) (by simp [World.shape?, hgb'])
      have hUS : ∀ W : World, ∀ a, (Builtin.unsafeString_ #[141, 3] 9 #[.pointer a, .int .i64 0]).run Tryz.prog W = .ok (.string .empty) W := fun W a => Lib.run_unsafeString_none _ _ _ _ _
      clear hown hbk hbk' hne h hgb hgb'
      go_enter Tryz.func57, Tryz.ntmps57
      go_wp2
      go_region
      all_goals (go_wp2; go_ret; exact ⟨rfl, (Below.drew (Below.refl B w)).alloc (by simp; omega) _⟩)
    · have hSD : (Builtin.unsafeSliceData_ #[82] 141 #[.slice (some ⟨g, 0, none⟩) 0 cap]).run Tryz.prog w.drew = .ok (.pointer (some ⟨g, 0, none⟩)) w.drew := Lib.run_unsafeSliceData_row _ _ _ _ _ _ hc
      have hUS : ∀ W : World, ∀ a, (Builtin.unsafeString_ #[141, 3] 9 #[.pointer a, .int .i64 0]).run Tryz.prog W = .ok (.string .empty) W := fun W a => Lib.run_unsafeString_none _ _ _ _ _
      clear hown hbk hbk' hne h hgb
      go_enter Tryz.func57, Tryz.ntmps57
      go_wp2
      go_region
      all_goals (go_wp2; go_ret; exact ⟨rfl, Below.drew (Below.refl B w)⟩)

theorem text_nil (tx : ByteArray) (n : Int) (p : Nat) (w : World) (hN : NB w.heap.size w (.mk 1 tx n []) p) (t : TypeId) (fr : Nat × Nat) (hg : w.heap[4]? = some (.cells sgCells t fr)) :
    Calls Tryz.prog 16 #[nPtr p] w fun e w' => e = .returned (.string ⟨#[]⟩) ∧ Below w.heap.size w w' := by
  have HN := hide hN
  have HC := hide (newWriter_any w t fr hg)
  obtain ⟨d0, _, _⟩ := hN.cells
  simp only [Tr.kd] at d0
  have hpl : p < w.heap.size := hN.lt
  clear hN hg
  go_enter Tryz.func16, Tryz.ntmps16
  go_wp2_with fail
  refine Calls.mono HC.out ?_
  rintro e w1 ⟨b, m, rfl, hwr, hm, hne, hb⟩
  have HW := hide hwr
  have HB1 := hide hb
  obtain ⟨a, c, r3⟩ := ((unhide HN).later hb).rowLen
  replace r3 : w1.cell? ⟨p, 3, none⟩ = some (.slice a 0 c) := r3
  have hpl1 : p < w1.heap.size := by have := hb.size; omega
  clear hwr hm hne hb HC d0 hpl
  go_wp2_with fail
  go_loopw [21] (fun i wr => i = .int .i64 0 ∧ wr = w1) (fun _ _ => 0)
  case atStart => exact ⟨rfl, rfl⟩
  case round =>
    obtain ⟨rfl, rfl⟩ := hrel
    have HC := hide (string_nil (unhide HW))
    go_wp2_with fail
    refine Calls.mono HC.out ?_
    rintro e w2 ⟨rfl, hb2⟩
    have HB2 := hide ((unhide HB1).trans hb2)
    clear hb2 HC
    go_wp2_with fail
    go_ret
    exact ⟨rfl, unhide HB2⟩

theorem prog_len {F : WF} (hL : WL F) : ∀ (ks : List Tr) (s : WS), (∀ t ∈ ks, Shp NmW 1 t ∧ t.lt) → (ks.foldl (fun s u => endS (F.st u s)) s).1.length ≤ s.1.length + Tr.costs ks + ks.length
  | [], s, _ => by rw [costs_nil]; exact Nat.le_refl _
  | t :: ks, s, h => by
    rw [costs_cons, List.foldl_cons]
    have h1 := prog_len hL ks (endS (F.st t s)) (fun u hu => h u (by simp [hu]))
    have h2 := hL.st t s (h t (by simp)).1 (h t (by simp)).2
    have h3 : (endS (F.st t s)).1.length = (F.st t s).1.length + 1 := by unfold endS; simp
    rw [List.length_cons]
    omega
/-- A program's text. -/
theorem text_all (K : Nat) (hK : K ≤ 90000) (t : Tr) (hsh : Shp NmW 9 t) (hl : t.lt) (hk : 2 * t.count ≤ K + 2) (hcost : t.cost ≤ 90000000) (p : Nat) (w : World) (hN : NB w.heap.size w t p) (ht : Tabs w) (htb : TabW w) :
    Calls Tryz.prog 16 #[nPtr p] w fun e w' => e = .returned (.string (mkB (textW (wf K) t).1)) ∧ Below w.heap.size w w' := by
  obtain ⟨⟨t5, fr5, hg5⟩, ⟨ty, fr, hg⟩⟩ := ht
  have hn := kids_len hk
  cases hsh with
  | @prog tx ks htx hs =>
    have hkl : ks.length ≤ K + 2 := hn
    cases hks : ks with
    | nil =>
      subst hks
      exact text_nil tx 0 p w hN ty fr hg
    | cons a r =>
      rw [← hks]
      have hk0 : 0 < ks.length := by rw [hks]; simp
      clear hks
      rw [cost_mk] at hcost
      have hall : ∀ u ∈ ks, 2 * u.count ≤ K ∧ Shp NmW 1 u ∧ u.lt := fun u hu => ⟨kid_lt hk u hu, hs u hu, lt_kids hl u hu⟩
      have hlen : ∀ j, ((ks.take j).foldl (fun s u => endS ((wf K).st u s)) ([], noText)).1.length ≤ Tr.costs ks + ks.length := fun j => by
        have h1 := prog_len (wf_len K) (ks.take j) ([], noText) fun u hu => (hall u (List.mem_of_mem_take hu)).2
        have h2 := costs_take_le ks j
        have h3 : (ks.take j).length ≤ ks.length := by rw [List.length_take]; omega
        have h4 : (([], noText) : WS).1.length = 0 := rfl
        omega
      have h := text_any tx 0 ks (fun j => (ks.take j).foldl (fun s u => endS ((wf K).st u s)) ([], noText)) w.heap.size p w rfl hN hk0 (by omega) ty fr hg t5 fr5 hg5 htb (by rw [List.take_zero]; rfl) (fun b m j hj => by
          have h1 := hall ks[j] (List.getElem_mem hj)
          have h2 := prog_len (wf_len K) (ks.take j) ([], noText) fun u hu => (hall u (List.mem_of_mem_take hu)).2
          have h3 := costs_take hj
          have h4 : (([], noText) : WS).1.length = 0 := rfl
          have h5 : (ks.take j).length ≤ ks.length := by rw [List.length_take]; omega
          have h6 := (wf_len K).st ks[j] ((ks.take j).foldl (fun s u => endS ((wf K).st u s)) ([], noText)) h1.2.1 h1.2.2
          exact ⟨(wf K).st ks[j] ((ks.take j).foldl (fun s u => endS ((wf K).st u s)) ([], noText)), (wf_wm _ b m K hK).st ks[j] _ h1.1 h1.2.1 h1.2.2 (by omega), by omega, foldl_take _ ks _ hj⟩) (by have := hlen ks.length; show ((ks.take ks.length).foldl (fun s u => endS ((wf K).st u s)) ([], noText)).1.length ≤ _; omega) (by
          obtain ⟨j, hj⟩ : ∃ j, ks.length = j + 1 := ⟨ks.length - 1, by omega⟩
          show ((ks.take ks.length).foldl (fun s u => endS ((wf K).st u s)) ([], noText)).1 ≠ []
          rw [hj, foldl_take _ ks _ (by omega)]
          unfold endS
          simp)
      have e : ks.take ks.length = ks := List.take_length
      simp only [e] at h
      exact h
end Go.Proofs.YtodmgaikhbmlnaaGreatDoor
namespace Go.Proofs.YtodmgaikhbmlnaaGreatDoor

def Js {α : Type} (A L a : Nat) (r r' : PR α) : Prop := ∀ x j, r = .ok x j → (a ≤ j ∧ j < L) ∧ (j < A → r' = .ok x j)

theorem Js.ok {α : Type} {A L a i : Nat} {x : α} (h1 : a ≤ i) (h2 : i < L) : Js A L a (.ok x i) (.ok x i) :=
  fun _ _ h => by cases h; exact ⟨⟨h1, h2⟩, fun _ => rfl⟩
theorem Js.bad {α : Type} {A L a : Nat} {er : Int} {p : Nat} {r : PR α} : Js A L a (.bad er p) r := fun _ _ h => by cases h
theorem Js.out {α : Type} {A L a : Nat} {r : PR α} : Js A L a .out r := fun _ _ h => by cases h
theorem Js.badF {α : Type} {A L a : Nat} {l : List Tk} {er : Int} {i : Nat} {r : PR α} : Js A L a (badF l er i) r := Js.bad
theorem Js.le {α : Type} {A L a b : Nat} {r r' : PR α} (h : Js A L a r r') (hb : b ≤ a) : Js A L b r r' := fun x j e => ⟨⟨Nat.le_trans hb (h x j e).1.1, (h x j e).1.2⟩, (h x j e).2⟩
theorem Js.less {α : Type} {A B L a : Nat} {r r' : PR α} (h : Js B L a r r') (hb : A ≤ B) : Js A L a r r' := fun x j e => ⟨(h x j e).1, fun hj => (h x j e).2 (by omega)⟩
theorem Js.low {α : Type} {A L a : Nat} {r r' : PR α} (h : Js (A + 1) L a r r') : Js A L a r r' := h.less (Nat.le_succ _)
/-- Behind the place nothing is asked. -/
theorem Js.far {α : Type} {A L a : Nat} {r r' r'' : PR α} (h : Js A L a r r'') (ha : A ≤ a) : Js A L a r r' := fun x j e => ⟨(h x j e).1, fun hj => absurd (h x j e).1.1 (by omega)⟩
theorem Js.bindD {α β : Type} {A L a b : Nat} (dl : Nat) {r r' : PR α} {f f' : α → Nat → PR β} (h : Js A L a r r') (hb : b ≤ a + dl)
    (hf : ∀ x i, a ≤ i → i < L → Js (A + dl) L (i + dl) (f x i) (f' x i)) : Js (A + dl) L b (r.bind f) (r'.bind f') := by
  intro y j e
  cases r with
  | ok x i =>
    have h1 := h x i rfl
    have h2 := hf x i h1.1.1 h1.1.2 y j e
    refine ⟨⟨by omega, h2.1.2⟩, fun hj => ?_⟩
    rw [h1.2 (by omega)]
    exact h2.2 hj
  | bad er p => cases e
  | out => cases e
theorem Js.bind {α β : Type} {A L a b : Nat} {r r' : PR α} {f f' : α → Nat → PR β} (h : Js A L a r r') (hb : b ≤ a)
    (hf : ∀ x i, a ≤ i → i < L → Js A L i (f x i) (f' x i)) : Js A L b (r.bind f) (r'.bind f') := Js.bindD 0 h hb hf
theorem Js.ite {α : Type} {B L a : Nat} {c c' : Prop} [Decidable c] [Decidable c'] {X Y X' Y' : PR α} (hc : a < B → (c ↔ c')) (h1 : c → Js B L a X X') (h2 : ¬ c → Js B L a Y Y') :
    Js B L a (if c then X else Y) (if c' then X' else Y') := by
  by_cases hA : a < B
  · by_cases h : c
    · rw [if_pos h, if_pos ((hc hA).1 h)]; exact h1 h
    · rw [if_neg h, if_neg (fun hh => h ((hc hA).2 hh))]; exact h2 h
  · by_cases h : c
    · rw [if_pos h]; exact (h1 h).far (by omega)
    · rw [if_neg h]; exact (h2 h).far (by omega)

section
variable {l l' : List Tk} {A : Nat} (hE : Ends l) (hA : ∀ i, i < A → tkA l i = tkA l' i)

include hA in
theorem fx_ag {i : Nat} (hi : i < A) : fx l i = fx l' i := by unfold fx; rw [hA i hi]

include hE hA

theorem mustP_js {s : ByteArray} {i : Nat} (hi : i < l.length) (hs : s ≠ noText) : Js (A + 1) l.length (i + 1) (mustP l s i) (mustP l' s i) := by
  unfold mustP
  exact Js.ite (fun h => by rw [fx_ag hA (by omega)]) (fun h => Js.ok (Nat.le_refl _) (fx_lt hE hi h hs)) (fun _ => Js.badF)
theorem nameP_js {i : Nat} (hi : i < l.length) : Js (A + 1) l.length (i + 1) (nameP l i) (nameP l' i) := by
  by_cases h : i < A
  · unfold nameP
    rw [hA i h]
    split
    · rename_i h1
      exact Js.ok (Nat.le_refl _) (next_lt hE hi (by rw [hA i h, h1]; decide))
    · exact Js.badF
  · exact fun x j e => ⟨(nameP_nx (q := True) hE hi).2 x j e, fun hj => absurd ((nameP_nx (q := True) hE hi).2 x j e).1 (by omega)⟩
omit hE hA in
theorem deepP_js {B : Nat} {f f' : Nat → Nat → PR Tr} {d i : Nat} (h : Js B l.length (i + 1) (f (d + 1) i) (f' (d + 1) i)) : Js B l.length (i + 1) (deepP l f d i) (deepP l' f' d i) := by
  unfold deepP
  by_cases hd : d = 30
  · rw [if_pos hd]; exact Js.badF
  · rw [if_neg hd, if_neg hd]; exact h

theorem listLoop_js {shut : ByteArray} {begins begins' : Nat → Bool} {part part' : Nat → PR Tr} (hs : shut ≠ noText) (hb : ∀ i, i < A → begins i = begins' i) (hp : ∀ i, i < l.length → Js A l.length (i + 1) (part i) (part' i)) :
    ∀ k acc i, i < l.length → Js (A + 1) l.length (i + 1) (listLoop l shut begins part k acc i) (listLoop l' shut begins' part' k acc i) := by
  intro k
  induction k with
  | zero => intro acc i _; exact Js.out
  | succ k ih =>
    intro acc i hi
    unfold listLoop
    refine Js.ite (fun h => by rw [hb i (by omega)]) (fun _ => Js.badF) fun _ => ?_
    refine Js.bindD 1 (hp i hi) (by omega) fun t j h1 h2 => ?_
    refine Js.ite (fun h => by rw [fx_ag hA (by omega)]) (fun hx => Js.ok (by omega) (fx_lt hE h2 hx hs)) fun _ => ?_
    exact Js.bind (mustP_js hE hA h2 (by decide)) (Nat.le_refl _) fun _ j2 h3 h4 => (ih _ j2 h4).le (by omega)

theorem listP_js {opn shut : ByteArray} {begins begins' : Nat → Bool} {part part' : Nat → PR Tr} {k i : Nat} (hi : i < l.length) (ho : opn ≠ noText) (hs : shut ≠ noText) (hb : ∀ i, i < A → begins i = begins' i) (hp : ∀ j, j < l.length → Js A l.length (j + 1) (part j) (part' j)) :
    Js (A + 1) l.length (i + 1) (listP l opn shut begins part k i) (listP l' opn shut begins' part' k i) := by
  unfold listP
  refine Js.bind (mustP_js hE hA hi ho) (Nat.le_refl _) fun _ j h1 h2 => ?_
  refine Js.le (a := j + 1) (Js.ite (fun h => by rw [fx_ag hA (by omega)]) (fun hx => Js.ok (Nat.le_refl _) (fx_lt hE h2 hx hs)) fun _ => ?_) (by omega)
  exact listLoop_js hE hA hs hb hp k [] j h2

omit hE in
theorem isName_ag {i : Nat} (hi : i < A) : isName l i = isName l' i := by unfold isName; rw [hA i hi]
omit hE in
theorem isVal_ag {i : Nat} (hi : i < A) : isVal l i = isVal l' i := by unfold isVal; rw [fx_ag hA hi, hA i hi]

structure FJs (l : List Tk) (A : Nat) (F F' : Fns) : Prop where
  fuel : F.fuel = F'.fuel
  st : ∀ d i, i < l.length → Js (A + 1) l.length (i + 1) (F.st d i) (F'.st d i)
  vl : ∀ d i, i < l.length → Js A l.length (i + 1) (F.vl d i) (F'.vl d i)
  pr : ∀ b d i, i < l.length → Js A l.length (i + 1) (F.pr b d i) (F'.pr b d i)
  sg : ∀ d i, i < l.length → Js A l.length (i + 1) (F.sg d i) (F'.sg d i)

/-- The token at the place goes on with no statement. -/
def Parts (l l' : List Tk) (A : Nat) : Prop := ∀ s, s = tElse ∨ s = tCatch ∨ s = tFinally → fx l A ≠ s ∧ fx l' A ≠ s

omit hE in
theorem fx_parts (hS : Parts l l' A) {i : Nat} {s : ByteArray} (hi : i < A + 1) (hs : s = tElse ∨ s = tCatch ∨ s = tFinally) : fx l i = s ↔ fx l' i = s := by
  by_cases h : i < A
  · rw [fx_ag hA h]
  · have h1 : i = A := by omega
    subst h1
    exact ⟨fun h => absurd h (hS s hs).1, fun h => absurd h (hS s hs).2⟩

variable {F F' : Fns} (hF : FJs l A F F')
include hF

theorem blockLoop_js : ∀ n d acc i, i < l.length → Js (A + 1) l.length (i + 1) (blockLoop l F d n acc i) (blockLoop l' F' d n acc i) := by
  intro n
  induction n with
  | zero => intro d acc i _; exact Js.out
  | succ n ih =>
    intro d acc i hi
    unfold blockLoop
    refine Js.ite (fun h => by rw [fx_ag hA (by omega)]) (fun hx => Js.ok (by omega) (fx_lt hE hi hx (by decide))) fun _ => ?_
    exact Js.bind (deepP_js (hF.st (d + 1) i hi)) (Nat.le_refl _) fun t j h1 h2 => (ih d _ j h2).le (by omega)

theorem blockP_js {d i : Nat} (hi : i < l.length) : Js (A + 1) l.length (i + 1) (blockP l F d i) (blockP l' F' d i) := by
  unfold blockP
  rw [← hF.fuel]
  refine Js.bind (mustP_js hE hA hi (by decide)) (Nat.le_refl _) fun _ j h1 h2 => ?_
  exact Js.bind (blockLoop_js hE hA hF F.fuel d [] j h2) (by omega) fun ts j2 h3 h4 => Js.ok (Nat.le_refl _) h4

omit hF in
theorem paramP_js {i : Nat} (hi : i < l.length) : Js (A + 1) l.length (i + 1) (paramP l i) (paramP l' i) := by
  unfold paramP
  exact Js.bind (nameP_js hE hA hi) (Nat.le_refl _) fun s j h1 h2 => Js.ok (Nat.le_refl _) h2
theorem paramsP_js {i : Nat} (hi : i < l.length) : Js (A + 1) l.length (i + 1) (paramsP l F i) (paramsP l' F' i) := by
  unfold paramsP
  rw [← hF.fuel]
  exact Js.bind (listP_js hE hA hi (by decide) (by decide) (fun i h => isName_ag hA h) fun j h => (paramP_js hE hA h).low) (Nat.le_refl _) fun ts j h1 h2 => Js.ok (Nat.le_refl _) h2
omit hE hA in
theorem argP_js {d i : Nat} (hi : i < l.length) : Js A l.length (i + 1) (argP l F d i) (argP l' F' d i) := deepP_js (hF.vl _ _ hi)
theorem propP_js {d i : Nat} (hi : i < l.length) : Js A l.length (i + 1) (propP l F d i) (propP l' F' d i) := by
  unfold propP
  refine Js.bind (nameP_js hE hA hi).low (Nat.le_refl _) fun s j h1 h2 => ?_
  refine Js.bind (mustP_js hE hA h2 (by decide)).low (by omega) fun _ j2 h3 h4 => ?_
  exact Js.bind (deepP_js (hF.vl _ _ h4)) (by omega) fun t j3 h5 h6 => Js.ok (Nat.le_refl _) h6
theorem inParP_js {d i : Nat} (hi : i < l.length) : Js (A + 1) l.length (i + 1) (inParP l F d i) (inParP l' F' d i) := by
  unfold inParP
  refine Js.bind (mustP_js hE hA hi (by decide)) (Nat.le_refl _) fun _ j2 h3 h4 => ?_
  refine Js.bindD 1 (deepP_js (hF.vl _ _ h4)) (by omega) fun t j3 h5 h6 => ?_
  exact Js.bind (mustP_js hE hA h6 (by decide)) (Nat.le_refl _) fun _ j4 h7 h8 => Js.ok (Nat.le_refl _) h8
theorem objectP_js {d i : Nat} (hi : i < l.length) : Js (A + 1) l.length (i + 1) (objectP l F d i) (objectP l' F' d i) := by
  unfold objectP
  rw [← hF.fuel]
  exact Js.bind (listP_js hE hA hi (by decide) (by decide) (fun i h => isName_ag hA h) fun j h => propP_js hE hA hF h) (Nat.le_refl _) fun ts j h1 h2 => Js.ok (Nat.le_refl _) h2
theorem funcTail_js {kd : Int} {s : ByteArray} {d i : Nat} (hi : i < l.length) : Js (A + 1) l.length (i + 1) (funcTail l F kd s d i) (funcTail l' F' kd s d i) := by
  unfold funcTail
  refine Js.bind (paramsP_js hE hA hF hi) (Nat.le_refl _) fun ps j h1 h2 => ?_
  exact Js.bind (blockP_js hE hA hF h2) (by omega) fun b j2 h3 h4 => Js.ok (Nat.le_refl _) h4
theorem lambdaP_js {d i : Nat} (hi : i < l.length) : Js (A + 1) l.length (i + 1) (lambdaP l F d i) (lambdaP l' F' d i) := by
  unfold lambdaP
  refine Js.bind (mustP_js hE hA hi (by decide)) (Nat.le_refl _) fun _ j h1 h2 => ?_
  refine Js.le (a := j + 1) (Js.ite (fun h => by rw [isName_ag hA (by omega)]) (fun _ => ?_) fun _ => ?_) (by omega)
  · exact Js.bind (nameP_js hE hA h2) (Nat.le_refl _) fun s j2 h3 h4 => (funcTail_js hE hA hF h4).le (by omega)
  · exact funcTail_js hE hA hF h2
theorem funcP_js {d i : Nat} (hi : i < l.length) : Js (A + 1) l.length (i + 1) (funcP l F d i) (funcP l' F' d i) := by
  unfold funcP
  refine Js.bind (mustP_js hE hA hi (by decide)) (Nat.le_refl _) fun _ j h1 h2 => ?_
  exact Js.bind (nameP_js hE hA h2) (by omega) fun s j2 h3 h4 => (funcTail_js hE hA hF h4).le (by omega)

variable {k : Nat} (hN : FNx l k F)
include hN

theorem aloneP_js {d i : Nat} (hi : i < l.length) : Js (A + 1) l.length (i + 1) (aloneP l F d i) (aloneP l' F' d i) := by
  by_cases h : i < A
  · have e1 := fx_ag hA h
    have e2 := hA i h
    unfold aloneP
    rw [← e1, ← e2]
    split
    · exact inParP_js hE hA hF hi
    · exact objectP_js hE hA hF hi
    · exact lambdaP_js hE hA hF hi
    · split
      · rename_i s hs
        exact Js.ok (Nat.le_refl _) (sgP_lt hE hi hs)
      · split
        · rename_i h; exact Js.ok (Nat.le_refl _) (next_lt hE hi (by rw [h]; decide))
        · split
          · rename_i h; exact Js.ok (Nat.le_refl _) (next_lt hE hi (by rw [h]; decide))
          · split
            · rename_i h; exact Js.ok (Nat.le_refl _) (next_lt hE hi (by rw [h]; decide))
            · exact Js.badF
  · have hp := aloneP_nx (q := False) (d := d) hE hN hi (fun h => h.elim)
    exact fun x j e => ⟨hp.2 x j e, fun hj => absurd (hp.2 x j e).1 (by omega)⟩

omit hN in
theorem askedLoop_js : ∀ n d t i, i < l.length → Js A l.length i (askedLoop l F d n t i) (askedLoop l' F' d n t i) := by
  intro n
  induction n with
  | zero => intro d acc i _; exact Js.out
  | succ n ih =>
    intro d t i hi
    unfold askedLoop
    rw [← hF.fuel]
    refine Js.ite (fun h => by rw [fx_ag hA h]) (fun hx => ?_) fun _ => Js.ite (fun h => by rw [fx_ag hA h]) (fun hx => ?_) fun _ => Js.ok (Nat.le_refl _) hi
    · have h0 := fx_lt hE hi hx (by decide)
      exact Js.bind (nameP_js hE hA h0).low (by omega) fun s j h1 h2 => ih d _ j h2
    · exact Js.bind (listP_js hE hA hi (by decide) (by decide) (fun i h => isVal_ag hA h) fun j h => argP_js hF h).low (by omega) fun ts j h1 h2 => ih d _ j h2

theorem askedP_js {d i : Nat} (hi : i < l.length) : Js A l.length (i + 1) (askedP l F d i) (askedP l' F' d i) := by
  unfold askedP
  rw [← hF.fuel]
  exact Js.bind (aloneP_js hE hA hF hN hi).low (Nat.le_refl _) fun t j h1 h2 => askedLoop_js hE hA hF F.fuel d t j h2

theorem singleP_js {d i : Nat} (hi : i < l.length) : Js A l.length (i + 1) (singleP l F d i) (singleP l' F' d i) := by
  by_cases h : i < A
  · unfold singleP
    rw [← fx_ag hA h]
    split
    · rename_i s hs
      have h0 := sgP_lt hE hi hs
      exact Js.bind (deepP_js (hF.sg _ _ h0)) (by omega) fun t j h1 h2 => Js.ok (Nat.le_refl _) h2
    · exact askedP_js hE hA hF hN hi
  · have hp := singleP_nx (d := d) hE hN hi
    exact fun x j e => ⟨hp.2 x j e, fun hj => absurd (hp.2 x j e).1 (by omega)⟩

theorem pairLoop_js : ∀ n b d t i, i < l.length → Js A l.length i (pairLoop l F b d n t i) (pairLoop l' F' b d n t i) := by
  intro n
  induction n with
  | zero => intro b d acc i _; exact Js.out
  | succ n ih =>
    intro b d t i hi
    by_cases h : i < A
    · unfold pairLoop
      rw [← fx_ag hA h]
      split
      · exact Js.ok (Nat.le_refl _) hi
      · rename_i s hs
        have h0 := sgP_lt hE hi hs
        split
        · exact Js.ok (Nat.le_refl _) hi
        · exact Js.bind (hF.pr _ _ _ h0) (by omega) fun u j h1 h2 => ih b d _ j h2
    · rcases Nat.eq_zero_or_pos i with h0 | h0
      · subst h0
        intro x j e
        by_cases hj : j < A
        · omega
        · refine ⟨⟨by omega, ?_⟩, fun hh => absurd hh hj⟩
          unfold pairLoop at e
          split at e
          · cases e; exact hi
          · rename_i s hs
            have h0 := sgP_lt hE hi hs
            split at e
            · cases e; exact hi
            · have := Js.bind (hF.pr (s.str + 1) d (0 + 1) h0) (b := 0) (by omega) fun u j h1 h2 => ih b d (.mk s.kd noText 0 [t, u]) j h2
              exact (this x j e).1.2
      · have hp := pairLoop_nx (q := False) (I := i - 1) hE hN (fun h => h.elim) (n + 1) b d t i (by omega) hi
        exact fun x j e => ⟨hp.2 x j e, fun hj => absurd (hp.2 x j e).1 (by omega)⟩

theorem pairP_js {b : Int} {d i : Nat} (hi : i < l.length) : Js A l.length (i + 1) (pairP l F b d i) (pairP l' F' b d i) := by
  unfold pairP
  rw [← hF.fuel]
  exact Js.bind (hF.sg _ _ hi) (Nat.le_refl _) fun t j h1 h2 => pairLoop_js hE hA hF hN F.fuel b d t j h2

omit hN in
theorem valueP_js {d i : Nat} (hi : i < l.length) : Js A l.length (i + 1) (valueP l F d i) (valueP l' F' d i) := by
  unfold valueP
  refine Js.bind (hF.pr _ _ _ hi) (Nat.le_refl _) fun t j h1 h2 => ?_
  refine Js.ite (fun h => by rw [fx_ag hA h]) (fun hx => ?_) fun _ => Js.ok (Nat.le_refl _) h2
  have h0 := fx_lt hE h2 hx (by decide)
  by_cases hk : t.kd = 23 ∨ t.kd = 36
  · rw [if_pos hk, if_pos hk]
    exact Js.bind (deepP_js (hF.vl _ _ h0)) (by omega) fun v j2 h3 h4 => Js.ok (Nat.le_refl _) h4
  · rw [if_neg hk]; exact Js.badF

omit hN in
theorem exprP_js {d i : Nat} (hi : i < l.length) : Js (A + 1) l.length (i + 1) (exprP l F d i) (exprP l' F' d i) := by
  unfold exprP
  refine Js.bindD 1 (deepP_js (hF.vl _ _ hi)) (by omega) fun v j h1 h2 => ?_
  exact Js.bind (mustP_js hE hA h2 (by decide)) (Nat.le_refl _) fun _ j2 h3 h4 => Js.ok (Nat.le_refl _) h4

omit hN in
theorem declP_js {d i : Nat} (hi : i + 1 < l.length) (hiA : i < A) : Js (A + 1) l.length (i + 1) (declP l F d i) (declP l' F' d i) := by
  unfold declP
  rw [← hA i hiA]
  refine Js.bind (nameP_js hE hA hi) (by omega) fun s j h1 h2 => ?_
  refine Js.le (a := j + 1) (Js.ite (fun h => by rw [fx_ag hA (by omega)]) (fun _ => Js.badF) fun _ => ?_) (by omega)
  refine Js.ite (fun h => by rw [fx_ag hA (by omega)]) (fun hx => ?_) fun _ => ?_
  · have h0 := fx_lt hE h2 hx (by decide)
    refine Js.bindD 1 (deepP_js (hF.vl _ _ h0)) (by omega) fun v j2 h3 h4 => ?_
    exact Js.bind (mustP_js hE hA h4 (by decide)) (Nat.le_refl _) fun _ j3 h5 h6 => Js.ok (Nat.le_refl _) h6
  · exact Js.bind (mustP_js hE hA h2 (by decide)) (Nat.le_refl _) fun _ j3 h5 h6 => Js.ok (Nat.le_refl _) h6

omit hN in
theorem behindP_js {d i : Nat} (hi : i + 1 < l.length) (hiA : i < A) : Js (A + 1) l.length (i + 1) (behindP l F d i) (behindP l' F' d i) := by
  unfold behindP
  rw [← hA i hiA]
  refine Js.bind (inParP_js hE hA hF hi) (by omega) fun v j h1 h2 => ?_
  exact Js.bind (deepP_js (hF.st _ _ h2)) (by omega) fun v j2 h3 h4 => Js.ok (Nat.le_refl _) h4

omit hN in
theorem choiceP_js (hS : Parts l l' A) {d i : Nat} (hi : i + 1 < l.length) (hiA : i < A) : Js (A + 1) l.length (i + 1) (choiceP l F d i) (choiceP l' F' d i) := by
  unfold choiceP
  rw [← hA i hiA]
  refine Js.bind (inParP_js hE hA hF hi) (by omega) fun v j h1 h2 => ?_
  refine Js.bind (deepP_js (hF.st _ _ h2)) (by omega) fun v j2 h3 h4 => ?_
  refine Js.ite (fun h => fx_parts hA hS h (Or.inl rfl)) (fun hx => ?_) fun _ => Js.ok (Nat.le_refl _) h4
  have h0 := fx_lt hE h4 hx (by decide)
  exact Js.bind (deepP_js (hF.st _ _ h0)) (by omega) fun v j3 h5 h6 => Js.ok (Nat.le_refl _) h6

omit hN in
theorem givingP_js {d i : Nat} (hi : i + 1 < l.length) (hiA : i < A) : Js (A + 1) l.length (i + 1) (givingP l F d i) (givingP l' F' d i) := by
  unfold givingP
  rw [← hA i hiA]
  refine Js.le (a := i + 2) (Js.ite (fun h => by rw [fx_ag hA (by omega)]) (fun _ => ?_) fun _ => ?_) (by omega)
  · refine Js.bindD 1 (deepP_js (hF.vl _ _ hi)) (by omega) fun v j h1 h2 => ?_
    exact Js.bind (mustP_js hE hA h2 (by decide)) (Nat.le_refl _) fun _ j2 h3 h4 => Js.ok (Nat.le_refl _) h4
  · exact Js.bind (mustP_js hE hA hi (by decide)) (Nat.le_refl _) fun _ j2 h3 h4 => Js.ok (Nat.le_refl _) h4

omit hN in
theorem catchP_js (hS : Parts l l' A) {d i : Nat} (hi : i < l.length) : Js (A + 1) l.length i (catchP l F d i) (catchP l' F' d i) := by
  unfold catchP
  refine Js.ite (fun h => fx_parts hA hS h (Or.inr (Or.inl rfl))) (fun hx => ?_) fun _ => Js.ok (Nat.le_refl _) hi
  have h0 := fx_lt hE hi hx (by decide)
  refine Js.bind (mustP_js hE hA h0 (by decide)) (by omega) fun _ j1 h1 h2 => ?_
  refine Js.bind (nameP_js hE hA h2) (by omega) fun _ j2 h3 h4 => ?_
  refine Js.bind (mustP_js hE hA h4 (by decide)) (by omega) fun _ j3 h5 h6 => ?_
  exact Js.bind (blockP_js hE hA hF h6) (by omega) fun b j4 h7 h8 => Js.ok (Nat.le_refl _) h8
omit hN in
theorem finallyP_js (hS : Parts l l' A) {d i : Nat} (hi : i < l.length) : Js (A + 1) l.length i (finallyP l F d i) (finallyP l' F' d i) := by
  unfold finallyP
  refine Js.ite (fun h => fx_parts hA hS h (Or.inr (Or.inr rfl))) (fun hx => ?_) fun _ => Js.ok (Nat.le_refl _) hi
  have h0 := fx_lt hE hi hx (by decide)
  exact Js.bind (blockP_js hE hA hF h0) (by omega) fun b j4 h7 h8 => Js.ok (Nat.le_refl _) h8
omit hN in
theorem attemptP_js (hS : Parts l l' A) {d i : Nat} (hi : i < l.length) : Js (A + 1) l.length (i + 1) (attemptP l F d i) (attemptP l' F' d i) := by
  unfold attemptP
  refine Js.bind (mustP_js hE hA hi (by decide)) (Nat.le_refl _) fun _ j0 h h0 => ?_
  refine Js.bind (blockP_js hE hA hF h0) (by omega) fun b j1 h1 h2 => ?_
  refine Js.bind (catchP_js hE hA hF hS h2) (by omega) fun c j2 h3 h4 => ?_
  refine Js.bind (finallyP_js hE hA hF hS h4) (by omega) fun f j3 h5 h6 => ?_
  by_cases hk : c.length + f.length = 0
  · rw [if_pos hk]; exact Js.badF
  · rw [if_neg hk, if_neg hk]; exact Js.ok (Nat.le_refl _) h6

omit hN in
theorem partP_js (hS : Parts l l' A) {d i c : Nat} (hi : i + 1 < l.length) (hiA : i < A) : Js (A + 1) l.length (i + 1) (partP l F d c i) (partP l' F' d c i) := by
  unfold partP
  split
  · exact declP_js hE hA hF hi hiA
  · exact funcP_js hE hA hF (by omega)
  · exact blockP_js hE hA hF (by omega)
  · exact Js.bind (mustP_js hE hA (by omega) (by decide)) (Nat.le_refl _) fun _ j h1 h2 => Js.ok (Nat.le_refl _) h2
  · exact choiceP_js hE hA hF hS hi hiA
  · exact behindP_js hE hA hF hi hiA
  · exact givingP_js hE hA hF hi hiA
  · exact attemptP_js hE hA hF hS (by omega)

theorem statementP_js (hS : Parts l l' A) {d i : Nat} (hi : i < l.length) : Js (A + 1) l.length (i + 1) (statementP l F d i) (statementP l' F' d i) := by
  by_cases h : i < A
  · unfold statementP
    rw [← fx_ag hA h]
    split
    · rename_i c hc
      exact partP_js hE hA hF hS (look2_lt hE hi hc (by decide)) h
    · exact exprP_js hE hA hF hi
  · have hp := statementP_nx (d := d) hE hN hi
    exact fun x j e => ⟨hp.2 x j e, fun hj => absurd (hp.2 x j e).1 (by omega)⟩

omit hF hN in
theorem fns_js (hS : Parts l l' A) : ∀ k, FJs l A (fns l k) (fns l' k) := by
  intro k
  induction k with
  | zero => exact ⟨rfl, fun _ _ _ => Js.out, fun _ _ _ => Js.out, fun _ _ _ _ => Js.out, fun _ _ _ => Js.out⟩
  | succ k ih => exact ⟨rfl, fun _ _ hi => statementP_js hE hA ih (fns_nx hE k) hS hi, fun _ _ hi => valueP_js hE hA ih hi, fun _ _ _ hi => pairP_js hE hA ih (fns_nx hE k) hi, fun _ _ hi => singleP_js hE hA ih (fns_nx hE k) hi⟩
end
end Go.Proofs.YtodmgaikhbmlnaaGreatDoor
