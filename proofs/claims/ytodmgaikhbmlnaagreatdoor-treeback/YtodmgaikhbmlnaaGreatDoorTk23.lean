/-
  What Parse answers of every text.
-/
import Derived.Test.YtodmgaikhbmlnaaGreatDoorTk10
import Derived.Test.YtodmgaikhbmlnaaGreatDoorTk22
import Derived.Test.YtodmgaikhbmlnaaGreatDoorTk0
set_option maxRecDepth 100000
set_option maxHeartbeats 16000000
namespace Go.Proofs.YtodmgaikhbmlnaaGreatDoor
open Go.RowKit

theorem many_any (B : Nat) (t : Tr) (p : Nat) (w : World) (h : NAt (From B) w t p) (hc : t.count ≤ 90000) :
    Calls Tryz.prog 52 #[nPtr p] w fun e w' => e = .returned (.int .i64 (t.count : Int)) ∧ Below w.heap.size w w' := by
  have hmf := mf_run
  have hn : NAt (fun x => x ≠ w.heap.size) (w.alloc (.cells #[.int .i64 0] 3)) t p :=
    NAt.later (I := fun x => x ≠ w.heap.size) (fun b _ hl => Below.heap_alloc w _ b hl) _ _ (NAt.mono (fun b _ hl => by omega) _ _ h)
  have hcn : Cnt w.heap.size 0 (w.alloc (.cells #[.int .i64 0] 3)) := ⟨heap_new _ _⟩
  have HC := hide (walk_any w.heap.size t.count t (Nat.le_refl _) p 0 _ hn hcn (by omega))
  clear h hn hcn hc
  go_enter Tryz.func52, Tryz.ntmps52
  go_wp2_with fail
  refine Calls.mono HC.out ?_
  rintro e w1 ⟨rfl, hc1, ha1⟩
  have c0 : w1.cell? ⟨w.heap.size, 0, none⟩ = some (.int .i64 (((0 + t.count : Nat)) : Int)) := by rw [cell_of hc1.blk]; rfl
  rw [Nat.zero_add] at c0
  have HB : Hid (Below w.heap.size w w1) := ((Below.refl _ _).alloc (Nat.le_refl _) (.cells #[.int .i64 0] 3)).trans ((ha1.mono (by simp)).below (Nat.le_refl _))
  clear hc1 ha1 HC
  go_wp2_with fail
  go_ret
  exact ⟨rfl, unhide HB⟩

/-- What a text is: a program, an error at a place, or one without. -/
inductive PaR where
  | ok (t : Tr)
  | at (er : Int) (p : Nat)
  | bare

abbrev KK : Nat := 24100

def parseS (ws gs : List ByteArray) (s : ByteArray) : PaR :=
  if 3000 < s.size then .bare
  else match toksR ws gs s (pastN gapB s 0) [] with
    | .bad er p => .at er p
    | .ok l => match progP l (fns l KK) with
      | .bad er p => .at er p
      | .ok t _ => if 1500 < t.count then .bare else .ok t
      | .out => .bare

def PaPost (r : PaR) (w : World) (e : Ending) (w' : World) : Prop :=
  match r with
  | .ok t => ∃ p, e = .returned (.tuple #[nPtr p, .nilIface]) ∧ NAt (From w.heap.size) w' t p ∧ Below w.heap.size w w'
  | .at er pl => ∃ b, e = .returned (.tuple #[.pointer none, .iface 129 (.pointer (some ⟨b, 0, none⟩))]) ∧ w'.heap[b]? = some (.cells #[.int .i64 er, .int .i64 (pl : Int)] 130 (0, 0)) ∧ w.heap.size ≤ b ∧ Below w.heap.size w w'
  | .bare => e = .returned (.tuple #[.pointer none, .iface 23 (.int .i64 4)]) ∧ Below w.heap.size w w'

theorem rdTok_kd {ws gs : List ByteArray} {s : ByteArray} {k : Nat} {kd n : Int} {tx : ByteArray} {e : Nat} (h : rdTok ws gs s k = .tok kd tx n e) : kd ≠ 6 := by
  unfold rdTok at h
  split at h
  · unfold rdName at h
    split at h
    · cases h; decide
    · split at h
      · cases h
      · cases h; decide
  · split at h
    · unfold rdNum at h
      split at h
      · cases h
      · split at h
        · cases h
        · split at h
          · cases h
          · cases h; decide
    · split at h
      · unfold rdStr at h
        split at h
        · split at h
          · cases h
          · cases h; decide
        · cases h
      · unfold rdSign at h
        split at h
        · cases h; decide
        · cases h

theorem toks_form (ws gs : List ByteArray) (s : ByteArray) (hgs : ∀ g ∈ gs, 1 ≤ g.size) : ∀ m i acc l, s.size - i = m → i ≤ s.size → toksR ws gs s i acc = .ok l →
    ∃ l', l = acc ++ l' ++ [⟨6, ⟨#[]⟩, 0, s.size⟩] ∧ (∀ t ∈ l', t.kd ≠ 6) ∧ l'.length ≤ s.size - i := by
  intro m
  induction m using Nat.strongRecOn with
  | ind m ih =>
    intro i acc l hm hi h
    by_cases hlt : i < s.size
    · cases hr : rdTok ws gs s i with
      | bad er p => rw [toksR_bad ws gs s i acc er p hlt hr] at h; cases h
      | tok kd tx n e =>
        have hb := rdTok_bounds ws gs s i kd n tx e hlt hgs hr
        rw [toksR_go ws gs s i acc kd n tx e hlt hr hb.1] at h
        have hge := pastN_ge gapB s e
        have hle := pastN_le gapB s e hb.2
        obtain ⟨l', h1, h2, h3⟩ := ih (s.size - pastN gapB s e) (by omega) (pastN gapB s e) _ l rfl hle h
        refine ⟨⟨kd, tx, n, i⟩ :: l', by rw [h1]; simp, fun t ht => ?_, by simp; omega⟩
        rcases List.mem_cons.1 ht with rfl | ht
        · exact rdTok_kd hr
        · exact h2 t ht
    · rw [toksR_end ws gs s i acc hlt] at h
      exact ⟨[], by cases h; simp, fun t ht => absurd ht (by simp), by simp⟩

theorem toks_ends {ws gs : List ByteArray} {s : ByteArray} (hgs : ∀ g ∈ gs, 1 ≤ g.size) {l : List Tk} (h : toksR ws gs s (pastN gapB s 0) [] = .ok l) : Ends l ∧ 0 < l.length ∧ l.length ≤ s.size + 1 := by
  obtain ⟨l', h1, h2, h3⟩ := toks_form ws gs s hgs _ (pastN gapB s 0) [] l rfl (pastN_le gapB s 0 (Nat.zero_le _)) h
  rw [List.nil_append] at h1
  subst h1
  refine ⟨fun i hi => ?_, by simp, by simp; omega⟩
  rw [List.length_append, List.length_singleton] at hi
  unfold tkA
  rw [List.getD_eq_getElem?_getD, List.length_append, List.length_singleton]
  by_cases hil : i < l'.length
  · rw [List.getElem?_append_left hil, List.getElem?_eq_getElem hil]
    constructor
    · intro h6
      exact absurd h6 (h2 _ (List.getElem_mem hil))
    · intro h6; omega
  · have hi2 : i = l'.length := by omega
    subst hi2
    rw [List.getElem?_append_right (Nat.le_refl _), Nat.sub_self]
    simp

theorem progLoop_nx {l : List Tk} {k : Nat} {F : Fns} (hF : FNx l k F) (hk : 8 * l.length + 3 < k) : ∀ n acc i, i < l.length → l.length - i < n → progLoop l F n acc i ≠ .out := by
  intro n
  induction n with
  | zero => intro acc i hi hn; omega
  | succ n ih =>
    intro acc i hi hn
    unfold progLoop
    split
    · nofun
    · have hd := deepP_nx (l := l) (d := 0) ((hF.st (0 + 1) i hi).imp (q' := True) (fun _ => by omega))
      cases hr : deepP l F.st 0 i with
      | out => exact absurd hr (hd.1 trivial)
      | bad er p => rw [PR.bind]; nofun
      | ok t j =>
        have := hd.2 t j hr
        exact ih _ j this.2 (by omega)
theorem progLoop_lt {l : List Tk} {k : Nat} {F : Fns} (hF : FNx l k F) : ∀ n acc i ts j, i < l.length → progLoop l F n acc i = .ok ts j → j < l.length := by
  intro n
  induction n with
  | zero => intro acc i ts j _ h; cases h
  | succ n ih =>
    intro acc i ts j hi h
    unfold progLoop at h
    split at h
    · cases h; exact hi
    · obtain ⟨t, j1, h1, h⟩ := bind_inv h
      exact ih _ j1 _ _ ((deepP_nx (l := l) (d := 0) (hF.st (0 + 1) i hi)).2 t j1 h1).2 h
theorem prog_total {l : List Tk} (hE : Ends l) (h0 : 0 < l.length) (hl : l.length ≤ 3001) : progP l (fns l KK) ≠ .out ∧ ∀ t j, progP l (fns l KK) = .ok t j → j < l.length := by
  have hF := fns_nx hE KK
  have h1 := progLoop_nx hF (by unfold KK; omega) (fns l KK).fuel [] 0 h0 (by rw [hF.fuel]; unfold KK; omega)
  unfold progP
  constructor
  · cases hr : progLoop l (fns l KK) (fns l KK).fuel [] 0 with
    | out => exact absurd hr h1
    | bad er p => nofun
    | ok ts j => nofun
  · intro t j h
    obtain ⟨ts, j1, h2, h⟩ := bind_inv h
    cases h
    exact progLoop_lt hF _ _ _ _ _ h0 h2

/-- The program's tables lie where its variables are. -/
structure Tabs (w : World) : Prop where
  heads : ∃ t fr, w.heap[5]? = some (.cells hdCells t fr)
  signs : ∃ t fr, w.heap[4]? = some (.cells sgCells t fr)
theorem Tabs.later {w w' : World} (h : Tabs w) (hb : Below w.heap.size w w') : Tabs w' := by
  obtain ⟨⟨t, fr, h1⟩, ⟨t2, fr2, h2⟩⟩ := h
  exact ⟨⟨t, fr, by rw [hb.block _ (lt_of_heap h1)]; exact h1⟩, ⟨t2, fr2, by rw [hb.block _ (lt_of_heap h2)]; exact h2⟩⟩

theorem rw_below (w : World) : Below w.heap.size w (RW w) := ((Below.refl _ _).alloc (Nat.le_refl _) _).alloc (by simp) _

/-- What 'read' does with a text's tokens. -/
theorem readToks_any (w : World) (l : List Tk) (g cap : Nat) (cur : Array Value) (hE : Ends l) (h0 : 0 < l.length) (hl : l.length ≤ 3001) (ht : w.heap[g]? = some (.cells cur 123 (0, 0))) (hcap : l.length ≤ cap ∧ cap ≤ maxLen ∧ cur.size = cap * 4 ∧ cur.toList.take (l.length * 4) = tksCells l) (hT : Tabs w) :
    Calls Tryz.prog 51 #[.slice (some ⟨g, 0, none⟩) l.length cap] w (RdPost (progP l (fns l KK)) w) := by
  have hb := rw_below w
  have hT2 := hT.later hb
  have HN := newReader_any (RW w) l g cap cur hE h0 hl (by rw [hb.block _ (lt_of_heap ht)]; exact ht) hcap hT2.heads hT2.signs
  have hF : ∀ c : Ctx, c.l = l → FC c (fns c.l KK) := fun c hc => fns_does c (by rw [hc]; exact hE) KK
  have hp := (prog_total hE h0 hl).1
  cases hr : progP l (fns l KK) with
  | out => exact absurd hr hp
  | bad er pl =>
    refine read_bad w l g cap er pl HN fun c W hc hrd => ?_
    have := program_any (hF c hc) ⟨KK, fns_nx (by rw [hc]; exact hE) KK⟩ (fns_ok c.l KK) W _ rfl (by rw [hc, hr]; nofun) hrd
    rw [hc, hr] at this
    exact this
  | ok t j =>
    refine read_ok w l g cap t j HN fun c W hc hrd => ?_
    have := program_any (hF c hc) ⟨KK, fns_nx (by rw [hc]; exact hE) KK⟩ (fns_ok c.l KK) W _ rfl (by rw [hc, hr]; nofun) hrd
    rw [hc, hr] at this
    exact this

theorem parse_long (s : ByteArray) (w : World) (hs : 3000 < s.size) : Calls Tryz.prog 13 #[.string s] w (PaPost .bare w) := by
  have HC := hide (tokens_long s w hs)
  clear hs
  go_enter Tryz.func13, Tryz.ntmps13
  go_wp2_with fail
  refine Calls.mono HC.out ?_
  rintro e w1 ⟨rfl, rfl⟩
  go_wp2_with fail
  exact bodyPost_ret (v := .tuple #[.pointer none, .iface 23 (.int .i64 4)]) (by simp [results, Tryz.results13, go_sem]) rfl ⟨rfl, Below.refl _ _⟩

theorem parse_toks (s : ByteArray) (w : World) (er : Int) (p : Nat) (h : Calls Tryz.prog 50 #[.string s] w (TPost (.bad er p) w)) : Calls Tryz.prog 13 #[.string s] w (PaPost (.at er p) w) := by
  have HC := hide h
  clear h
  go_enter Tryz.func13, Tryz.ntmps13
  go_wp2_with fail
  refine Calls.mono HC.out ?_
  rintro e w1 ⟨b, rfl, hb1, hb2, hb3⟩
  have H1 := hide hb1
  have H3 := hide hb3
  have H2 := hide hb2
  clear hb1 hb2 hb3 HC
  go_wp2_with fail
  exact bodyPost_ret (v := .tuple #[.pointer none, .iface 129 (.pointer (some ⟨b, 0, none⟩))]) (by simp [results, Tryz.results13, go_sem]) rfl ⟨b, rfl, unhide H1, unhide H2, unhide H3⟩

theorem parse_bad (s : ByteArray) (w : World) (l : List Tk) (er : Int) (p : Nat) (h : Calls Tryz.prog 50 #[.string s] w (TPost (.ok l) w)) (h0 : 0 < l.length)
    (hr : ∀ (W : World) (g cap : Nat) (cur : Array Value), Below w.heap.size w W → W.heap[g]? = some (.cells cur 123 (0, 0)) → (l.length ≤ cap ∧ cap ≤ maxLen ∧ cur.size = cap * 4 ∧ cur.toList.take (l.length * 4) = tksCells l) → Calls Tryz.prog 51 #[.slice (some ⟨g, 0, none⟩) l.length cap] W (RdPost (.bad er p) W)) :
    Calls Tryz.prog 13 #[.string s] w (PaPost (.at er p) w) := by
  have HC := hide h
  have HR := hide hr
  clear h hr
  go_enter Tryz.func13, Tryz.ntmps13
  go_wp2_with fail
  refine Calls.mono HC.out ?_
  rintro e w1 ⟨v, rfl, hown, hb1⟩
  rcases hown.2 with hn | ⟨g, cap, cur, rfl, hg, hh, h1, h2, h3, h4⟩
  · omega
  · have HC2 := hide ((unhide HR) w1 g cap cur hb1 hh ⟨h1, h2, h3, h4⟩)
    have HB1 := hide hb1
    clear hown hb1 hg hh h1 h2 h3 h4 HC
    go_wp2_with fail
    refine Calls.mono HC2.out ?_
    rintro e w2 ⟨b, rfl, hb1, hb2, hb3⟩
    have H1 := hide hb1
    have H3 := hide ((unhide HB1).trans (hb3.mono (unhide HB1).size))
    have H2 := hide (Nat.le_trans (unhide HB1).size hb2)
    clear hb1 hb2 hb3 HC2
    go_wp2_with fail
    exact bodyPost_ret (v := .tuple #[.pointer none, .iface 129 (.pointer (some ⟨b, 0, none⟩))]) (by simp [results, Tryz.results13, go_sem]) rfl ⟨b, rfl, unhide H1, unhide H2, unhide H3⟩

theorem parse_ok (s : ByteArray) (w : World) (l : List Tk) (t : Tr) (j : Nat) (h : Calls Tryz.prog 50 #[.string s] w (TPost (.ok l) w)) (h0 : 0 < l.length) (hc : t.count ≤ 90000)
    (hr : ∀ (W : World) (g cap : Nat) (cur : Array Value), Below w.heap.size w W → W.heap[g]? = some (.cells cur 123 (0, 0)) → (l.length ≤ cap ∧ cap ≤ maxLen ∧ cur.size = cap * 4 ∧ cur.toList.take (l.length * 4) = tksCells l) → Calls Tryz.prog 51 #[.slice (some ⟨g, 0, none⟩) l.length cap] W (RdPost (.ok t j) W)) :
    Calls Tryz.prog 13 #[.string s] w (PaPost (if 1500 < t.count then .bare else .ok t) w) := by
  have HC := hide h
  have HR := hide hr
  have HCC := hide hc
  obtain ⟨r, hrr⟩ : ∃ r, r = (if 1500 < t.count then PaR.bare else .ok t) := ⟨_, rfl⟩
  rw [← hrr]
  have HRR := hide hrr
  clear h hr hc hrr
  go_enter Tryz.func13, Tryz.ntmps13
  go_wp2_with fail
  refine Calls.mono HC.out ?_
  rintro e w1 ⟨v, rfl, hown, hb1⟩
  rcases hown.2 with hn | ⟨g, cap, cur, rfl, hg, hh, h1, h2, h3, h4⟩
  · omega
  · have HC2 := hide ((unhide HR) w1 g cap cur hb1 hh ⟨h1, h2, h3, h4⟩)
    have HB1 := hide hb1
    clear hown hb1 hg hh h1 h2 h3 h4 HC
    go_wp2_with fail
    refine Calls.mono HC2.out ?_
    rintro e w2 ⟨p, rfl, hn, hb⟩
    have HN := hide hn
    have HB2 := hide ((unhide HB1).trans (hb.mono (unhide HB1).size))
    have HC3 := hide (many_any w1.heap.size t p w2 hn (unhide HCC))
    have HS1 := hide (unhide HB1).size
    clear hn hb HC2
    go_wp2_with fail
    refine Calls.mono HC3.out ?_
    rintro e w3 ⟨rfl, hb3⟩
    have HB3 := hide ((unhide HB2).trans (hb3.mono (unhide HB2).size))
    have HN3 : Hid (NAt (From w.heap.size) w3 t p) := NAt.mono (fun b hb _ => Nat.le_trans (unhide HS1) hb) _ _ (NAt.later (I := From w1.heap.size) (fun b _ hl => hb3.block b hl) _ _ (unhide HN))
    clear hb3 HC3
    by_cases h15 : 1500 < t.count
    · have hq : r = .bare := by rw [unhide HRR, if_pos h15]
      have HQ := hide hq
      clear hq
      have hi : (1500 : Int) < (t.count : Int) := by omega
      clear h15
      go_wp2_with fail
      exact bodyPost_ret (v := .tuple #[.pointer none, .iface 23 (.int .i64 4)]) (by simp [results, Tryz.results13, go_sem]) rfl (by rw [unhide HQ]; exact ⟨rfl, unhide HB3⟩)
    · have hq : r = .ok t := by rw [unhide HRR, if_neg h15]
      have HQ := hide hq
      clear hq
      have hi : ¬ (1500 : Int) < (t.count : Int) := by omega
      clear h15
      go_wp2_with fail
      exact bodyPost_ret (v := .tuple #[nPtr p, .nilIface]) (by simp [results, Tryz.results13, go_sem]) rfl (by rw [unhide HQ]; exact ⟨p, rfl, unhide HN3, unhide HB3⟩)

/-- PARSE, of every text. -/
theorem parse_any (ws gs : List ByteArray) (s : ByteArray) (w : World) (hL : Lists ws gs w) (hgs : ∀ g ∈ gs, 1 ≤ g.size) (hT : Tabs w) : Calls Tryz.prog 13 #[.string s] w (PaPost (parseS ws gs s) w) := by
  unfold parseS
  by_cases hs : 3000 < s.size
  · rw [if_pos hs]; exact parse_long s w hs
  · rw [if_neg hs]
    have hk := tokens_any ws gs s w (by omega) hL hgs
    cases ht : toksR ws gs s (pastN gapB s 0) [] with
    | bad er p => rw [ht] at hk; exact parse_toks s w er p hk
    | ok l =>
      rw [ht] at hk
      obtain ⟨hE, h0, hl⟩ := toks_ends hgs ht
      have hl2 : l.length ≤ 3001 := by omega
      obtain ⟨hp1, hp2⟩ := prog_total hE h0 hl2
      have hrd := fun (W : World) (g cap : Nat) (cur : Array Value) (hb : Below w.heap.size w W) hh hcap => readToks_any W l g cap cur hE h0 hl2 hh hcap (hT.later hb)
      simp only
      cases hr : progP l (fns l KK) with
      | out => exact absurd hr hp1
      | bad er p => rw [hr] at hrd; exact parse_bad s w l er p hk h0 hrd
      | ok t j =>
        rw [hr] at hrd
        have hj := hp2 t j hr
        have hcb := prog_cb (fns_cb KK) hr
        exact parse_ok s w l t j hk h0 (by omega) hrd
end Go.Proofs.YtodmgaikhbmlnaaGreatDoor
namespace Go.Proofs.YtodmgaikhbmlnaaGreatDoor
open Go.ChangeShapes Go.WideShapes Go.ChangeAt Go.WideMaps Go.WideElems Go.RowKit

theorem gTSigns : Tryz.prog.globalNamed "sloppyscope/tree.signs" = some 4 := by kernel_rfl
theorem gTHeads : Tryz.prog.globalNamed "sloppyscope/tree.heads" = some 5 := by kernel_rfl
theorem tTSigns : (Tryz.prog.globals[4]?).map (·.type) = some 176 := by kernel_rfl
theorem tTHeads : (Tryz.prog.globals[5]?).map (·.type) = some 179 := by kernel_rfl
theorem cells160 : Tryz.prog.cellsOf 175 = 4 := by kernel_rfl
theorem cells3 : Tryz.prog.cellsOf 3 = 1 := by kernel_rfl
theorem cells161 : Tryz.prog.cellsOf 176 = 56 := by kernel_rfl
theorem cellsHd : Tryz.prog.cellsOf 178 = 2 := by kernel_rfl
theorem cellsHds : Tryz.prog.cellsOf 179 = 16 := by kernel_rfl

/-- A list whose pieces of one length are known. -/
theorem of_pieces (k : Nat) (hk : 0 < k) : ∀ (L : List (List Value)) (cs : List Value), (∀ l ∈ L, l.length = k) → cs.length = L.length * k → (∀ i (hi : i < L.length), (cs.drop (i * k)).take k = L[i]) → cs = L.flatten
  | [], cs, _, hl, _ => by
    have : cs.length = 0 := by simpa using hl
    simpa using this
  | l :: L, cs, h, hl, hp => by
    have h0 := hp 0 (by simp)
    simp only [Nat.zero_mul, List.drop_zero, List.getElem_cons_zero] at h0
    have h1 := of_pieces k hk L (cs.drop k) (fun x hx => h x (List.mem_cons_of_mem _ hx)) (by rw [List.length_drop, hl, List.length_cons, Nat.add_mul]; omega) (fun i hi => by
      have := hp (i + 1) (by simpa using hi)
      rw [List.getElem_cons_succ] at this
      rw [List.drop_drop, show k + i * k = (i + 1) * k by rw [Nat.add_mul]; omega]
      exact this)
    rw [List.flatten_cons, ← h0, ← h1, List.take_append_drop]

theorem int_of {W : World} {fuel : Nat} {cs : List Value} {z : Int} {q : List MemPlace} (h : DataW.trod (fun _ => ()) Tryz.prog W 0 (fun _ => true) false fuel 3 cs = some (.lit (.int .i64 z), q)) : cs = [.int .i64 z] := by
  obtain ⟨k, e, f, _⟩ := DataW.trod_int Tryz.underlying3 h
  simp only [Prod.mk.injEq, DataW.lit.injEq, Lit.int.injEq, true_and] at f
  rw [e, ← f.1]
theorem text_of {W : World} {fuel : Nat} {cs : List Value} {l : List UInt8} {q : List MemPlace} (h : DataW.trod (fun _ => ()) Tryz.prog W 0 (fun _ => true) false fuel 9 cs = some (.lit (.string l), q)) : cs = [.string (ofBytes l)] := by
  obtain ⟨s, e1, e2, _⟩ := DataW.trod_string Tryz.underlying9 h
  simp only [Prod.mk.injEq, DataW.lit.injEq, Lit.string.injEq] at e2
  rw [e1, ofBytes_eq e2.1.symm]

/-- What a struct's cells are, field by field. -/
theorem fields4 {cs : List Value} (hl : cs.length = 4) {a b c d : Value} (h0 : (cs.drop 0).take 1 = [a]) (h1 : (cs.drop 1).take 1 = [b]) (h2 : (cs.drop 2).take 1 = [c]) (h3 : (cs.drop 3).take 1 = [d]) : cs = [a, b, c, d] := by
  match cs, hl with
  | [x, y, z, u], _ => simp at h0 h1 h2 h3; rw [h0, h1, h2, h3]
theorem fields2 {cs : List Value} (hl : cs.length = 2) {a b : Value} (h0 : (cs.drop 0).take 1 = [a]) (h1 : (cs.drop 1).take 1 = [b]) : cs = [a, b] := by
  match cs, hl with
  | [x, y], _ => simp at h0 h1; rw [h0, h1]

def sgD (l : List UInt8) (a b c : Int) : DataW Unit := .agg [.lit (.string l), .lit (.int .i64 a), .lit (.int .i64 b), .lit (.int .i64 c)]
def hdD (l : List UInt8) (a : Int) : DataW Unit := .agg [.lit (.string l), .lit (.int .i64 a)]

theorem fst_at {H : Type} {xs : List (DataW H × List MemPlace)} {ds : List (DataW H)} (h : ds = xs.map (·.1)) (i : Nat) (d : DataW H) (hd : ds[i]? = some d) : ∃ q, xs[i]? = some (d, q) := by
  subst h
  rw [List.getElem?_map] at hd
  cases hx : xs[i]? with
  | none => rw [hx] at hd; cases hd
  | some x =>
    rw [hx] at hd
    exact ⟨x.2, by rw [← Option.some.inj hd]⟩

theorem sg_of {W : World} {fuel : Nat} {cs : List Value} {l : List UInt8} {a b c : Int} {q : List MemPlace} (h : DataW.trod (fun _ => ()) Tryz.prog W 0 (fun _ => true) false fuel 175 cs = some (sgD l a b c, q)) :
    cs = [.string (ofBytes l), .int .i64 a, .int .i64 b, .int .i64 c] := by
  obtain ⟨xs, n, _, hx, hl, hn, hel⟩ := DataW.trod_struct Tryz.underlying175 h
  simp only [Prod.mk.injEq, sgD, DataW.agg.injEq] at hx
  rw [cells160] at hl
  obtain ⟨q0, x0⟩ := fst_at hx.1 0 _ rfl
  obtain ⟨q1, x1⟩ := fst_at hx.1 1 _ rfl
  obtain ⟨q2, x2⟩ := fst_at hx.1 2 _ rfl
  obtain ⟨q3, x3⟩ := fst_at hx.1 3 _ rfl
  have f0 := hel 0 _ rfl
  have f1 := hel 1 _ rfl
  have f2 := hel 2 _ rfl
  have f3 := hel 3 _ rfl
  rw [x0] at f0
  rw [x1] at f1
  rw [x2] at f2
  rw [x3] at f3
  have g0 : (cs.drop 0).take (Tryz.prog.cellsOf 9) = _ := text_of f0
  have g1 : (cs.drop 1).take (Tryz.prog.cellsOf 3) = _ := int_of f1
  have g2 : (cs.drop 2).take (Tryz.prog.cellsOf 3) = _ := int_of f2
  have g3 : (cs.drop 3).take (Tryz.prog.cellsOf 3) = _ := int_of f3
  rw [cells9] at g0
  rw [cells3] at g1 g2 g3
  exact fields4 hl g0 g1 g2 g3
theorem hd_of {W : World} {fuel : Nat} {cs : List Value} {l : List UInt8} {a : Int} {q : List MemPlace} (h : DataW.trod (fun _ => ()) Tryz.prog W 0 (fun _ => true) false fuel 178 cs = some (hdD l a, q)) :
    cs = [.string (ofBytes l), .int .i64 a] := by
  obtain ⟨xs, n, _, hx, hl, hn, hel⟩ := DataW.trod_struct Tryz.underlying178 h
  simp only [Prod.mk.injEq, hdD, DataW.agg.injEq] at hx
  rw [cellsHd] at hl
  obtain ⟨q0, x0⟩ := fst_at hx.1 0 _ rfl
  obtain ⟨q1, x1⟩ := fst_at hx.1 1 _ rfl
  have f0 := hel 0 _ rfl
  have f1 := hel 1 _ rfl
  rw [x0] at f0
  rw [x1] at f1
  have g0 : (cs.drop 0).take (Tryz.prog.cellsOf 9) = _ := text_of f0
  have g1 : (cs.drop 1).take (Tryz.prog.cellsOf 3) = _ := int_of f1
  rw [cells9] at g0
  rw [cells3] at g1
  exact fields2 hl g0 g1

def sgL4 : List (List UInt8 × Int × Int × Int) := sgs.map fun e => (e.tx.data.toList, e.kd, e.parts, e.str)
def hdL2 : List (List UInt8 × Int) := hds.map fun e => (e.1.data.toList, e.2)

theorem tsigns_of {W : World} {fuel : Nat} {cs : List Value} {p : List MemPlace} (h : DataW.trod (fun _ => ()) Tryz.prog W 0 (fun _ => true) false fuel 176 cs = some (.agg (sgL4.map fun e => sgD e.1 e.2.1 e.2.2.1 e.2.2.2), p)) : cs = sgCells.toList := by
  obtain ⟨xs, m, _, hx, hlen, hn, hel⟩ := DataW.trod_array Tryz.underlying176 h
  simp only [Prod.mk.injEq, DataW.agg.injEq] at hx
  rw [cells161] at hlen
  have key : cs = (sgL4.map fun e => [Value.string (ofBytes e.1), .int .i64 e.2.1, .int .i64 e.2.2.1, .int .i64 e.2.2.2]).flatten := by
    refine of_pieces 4 (by decide) _ cs ?_ (by rw [hlen]; rfl) ?_
    · intro l hl
      obtain ⟨e, _, rfl⟩ := List.mem_map.1 hl
      rfl
    · intro i hi
      rw [List.length_map] at hi
      have hi14 : i < 14 := hi
      have he := hel i hi14
      rw [cells160] at he
      obtain ⟨q, hq⟩ := fst_at hx.1 i _ (by rw [List.getElem?_map, List.getElem?_eq_getElem hi]; rfl)
      rw [hq] at he
      rw [sg_of he, List.getElem_map]
  rw [key]
  rfl
theorem theads_of {W : World} {fuel : Nat} {cs : List Value} {p : List MemPlace} (h : DataW.trod (fun _ => ()) Tryz.prog W 0 (fun _ => true) false fuel 179 cs = some (.agg (hdL2.map fun e => hdD e.1 e.2), p)) : cs = hdCells.toList := by
  obtain ⟨xs, m, _, hx, hlen, hn, hel⟩ := DataW.trod_array Tryz.underlying179 h
  simp only [Prod.mk.injEq, DataW.agg.injEq] at hx
  rw [cellsHds] at hlen
  have key : cs = (hdL2.map fun e => [Value.string (ofBytes e.1), .int .i64 e.2]).flatten := by
    refine of_pieces 2 (by decide) _ cs ?_ (by rw [hlen]; rfl) ?_
    · intro l hl
      obtain ⟨e, _, rfl⟩ := List.mem_map.1 hl
      rfl
    · intro i hi
      rw [List.length_map] at hi
      have hi14 : i < 8 := hi
      have he := hel i hi14
      rw [cellsHd] at he
      obtain ⟨q, hq⟩ := fst_at hx.1 i _ (by rw [List.getElem?_map, List.getElem?_eq_getElem hi]; rfl)
      rw [hq] at he
      rw [hd_of he, List.getElem_map]
  rw [key]
  rfl
end Go.Proofs.YtodmgaikhbmlnaaGreatDoor
