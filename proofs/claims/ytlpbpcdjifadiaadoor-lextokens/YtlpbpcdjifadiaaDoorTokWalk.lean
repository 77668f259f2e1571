/-
  The walk of lex.Tokens.
-/
import Derived.Test.YtlpbpcdjifadiaaDoorToks
namespace Go.Proofs.YtlpbpcdjifadiaaDoor
open Go.RowKit

/-- The cells of a row of tokens. -/
def tkCells (t : Tk) : List Value := [.int .i64 t.kd, .string t.tx, .int .i64 t.n, .int .i64 (t.pl : Int)]
def tksCells (l : List Tk) : List Value := l.flatMap tkCells
theorem tksCells_snoc (l : List Tk) (t : Tk) : tksCells (l ++ [t]) = tksCells l ++ tkCells t := by simp [tksCells]

def TPost (r : TR) (w : World) (e : Ending) (w' : World) : Prop :=
  match r with
  | .ok l => ∃ v, e = .returned (.tuple #[v, .nilIface]) ∧ w'.ownsRow w.heap.size 35 4 v l.length (tksCells l) ∧ Below w.heap.size w w'
  | .bad er p => ∃ b, e = .returned (.tuple #[.slice none 0 0, .iface 58 (.pointer (some ⟨b, 0, none⟩))]) ∧ w'.heap[b]? = some (.cells #[.int .i64 er, .int .i64 (p : Int)] 60 (0, 0)) ∧ w.heap.size ≤ b ∧ Below w.heap.size w w'

theorem info35 : (Tryd.prog.info? 35).map (fun i => (i.zero, i.size, i.bytes)) = some (some noTok, 4, 40) := by kernel_rfl

theorem owns_below {wr w3 : World} {B : Nat} {v : Value} {n : Nat} {xs : List Value} (hb : Below wr.heap.size wr w3) (h : wr.ownsRow B 35 4 v n xs) : w3.ownsRow B 35 4 v n xs := by
  obtain ⟨hl, h0 | ⟨g, cap, cur, hv, hge, hh, hr⟩⟩ := h
  · exact ⟨hl, Or.inl h0⟩
  · exact ⟨hl, Or.inr ⟨g, cap, cur, hv, hge, by rw [hb.block g (Array.getElem?_eq_some_iff.1 hh).1]; exact hh, hr⟩⟩

theorem owns_base {w : World} {B B' : Nat} {v : Value} {n : Nat} {xs : List Value} (hb : B' ≤ B) (h : w.ownsRow B 35 4 v n xs) : w.ownsRow B' 35 4 v n xs := by
  obtain ⟨hl, h0 | ⟨g, cap, cur, hv, hge, hr⟩⟩ := h
  · exact ⟨hl, Or.inl h0⟩
  · exact ⟨hl, Or.inr ⟨g, cap, cur, hv, by omega, hr⟩⟩

theorem rel_grown {B : Nat} {W0 wx w1 : World} {v : Value} {n : Nat} {xs : List Value} (hB : Below B W0 wx) (hsz : B ≤ wx.heap.size) (hown : wx.ownsRow B 35 4 v n xs) (hg : wx.grownBy w1 v.ownBlock) :
    Below B W0 w1 := hB.grown hg hsz (fun k hk => by
    obtain ⟨_, ⟨rfl, _⟩ | ⟨g, cap, cur, rfl, hge, _⟩⟩ := hown
    · simp [Value.ownBlock] at hk
    · simp [Value.ownBlock] at hk; omega)

set_option maxHeartbeats 400000 in
theorem tokens_long (s : ByteArray) (w : World) (hs : 3000 < s.size) :
    Calls Tryd.prog 7 #[.string s] w fun e w' => e = .returned (.tuple #[.slice none 0 0, .iface 23 (.int .i64 4)]) ∧ w' = w := by
  go_enter Tryd.func7, Tryd.ntmps7
  go_wp2
  go_ret2
  exact ⟨rfl, rfl⟩

set_option maxRecDepth 100000 in
set_option maxHeartbeats 2000000 in
theorem tokens_any (ws gs : List ByteArray) (s : ByteArray) (w : World) (hs : s.size ≤ 3000) (hL : Lists ws gs w) (hgs : ∀ g ∈ gs, 1 ≤ g.size) :
    Calls Tryd.prog 7 #[.string s] w (TPost (toksR ws gs s (pastN gapB s 0) []) w) := by
  obtain ⟨i0, hi, hz0, hz1, hz2⟩ := info_parts info35
  obtain ⟨r, hr⟩ : ∃ r, toksR ws gs s (pastN gapB s 0) [] = r := ⟨_, rfl⟩
  have HR := hide hr
  rw [hr]
  have HL := hide hL
  have HGS := hide hgs
  clear hr hL hgs
  go_enter Tryd.func7, Tryd.ntmps7
  go_wp2_with fail
  refine (among_any _ _).mono ?_
  rintro e1 w1 ⟨x, rfl, hx, hbel⟩
  have HX := hide (hx.congr inB_gap)
  have HBEL := hide hbel
  clear hx hbel
  go_wp2_with fail
  refine (past_any s 0 x gapB w1 (by unfold maxLen; omega) (Nat.zero_le _) (unhide HX)).mono ?_
  rintro e2 w2 ⟨rfl, rfl⟩
  have hp0 := pastN_le gapB s 0 (Nat.zero_le _)
  obtain ⟨p0, hp⟩ : ∃ p0, pastN gapB s 0 = p0 := ⟨_, rfl⟩
  rw [hp] at hp0 ⊢
  have HR2 : Hid (toksR ws gs s p0 [] = r) := by show _ = _; rw [← hp]; exact unhide HR
  clear hp HR
  go_wp2_with fail
  go_loopw [5, 6, 7, 8, 9] (fun v i _ _ _ wr => ∃ (j : Nat) (acc : List Tk), j ≤ s.size ∧ acc.length ≤ j ∧ i = .int .i64 j ∧ toksR ws gs s j acc = r ∧ wr.ownsRow w2.heap.size 35 4 v acc.length (tksCells acc) ∧ Below w2.heap.size w2 wr ∧ w2.heap.size ≤ wr.heap.size) (fun _ i _ _ _ _ => s.size - (intOf i).toNat)
  case atStart => exact ⟨p0, [], hp0, by simp, rfl, unhide HR2, World.ownsRow_nil _ _ _ _, Below.refl _ _, Nat.le_refl _⟩
  case round =>
    obtain ⟨j, acc, hj, hal, rfl, he, hown, hB, hsz⟩ := hrel
    have HE := hide he
    have HOWN := hide hown
    have HB := hide hB
    clear he hown hB HR2
    have hLr := ((unhide HL).later (unhide HBEL)).later (unhide HB)
    have HLR := hide hLr
    clear hLr
    by_cases hlt : j < s.size
    · cases hrd : rdTok ws gs s j with
      | tok kd tx n e =>
        have hb := rdTok_bounds ws gs s j kd n tx e hlt (unhide HGS) hrd
        have HST := hide ((toksR_go ws gs s j acc kd n tx e hlt hrd hb.1).symm.trans (unhide HE))
        have HRD := hide hrd
        obtain ⟨hb1, hb2⟩ := hb
        clear hrd HE
        go_wp2_with fail
        have hread := read_any ws gs s j wr hs hlt (unhide HLR)
        rw [unhide HRD] at hread
        refine Calls.mono hread ?_
        clear hread
        rintro e3 w3 ⟨rfl, hb3⟩
        have hB3 := (unhide HB).trans (hb3.mono hsz)
        have HB3 := hide hB3
        have HOWN3 := hide (owns_below hb3 (unhide HOWN))
        have hsz3 : w2.heap.size ≤ w3.heap.size := hB3.size
        clear hb3 hB3
        go_wp2_with (at_builtin; refine wpList_append_own _ rfl _ _ 28 rfl w2.heap.size 35 i0 noTok 4 40 Tryd.underlying28 hi hz0 hz1 hz2 rfl (by decide) _ _ _ rfl (((unhide HOWN3).alloc _).alloc _) ⟨w3.heap.size + 1, 0, none⟩ 1 1 [.int .i64 kd, .string tx, .int .i64 n, .int .i64 (j : Int)] rfl rfl ?c1 ?c2 ?c3 ?c4 ?c5 ?_)
        case c1 =>
          intro j u hj
          match j, hj with
          | 0, hj => simp at hj; subst hj; simp [Addr.add]
          | 1, hj => simp at hj; subst hj; simp [Addr.add]
          | 2, hj => simp at hj; subst hj; simp [Addr.add]
          | 3, hj => simp at hj; subst hj; simp [Addr.add]
        case c2 =>
          intro u hu
          simp only [List.mem_cons, List.not_mem_nil, or_false] at hu
          rcases hu with rfl | rfl | rfl | rfl <;> rfl
        case c3 => unfold maxLen; omega
        case c4 => omega
        case c5 => simp; omega
        intro v' w5 hown' hgrow _
        have hB5 := rel_grown (((unhide HB3).alloc hsz3 _).alloc (by simp; omega) _) (by simp; omega) (((unhide HOWN3).alloc _).alloc _) hgrow
        have HB5 := hide hB5
        have HOWN5 : Hid (w5.ownsRow w2.heap.size 35 4 v' (acc ++ [Tk.mk kd tx n j]).length (tksCells (acc ++ [Tk.mk kd tx n j]))) := by
          show World.ownsRow _ _ _ _ _ _ _
          rw [tksCells_snoc, List.length_append]; exact hown'
        have hge := pastN_ge gapB s e
        have hle := pastN_le gapB s e hb2
        obtain ⟨e', he'⟩ : ∃ e', pastN gapB s e = e' := ⟨_, rfl⟩
        rw [he'] at hge hle
        have HEE := hide he'
        clear hown' hgrow hB5 he'
        go_wp2_with fail
        have hpast := past_any s e x gapB w5 (by unfold maxLen; omega) hb2 ((unhide HX).later (unhide HB5))
        rw [unhide HEE] at hpast
        refine hpast.mono ?_
        clear hpast
        rintro e6 w6 ⟨rfl, rfl⟩
        go_wp2_with fail
        go_roundw
        case rel => exact ⟨e', acc ++ [Tk.mk kd tx n j], hle, by simp; omega, rfl, by have := unhide HST; rw [unhide HEE] at this; exact this, unhide HOWN5, unhide HB5, (unhide HB5).size⟩
        case measure => simp [intOf]; omega
      | bad er p =>
        have hq : r = .bad er p := by rw [← unhide HE, toksR_bad ws gs s j acc er p hlt hrd]
        have HRD := hide hrd
        clear hrd HE
        subst hq
        go_wp2_with fail
        have hread := read_any ws gs s j wr hs hlt (unhide HLR)
        rw [unhide HRD] at hread
        refine Calls.mono hread ?_
        clear hread
        rintro e3 w3 ⟨b, rfl, hb, hlb, hb3⟩
        have HBB := hide hb
        have HB3 := hide ((unhide HB).trans (hb3.mono hsz))
        have hsz3 := Nat.le_trans hsz hb3.size
        have hlb2 := Nat.le_trans hsz hlb
        clear hb3 hb
        go_wp2_with fail
        go_ret2
        have b1 := unhide HBEL
        have b3 := unhide HB3
        refine ⟨b, rfl, ?_, Nat.le_trans b1.size hlb2, (b1.trans (b3.mono b1.size)).alloc (Nat.le_trans b1.size hsz3) _⟩
        rw [Below.heap_alloc w3 _ b (Array.getElem?_eq_some_iff.1 (unhide HBB)).1]
        exact unhide HBB
    · have hq : r = .ok (acc ++ [Tk.mk 6 ⟨#[]⟩ 0 s.size]) := by rw [← unhide HE, toksR_end ws gs s j acc hlt]
      clear HE
      subst hq
      go_wp2_with (at_builtin; refine wpList_append_own _ rfl _ _ 28 rfl w2.heap.size 35 i0 noTok 4 40 Tryd.underlying28 hi hz0 hz1 hz2 rfl (by decide) _ _ _ rfl ((unhide HOWN).alloc _) ⟨wr.heap.size, 0, none⟩ 1 1 [.int .i64 6, .string ⟨#[]⟩, .int .i64 0, .int .i64 (s.size : Int)] rfl rfl ?c1 ?c2 ?c3 ?c4 ?c5 ?_)
      case c1 =>
        intro j u hj
        match j, hj with
        | 0, hj => simp at hj; subst hj; simp [Addr.add]
        | 1, hj => simp at hj; subst hj; simp [Addr.add]
        | 2, hj => simp at hj; subst hj; simp [Addr.add]
        | 3, hj => simp at hj; subst hj; simp [Addr.add]
      case c2 =>
        intro u hu
        simp only [List.mem_cons, List.not_mem_nil, or_false] at hu
        rcases hu with rfl | rfl | rfl | rfl <;> rfl
      case c3 => unfold maxLen; omega
      case c4 => omega
      case c5 => simp; omega
      intro v' w5 hown' hgrow _
      have hB5 := rel_grown ((unhide HB).alloc hsz _) (by simp; omega) ((unhide HOWN).alloc _) hgrow
      have HB5 := hide hB5
      have HOWN5 : Hid (w5.ownsRow w2.heap.size 35 4 v' (acc ++ [Tk.mk 6 ⟨#[]⟩ 0 s.size]).length (tksCells (acc ++ [Tk.mk 6 ⟨#[]⟩ 0 s.size]))) := by
        show World.ownsRow _ _ _ _ _ _ _
        rw [tksCells_snoc, List.length_append]; exact hown'
      clear hown' hgrow hB5
      go_wp2_with fail
      go_ret2
      have b1 := unhide HBEL
      exact ⟨v', rfl, owns_base b1.size (unhide HOWN5), b1.trans ((unhide HB5).mono b1.size)⟩

end Go.Proofs.YtlpbpcdjifadiaaDoor
