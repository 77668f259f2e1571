/-
  The walk of lex.Tokens.
-/
import Derived.Test.YtodmgaikhbmlnaaGreatDoorTk2
set_option maxRecDepth 100000
set_option maxHeartbeats 16000000
namespace Go.Proofs.YtodmgaikhbmlnaaGreatDoor
open Go.RowKit

/-- The cells of a row of tokens. -/
def tkCells (t : Tk) : List Value := [.int .i64 t.kd, .string t.tx, .int .i64 t.n, .int .i64 (t.pl : Int)]
def tksCells (l : List Tk) : List Value := l.flatMap tkCells
theorem tksCells_snoc (l : List Tk) (t : Tk) : tksCells (l ++ [t]) = tksCells l ++ tkCells t := by simp [tksCells]

def TPost (r : TR) (w : World) (e : Ending) (w' : World) : Prop :=
  match r with
  | .ok l => ∃ v, e = .returned (.tuple #[v, .nilIface]) ∧ w'.ownsRow w.heap.size 123 4 v l.length (tksCells l) ∧ Below w.heap.size w w'
  | .bad er p => ∃ b, e = .returned (.tuple #[.slice none 0 0, .iface 129 (.pointer (some ⟨b, 0, none⟩))]) ∧ w'.heap[b]? = some (.cells #[.int .i64 er, .int .i64 (p : Int)] 130 (0, 0)) ∧ w.heap.size ≤ b ∧ Below w.heap.size w w'

theorem info35 : (Tryz.prog.info? 123).map (fun i => (i.zero, i.size, i.bytes)) = some (some noTok, 4, 40) := by kernel_rfl

theorem owns_below {wr w3 : World} {B : Nat} {v : Value} {n : Nat} {xs : List Value} (hb : Below wr.heap.size wr w3) (h : wr.ownsRow B 123 4 v n xs) : w3.ownsRow B 123 4 v n xs := by
  obtain ⟨hl, h0 | ⟨g, cap, cur, hv, hge, hh, hr⟩⟩ := h
  · exact ⟨hl, Or.inl h0⟩
  · exact ⟨hl, Or.inr ⟨g, cap, cur, hv, hge, by rw [hb.block g (Array.getElem?_eq_some_iff.1 hh).1]; exact hh, hr⟩⟩

theorem owns_base {w : World} {B B' : Nat} {v : Value} {n : Nat} {xs : List Value} (hb : B' ≤ B) (h : w.ownsRow B 123 4 v n xs) : w.ownsRow B' 123 4 v n xs := by
  obtain ⟨hl, h0 | ⟨g, cap, cur, hv, hge, hr⟩⟩ := h
  · exact ⟨hl, Or.inl h0⟩
  · exact ⟨hl, Or.inr ⟨g, cap, cur, hv, by omega, hr⟩⟩

theorem rel_grown {B : Nat} {W0 wx w1 : World} {v : Value} {n : Nat} {xs : List Value} (hB : Below B W0 wx) (hsz : B ≤ wx.heap.size) (hown : wx.ownsRow B 123 4 v n xs) (hg : wx.grownBy w1 v.ownBlock) :
    Below B W0 w1 := hB.grown hg hsz (fun k hk => by
    obtain ⟨_, ⟨rfl, _⟩ | ⟨g, cap, cur, rfl, hge, _⟩⟩ := hown
    · simp [Value.ownBlock] at hk
    · simp [Value.ownBlock] at hk; omega)

theorem tokens_long (s : ByteArray) (w : World) (hs : 3000 < s.size) :
    Calls Tryz.prog 50 #[.string s] w fun e w' => e = .returned (.tuple #[.slice none 0 0, .iface 23 (.int .i64 4)]) ∧ w' = w := by
  go_enter Tryz.func50, Tryz.ntmps50
  go_wp2
  go_ret2
  exact ⟨rfl, rfl⟩

theorem tokens_any (ws gs : List ByteArray) (s : ByteArray) (w : World) (hs : s.size ≤ 3000) (hL : Lists ws gs w) (hgs : ∀ g ∈ gs, 1 ≤ g.size) :
    Calls Tryz.prog 50 #[.string s] w (TPost (toksR ws gs s (pastN gapB s 0) []) w) := by
  obtain ⟨i0, hi, hz0, hz1, hz2⟩ := info_parts info35
  obtain ⟨r, hr⟩ : ∃ r, toksR ws gs s (pastN gapB s 0) [] = r := ⟨_, rfl⟩
  have HR := hide hr
  rw [hr]
  have HL := hide hL
  have HGS := hide hgs
  clear hr hL hgs
  go_enter Tryz.func50, Tryz.ntmps50
  go_wp2_with fail
  refine (among_any _ _).mono ?_
  rintro e1 w1 ⟨x, rfl, hx, hbel⟩
  have HX := hide (hx.congr inB_gap)
  have HBEL := hide hbel
  clear hx hbel
  go_wp2_with fail
  refine (past_any s 0 x gapB w1 (by unfold maxLen; omega) (Nat.zero_le _) (unhide HX)).mono ?_
  rintro e2 w2 ⟨rfl, rfl⟩
  have hp0 := pastN_le gapB s 0 (Nat.zero_le _)
  obtain ⟨p0, hp⟩ : ∃ p0, pastN gapB s 0 = p0 := ⟨_, rfl⟩
  rw [hp] at hp0 ⊢
  have HR2 : Hid (toksR ws gs s p0 [] = r) := by show _ = _; rw [← hp]; exact unhide HR
  clear hp HR
  go_wp2_with fail
  go_loopw [5, 6, 7, 8, 9] (fun v i _ _ _ wr => ∃ (j : Nat) (acc : List Tk), j ≤ s.size ∧ acc.length ≤ j ∧ i = .int .i64 j ∧ toksR ws gs s j acc = r ∧ wr.ownsRow w2.heap.size 123 4 v acc.length (tksCells acc) ∧ Below w2.heap.size w2 wr ∧ w2.heap.size ≤ wr.heap.size) (fun _ i _ _ _ _ => s.size - (intOf i).toNat)
  case atStart => exact ⟨p0, [], hp0, by simp, rfl, unhide HR2, World.ownsRow_nil _ _ _ _, Below.refl _ _, Nat.le_refl _⟩
  case round =>
    obtain ⟨j, acc, hj, hal, rfl, he, hown, hB, hsz⟩ := hrel
    have HE := hide he
    have HOWN := hide hown
    have HB := hide hB
    clear he hown hB HR2
    have hLr := ((unhide HL).later (unhide HBEL)).later (unhide HB)
    have HLR := hide hLr
    clear hLr
    by_cases hlt : j < s.size
    · cases hrd : rdTok ws gs s j with
      | tok kd tx n e =>
        have hb := rdTok_bounds ws gs s j kd n tx e hlt (unhide HGS) hrd
        have HST := hide ((toksR_go ws gs s j acc kd n tx e hlt hrd hb.1).symm.trans (unhide HE))
        have HRD := hide hrd
        obtain ⟨hb1, hb2⟩ := hb
        clear hrd HE
        go_wp2_with fail
        have hread := read_any ws gs s j wr hs hlt (unhide HLR)
        rw [unhide HRD] at hread
        refine Calls.mono hread ?_
        clear hread
        rintro e3 w3 ⟨rfl, hb3⟩
        have hB3 := (unhide HB).trans (hb3.mono hsz)
        have HB3 := hide hB3
        have HOWN3 := hide (owns_below hb3 (unhide HOWN))
        have hsz3 : w2.heap.size ≤ w3.heap.size := hB3.size
        clear hb3 hB3
        go_wp2_with (at_builtin; refine wpList_append_own _ rfl _ _ 72 rfl w2.heap.size 123 i0 noTok 4 40 Tryz.underlying72 hi hz0 hz1 hz2 rfl (by decide) _ _ _ rfl (((unhide HOWN3).alloc _).alloc _) ⟨w3.heap.size + 1, 0, none⟩ 1 1 [.int .i64 kd, .string tx, .int .i64 n, .int .i64 (j : Int)] rfl rfl ?c1 ?c2 ?c3 ?c4 ?c5 ?_)
        case c1 =>
          intro j u hj
          match j, hj with
          | 0, hj => simp at hj; subst hj; simp [Addr.add]
          | 1, hj => simp at hj; subst hj; simp [Addr.add]
          | 2, hj => simp at hj; subst hj; simp [Addr.add]
          | 3, hj => simp at hj; subst hj; simp [Addr.add]
        case c2 =>
          intro u hu
          simp only [List.mem_cons, List.not_mem_nil, or_false] at hu
          rcases hu with rfl | rfl | rfl | rfl <;> rfl
        case c3 => unfold maxLen; omega
        case c4 => omega
        case c5 => simp; omega
        intro v' w5 hown' hgrow _
        have hB5 := rel_grown (((unhide HB3).alloc hsz3 _).alloc (by simp; omega) _) (by simp; omega) (((unhide HOWN3).alloc _).alloc _) hgrow
        have HB5 := hide hB5
        have HOWN5 : Hid (w5.ownsRow w2.heap.size 123 4 v' (acc ++ [Tk.mk kd tx n j]).length (tksCells (acc ++ [Tk.mk kd tx n j]))) := by
          show World.ownsRow _ _ _ _ _ _ _
          rw [tksCells_snoc, List.length_append]; exact hown'
        have hge := pastN_ge gapB s e
        have hle := pastN_le gapB s e hb2
        obtain ⟨e', he'⟩ : ∃ e', pastN gapB s e = e' := ⟨_, rfl⟩
        rw [he'] at hge hle
        have HEE := hide he'
        clear hown' hgrow hB5 he'
        go_wp2_with fail
        have hpast := past_any s e x gapB w5 (by unfold maxLen; omega) hb2 ((unhide HX).later (unhide HB5))
        rw [unhide HEE] at hpast
        refine hpast.mono ?_
        clear hpast
        rintro e6 w6 ⟨rfl, rfl⟩
        go_wp2_with fail
        go_roundw
        case rel => exact ⟨e', acc ++ [Tk.mk kd tx n j], hle, by simp; omega, rfl, by have := unhide HST; rw [unhide HEE] at this; exact this, unhide HOWN5, unhide HB5, (unhide HB5).size⟩
        case measure => simp [intOf]; omega
      | bad er p =>
        have hq : r = .bad er p := by rw [← unhide HE, toksR_bad ws gs s j acc er p hlt hrd]
        have HRD := hide hrd
        clear hrd HE
        subst hq
        go_wp2_with fail
        have hread := read_any ws gs s j wr hs hlt (unhide HLR)
        rw [unhide HRD] at hread
        refine Calls.mono hread ?_
        clear hread
        rintro e3 w3 ⟨b, rfl, hb, hlb, hb3⟩
        have HBB := hide hb
        have HB3 := hide ((unhide HB).trans (hb3.mono hsz))
        have hsz3 := Nat.le_trans hsz hb3.size
        have hlb2 := Nat.le_trans hsz hlb
        clear hb3 hb
        go_wp2_with fail
        go_ret2
        have b1 := unhide HBEL
        have b3 := unhide HB3
        refine ⟨b, rfl, ?_, Nat.le_trans b1.size hlb2, (b1.trans (b3.mono b1.size)).alloc (Nat.le_trans b1.size hsz3) _⟩
        rw [Below.heap_alloc w3 _ b (Array.getElem?_eq_some_iff.1 (unhide HBB)).1]
        exact unhide HBB
    · have hq : r = .ok (acc ++ [Tk.mk 6 ⟨#[]⟩ 0 s.size]) := by rw [← unhide HE, toksR_end ws gs s j acc hlt]
      clear HE
      subst hq
      go_wp2_with (at_builtin; refine wpList_append_own _ rfl _ _ 72 rfl w2.heap.size 123 i0 noTok 4 40 Tryz.underlying72 hi hz0 hz1 hz2 rfl (by decide) _ _ _ rfl ((unhide HOWN).alloc _) ⟨wr.heap.size, 0, none⟩ 1 1 [.int .i64 6, .string ⟨#[]⟩, .int .i64 0, .int .i64 (s.size : Int)] rfl rfl ?c1 ?c2 ?c3 ?c4 ?c5 ?_)
      case c1 =>
        intro j u hj
        match j, hj with
        | 0, hj => simp at hj; subst hj; simp [Addr.add]
        | 1, hj => simp at hj; subst hj; simp [Addr.add]
        | 2, hj => simp at hj; subst hj; simp [Addr.add]
        | 3, hj => simp at hj; subst hj; simp [Addr.add]
      case c2 =>
        intro u hu
        simp only [List.mem_cons, List.not_mem_nil, or_false] at hu
        rcases hu with rfl | rfl | rfl | rfl <;> rfl
      case c3 => unfold maxLen; omega
      case c4 => omega
      case c5 => simp; omega
      intro v' w5 hown' hgrow _
      have hB5 := rel_grown ((unhide HB).alloc hsz _) (by simp; omega) ((unhide HOWN).alloc _) hgrow
      have HB5 := hide hB5
      have HOWN5 : Hid (w5.ownsRow w2.heap.size 123 4 v' (acc ++ [Tk.mk 6 ⟨#[]⟩ 0 s.size]).length (tksCells (acc ++ [Tk.mk 6 ⟨#[]⟩ 0 s.size]))) := by
        show World.ownsRow _ _ _ _ _ _ _
        rw [tksCells_snoc, List.length_append]; exact hown'
      clear hown' hgrow hB5
      go_wp2_with fail
      go_ret2
      have b1 := unhide HBEL
      exact ⟨v', rfl, owns_base b1.size (unhide HOWN5), b1.trans ((unhide HB5).mono b1.size)⟩

end Go.Proofs.YtodmgaikhbmlnaaGreatDoor
namespace Go.Proofs.YtodmgaikhbmlnaaGreatDoor

inductive Tr where
  | mk (kd : Int) (tx : ByteArray) (n : Int) (kids : List Tr)

def Tr.kd : Tr → Int | .mk k _ _ _ => k
def Tr.tx : Tr → ByteArray | .mk _ t _ _ => t
def Tr.n : Tr → Int | .mk _ _ n _ => n
def Tr.kids : Tr → List Tr | .mk _ _ _ l => l

inductive PR (α : Type) where
  | ok (x : α) (i : Nat)
  | bad (er : Int) (p : Nat)
  | out

def PR.bind {α β : Type} : PR α → (α → Nat → PR β) → PR β
  | .ok x i, f => f x i
  | .bad er p, _ => .bad er p
  | .out, _ => .out

abbrev noText : ByteArray := ⟨#[]⟩
abbrev tVar : ByteArray := ⟨#[118, 97, 114]⟩
abbrev tLet : ByteArray := ⟨#[108, 101, 116]⟩
abbrev tConst : ByteArray := ⟨#[99, 111, 110, 115, 116]⟩
abbrev tFunction : ByteArray := ⟨#[102, 117, 110, 99, 116, 105, 111, 110]⟩
abbrev tIf : ByteArray := ⟨#[105, 102]⟩
abbrev tElse : ByteArray := ⟨#[101, 108, 115, 101]⟩
abbrev tWhile : ByteArray := ⟨#[119, 104, 105, 108, 101]⟩
abbrev tWith : ByteArray := ⟨#[119, 105, 116, 104]⟩
abbrev tReturn : ByteArray := ⟨#[114, 101, 116, 117, 114, 110]⟩
abbrev tThrow : ByteArray := ⟨#[116, 104, 114, 111, 119]⟩
abbrev tTry : ByteArray := ⟨#[116, 114, 121]⟩
abbrev tCatch : ByteArray := ⟨#[99, 97, 116, 99, 104]⟩
abbrev tFinally : ByteArray := ⟨#[102, 105, 110, 97, 108, 108, 121]⟩
abbrev tTypeof : ByteArray := ⟨#[116, 121, 112, 101, 111, 102]⟩
abbrev tDelete : ByteArray := ⟨#[100, 101, 108, 101, 116, 101]⟩
abbrev tTrue : ByteArray := ⟨#[116, 114, 117, 101]⟩
abbrev tFalse : ByteArray := ⟨#[102, 97, 108, 115, 101]⟩
abbrev tNull : ByteArray := ⟨#[110, 117, 108, 108]⟩
abbrev tUndef : ByteArray := ⟨#[117, 110, 100, 101, 102, 105, 110, 101, 100]⟩
abbrev tOpen : ByteArray := ⟨#[40]⟩
abbrev tShut : ByteArray := ⟨#[41]⟩
abbrev tLBrace : ByteArray := ⟨#[123]⟩
abbrev tRBrace : ByteArray := ⟨#[125]⟩
abbrev tSemi : ByteArray := ⟨#[59]⟩
abbrev tComma : ByteArray := ⟨#[44]⟩
abbrev tColon : ByteArray := ⟨#[58]⟩
abbrev tDot : ByteArray := ⟨#[46]⟩
abbrev tEq : ByteArray := ⟨#[61]⟩
abbrev tOr : ByteArray := ⟨#[124, 124]⟩
abbrev tAnd : ByteArray := ⟨#[38, 38]⟩
abbrev tSame : ByteArray := ⟨#[61, 61, 61]⟩
abbrev tLess : ByteArray := ⟨#[60]⟩
abbrev tAdd : ByteArray := ⟨#[43]⟩
abbrev tSub : ByteArray := ⟨#[45]⟩
abbrev tMul : ByteArray := ⟨#[42]⟩
abbrev tNot : ByteArray := ⟨#[33]⟩
abbrev tStrict : ByteArray := ⟨#[115, 116, 114, 105, 99, 116]⟩
abbrev tUse : ByteArray := ⟨#[117, 115, 101, 32, 115, 116, 114, 105, 99, 116]⟩

structure Sg where
  tx : ByteArray
  kd : Int
  parts : Int
  str : Int

def sgs : List Sg := [⟨tOr, 25, 2, 2⟩, ⟨tAnd, 26, 2, 3⟩, ⟨tSame, 27, 2, 4⟩, ⟨tLess, 28, 2, 5⟩, ⟨tAdd, 29, 2, 6⟩, ⟨tSub, 30, 2, 6⟩, ⟨tMul, 31, 2, 7⟩, ⟨tNot, 32, 1, 8⟩, ⟨tTypeof, 33, 1, 8⟩, ⟨tDelete, 34, 1, 8⟩, ⟨tTrue, 19, 0, 10⟩, ⟨tFalse, 20, 0, 10⟩, ⟨tNull, 21, 0, 10⟩, ⟨tUndef, 22, 0, 10⟩]

def hds : List (ByteArray × Int) := [(tVar, 2), (tLet, 3), (tConst, 4), (tIf, 7), (tWhile, 8), (tWith, 9), (tReturn, 10), (tThrow, 11)]

/-- Which of the reader's parts a statement's first word asks for. -/
def stKeys : List (ByteArray × Nat) := [(tVar, 0), (tLet, 0), (tConst, 0), (tFunction, 1), (tLBrace, 2), (tSemi, 3), (tIf, 4), (tWhile, 5), (tWith, 5), (tReturn, 6), (tThrow, 6), (tTry, 7)]
def vlKeys : List (ByteArray × Nat) := [(tOpen, 0), (tLBrace, 1), (tFunction, 2)]

def look2 {β : Type} (l : List (ByteArray × β)) (s : ByteArray) : Option β := (l.find? (fun e => decide (s = e.1))).map (·.2)
def sgOf (s : ByteArray) : Option Sg := sgs.find? (fun e => decide (s = e.tx))
def sgP (k : Int) (s : ByteArray) : Option Sg := (sgOf s).filter (fun e => e.parts == k)
def hdKind (s : ByteArray) : Int := (look2 hds s).getD 0

section
variable (l : List Tk)

def tkA (i : Nat) : Tk := l.getD i ⟨6, noText, 0, 0⟩
def fx (i : Nat) : ByteArray := if (tkA l i).kd == 2 || (tkA l i).kd == 5 then (tkA l i).tx else noText
def badF {α : Type} (er : Int) (i : Nat) : PR α := .bad er (tkA l i).pl
def mustP (s : ByteArray) (i : Nat) : PR Unit := if fx l i = s then .ok () (i + 1) else badF l 3 i
def nameP (i : Nat) : PR ByteArray := if (tkA l i).kd = 1 then .ok (tkA l i).tx (i + 1) else badF l 3 i
def deepP (f : Nat → Nat → PR Tr) (d i : Nat) : PR Tr := if d = 30 then badF l 4 i else f (d + 1) i
def isName (i : Nat) : Bool := (tkA l i).kd == 1
def isVal (i : Nat) : Bool := (tkA l i).kd == 1 || (tkA l i).kd == 3 || (tkA l i).kd == 4 || (look2 vlKeys (fx l i)).isSome || ((sgOf (fx l i)).filter (fun e => decide (e.parts < 2))).isSome

/-- The parts that ask for each other, at a bound. -/
structure Fns where
  fuel : Nat
  st : Nat → Nat → PR Tr
  vl : Nat → Nat → PR Tr
  pr : Int → Nat → Nat → PR Tr
  sg : Nat → Nat → PR Tr

def noFns : Fns := ⟨0, fun _ _ => .out, fun _ _ => .out, fun _ _ _ => .out, fun _ _ => .out⟩

def listLoop (shut : ByteArray) (begins : Nat → Bool) (part : Nat → PR Tr) : Nat → List Tr → Nat → PR (List Tr)
  | 0, _, _ => .out
  | k + 1, acc, i => if acc.length = 8 ∧ begins i = true then badF l 4 i else
    (part i).bind fun t i1 => if fx l i1 = shut then .ok (acc ++ [t]) (i1 + 1) else
      (mustP l tComma i1).bind fun _ i2 => listLoop shut begins part k (acc ++ [t]) i2

def listP (opn shut : ByteArray) (begins : Nat → Bool) (part : Nat → PR Tr) (k i : Nat) : PR (List Tr) :=
  (mustP l opn i).bind fun _ i1 => if fx l i1 = shut then .ok [] (i1 + 1) else listLoop l shut begins part k [] i1

def codeT : Tr → Tr
  | .mk kd tx n (.mk k1 t1 n1 (.mk k2 t2 n2 l2 :: r1) :: r) => .mk kd (if k1 = 15 ∧ k2 = 18 ∧ t2 = tUse then tStrict else tx) n (.mk k1 t1 n1 (.mk k2 t2 n2 l2 :: r1) :: r)
  | t => t

def blockLoop (F : Fns) (d : Nat) : Nat → List Tr → Nat → PR (List Tr)
  | 0, _, _ => .out
  | k + 1, acc, i => if fx l i = tRBrace then .ok acc (i + 1) else
    (deepP l F.st d i).bind fun t i1 => blockLoop F d k (acc ++ [t]) i1

def blockP (F : Fns) (d i : Nat) : PR Tr :=
  (mustP l tLBrace i).bind fun _ i1 => (blockLoop l F d F.fuel [] i1).bind fun ts i2 => .ok (.mk 6 noText 0 ts) i2

def paramP (i : Nat) : PR Tr := (nameP l i).bind fun s i1 => .ok (.mk 23 s 0 []) i1
def paramsP (F : Fns) (i : Nat) : PR Tr := (listP l tOpen tShut (isName l) (paramP l) F.fuel i).bind fun ts i1 => .ok (.mk 40 noText 0 ts) i1
def argP (F : Fns) (d i : Nat) : PR Tr := deepP l F.vl d i
def propP (F : Fns) (d i : Nat) : PR Tr :=
  (nameP l i).bind fun s i1 => (mustP l tColon i1).bind fun _ i2 => (deepP l F.vl d i2).bind fun t i3 => .ok (.mk 39 s 0 [t]) i3
def inParP (F : Fns) (d i : Nat) : PR Tr :=
  (mustP l tOpen i).bind fun _ i1 => (deepP l F.vl d i1).bind fun t i2 => (mustP l tShut i2).bind fun _ i3 => .ok t i3
def objectP (F : Fns) (d i : Nat) : PR Tr :=
  (listP l tLBrace tRBrace (isName l) (propP l F d) F.fuel i).bind fun ts i1 => .ok (.mk 38 noText 0 ts) i1
def funcTail (F : Fns) (kd : Int) (s : ByteArray) (d i : Nat) : PR Tr :=
  (paramsP l F i).bind fun ps i1 => (blockP l F d i1).bind fun b i2 => .ok (.mk kd s 0 [ps, codeT b]) i2
def lambdaP (F : Fns) (d i : Nat) : PR Tr :=
  (mustP l tFunction i).bind fun _ i1 => if isName l i1 = true then (nameP l i1).bind fun s i2 => funcTail l F 37 s d i2 else funcTail l F 37 noText d i1
def funcP (F : Fns) (d i : Nat) : PR Tr :=
  (mustP l tFunction i).bind fun _ i1 => (nameP l i1).bind fun s i2 => funcTail l F 5 s d i2

def aloneP (F : Fns) (d i : Nat) : PR Tr :=
  match look2 vlKeys (fx l i) with
  | some 0 => inParP l F d i
  | some 1 => objectP l F d i
  | some _ => lambdaP l F d i
  | none =>
    match sgP 0 (fx l i) with
    | some s => .ok (.mk s.kd noText 0 []) (i + 1)
    | none =>
      if (tkA l i).kd = 1 then .ok (.mk 23 (tkA l i).tx 0 []) (i + 1)
      else if (tkA l i).kd = 4 then .ok (.mk 18 (tkA l i).tx 0 []) (i + 1)
      else if (tkA l i).kd = 3 then .ok (.mk 17 noText (tkA l i).n []) (i + 1)
      else badF l 3 i

def askedLoop (F : Fns) (d : Nat) : Nat → Tr → Nat → PR Tr
  | 0, _, _ => .out
  | k + 1, t, i =>
    if fx l i = tDot then (nameP l (i + 1)).bind fun s i1 => askedLoop F d k (.mk 36 s 0 [t]) i1
    else if fx l i = tOpen then (listP l tOpen tShut (isVal l) (argP l F d) F.fuel i).bind fun ts i1 => askedLoop F d k (.mk 35 noText 0 (t :: ts)) i1
    else .ok t i

def askedP (F : Fns) (d i : Nat) : PR Tr := (aloneP l F d i).bind fun t i1 => askedLoop l F d F.fuel t i1

def singleP (F : Fns) (d i : Nat) : PR Tr :=
  match sgP 1 (fx l i) with
  | some s => (deepP l F.sg d (i + 1)).bind fun t i1 => .ok (.mk s.kd noText 0 [t]) i1
  | none => askedP l F d i

def pairLoop (F : Fns) (least : Int) (d : Nat) : Nat → Tr → Nat → PR Tr
  | 0, _, _ => .out
  | k + 1, t, i =>
    match sgP 2 (fx l i) with
    | none => .ok t i
    | some s => if s.str < least then .ok t i else (F.pr (s.str + 1) d (i + 1)).bind fun u i1 => pairLoop F least d k (.mk s.kd noText 0 [t, u]) i1

def pairP (F : Fns) (least : Int) (d i : Nat) : PR Tr := (F.sg d i).bind fun t i1 => pairLoop l F least d F.fuel t i1

def valueP (F : Fns) (d i : Nat) : PR Tr :=
  (F.pr 2 d i).bind fun t i1 => if fx l i1 = tEq then
      (if t.kd = 23 ∨ t.kd = 36 then (deepP l F.vl d (i1 + 1)).bind fun v i2 => .ok (.mk 24 noText 0 [t, v]) i2 else badF l 1 i)
    else .ok t i1

def declP (F : Fns) (d i : Nat) : PR Tr :=
  (nameP l (i + 1)).bind fun s i1 =>
    if hdKind (tkA l i).tx = 4 ∧ ¬ fx l i1 = tEq then badF l 3 i1
    else if fx l i1 = tEq then (deepP l F.vl d (i1 + 1)).bind fun v i2 => (mustP l tSemi i2).bind fun _ i3 => .ok (.mk (hdKind (tkA l i).tx) s 0 [v]) i3
    else (mustP l tSemi i1).bind fun _ i2 => .ok (.mk (hdKind (tkA l i).tx) s 0 []) i2

def behindP (F : Fns) (d i : Nat) : PR Tr :=
  (inParP l F d (i + 1)).bind fun v i1 => (deepP l F.st d i1).bind fun s i2 => .ok (.mk (hdKind (tkA l i).tx) noText 0 [v, s]) i2

def choiceP (F : Fns) (d i : Nat) : PR Tr :=
  (inParP l F d (i + 1)).bind fun v i1 => (deepP l F.st d i1).bind fun s i2 =>
    if fx l i2 = tElse then (deepP l F.st d (i2 + 1)).bind fun s2 i3 => .ok (.mk (hdKind (tkA l i).tx) noText 0 [v, s, s2]) i3
    else .ok (.mk (hdKind (tkA l i).tx) noText 0 [v, s]) i2

def givingP (F : Fns) (d i : Nat) : PR Tr :=
  if hdKind (tkA l i).tx = 11 ∨ ¬ fx l (i + 1) = tSemi then (deepP l F.vl d (i + 1)).bind fun v i1 => (mustP l tSemi i1).bind fun _ i2 => .ok (.mk (hdKind (tkA l i).tx) noText 0 [v]) i2
  else (mustP l tSemi (i + 1)).bind fun _ i2 => .ok (.mk (hdKind (tkA l i).tx) noText 0 []) i2

def catchP (F : Fns) (d i : Nat) : PR (List Tr) :=
  if fx l i = tCatch then (mustP l tOpen (i + 1)).bind fun _ i1 => (nameP l i1).bind fun s i2 => (mustP l tShut i2).bind fun _ i3 => (blockP l F d i3).bind fun b i4 => .ok [.mk 13 s 0 [b]] i4
  else .ok [] i
def finallyP (F : Fns) (d i : Nat) : PR (List Tr) :=
  if fx l i = tFinally then (blockP l F d (i + 1)).bind fun b i1 => .ok [.mk 14 noText 0 [b]] i1
  else .ok [] i
def attemptP (F : Fns) (d i : Nat) : PR Tr :=
  (mustP l tTry i).bind fun _ i0 => (blockP l F d i0).bind fun b i1 => (catchP l F d i1).bind fun c i2 => (finallyP l F d i2).bind fun f i3 =>
    if c.length + f.length = 0 then badF l 3 i3 else .ok (.mk 12 noText 0 (b :: (c ++ f))) i3

def exprP (F : Fns) (d i : Nat) : PR Tr := (deepP l F.vl d i).bind fun v i1 => (mustP l tSemi i1).bind fun _ i2 => .ok (.mk 15 noText 0 [v]) i2

def partP (F : Fns) (d : Nat) : Nat → Nat → PR Tr
  | 0 => declP l F d
  | 1 => funcP l F d
  | 2 => blockP l F d
  | 3 => fun i => (mustP l tSemi i).bind fun _ i1 => .ok (.mk 16 noText 0 []) i1
  | 4 => choiceP l F d
  | 5 => behindP l F d
  | 6 => givingP l F d
  | _ => attemptP l F d

def statementP (F : Fns) (d i : Nat) : PR Tr :=
  match look2 stKeys (fx l i) with
  | some q => partP l F d q i
  | none => exprP l F d i

def fns : Nat → Fns
  | 0 => noFns
  | k + 1 => ⟨k, statementP l (fns k), valueP l (fns k), pairP l (fns k), singleP l (fns k)⟩

def progLoop (F : Fns) : Nat → List Tr → Nat → PR (List Tr)
  | 0, _, _ => .out
  | k + 1, acc, i => if (tkA l i).kd = 6 then .ok acc i else
    (deepP l F.st 0 i).bind fun t i1 => progLoop F k (acc ++ [t]) i1

def progP (F : Fns) : PR Tr := (progLoop l F F.fuel [] 0).bind fun ts i => .ok (codeT (.mk 1 noText 0 ts)) i
end

mutual
def Tr.count : Tr → Nat
  | .mk _ _ _ ks => 1 + Tr.counts ks
def Tr.counts : List Tr → Nat
  | [] => 0
  | t :: ts => t.count + Tr.counts ts
end
end Go.Proofs.YtodmgaikhbmlnaaGreatDoor
