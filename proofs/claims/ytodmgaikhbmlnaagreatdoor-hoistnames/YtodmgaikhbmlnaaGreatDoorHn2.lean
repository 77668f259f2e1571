/-
  The walk of lex.Tokens.
-/
import Derived.Test.YtodmgaikhbmlnaaGreatDoorHn0
import Derived.Test.YtodmgaikhbmlnaaGreatDoorHn1
set_option maxRecDepth 100000
set_option maxHeartbeats 16000000
namespace Go.Proofs.YtodmgaikhbmlnaaGreatDoor
open Go.RowKit
def zdx (t : Tk) : List Value := [.int .i64 t.kd, .string t.tx, .int .i64 t.n, .int .i64 (t.pl : Int)]
def zj1 (l : List Tk) : List Value := l.flatMap zdx
theorem zfx (l : List Tk) (t : Tk) : zj1 (l ++ [t]) = zj1 l ++ zdx t := by simp [zj1]
def TPost (r : TR) (w : World) (e : Ending) (w' : World) : Prop :=
 match r with
 | .ok l => ∃ v, e = .returned (.tuple #[v, .nilIface]) ∧ w'.ownsRow w.heap.size 123 4 v l.length (zj1 l) ∧ Below w.heap.size w w'
 | .bad er p => ∃ b, e = .returned (.tuple #[.slice none 0 0, .iface 129 (.pointer (some ⟨b, 0, none⟩))]) ∧ w'.heap[b]? = some (.cells #[.int .i64 er, .int .i64 (p : Int)] 130 (0, 0)) ∧ w.heap.size ≤ b ∧ Below w.heap.size w w'
theorem info35 : (Tryz.prog.info? 123).map (fun i => (i.zero, i.size, i.bytes)) = some (some zw1, 4, 40) := by kernel_rfl
theorem owns_below {wr w3 : World} {B : Nat} {v : Value} {n : Nat} {xs : List Value} (hb : Below wr.heap.size wr w3) (h : wr.ownsRow B 123 4 v n xs) : w3.ownsRow B 123 4 v n xs := by
 obtain ⟨hl, h0 | ⟨g, cap, cur, hv, hge, hh, hr⟩⟩ := h
 ·
  exact ⟨hl, Or.inl h0⟩
 ·
  exact ⟨hl, Or.inr ⟨g, cap, cur, hv, hge, by rw [hb.block g (Array.getElem?_eq_some_iff.1 hh).1]; exact hh, hr⟩⟩
theorem owns_base {w : World} {B B' : Nat} {v : Value} {n : Nat} {xs : List Value} (hb : B' ≤ B) (h : w.ownsRow B 123 4 v n xs) : w.ownsRow B' 123 4 v n xs := by
 obtain ⟨hl, h0 | ⟨g, cap, cur, hv, hge, hr⟩⟩ := h
 ·
  exact ⟨hl, Or.inl h0⟩
 ·
  exact ⟨hl, Or.inr ⟨g, cap, cur, hv, by omega, hr⟩⟩
theorem rel_grown {B : Nat} {W0 wx w1 : World} {v : Value} {n : Nat} {xs : List Value} (hB : Below B W0 wx) (hsz : B ≤ wx.heap.size) (hown : wx.ownsRow B 123 4 v n xs) (hg : wx.grownBy w1 v.ownBlock) :
  Below B W0 w1 := hB.grown hg hsz (fun k hk => by
  obtain ⟨_, ⟨rfl, _⟩ | ⟨g, cap, cur, rfl, hge, _⟩⟩ := hown
  ·
   simp [Value.ownBlock] at hk
  ·
   simp [Value.ownBlock] at hk; omega)
theorem tokens_long (s : ByteArray) (w : World) (hs : 3000 < s.size) :
  Calls Tryz.prog 50 #[.string s] w fun e w' => e = .returned (.tuple #[.slice none 0 0, .iface 23 (.int .i64 4)]) ∧ w' = w := by
 go_enter Tryz.func50, Tryz.ntmps50
 go_wp2
 go_ret2
 exact ⟨rfl, rfl⟩
theorem tokens_any (ws gs : List ByteArray) (s : ByteArray) (w : World) (hs : s.size ≤ 3000) (hL : Lists ws gs w) (hgs : ∀ g ∈ gs, 1 ≤ g.size) :
  Calls Tryz.prog 50 #[.string s] w (TPost (zkz ws gs s (zz3 gapB s 0) []) w) := by
 obtain ⟨i0, hi, hz0, hz1, hz2⟩ := info_parts info35
 obtain ⟨r, hr⟩ : ∃ r, zkz ws gs s (zz3 gapB s 0) [] = r := ⟨_, rfl⟩
 have HR := qh hr
 rw [hr]
 have HL := qh hL
 have HGS := qh hgs
 clear hr hL hgs
 go_enter Tryz.func50, Tryz.ntmps50
 go_wp2_with fail
 refine (among_any _ _).mono ?_
 rintro e1 w1 ⟨x, rfl, hx, hbel⟩
 have HX := qh (hx.congr inB_gap)
 have HBEL := qh hbel
 clear hx hbel
 go_wp2_with fail
 refine (zhk s 0 x gapB w1 (by unfold maxLen; omega) (Nat.zero_le _) HX.out).mono ?_
 rintro e2 w2 ⟨rfl, rfl⟩
 have hp0 := zwj gapB s 0 (Nat.zero_le _)
 obtain ⟨p0, hp⟩ : ∃ p0, zz3 gapB s 0 = p0 := ⟨_, rfl⟩
 rw [hp] at hp0 ⊢
 have HR2 : Hid (zkz ws gs s p0 [] = r) := by show _ = _; rw [← hp]; exact zzz HR
 clear hp HR
 go_wp2_with fail
 go_loopw [5, 6, 7, 8, 9] (fun v i _ _ _ wr => ∃ (j : Nat) (acc : List Tk), j ≤ s.size ∧ acc.length ≤ j ∧ i = .int .i64 j ∧ zkz ws gs s j acc = r ∧ wr.ownsRow w2.heap.size 123 4 v acc.length (zj1 acc) ∧ Below w2.heap.size w2 wr ∧ w2.heap.size ≤ wr.heap.size) (fun _ i _ _ _ _ => s.size - (intOf i).toNat)
 case atStart => exact ⟨p0, [], hp0, by simp, rfl, HR2.out, World.ownsRow_nil _ _ _ _, Below.refl _ _, Nat.le_refl _⟩
 case round =>
  obtain ⟨j, acc, hj, hal, rfl, he, hown, hB, hsz⟩ := hrel; have HE := qh he; have HOWN := qh hown; have HB := qh hB; clear he hown hB HR2; have hLr := (HL.out.later HBEL.out).later HB.out; have HLR := qh hLr
  clear hLr
  by_cases hlt : j < s.size
  ·
   cases hrd : zj9 ws gs s j with
   | tok kd tx n e =>
    have hb := zdq ws gs s j kd n tx e hlt HGS.out hrd; have HST := qh ((zwq ws gs s j acc kd n tx e hlt hrd hb.1).symm.trans HE.out); have HRD := qh hrd; obtain ⟨hb1, hb2⟩ := hb; clear hrd HE
    go_wp2_with fail; have hread := read_any ws gs s j wr hs hlt HLR.out; rw [HRD.out] at hread; refine cm hread ?_; clear hread; rintro e3 w3 ⟨rfl, hb3⟩; have hB3 := HB.out.trans (hb3.mono hsz); have HB3 := qh hB3
    have HOWN3 := qh (owns_below hb3 HOWN.out); have hsz3 : w2.heap.size ≤ w3.heap.size := hB3.size; clear hb3 hB3
    go_wp2_with (at_builtin; refine wpList_append_own _ rfl _ _ 72 rfl w2.heap.size 123 i0 zw1 4 40 Tryz.underlying72 hi hz0 hz1 hz2 rfl (by decide) _ _ _ rfl ((HOWN3.out.alloc _).alloc _) ⟨w3.heap.size + 1, 0, none⟩ 1 1 [.int .i64 kd, .string tx, .int .i64 n, .int .i64 (j : Int)] rfl rfl ?c1 ?c2 ?c3 ?c4 ?c5 ?_)
    case c1 =>
     intro j u hj
     match j, hj with
     | 0, hj => simp at hj; subst hj; simp [Addr.add]
     | 1, hj => simp at hj; subst hj; simp [Addr.add]
     | 2, hj => simp at hj; subst hj; simp [Addr.add]
     | 3, hj => simp at hj; subst hj; simp [Addr.add]
    case c2 =>
     intro u hu; simp only [List.mem_cons, List.not_mem_nil, or_false] at hu
     rcases hu with rfl | rfl | rfl | rfl <;> rfl
    case c3 => unfold maxLen; omega
    case c4 => omega
    case c5 => simp; omega
    intro v' w5 hown' hgrow _; have hB5 := rel_grown ((HB3.out.alloc hsz3 _).alloc (by simp; omega) _) (by simp; omega) ((HOWN3.out.alloc _).alloc _) hgrow
    have HB5 := qh hB5; have HOWN5 : Hid (w5.ownsRow w2.heap.size 123 4 v' (acc ++ [Tk.mk kd tx n j]).length (zj1 (acc ++ [Tk.mk kd tx n j]))) := by
     show World.ownsRow _ _ _ _ _ _ _
     rw [zfx, List.length_append]; exact hown'
    have hge := zxz gapB s e; have hle := zwj gapB s e hb2; obtain ⟨e', he'⟩ : ∃ e', zz3 gapB s e = e' := ⟨_, rfl⟩; rw [he'] at hge hle; have HEE := qh he'; clear hown' hgrow hB5 he'; go_wp2_with fail
    have hpast := zhk s e x gapB w5 (by unfold maxLen; omega) hb2 (HX.out.later HB5.out)
    rw [HEE.out] at hpast; refine hpast.mono ?_; clear hpast; rintro e6 w6 ⟨rfl, rfl⟩; go_wp2_with fail
    go_roundw
    case rel => exact ⟨e', acc ++ [Tk.mk kd tx n j], hle, by simp; omega, rfl, by have := zzz HST; rw [HEE.out] at this; exact this, HOWN5.out, HB5.out, HB5.out.size⟩
    case measure => simp [intOf]; omega
   | bad er p =>
    have hq : r = .bad er p := by rw [← HE.out, zk3 ws gs s j acc er p hlt hrd]
    have HRD := qh hrd; clear hrd HE; subst hq; go_wp2_with fail; have hread := read_any ws gs s j wr hs hlt HLR.out; rw [HRD.out] at hread; refine cm hread ?_; clear hread; rintro e3 w3 ⟨b, rfl, hb, hlb, hb3⟩
    have HBB := qh hb; have HB3 := qh (HB.out.trans (hb3.mono hsz)); have hsz3 := Nat.le_trans hsz hb3.size; have hlb2 := Nat.le_trans hsz hlb; clear hb3 hb; go_wp2_with fail
    go_ret2
    have b1 := zzz HBEL; have b3 := zzz HB3; refine ⟨b, rfl, ?_, Nat.le_trans b1.size hlb2, (b1.trans (b3.mono b1.size)).alloc (Nat.le_trans b1.size hsz3) _⟩
    rw [Below.heap_alloc w3 _ b (Array.getElem?_eq_some_iff.1 HBB.out).1]; exact zzz HBB
  ·
   have hq : r = .ok (acc ++ [Tk.mk 6 ⟨#[]⟩ 0 s.size]) := by rw [← HE.out, zgj ws gs s j acc hlt]
   clear HE; subst hq
   go_wp2_with (at_builtin; refine wpList_append_own _ rfl _ _ 72 rfl w2.heap.size 123 i0 zw1 4 40 Tryz.underlying72 hi hz0 hz1 hz2 rfl (by decide) _ _ _ rfl (HOWN.out.alloc _) ⟨wr.heap.size, 0, none⟩ 1 1 [.int .i64 6, .string ⟨#[]⟩, .int .i64 0, .int .i64 (s.size : Int)] rfl rfl ?c1 ?c2 ?c3 ?c4 ?c5 ?_)
   case c1 =>
    intro j u hj
    match j, hj with
    | 0, hj => simp at hj; subst hj; simp [Addr.add]
    | 1, hj => simp at hj; subst hj; simp [Addr.add]
    | 2, hj => simp at hj; subst hj; simp [Addr.add]
    | 3, hj => simp at hj; subst hj; simp [Addr.add]
   case c2 =>
    intro u hu; simp only [List.mem_cons, List.not_mem_nil, or_false] at hu
    rcases hu with rfl | rfl | rfl | rfl <;> rfl
   case c3 => unfold maxLen; omega
   case c4 => omega
   case c5 => simp; omega
   intro v' w5 hown' hgrow _; have hB5 := rel_grown (HB.out.alloc hsz _) (by simp; omega) (HOWN.out.alloc _) hgrow
   have HB5 := qh hB5; have HOWN5 : Hid (w5.ownsRow w2.heap.size 123 4 v' (acc ++ [Tk.mk 6 ⟨#[]⟩ 0 s.size]).length (zj1 (acc ++ [Tk.mk 6 ⟨#[]⟩ 0 s.size]))) := by
    show World.ownsRow _ _ _ _ _ _ _
    rw [zfx, List.length_append]; exact hown'
   clear hown' hgrow hB5; go_wp2_with fail
   go_ret2
   have b1 := zzz HBEL; exact ⟨v', rfl, owns_base b1.size HOWN5.out, b1.trans (HB5.out.mono b1.size)⟩
end Go.Proofs.YtodmgaikhbmlnaaGreatDoor
namespace Go.Proofs.YtodmgaikhbmlnaaGreatDoor
inductive Tr where
 | mk (kd : Int) (tx : ByteArray) (n : Int) (kids : List Tr)
def Tr.kd : Tr → Int | .mk k _ _ _ => k
def Tr.tx : Tr → ByteArray | .mk _ t _ _ => t
def Tr.n : Tr → Int | .mk _ _ n _ => n
def Tr.kids : Tr → List Tr | .mk _ _ _ l => l
inductive PR (α : Type) where
 | ok (x : α) (i : Nat)
 | bad (er : Int) (p : Nat)
 | out
def PR.bind {α β : Type} : PR α → (α → Nat → PR β) → PR β
 | .ok x i, f => f x i
 | .bad er p, _ => .bad er p
 | .out, _ => .out
abbrev zzx : ByteArray := ⟨#[]⟩
abbrev tVar : ByteArray := ⟨#[118, 97, 114]⟩
abbrev tLet : ByteArray := ⟨#[108, 101, 116]⟩
abbrev zq1 : ByteArray := ⟨#[99, 111, 110, 115, 116]⟩
abbrev zzw : ByteArray := ⟨#[102, 117, 110, 99, 116, 105, 111, 110]⟩
abbrev tIf : ByteArray := ⟨#[105, 102]⟩
abbrev zmv : ByteArray := ⟨#[101, 108, 115, 101]⟩
abbrev zjz : ByteArray := ⟨#[119, 104, 105, 108, 101]⟩
abbrev zv4 : ByteArray := ⟨#[119, 105, 116, 104]⟩
abbrev zw6 : ByteArray := ⟨#[114, 101, 116, 117, 114, 110]⟩
abbrev zf9 : ByteArray := ⟨#[116, 104, 114, 111, 119]⟩
abbrev tTry : ByteArray := ⟨#[116, 114, 121]⟩
abbrev zj8 : ByteArray := ⟨#[99, 97, 116, 99, 104]⟩
abbrev zxq : ByteArray := ⟨#[102, 105, 110, 97, 108, 108, 121]⟩
abbrev zh1 : ByteArray := ⟨#[116, 121, 112, 101, 111, 102]⟩
abbrev zh2 : ByteArray := ⟨#[100, 101, 108, 101, 116, 101]⟩
abbrev tTrue : ByteArray := ⟨#[116, 114, 117, 101]⟩
abbrev tFalse : ByteArray := ⟨#[102, 97, 108, 115, 101]⟩
abbrev tNull : ByteArray := ⟨#[110, 117, 108, 108]⟩
abbrev tUndef : ByteArray := ⟨#[117, 110, 100, 101, 102, 105, 110, 101, 100]⟩
abbrev zxw : ByteArray := ⟨#[40]⟩
abbrev zjy : ByteArray := ⟨#[41]⟩
abbrev zz4 : ByteArray := ⟨#[123]⟩
abbrev zvv : ByteArray := ⟨#[125]⟩
abbrev zqz : ByteArray := ⟨#[59]⟩
abbrev zh8 : ByteArray := ⟨#[44]⟩
abbrev tColon : ByteArray := ⟨#[58]⟩
abbrev tDot : ByteArray := ⟨#[46]⟩
abbrev tEq : ByteArray := ⟨#[61]⟩
abbrev tOr : ByteArray := ⟨#[124, 124]⟩
abbrev tAnd : ByteArray := ⟨#[38, 38]⟩
abbrev tSame : ByteArray := ⟨#[61, 61, 61]⟩
abbrev tLess : ByteArray := ⟨#[60]⟩
abbrev tAdd : ByteArray := ⟨#[43]⟩
abbrev tSub : ByteArray := ⟨#[45]⟩
abbrev tMul : ByteArray := ⟨#[42]⟩
abbrev tNot : ByteArray := ⟨#[33]⟩
abbrev tStrict : ByteArray := ⟨#[115, 116, 114, 105, 99, 116]⟩
abbrev tUse : ByteArray := ⟨#[117, 115, 101, 32, 115, 116, 114, 105, 99, 116]⟩
structure Sg where
 tx : ByteArray
 kd : Int
 parts : Int
 str : Int
def sgs : List Sg := [⟨tOr, 25, 2, 2⟩, ⟨tAnd, 26, 2, 3⟩, ⟨tSame, 27, 2, 4⟩, ⟨tLess, 28, 2, 5⟩, ⟨tAdd, 29, 2, 6⟩, ⟨tSub, 30, 2, 6⟩, ⟨tMul, 31, 2, 7⟩, ⟨tNot, 32, 1, 8⟩, ⟨zh1, 33, 1, 8⟩, ⟨zh2, 34, 1, 8⟩, ⟨tTrue, 19, 0, 10⟩, ⟨tFalse, 20, 0, 10⟩, ⟨tNull, 21, 0, 10⟩, ⟨tUndef, 22, 0, 10⟩]
def hds : List (ByteArray × Int) := [(tVar, 2), (tLet, 3), (zq1, 4), (tIf, 7), (zjz, 8), (zv4, 9), (zw6, 10), (zf9, 11)]
def stKeys : List (ByteArray × Nat) := [(tVar, 0), (tLet, 0), (zq1, 0), (zzw, 1), (zz4, 2), (zqz, 3), (tIf, 4), (zjz, 5), (zv4, 5), (zw6, 6), (zf9, 6), (tTry, 7)]
def vlKeys : List (ByteArray × Nat) := [(zxw, 0), (zz4, 1), (zzw, 2)]
def zx1 {β : Type} (l : List (ByteArray × β)) (s : ByteArray) : Option β := (l.find? (fun e => decide (s = e.1))).map (·.2)
def sgOf (s : ByteArray) : Option Sg := sgs.find? (fun e => decide (s = e.tx))
def sgP (k : Int) (s : ByteArray) : Option Sg := (sgOf s).filter (fun e => e.parts == k)
def zvj (s : ByteArray) : Int := (zx1 hds s).getD 0
section
variable (l : List Tk)
def tkA (i : Nat) : Tk := l.getD i ⟨6, zzx, 0, 0⟩
def fx (i : Nat) : ByteArray := if (tkA l i).kd == 2 || (tkA l i).kd == 5 then (tkA l i).tx else zzx
def badF {α : Type} (er : Int) (i : Nat) : PR α := .bad er (tkA l i).pl
def zz0 (s : ByteArray) (i : Nat) : PR Unit := if fx l i = s then .ok () (i + 1) else badF l 3 i
def zjq (i : Nat) : PR ByteArray := if (tkA l i).kd = 1 then .ok (tkA l i).tx (i + 1) else badF l 3 i
def zq4 (f : Nat → Nat → PR Tr) (d i : Nat) : PR Tr := if d = 30 then badF l 4 i else f (d + 1) i
def zw8 (i : Nat) : Bool := (tkA l i).kd == 1
def isVal (i : Nat) : Bool := (tkA l i).kd == 1 || (tkA l i).kd == 3 || (tkA l i).kd == 4 || (zx1 vlKeys (fx l i)).isSome || ((sgOf (fx l i)).filter (fun e => decide (e.parts < 2))).isSome
structure Fns where
 fuel : Nat
 st : Nat → Nat → PR Tr
 vl : Nat → Nat → PR Tr
 pr : Int → Nat → Nat → PR Tr
 sg : Nat → Nat → PR Tr
def noFns : Fns := ⟨0, fun _ _ => .out, fun _ _ => .out, fun _ _ _ => .out, fun _ _ => .out⟩
def zvk (shut : ByteArray) (begins : Nat → Bool) (part : Nat → PR Tr) : Nat → List Tr → Nat → PR (List Tr)
 | 0, _, _ => .out
 | k + 1, acc, i => if acc.length = 8 ∧ begins i = true then badF l 4 i else
  (part i).bind fun t i1 => if fx l i1 = shut then .ok (acc ++ [t]) (i1 + 1) else
   (zz0 l zh8 i1).bind fun _ i2 => zvk shut begins part k (acc ++ [t]) i2
def znz (opn shut : ByteArray) (begins : Nat → Bool) (part : Nat → PR Tr) (k i : Nat) : PR (List Tr) :=
 (zz0 l opn i).bind fun _ i1 => if fx l i1 = shut then .ok [] (i1 + 1) else zvk l shut begins part k [] i1
def zh0 : Tr → Tr
 | .mk kd tx n (.mk k1 t1 n1 (.mk k2 t2 n2 l2 :: r1) :: r) => .mk kd (if k1 = 15 ∧ k2 = 18 ∧ t2 = tUse then tStrict else tx) n (.mk k1 t1 n1 (.mk k2 t2 n2 l2 :: r1) :: r)
 | t => t
def zx7 (F : Fns) (d : Nat) : Nat → List Tr → Nat → PR (List Tr)
 | 0, _, _ => .out
 | k + 1, acc, i => if fx l i = zvv then .ok acc (i + 1) else
  (zq4 l F.st d i).bind fun t i1 => zx7 F d k (acc ++ [t]) i1
def zq2 (F : Fns) (d i : Nat) : PR Tr :=
 (zz0 l zz4 i).bind fun _ i1 => (zx7 l F d F.fuel [] i1).bind fun ts i2 => .ok (.mk 6 zzx 0 ts) i2
def zbz (i : Nat) : PR Tr := (zjq l i).bind fun s i1 => .ok (.mk 23 s 0 []) i1
def zy1 (F : Fns) (i : Nat) : PR Tr := (znz l zxw zjy (zw8 l) (zbz l) F.fuel i).bind fun ts i1 => .ok (.mk 40 zzx 0 ts) i1
def argP (F : Fns) (d i : Nat) : PR Tr := zq4 l F.vl d i
def zf2 (F : Fns) (d i : Nat) : PR Tr :=
 (zjq l i).bind fun s i1 => (zz0 l tColon i1).bind fun _ i2 => (zq4 l F.vl d i2).bind fun t i3 => .ok (.mk 39 s 0 [t]) i3
def zv8 (F : Fns) (d i : Nat) : PR Tr :=
 (zz0 l zxw i).bind fun _ i1 => (zq4 l F.vl d i1).bind fun t i2 => (zz0 l zjy i2).bind fun _ i3 => .ok t i3
def zf3 (F : Fns) (d i : Nat) : PR Tr :=
 (znz l zz4 zvv (zw8 l) (zf2 l F d) F.fuel i).bind fun ts i1 => .ok (.mk 38 zzx 0 ts) i1
def zw3 (F : Fns) (kd : Int) (s : ByteArray) (d i : Nat) : PR Tr :=
 (zy1 l F i).bind fun ps i1 => (zq2 l F d i1).bind fun b i2 => .ok (.mk kd s 0 [ps, zh0 b]) i2
def zf5 (F : Fns) (d i : Nat) : PR Tr :=
 (zz0 l zzw i).bind fun _ i1 => if zw8 l i1 = true then (zjq l i1).bind fun s i2 => zw3 l F 37 s d i2 else zw3 l F 37 zzx d i1
def funcP (F : Fns) (d i : Nat) : PR Tr :=
 (zz0 l zzw i).bind fun _ i1 => (zjq l i1).bind fun s i2 => zw3 l F 5 s d i2
def zbq (F : Fns) (d i : Nat) : PR Tr :=
 match zx1 vlKeys (fx l i) with
 | some 0 => zv8 l F d i
 | some 1 => zf3 l F d i
 | some _ => zf5 l F d i
 | none =>
  match sgP 0 (fx l i) with
  | some s => .ok (.mk s.kd zzx 0 []) (i + 1)
  | none =>
   if (tkA l i).kd = 1 then .ok (.mk 23 (tkA l i).tx 0 []) (i + 1)
   else if (tkA l i).kd = 4 then .ok (.mk 18 (tkA l i).tx 0 []) (i + 1)
   else if (tkA l i).kd = 3 then .ok (.mk 17 zzx (tkA l i).n []) (i + 1)
   else badF l 3 i
def zwy (F : Fns) (d : Nat) : Nat → Tr → Nat → PR Tr
 | 0, _, _ => .out
 | k + 1, t, i =>
  if fx l i = tDot then (zjq l (i + 1)).bind fun s i1 => zwy F d k (.mk 36 s 0 [t]) i1
  else if fx l i = zxw then (znz l zxw zjy (isVal l) (argP l F d) F.fuel i).bind fun ts i1 => zwy F d k (.mk 35 zzx 0 (t :: ts)) i1
  else .ok t i
def zfz (F : Fns) (d i : Nat) : PR Tr := (zbq l F d i).bind fun t i1 => zwy l F d F.fuel t i1
def zfk (F : Fns) (d i : Nat) : PR Tr :=
 match sgP 1 (fx l i) with
 | some s => (zq4 l F.sg d (i + 1)).bind fun t i1 => .ok (.mk s.kd zzx 0 [t]) i1
 | none => zfz l F d i
def zvq (F : Fns) (least : Int) (d : Nat) : Nat → Tr → Nat → PR Tr
 | 0, _, _ => .out
 | k + 1, t, i =>
  match sgP 2 (fx l i) with
  | none => .ok t i
  | some s => if s.str < least then .ok t i else (F.pr (s.str + 1) d (i + 1)).bind fun u i1 => zvq F least d k (.mk s.kd zzx 0 [t, u]) i1
def pairP (F : Fns) (least : Int) (d i : Nat) : PR Tr := (F.sg d i).bind fun t i1 => zvq l F least d F.fuel t i1
def zdv (F : Fns) (d i : Nat) : PR Tr :=
 (F.pr 2 d i).bind fun t i1 => if fx l i1 = tEq then
   (if t.kd = 23 ∨ t.kd = 36 then (zq4 l F.vl d (i1 + 1)).bind fun v i2 => .ok (.mk 24 zzx 0 [t, v]) i2 else badF l 1 i)
  else .ok t i1
def zgq (F : Fns) (d i : Nat) : PR Tr :=
 (zjq l (i + 1)).bind fun s i1 =>
  if zvj (tkA l i).tx = 4 ∧ ¬ fx l i1 = tEq then badF l 3 i1
  else if fx l i1 = tEq then (zq4 l F.vl d (i1 + 1)).bind fun v i2 => (zz0 l zqz i2).bind fun _ i3 => .ok (.mk (zvj (tkA l i).tx) s 0 [v]) i3
  else (zz0 l zqz i1).bind fun _ i2 => .ok (.mk (zvj (tkA l i).tx) s 0 []) i2
def zv3 (F : Fns) (d i : Nat) : PR Tr :=
 (zv8 l F d (i + 1)).bind fun v i1 => (zq4 l F.st d i1).bind fun s i2 => .ok (.mk (zvj (tkA l i).tx) zzx 0 [v, s]) i2
def zy5 (F : Fns) (d i : Nat) : PR Tr :=
 (zv8 l F d (i + 1)).bind fun v i1 => (zq4 l F.st d i1).bind fun s i2 =>
  if fx l i2 = zmv then (zq4 l F.st d (i2 + 1)).bind fun s2 i3 => .ok (.mk (zvj (tkA l i).tx) zzx 0 [v, s, s2]) i3
  else .ok (.mk (zvj (tkA l i).tx) zzx 0 [v, s]) i2
def zyx (F : Fns) (d i : Nat) : PR Tr :=
 if zvj (tkA l i).tx = 11 ∨ ¬ fx l (i + 1) = zqz then (zq4 l F.vl d (i + 1)).bind fun v i1 => (zz0 l zqz i1).bind fun _ i2 => .ok (.mk (zvj (tkA l i).tx) zzx 0 [v]) i2
 else (zz0 l zqz (i + 1)).bind fun _ i2 => .ok (.mk (zvj (tkA l i).tx) zzx 0 []) i2
def zy6 (F : Fns) (d i : Nat) : PR (List Tr) :=
 if fx l i = zj8 then (zz0 l zxw (i + 1)).bind fun _ i1 => (zjq l i1).bind fun s i2 => (zz0 l zjy i2).bind fun _ i3 => (zq2 l F d i3).bind fun b i4 => .ok [.mk 13 s 0 [b]] i4
 else .ok [] i
def zx0 (F : Fns) (d i : Nat) : PR (List Tr) :=
 if fx l i = zxq then (zq2 l F d (i + 1)).bind fun b i1 => .ok [.mk 14 zzx 0 [b]] i1
 else .ok [] i
def zw4 (F : Fns) (d i : Nat) : PR Tr :=
 (zz0 l tTry i).bind fun _ i0 => (zq2 l F d i0).bind fun b i1 => (zy6 l F d i1).bind fun c i2 => (zx0 l F d i2).bind fun f i3 =>
  if c.length + f.length = 0 then badF l 3 i3 else .ok (.mk 12 zzx 0 (b :: (c ++ f))) i3
def zp4 (F : Fns) (d i : Nat) : PR Tr := (zq4 l F.vl d i).bind fun v i1 => (zz0 l zqz i1).bind fun _ i2 => .ok (.mk 15 zzx 0 [v]) i2
def partP (F : Fns) (d : Nat) : Nat → Nat → PR Tr
 | 0 => zgq l F d
 | 1 => funcP l F d
 | 2 => zq2 l F d
 | 3 => fun i => (zz0 l zqz i).bind fun _ i1 => .ok (.mk 16 zzx 0 []) i1
 | 4 => zy5 l F d
 | 5 => zv3 l F d
 | 6 => zyx l F d
 | _ => zw4 l F d
def zvw (F : Fns) (d i : Nat) : PR Tr :=
 match zx1 stKeys (fx l i) with
 | some q => partP l F d q i
 | none => zp4 l F d i
def fns : Nat → Fns
 | 0 => noFns
 | k + 1 => ⟨k, zvw l (fns k), zdv l (fns k), pairP l (fns k), zfk l (fns k)⟩
def zjv (F : Fns) : Nat → List Tr → Nat → PR (List Tr)
 | 0, _, _ => .out
 | k + 1, acc, i => if (tkA l i).kd = 6 then .ok acc i else
  (zq4 l F.st 0 i).bind fun t i1 => zjv F k (acc ++ [t]) i1
def zh5 (F : Fns) : PR Tr := (zjv l F F.fuel [] 0).bind fun ts i => .ok (zh0 (.mk 1 zzx 0 ts)) i
end
mutual
def Tr.count : Tr → Nat
 | .mk _ _ _ ks => 1 + Tr.counts ks
def Tr.counts : List Tr → Nat
 | [] => 0
 | t :: ts => t.count + Tr.counts ts
end
end Go.Proofs.YtodmgaikhbmlnaaGreatDoor
namespace Go.Proofs.YtodmgaikhbmlnaaGreatDoor
def Nx {α : Type} (q : Prop) (L a : Nat) (r : PR α) : Prop := (q → r ≠ .out) ∧ ∀ x j, r = .ok x j → a ≤ j ∧ j < L
theorem Nx.ok {α : Type} {q : Prop} {L a i : Nat} {x : α} (h1 : a ≤ i) (h2 : i < L) : Nx q L a (.ok x i) :=
 ⟨fun _ h => by (cases h), fun _ _ h => by cases h; exact ⟨h1, h2⟩⟩
theorem Nx.bad {α : Type} {q : Prop} {L a : Nat} {er : Int} {p : Nat} : Nx (α := α) q L a (.bad er p) :=
 ⟨fun _ h => by (cases h), fun _ _ h => by (cases h)⟩
theorem Nx.badF {α : Type} {q : Prop} {L a : Nat} {l : List Tk} {er : Int} {i : Nat} : Nx (α := α) q L a (badF l er i) := Nx.bad
theorem Nx.bind {α β : Type} {q : Prop} {L a b : Nat} {r : PR α} {f : α → Nat → PR β} (h : Nx q L a r) (hf : ∀ x j, a ≤ j → j < L → Nx q L b (f x j)) : Nx q L b (r.bind f) := by
 cases r with
 | ok x j => exact hf x j (h.2 x j rfl).1 (h.2 x j rfl).2
 | bad er p => exact Nx.bad
 | out => exact ⟨fun hq => absurd rfl (h.1 hq), fun _ _ h => by cases h⟩
theorem Nx.imp {α : Type} {q q' : Prop} {L a : Nat} {r : PR α} (h : Nx q L a r) (hq : q' → q) : Nx q' L a r := ⟨fun x => h.1 (hq x), h.2⟩
theorem Nx.le {α : Type} {q : Prop} {L a b : Nat} {r : PR α} (h : Nx q L a r) (hb : b ≤ a) : Nx q L b r := ⟨h.1, fun x j e => ⟨Nat.le_trans hb (h.2 x j e).1, (h.2 x j e).2⟩⟩
def Ends (l : List Tk) : Prop := ∀ i, i < l.length → ((tkA l i).kd = 6 ↔ i + 1 = l.length)
section
variable {l : List Tk} (hE : Ends l)
include hE
theorem zk7 {i : Nat} (hi : i < l.length) (h : (tkA l i).kd ≠ 6) : i + 1 < l.length := by
 have := mt (hE i hi).2 h
 omega
theorem zbj {i : Nat} {s : ByteArray} (hi : i < l.length) (h : fx l i = s) (hs : s ≠ zzx) : i + 1 < l.length := by
 refine zk7 hE hi fun h6 => hs ?_
 rw [← h, fx, h6]
 rfl
theorem look2_lt {β : Type} {ks : List (ByteArray × β)} {x : β} {i : Nat} (hi : i < l.length) (h : zx1 ks (fx l i) = some x) (h0 : zx1 ks zzx = none) : i + 1 < l.length := by
 refine zbj hE hi rfl fun h1 => ?_
 rw [h1, h0] at h
 cases h
theorem sgP_lt {k : Int} {x : Sg} {i : Nat} (hi : i < l.length) (h : sgP k (fx l i) = some x) : i + 1 < l.length := by
 refine zbj hE hi rfl fun h1 => ?_
 rw [h1] at h
 have : sgP k zzx = none := by
  have : sgOf zzx = none := by decide
  simp [sgP, this]
 rw [this] at h
 cases h
theorem zjw {q : Prop} {s : ByteArray} {i : Nat} (hi : i < l.length) (hs : s ≠ zzx) : Nx q l.length (i + 1) (zz0 l s i) := by
 unfold zz0
 split
 ·
  exact Nx.ok qv (zbj hE hi ‹_› hs)
 ·
  exact Nx.badF
theorem zy2 {q : Prop} {i : Nat} (hi : i < l.length) : Nx q l.length (i + 1) (zjq l i) := by
 unfold zjq
 split
 ·
  rename_i h
  exact Nx.ok qv (zk7 hE hi (by rw [h]; decide))
 ·
  exact Nx.badF
omit hE in
theorem zk1 {q : Prop} {f : Nat → Nat → PR Tr} {d i : Nat} (h : Nx q l.length (i + 1) (f (d + 1) i)) : Nx q l.length (i + 1) (zq4 l f d i) := by
 unfold zq4
 split
 ·
  exact Nx.badF
 ·
  exact h
theorem listLoop_nx {q : Prop} {shut : ByteArray} {begins : Nat → Bool} {part : Nat → PR Tr} {I : Nat} (hs : shut ≠ zzx) (hp : ∀ i, I ≤ i → i < l.length → Nx q l.length (i + 1) (part i)) :
  ∀ k acc i, I ≤ i → i < l.length → Nx (q ∧ l.length - i < k) l.length (i + 1) (zvk l shut begins part k acc i) := by
 intro k
 induction k with
 | zero => intro acc i _ _; exact ⟨fun h => absurd h.2 (by omega), fun _ _ h => by (cases h)⟩
 | succ k ih =>
  intro acc i hI hi; unfold zvk
  split
  ·
   exact Nx.badF
  ·
   refine Nx.bind ((hp i hI hi).imp And.left) fun t j h1 h2 => ?_
   split
   ·
    exact Nx.ok (by omega) (zbj hE h2 ‹_› hs)
   ·
    refine Nx.bind (zjw hE h2 (by decide)) fun _ j2 h3 h4 => ?_; exact ((ih _ j2 (by omega) h4).le (by omega)).imp fun h => ⟨h.1, by omega⟩
theorem zp7 {q : Prop} {opn shut : ByteArray} {begins : Nat → Bool} {part : Nat → PR Tr} {k i : Nat} (hi : i < l.length) (ho : opn ≠ zzx) (hs : shut ≠ zzx) (hq : q → l.length - i ≤ k) (hp : ∀ j, i < j → j < l.length → Nx q l.length (j + 1) (part j)) :
  Nx q l.length (i + 1) (znz l opn shut begins part k i) := by
 unfold znz
 refine Nx.bind (zjw hE hi ho) fun _ j h1 h2 => ?_
 split
 ·
  exact Nx.ok (by omega) (zbj hE h2 ‹_› hs)
 ·
  exact ((listLoop_nx hE hs (I := i + 1) (fun j h3 h4 => hp j h3 h4) k [] j h1 h2).le (by omega)).imp fun h => ⟨h, by have := hq h; omega⟩
structure FNx (l : List Tk) (k : Nat) (F : Fns) : Prop where
 fuel : F.fuel = k - 1
 st : ∀ d i, i < l.length → Nx (8 * (l.length - i) + 3 < k) l.length (i + 1) (F.st d i)
 vl : ∀ d i, i < l.length → Nx (8 * (l.length - i) + 2 < k) l.length (i + 1) (F.vl d i)
 pr : ∀ b d i, i < l.length → Nx (8 * (l.length - i) + 1 < k) l.length (i + 1) (F.pr b d i)
 sg : ∀ d i, i < l.length → Nx (8 * (l.length - i) < k) l.length (i + 1) (F.sg d i)
variable {k : Nat} {F : Fns} (hF : FNx l k F)
include hF
theorem blockLoop_nx {q : Prop} {I : Nat} (hq : q → 8 * (l.length - I) ≤ k + 4) : ∀ n d acc i, I < i → i < l.length → Nx (q ∧ l.length - i < n) l.length (i + 1) (zx7 l F d n acc i) := by
 intro n
 induction n with
 | zero => intro d acc i _ _; exact ⟨fun h => absurd h.2 (by omega), fun _ _ h => by (cases h)⟩
 | succ n ih =>
  intro d acc i hI hi; unfold zx7
  split
  ·
   exact Nx.ok (by omega) (zbj hE hi ‹_› (by decide))
  ·
   refine Nx.bind (zk1 ((hF.st (d + 1) i hi).imp fun h => ?_)) fun t j h1 h2 => ((ih d _ j (by omega) h2).le (by omega)).imp fun h => ⟨h.1, by omega⟩; have := hq h.1; omega
theorem zb6 {q : Prop} {d i : Nat} (hi : i < l.length) (hq : q → 8 * (l.length - i) ≤ k + 4) : Nx q l.length (i + 1) (zq2 l F d i) := by
 unfold zq2
 refine Nx.bind (zjw hE hi (by decide)) fun _ j h1 h2 => ?_
 refine Nx.bind (((blockLoop_nx hE hF hq F.fuel d [] j (by omega) h2).le (b := j) (by omega)).imp fun h => ⟨h, ?_⟩) fun ts j2 h3 h4 => Nx.ok (by omega) h4
 have := hq h
 rw [hF.fuel]
 omega
omit hF in
theorem paramP_nx {q : Prop} {i : Nat} (hi : i < l.length) : Nx q l.length (i + 1) (zbz l i) := by
 unfold zbz
 exact Nx.bind (zy2 hE hi) fun s j h1 h2 => Nx.ok h1 h2
theorem paramsP_nx {q : Prop} {i : Nat} (hi : i < l.length) (hq : q → 8 * (l.length - i) ≤ k + 4) : Nx q l.length (i + 1) (zy1 l F i) := by
 unfold zy1
 refine Nx.bind (zp7 hE hi (by decide) (by decide) (fun h => ?_) fun j _ h => paramP_nx hE h) fun ts j h1 h2 => Nx.ok h1 h2
 have := hq h
 rw [hF.fuel]; omega
omit hE in
theorem argP_nx {q : Prop} {d i : Nat} (hi : i < l.length) (hq : q → 8 * (l.length - i) + 2 < k) : Nx q l.length (i + 1) (argP l F d i) := zk1 ((hF.vl _ _ hi).imp hq)
theorem propP_nx {q : Prop} {d i : Nat} (hi : i < l.length) (hq : q → 8 * (l.length - i) ≤ k + 4) : Nx q l.length (i + 1) (zf2 l F d i) := by
 unfold zf2
 refine Nx.bind (zy2 hE hi) fun s j h1 h2 => ?_
 refine Nx.bind (zjw hE h2 (by decide)) fun _ j2 h3 h4 => ?_
 exact Nx.bind (zk1 ((hF.vl _ _ h4).imp fun h => by have := hq h; omega)) fun t j3 h5 h6 => Nx.ok (by omega) h6
theorem znq {q : Prop} {d i : Nat} (hi : i < l.length) (hq : q → 8 * (l.length - i) ≤ k + 4) : Nx q l.length (i + 1) (zv8 l F d i) := by
 unfold zv8
 refine Nx.bind (zjw hE hi (by decide)) fun _ j2 h3 h4 => ?_
 refine Nx.bind (zk1 ((hF.vl _ _ h4).imp fun h => by have := hq h; omega)) fun t j3 h5 h6 => ?_
 exact Nx.bind (zjw hE h6 (by decide)) fun _ j4 h7 h8 => Nx.ok (by omega) h8
theorem objectP_nx {q : Prop} {d i : Nat} (hi : i < l.length) (hq : q → 8 * (l.length - i) ≤ k + 4) : Nx q l.length (i + 1) (zf3 l F d i) := by
 unfold zf3
 refine Nx.bind (zp7 hE hi (by decide) (by decide) (fun h => ?_) fun j h1 h => propP_nx hE hF h fun hh => by have := hq hh; omega) fun ts j h1 h2 => Nx.ok h1 h2
 have := hq h
 rw [hF.fuel]; omega
theorem zm1 {q : Prop} {kd : Int} {s : ByteArray} {d i : Nat} (hi : i < l.length) (hq : q → 8 * (l.length - i) ≤ k + 4) : Nx q l.length (i + 1) (zw3 l F kd s d i) := by
 unfold zw3
 refine Nx.bind (paramsP_nx hE hF hi hq) fun ps j h1 h2 => ?_
 exact Nx.bind (zb6 hE hF h2 fun h => by have := hq h; omega) fun b j2 h3 h4 => Nx.ok (by omega) h4
theorem lambdaP_nx {q : Prop} {d i : Nat} (hi : i < l.length) (hq : q → 8 * (l.length - i) ≤ k + 4) : Nx q l.length (i + 1) (zf5 l F d i) := by
 unfold zf5
 refine Nx.bind (zjw hE hi (by decide)) fun _ j h1 h2 => ?_
 split
 ·
  refine Nx.bind (zy2 hE h2) fun s j2 h3 h4 => ?_; exact (zm1 hE hF h4 fun h => by have := hq h; omega).le (by omega)
 ·
  exact (zm1 hE hF h2 fun h => by have := hq h; omega).le (by omega)
theorem funcP_nx {q : Prop} {d i : Nat} (hi : i < l.length) (hq : q → 8 * (l.length - i) ≤ k + 4) : Nx q l.length (i + 1) (funcP l F d i) := by
 unfold funcP
 refine Nx.bind (zjw hE hi (by decide)) fun _ j h1 h2 => ?_
 refine Nx.bind (zy2 hE h2) fun s j2 h3 h4 => ?_
 exact (zm1 hE hF h4 fun h => by have := hq h; omega).le (by omega)
theorem aloneP_nx {q : Prop} {d i : Nat} (hi : i < l.length) (hq : q → 8 * (l.length - i) ≤ k + 4) : Nx q l.length (i + 1) (zbq l F d i) := by
 unfold zbq
 split
 ·
  exact znq hE hF hi hq
 ·
  exact objectP_nx hE hF hi hq
 ·
  exact lambdaP_nx hE hF hi hq
 ·
  split
  ·
   rename_i s hs
   exact Nx.ok qv (sgP_lt hE hi hs)
  ·
   split
   ·
    rename_i h; exact Nx.ok qv (zk7 hE hi (by rw [h]; decide))
   ·
    split
    ·
     rename_i h; exact Nx.ok qv (zk7 hE hi (by rw [h]; decide))
    ·
     split
     ·
      rename_i h; exact Nx.ok qv (zk7 hE hi (by rw [h]; decide))
     ·
      exact Nx.badF
theorem askedLoop_nx {q : Prop} {I : Nat} (hq : q → 8 * (l.length - I) ≤ k + 4) : ∀ n d t i, I < i → i < l.length → Nx (q ∧ l.length - i < n) l.length i (zwy l F d n t i) := by
 intro n
 induction n with
 | zero => intro d acc i _ _; exact ⟨fun h => absurd h.2 (by omega), fun _ _ h => by (cases h)⟩
 | succ n ih =>
  intro d t i hI hi; unfold zwy
  split
  ·
   have h0 := zbj hE hi ‹_› (by decide); exact Nx.bind (zy2 hE h0) fun s j h1 h2 => ((ih d _ j (by omega) h2).le (by omega)).imp fun h => ⟨h.1, by omega⟩
  ·
   split
   ·
    refine Nx.bind (zp7 hE hi (by decide) (by decide) (fun h => ?_) fun j h1 h => argP_nx hF h fun hh => by have := hq hh.1; omega) fun ts j h1 h2 => ((ih d _ j (by omega) h2).le (by omega)).imp fun h => ⟨h.1, by omega⟩
    have := hq h.1; rw [hF.fuel]; omega
   ·
    exact Nx.ok qv hi
theorem askedP_nx {q : Prop} {d i : Nat} (hi : i < l.length) (hq : q → 8 * (l.length - i) ≤ k + 4) : Nx q l.length (i + 1) (zfz l F d i) := by
 unfold zfz
 refine Nx.bind (aloneP_nx hE hF hi hq) fun t j h1 h2 => ((askedLoop_nx hE hF hq F.fuel d t j (by omega) h2).le (by omega)).imp fun h => ⟨h, ?_⟩
 have := hq h
 rw [hF.fuel]; omega
theorem singleP_nx {d i : Nat} (hi : i < l.length) : Nx (8 * (l.length - i) < k + 1) l.length (i + 1) (zfk l F d i) := by
 unfold zfk
 split
 ·
  rename_i s hs
  have h0 := sgP_lt hE hi hs; exact Nx.bind (zk1 ((hF.sg _ _ h0).imp fun h => by omega)) fun t j h1 h2 => Nx.ok (by omega) h2
 ·
  exact askedP_nx hE hF hi fun h => by omega
theorem pairLoop_nx {q : Prop} {I : Nat} (hq : q → 8 * (l.length - I) ≤ k + 4) : ∀ n b d t i, I < i → i < l.length → Nx (q ∧ l.length - i < n) l.length i (zvq l F b d n t i) := by
 intro n
 induction n with
 | zero => intro b d acc i _ _; exact ⟨fun h => absurd h.2 (by omega), fun _ _ h => by (cases h)⟩
 | succ n ih =>
  intro b d t i hI hi; unfold zvq
  split
  ·
   exact Nx.ok qv hi
  ·
   rename_i s hs
   have h0 := sgP_lt hE hi hs
   split
   ·
    exact Nx.ok qv hi
   ·
    refine Nx.bind ((hF.pr _ _ _ h0).imp fun h => ?_) fun u j h1 h2 => ((ih b d _ j (by omega) h2).le (by omega)).imp fun h => ⟨h.1, by omega⟩; have := hq h.1; omega
theorem pairP_nx {b : Int} {d i : Nat} (hi : i < l.length) : Nx (8 * (l.length - i) + 1 < k + 1) l.length (i + 1) (pairP l F b d i) := by
 unfold pairP
 refine Nx.bind ((hF.sg _ _ hi).imp fun h => by omega) fun t j h1 h2 => ((pairLoop_nx hE hF (I := i) (q := 8 * (l.length - i) + 1 < k + 1) (fun h => by omega) F.fuel b d t j (by omega) h2).le (by omega)).imp fun h => ⟨h, ?_⟩
 rw [hF.fuel]; omega
theorem valueP_nx {d i : Nat} (hi : i < l.length) : Nx (8 * (l.length - i) + 2 < k + 1) l.length (i + 1) (zdv l F d i) := by
 unfold zdv
 refine Nx.bind ((hF.pr _ _ _ hi).imp fun h => by omega) fun t j h1 h2 => ?_
 split
 ·
  have h0 := zbj hE h2 ‹_› (by decide)
  split
  ·
   exact Nx.bind (zk1 ((hF.vl _ _ h0).imp fun h => by omega)) fun v j2 h3 h4 => Nx.ok (by omega) h4
  ·
   exact Nx.badF
 ·
  exact Nx.ok h1 h2
theorem exprP_nx {q : Prop} {d i : Nat} (hi : i < l.length) (hq : q → 8 * (l.length - i) + 2 < k) : Nx q l.length (i + 1) (zp4 l F d i) := by
 unfold zp4
 refine Nx.bind (zk1 ((hF.vl _ _ hi).imp hq)) fun v j h1 h2 => ?_
 exact Nx.bind (zjw hE h2 (by decide)) fun _ j2 h3 h4 => Nx.ok (by omega) h4
theorem declP_nx {q : Prop} {d i : Nat} (hi : i + 1 < l.length) (hq : q → 8 * (l.length - i) ≤ k + 4) : Nx q l.length (i + 1) (zgq l F d i) := by
 unfold zgq
 refine Nx.bind (zy2 hE hi) fun s j h1 h2 => ?_
 split
 ·
  exact Nx.badF
 ·
  split
  ·
   have h0 := zbj hE h2 ‹_› (by decide); refine Nx.bind (zk1 ((hF.vl _ _ h0).imp fun h => by have := hq h; omega)) fun v j2 h3 h4 => ?_
   exact Nx.bind (zjw hE h4 (by decide)) fun _ j3 h5 h6 => Nx.ok (by omega) h6
  ·
   exact Nx.bind (zjw hE h2 (by decide)) fun _ j3 h5 h6 => Nx.ok (by omega) h6
theorem behindP_nx {q : Prop} {d i : Nat} (hi : i + 1 < l.length) (hq : q → 8 * (l.length - i) ≤ k + 4) : Nx q l.length (i + 1) (zv3 l F d i) := by
 unfold zv3
 refine Nx.bind (znq hE hF hi fun h => by have := hq h; omega) fun v j h1 h2 => ?_
 exact Nx.bind (zk1 ((hF.st _ _ h2).imp fun h => by have := hq h; omega)) fun v j2 h3 h4 => Nx.ok (by omega) h4
theorem choiceP_nx {q : Prop} {d i : Nat} (hi : i + 1 < l.length) (hq : q → 8 * (l.length - i) ≤ k + 4) : Nx q l.length (i + 1) (zy5 l F d i) := by
 unfold zy5
 refine Nx.bind (znq hE hF hi fun h => by have := hq h; omega) fun v j h1 h2 => ?_
 refine Nx.bind (zk1 ((hF.st _ _ h2).imp fun h => by have := hq h; omega)) fun v j2 h3 h4 => ?_
 split
 ·
  have h0 := zbj hE h4 ‹_› (by decide); exact Nx.bind (zk1 ((hF.st _ _ h0).imp fun h => by have := hq h; omega)) fun v j3 h5 h6 => Nx.ok (by omega) h6
 ·
  exact Nx.ok (by omega) h4
theorem givingP_nx {q : Prop} {d i : Nat} (hi : i + 1 < l.length) (hq : q → 8 * (l.length - i) ≤ k + 4) : Nx q l.length (i + 1) (zyx l F d i) := by
 unfold zyx
 split
 ·
  refine Nx.bind (zk1 ((hF.vl _ _ hi).imp fun h => by have := hq h; omega)) fun v j h1 h2 => ?_
  exact Nx.bind (zjw hE h2 (by decide)) fun _ j2 h3 h4 => Nx.ok (by omega) h4
 ·
  exact Nx.bind (zjw hE hi (by decide)) fun _ j2 h3 h4 => Nx.ok (by omega) h4
theorem catchP_nx {q : Prop} {d i : Nat} (hi : i < l.length) (hq : q → 8 * (l.length - i) ≤ k + 4) : Nx q l.length i (zy6 l F d i) := by
 unfold zy6
 split
 ·
  have h0 := zbj hE hi ‹_› (by decide); refine Nx.bind (zjw hE h0 (by decide)) fun _ j1 h1 h2 => ?_; refine Nx.bind (zy2 hE h2) fun _ j2 h3 h4 => ?_
  refine Nx.bind (zjw hE h4 (by decide)) fun _ j3 h5 h6 => ?_; exact Nx.bind (zb6 hE hF h6 fun h => by have := hq h; omega) fun b j4 h7 h8 => Nx.ok (by omega) h8
 ·
  exact Nx.ok qv hi
theorem finallyP_nx {q : Prop} {d i : Nat} (hi : i < l.length) (hq : q → 8 * (l.length - i) ≤ k + 4) : Nx q l.length i (zx0 l F d i) := by
 unfold zx0
 split
 ·
  have h0 := zbj hE hi ‹_› (by decide); exact Nx.bind (zb6 hE hF h0 fun h => by have := hq h; omega) fun b j4 h7 h8 => Nx.ok (by omega) h8
 ·
  exact Nx.ok qv hi
theorem attemptP_nx {q : Prop} {d i : Nat} (hi : i < l.length) (hq : q → 8 * (l.length - i) ≤ k + 4) : Nx q l.length (i + 1) (zw4 l F d i) := by
 unfold zw4
 refine Nx.bind (zjw hE hi (by decide)) fun _ j0 h h0 => ?_
 refine Nx.bind (zb6 hE hF h0 fun h => by have := hq h; omega) fun b j1 h1 h2 => ?_
 refine Nx.bind (catchP_nx hE hF h2 fun h => by have := hq h; omega) fun c j2 h3 h4 => ?_
 refine Nx.bind (finallyP_nx hE hF h4 fun h => by have := hq h; omega) fun f j3 h5 h6 => ?_
 split
 ·
  exact Nx.badF
 ·
  exact Nx.ok (by omega) h6
theorem partP_nx {q : Prop} {d i c : Nat} (hi : i + 1 < l.length) (hq : q → 8 * (l.length - i) ≤ k + 4) : Nx q l.length (i + 1) (partP l F d c i) := by
 unfold partP
 split
 ·
  exact declP_nx hE hF hi hq
 ·
  exact funcP_nx hE hF (by omega) hq
 ·
  exact zb6 hE hF (by omega) hq
 ·
  exact Nx.bind (zjw hE (by omega) (by decide)) fun _ j h1 h2 => Nx.ok h1 h2
 ·
  exact choiceP_nx hE hF hi hq
 ·
  exact behindP_nx hE hF hi hq
 ·
  exact givingP_nx hE hF hi hq
 ·
  exact attemptP_nx hE hF (by omega) hq
theorem statementP_nx {d i : Nat} (hi : i < l.length) : Nx (8 * (l.length - i) + 3 < k + 1) l.length (i + 1) (zvw l F d i) := by
 unfold zvw
 split
 ·
  rename_i c hc
  exact partP_nx hE hF (look2_lt hE hi hc (by decide)) fun h => by omega
 ·
  exact exprP_nx hE hF hi fun h => by omega
omit hF in
theorem fns_nx : ∀ k, FNx l k (fns l k) := by
 intro k
 induction k with
 | zero => exact ⟨rfl, fun _ _ _ => ⟨fun h => absurd h (by omega), fun _ _ h => by (cases h)⟩, fun _ _ _ => ⟨fun h => absurd h (by omega), fun _ _ h => by (cases h)⟩, fun _ _ _ _ => ⟨fun h => absurd h (by omega), fun _ _ h => by (cases h)⟩, fun _ _ _ => ⟨fun h => absurd h (by omega), fun _ _ h => by (cases h)⟩⟩
 | succ k ih => exact ⟨rfl, fun _ _ hi => statementP_nx hE ih hi, fun _ _ hi => valueP_nx hE ih hi, fun _ _ _ hi => pairP_nx hE ih hi, fun _ _ hi => singleP_nx hE ih hi⟩
end
end Go.Proofs.YtodmgaikhbmlnaaGreatDoor
namespace Go.Proofs.YtodmgaikhbmlnaaGreatDoor
open Go.RowKit
structure Ap (R B : Nat) (w w' : World) : Prop where
 os : w'.os = w.os
 tape : w'.tape = w.tape
 output : w'.output = w.output
 size : w.heap.size ≤ w'.heap.size
 block : ∀ k, k < B → k ≠ R → w'.heap[k]? = w.heap[k]?
theorem Ap.refl (R B : Nat) (w : World) : Ap R B w w := ⟨rfl, rfl, rfl, Nat.le_refl _, fun _ _ _ => rfl⟩
theorem Ap.of {R B : Nat} {w w' : World} (h : Below B w w') : Ap R B w w' := ⟨h.os, h.tape, h.output, h.size, fun k hk _ => h.block k hk⟩
theorem Ap.trans {R B : Nat} {a b c : World} (h : Ap R B a b) (k : Ap R B b c) : Ap R B a c :=
 ⟨k.os.trans h.os, k.tape.trans h.tape, k.output.trans h.output, Nat.le_trans h.size k.size, fun n hn hr => (k.block n hn hr).trans (h.block n hn hr)⟩
theorem Ap.mono {R B B' : Nat} {w w' : World} (h : Ap R B w w') (hB : B' ≤ B) : Ap R B' w w' := ⟨h.os, h.tape, h.output, h.size, fun k hk => h.block k (Nat.lt_of_lt_of_le hk hB)⟩
theorem Ap.next {R : Nat} {a b c : World} (h : Ap R a.heap.size a b) (k : Ap R b.heap.size b c) : Ap R a.heap.size a c := h.trans (k.mono h.size)
theorem Ap.drew {R B : Nat} {a w : World} (h : Ap R B a w) : Ap R B a w.drew := ⟨h.os, h.tape, h.output, h.size, h.block⟩
theorem Ap.alloc {R B : Nat} {a w : World} (h : Ap R B a w) (hB : B ≤ w.heap.size) (o : Obj) : Ap R B a (w.alloc o) :=
 h.trans (Ap.of ((Below.refl B w).alloc hB o))
theorem Ap.setCell {R B : Nat} {a w : World} (h : Ap R B a w) {p : Addr} (hp : B ≤ p.block ∨ p.block = R) (u : Value) : Ap R B a (w.setCell p u) :=
 ⟨h.os, h.tape, h.output, by simpa using h.size, fun k hk hr => by rw [Below.heap_setCell w p u k (by omega)]; exact h.block k hk hr⟩
theorem Ap.grown {R B : Nat} {a w w' : World} {row : Option Nat} (h : Ap R B a w) (hg : w.grownBy w' row) (hB : B ≤ w.heap.size) (hr : ∀ k, row = some k → B ≤ k) : Ap R B a w' :=
 h.trans (Ap.of ((Below.refl B w).grown hg hB hr))
theorem Ap.cell {R B : Nat} {w w' : World} (h : Ap R B w w') {p : Addr} (hp : p.block < B) (hr : p.block ≠ R) : w'.cell? p = w.cell? p := World.cell?_of_block (w := w) (h.block p.block hp hr)
theorem Ap.frozen {R B : Nat} {w w' : World} (h : Ap R B w w') {p : Addr} (hp : p.block < B) (hr : p.block ≠ R) : w'.frozen? p = w.frozen? p := World.frozen?_of_block (w := w) (h.block p.block hp hr)
theorem Ap.below {R B : Nat} {w w' : World} (h : Ap R B w w') (hB : B ≤ R) : Below B w w' := ⟨h.os, h.tape, h.output, h.size, fun k hk => h.block k hk (by omega)⟩
theorem zzq {w : World} {b : Nat} {o : Obj} (h : w.heap[b]? = some o) : b < w.heap.size := (Array.getElem?_eq_some_iff.1 h).1
abbrev zzk (kd : Int) (tx : ByteArray) (n : Int) (v : Value) : Obj := .cells #[.int .i64 kd, .string tx, .int .i64 n, v] 38 (0, 0)
abbrev nPtr (p : Nat) : Value := .pointer (some ⟨p, 0, none⟩)
def KRow (I : Nat → Prop) (w : World) (v : Value) (ps : List Nat) : Prop := w.ownsRow 0 22 1 v ps.length (ps.map nPtr) ∧ ∀ g, v.ownBlock = some g → I g
mutual
def NAt (I : Nat → Prop) (w : World) : Tr → Nat → Prop
 | .mk kd tx n ks, p => I p ∧ ∃ v ps, w.heap[p]? = some (zzk kd tx n v) ∧ KRow I w v ps ∧ NAts I w ks ps
def NAts (I : Nat → Prop) (w : World) : List Tr → List Nat → Prop
 | [], ps => ps = []
 | t :: ts, ps => ∃ p ps', ps = p :: ps' ∧ NAt I w t p ∧ NAts I w ts ps'
end
def Stay (I : Nat → Prop) (w w' : World) : Prop := ∀ b, I b → b < w.heap.size → w'.heap[b]? = w.heap[b]?
theorem zj4 {I : Nat → Prop} {w w' : World} {B e sz : Nat} {v : Value} {n : Nat} {xs : List Value} (ha : Stay I w w') (hI : ∀ g, v.ownBlock = some g → I g) (h : w.ownsRow B e sz v n xs) : w'.ownsRow B e sz v n xs := by
 refine ⟨h.1, ?_⟩
 rcases h.2 with hn | ⟨g, cap, cur, hv, hb, hg, rest⟩
 ·
  exact Or.inl hn
 ·
  exact Or.inr ⟨g, cap, cur, hv, hb, by rw [ha g (hI g (by rw [hv]; rfl)) (zzq hg)]; exact hg, rest⟩
mutual
theorem NAt.later {I : Nat → Prop} {w w' : World} (ha : Stay I w w') : ∀ (t : Tr) (p : Nat), NAt I w t p → NAt I w' t p
 | .mk kd tx n ks, p, h => by
  rw [NAt] at h ⊢; obtain ⟨hp, v, ps, hb, hr, hk⟩ := h; exact ⟨hp, v, ps, by rw [ha p hp (zzq hb)]; exact hb, ⟨zj4 ha hr.2 hr.1, hr.2⟩, NAts.later ha ks ps hk⟩
theorem NAts.later {I : Nat → Prop} {w w' : World} (ha : Stay I w w') : ∀ (ts : List Tr) (ps : List Nat), NAts I w ts ps → NAts I w' ts ps
 | [], ps, h => by rw [NAts] at h ⊢; exact h
 | t :: ts, ps, h => by
  rw [NAts] at h ⊢; obtain ⟨p, ps', rfl, h1, h2⟩ := h; exact ⟨p, ps', rfl, NAt.later ha t p h1, NAts.later ha ts ps' h2⟩
end
theorem zxj {w : World} {B e sz : Nat} {v : Value} {n : Nat} {xs : List Value} (h : w.ownsRow B e sz v n xs) (g : Nat) (hg : v.ownBlock = some g) : g < w.heap.size ∧ B ≤ g := by
 rcases h.2 with hn | ⟨g', cap, cur, hv, hb, hh, rest⟩
 ·
  rw [hn.1] at hg; cases hg
 ·
  rw [hv] at hg; cases hg; exact ⟨zzq hh, hb⟩
mutual
theorem NAt.mono {I J : Nat → Prop} {w : World} (hJ : ∀ b, I b → b < w.heap.size → J b) : ∀ (t : Tr) (p : Nat), NAt I w t p → NAt J w t p
 | .mk kd tx n ks, p, h => by
  rw [NAt] at h ⊢; obtain ⟨hp, v, ps, hb, hr, hk⟩ := h; exact ⟨hJ p hp (zzq hb), v, ps, hb, ⟨hr.1, fun g hg => hJ g (hr.2 g hg) (zxj hr.1 g hg).1⟩, NAts.mono hJ ks ps hk⟩
theorem NAts.mono {I J : Nat → Prop} {w : World} (hJ : ∀ b, I b → b < w.heap.size → J b) : ∀ (ts : List Tr) (ps : List Nat), NAts I w ts ps → NAts J w ts ps
 | [], ps, h => by rw [NAts] at h ⊢; exact h
 | t :: ts, ps, h => by
  rw [NAts] at h ⊢; obtain ⟨p, ps', rfl, h1, h2⟩ := h; exact ⟨p, ps', rfl, NAt.mono hJ t p h1, NAts.mono hJ ts ps' h2⟩
end
theorem NAts.length {I : Nat → Prop} {w : World} : ∀ (ts : List Tr) (ps : List Nat), NAts I w ts ps → ps.length = ts.length
 | [], ps, h => by rw [NAts] at h; rw [h]; rfl
 | t :: ts, ps, h => by
  rw [NAts] at h; obtain ⟨p, ps', rfl, h1, h2⟩ := h; simp [NAts.length ts ps' h2]
theorem NAts.nil {I : Nat → Prop} {w : World} : NAts I w [] [] := by rw [NAts]
theorem NAts.cons {I : Nat → Prop} {w : World} {t : Tr} {p : Nat} {ts : List Tr} {ps : List Nat} (h : NAt I w t p) (h2 : NAts I w ts ps) : NAts I w (t :: ts) (p :: ps) := by
 rw [NAts]; exact ⟨p, ps, rfl, h, h2⟩
theorem NAts.append {I : Nat → Prop} {w : World} {us : List Tr} {qs : List Nat} (hu : NAts I w us qs) : ∀ (ts : List Tr) (ps : List Nat), NAts I w ts ps → NAts I w (ts ++ us) (ps ++ qs)
 | [], ps, h => by rw [NAts] at h; subst h; exact hu
 | t' :: ts, ps, h => by
  rw [NAts] at h; obtain ⟨p', ps', rfl, h1, h2⟩ := h; exact NAts.cons h1 (NAts.append hu ts ps' h2)
def NV (B : Nat) (w : World) (t : Tr) (v : Value) : Prop := ∃ p, v = nPtr p ∧ NAt (fun b => B ≤ b) w t p
def EV (B : Nat) (w : World) (t : Tr) (v : Value) : Prop :=
 ∃ p u ps, v = nPtr p ∧ B ≤ p ∧ w.heap[p]? = some (zzk t.kd t.tx t.n u) ∧ w.ownsRow B 22 1 u ps.length (ps.map nPtr) ∧ u.ownBlock ≠ some p ∧ NAts (fun b => B ≤ b ∧ b ≠ p ∧ u.ownBlock ≠ some b) w t.kids ps
def KV (B : Nat) (w : World) (ts : List Tr) (v : Value) : Prop :=
 ∃ ps, w.ownsRow B 22 1 v ps.length (ps.map nPtr) ∧ NAts (fun b => B ≤ b ∧ v.ownBlock ≠ some b) w ts ps
theorem owns_zero {w : World} {B e sz : Nat} {v : Value} {n : Nat} {xs : List Value} (h : w.ownsRow B e sz v n xs) : w.ownsRow 0 e sz v n xs := by
 refine ⟨h.1, ?_⟩
 rcases h.2 with hn | ⟨g, cap, cur, hv, hb, rest⟩
 ·
  exact Or.inl hn
 ·
  exact Or.inr ⟨g, cap, cur, hv, Nat.zero_le _, rest⟩
theorem EV.nv {B : Nat} {w : World} {t : Tr} {v : Value} (h : EV B w t v) : NV B w t v := by
 obtain ⟨p, u, ps, rfl, hp, hb, hr, _, hk⟩ := h
 cases t with
 | mk kd tx n ks =>
  refine ⟨p, rfl, ?_⟩; rw [NAt]; exact ⟨hp, u, ps, hb, ⟨owns_zero hr, fun g hg => (zxj hr g hg).2⟩, NAts.mono (fun b hb _ => hb.1) _ _ hk⟩
theorem Stay.of_ap {R B : Nat} {I : Nat → Prop} {w w' : World} (h : Ap R w.heap.size w w') (hB : R < B) (hI : ∀ b, I b → B ≤ b) : Stay I w w' := fun b hb hl => h.block b hl (by have := hI b hb; omega)
theorem NV.later {R B : Nat} {w w' : World} {t : Tr} {v : Value} (h : NV B w t v) (ha : Ap R w.heap.size w w') (hB : R < B) : NV B w' t v := by
 obtain ⟨p, rfl, hp⟩ := h
 exact ⟨p, rfl, NAt.later (Stay.of_ap ha hB fun _ h => h) _ _ hp⟩
theorem NV.mono {B B' : Nat} {w : World} {t : Tr} {v : Value} (h : NV B w t v) (hB : B' ≤ B) : NV B' w t v := by
 obtain ⟨p, rfl, hp⟩ := h
 exact ⟨p, rfl, NAt.mono (fun b h _ => Nat.le_trans hB h) _ _ hp⟩
theorem EV.later {R B : Nat} {w w' : World} {t : Tr} {v : Value} (h : EV B w t v) (ha : Ap R w.heap.size w w') (hB : R < B) : EV B w' t v := by
 obtain ⟨p, u, ps, rfl, hp, hb, hr, hu, hk⟩ := h
 exact ⟨p, u, ps, rfl, hp, by rw [ha.block p (zzq hb) (by omega)]; exact hb, zj4 (I := fun b => B ≤ b) (Stay.of_ap ha hB fun _ h => h) (fun g hg => (zxj hr g hg).2) hr, hu, NAts.later (Stay.of_ap ha hB fun _ h => h.1) _ _ hk⟩
theorem EV.mono {B B' : Nat} {w : World} {t : Tr} {v : Value} (h : EV B w t v) (hB : B' ≤ B) : EV B' w t v := by
 obtain ⟨p, u, ps, rfl, hp, hb, hr, hu, hk⟩ := h
 refine ⟨p, u, ps, rfl, by omega, hb, ?_, hu, NAts.mono (fun b h _ => ⟨by omega, h.2⟩) _ _ hk⟩
 refine ⟨hr.1, ?_⟩
 rcases hr.2 with hn | ⟨g, cap, cur, hv, hb, rest⟩
 ·
  exact Or.inl hn
 ·
  exact Or.inr ⟨g, cap, cur, hv, by omega, rest⟩
theorem KV.later {R B : Nat} {w w' : World} {ts : List Tr} {v : Value} (h : KV B w ts v) (ha : Ap R w.heap.size w w') (hB : R < B) : KV B w' ts v := by
 obtain ⟨ps, hr, hk⟩ := h
 exact ⟨ps, zj4 (I := fun b => B ≤ b) (Stay.of_ap ha hB fun _ h => h) (fun g hg => (zxj hr g hg).2) hr, NAts.later (Stay.of_ap ha hB fun _ h => h.1) _ _ hk⟩
theorem KV.nil (B : Nat) (w : World) : KV B w [] (.slice none 0 0) := ⟨[], ⟨rfl, Or.inl ⟨rfl, rfl⟩⟩, NAts.nil⟩
theorem zqx (w : World) (o : Obj) : (w.alloc o).heap[w.heap.size]? = some o := by simpa using heap_alloc_new w o
theorem EV.new {B : Nat} {w : World} {ts : List Tr} {v : Value} (h : KV B w ts v) (hB : B ≤ w.heap.size) (kd : Int) (tx : ByteArray) (n : Int) :
  EV B (w.alloc (zzk kd tx n v)) (.mk kd tx n ts) (nPtr w.heap.size) := by
 obtain ⟨ps, hr, hk⟩ := h
 have hs : ∀ I, Stay I w (w.alloc (zzk kd tx n v)) := fun I b _ hl => Below.heap_alloc w _ b hl
 refine ⟨w.heap.size, v, ps, rfl, hB, zqx _ _, zj4 (I := fun _ => True) (hs _) (fun _ _ => trivial) hr, fun h => ?_, NAts.later (hs _) _ _ (NAts.mono (fun b h hl => ⟨h.1, by omega, h.2⟩) _ _ hk)⟩
 exact absurd (zxj hr _ h).1 (by omega)
theorem KV.row {B : Nat} {w : World} {ts : List Tr} {ps : List Nat} (h : NAts (fun b => B ≤ b) w ts ps) (hB : B ≤ w.heap.size) (hl : ps.length ≤ maxLen) (cs : Array Value) (hc : cs.toList = ps.map nPtr) :
  KV B (w.alloc (.cells cs 22)) ts (.slice (some ⟨w.heap.size, 0, none⟩) ps.length ps.length) := by
 have hs : ∀ I, Stay I w (w.alloc (.cells cs 22)) := fun I b _ hl => Below.heap_alloc w _ b hl
 have hz : cs.size = ps.length := by rw [← Array.length_toList, hc, List.length_map]
 refine ⟨ps, ⟨by simp, Or.inr ⟨w.heap.size, ps.length, cs, rfl, hB, zqx _ _, Nat.le_refl _, hl, by omega, ?_⟩⟩, NAts.later (hs _) _ _ (NAts.mono (fun b h hl => ⟨h, fun e => by simp only [Value.ownBlock, Option.some.injEq] at e; omega⟩) _ _ h)⟩
 rw [hc]
 exact List.take_of_length_le (by simp)
structure Ctx where
 R : Nat
 l : List Tk
 tb : Nat
 cap : Nat
 mS : Nat
 mT : Nat
 mV : Nat
 lo : Nat
def sgV (s : Sg) : Value := .agg #[.string s.tx, .int .i64 s.kd, .int .i64 s.parts, .int .i64 s.str]
def mkE (e : (ByteArray × Value) × Nat) : MapEntry := { key := .string e.1.1, val := e.1.2, born := e.2 }
def zx6 (l : List (ByteArray × Value)) : Array MapEntry := ((l.zipIdx).map mkE).toArray
def sgMap : Array MapEntry := zx6 (sgs.map fun e => (e.tx, sgV e))
def zd8 (R : Nat) (f : Nat) : Value := .func (.func f) #[.pointer (some ⟨R, 0, none⟩)] #[]
def stFn : Nat → Nat
 | 0 => 157
 | 1 => 158
 | 2 => 159
 | 3 => 160
 | 4 => 161
 | 5 => 162
 | 6 => 163
 | _ => 164
def vlFn : Nat → Nat
 | 0 => 165
 | 1 => 166
 | _ => 167
def stMap (R : Nat) : Array MapEntry := zx6 (stKeys.map fun e => (e.1, zd8 R (stFn e.2)))
def vlMap (R : Nat) : Array MapEntry := zx6 (vlKeys.map fun e => (e.1, zd8 R (vlFn e.2)))
def hdCells : Array Value := (hds.flatMap fun e => [.string e.1, .int .i64 e.2]).toArray
def Ctx.tv (c : Ctx) : Value := .slice (some ⟨c.tb, 0, none⟩) c.l.length c.cap
structure Base (c : Ctx) (w : World) : Prop where
 ends : Ends c.l
 tokens : ∃ cur, w.heap[c.tb]? = some (.cells cur 123 (0, 0)) ∧ c.l.length ≤ c.cap ∧ c.cap ≤ maxLen ∧ cur.size = c.cap * 4 ∧ cur.toList.take (c.l.length * 4) = zj1 c.l
 ntb : c.tb ≠ c.R
 signs : w.heap[c.mS]? = some (.map sgMap 14)
 nS : c.mS ≠ c.R
 stms : w.heap[c.mT]? = some (.map (stMap c.R) 12)
 nT : c.mT ≠ c.R
 vals : w.heap[c.mV]? = some (.map (vlMap c.R) 3)
 nV : c.mV ≠ c.R
 len : c.l.length ≤ 3001
 heads : ∃ t fr, w.heap[5]? = some (.cells hdCells t fr)
 nH : 5 ≠ c.R
 old : c.tb < c.lo ∧ c.mS < c.lo ∧ c.mT < c.lo ∧ c.mV < c.lo ∧ 5 < c.lo ∧ c.R < c.lo
 size : c.lo ≤ w.heap.size
theorem Base.later {c : Ctx} {B : Nat} {w w' : World} (h : Base c w) (ha : Ap c.R B w w') (hB : c.lo ≤ B) : Base c w' := by
 obtain ⟨h0, ⟨cur, h1, h1'⟩, h2, h3, h4, h5, h6, h7, h8, h9, ⟨t, fr, h10⟩, h11, h12, h13⟩ := h
 exact ⟨h0, ⟨cur, by rw [ha.block _ (by omega) h2]; exact h1, h1'⟩, h2, by rw [ha.block _ (by omega) h4]; exact h3, h4, by rw [ha.block _ (by omega) h6]; exact h5, h6, by rw [ha.block _ (by omega) h8]; exact h7, h8, h9, ⟨t, fr, by rw [ha.block _ (by omega) h11]; exact h10⟩, h11, h12, Nat.le_trans h13 ha.size⟩
def rdObj (c : Ctx) (i d : Nat) : Obj := .cells #[c.tv, .int .i64 (i : Int), .int .i64 (d : Int), .map (some c.mS), .map (some c.mT), .map (some c.mV)] 170 (0, 0)
structure Rdr (c : Ctx) (w : World) (i d : Nat) : Prop where
 base : Base c w
 blk : w.heap[c.R]? = some (rdObj c i d)
 lt : i < c.l.length
 deep : d ≤ 30
theorem Rdr.later {c : Ctx} {w w' : World} {i d : Nat} (h : Rdr c w i d) (ha : Below w.heap.size w w') : Rdr c w' i d :=
 ⟨h.base.later (Ap.of ha) h.base.size, by rw [ha.block _ (zzq h.blk)]; exact h.blk, h.lt, h.deep⟩
theorem Rdr.ap {c : Ctx} {B : Nat} {w w' : World} {i d : Nat} (h : Rdr c w i d) (ha : Below B w w') (hB : c.lo ≤ B) : Rdr c w' i d :=
 ⟨h.base.later (Ap.of ha) hB, by rw [ha.block _ (by have := h.base.old; omega)]; exact h.blk, h.lt, h.deep⟩
theorem Rdr.rlt {c : Ctx} {w : World} {i d : Nat} (h : Rdr c w i d) : c.R < w.heap.size := zzq h.blk
theorem zqj {w : World} {b : Nat} {cs : Array Value} {t : TypeId} {fr : Nat × Nat} (h : w.heap[b]? = some (.cells cs t fr)) (o : Nat) : w.cell? ⟨b, o, none⟩ = cs[o]? := by
 simp [World.cell?, h]
theorem zj5 {w : World} {b : Nat} {cs : Array Value} {t : TypeId} (h : w.heap[b]? = some (.cells cs t (0, 0))) (o : Nat) : w.frozen? ⟨b, o, none⟩ = false := by
 simp [World.frozen?, h]
theorem Rdr.c0 {c : Ctx} {w : World} {i d : Nat} (h : Rdr c w i d) : w.cell? ⟨c.R, 0, none⟩ = some c.tv := by rw [zqj h.blk]; rfl
theorem Rdr.c1 {c : Ctx} {w : World} {i d : Nat} (h : Rdr c w i d) : w.cell? ⟨c.R, 1, none⟩ = some (.int .i64 (i : Int)) := by rw [zqj h.blk]; rfl
theorem Rdr.c2 {c : Ctx} {w : World} {i d : Nat} (h : Rdr c w i d) : w.cell? ⟨c.R, 2, none⟩ = some (.int .i64 (d : Int)) := by rw [zqj h.blk]; rfl
theorem Rdr.c3 {c : Ctx} {w : World} {i d : Nat} (h : Rdr c w i d) : w.cell? ⟨c.R, 3, none⟩ = some (.map (some c.mS)) := by rw [zqj h.blk]; rfl
theorem Rdr.c4 {c : Ctx} {w : World} {i d : Nat} (h : Rdr c w i d) : w.cell? ⟨c.R, 4, none⟩ = some (.map (some c.mT)) := by rw [zqj h.blk]; rfl
theorem Rdr.c5 {c : Ctx} {w : World} {i d : Nat} (h : Rdr c w i d) : w.cell? ⟨c.R, 5, none⟩ = some (.map (some c.mV)) := by rw [zqj h.blk]; rfl
theorem Rdr.fz {c : Ctx} {w : World} {i d : Nat} (h : Rdr c w i d) (o : Nat) : w.frozen? ⟨c.R, o, none⟩ = false := zj5 h.blk o
theorem zqq {w : World} {b o : Nat} {cs : Array Value} {t : TypeId} {fr : Nat × Nat} (h : w.heap[b]? = some (.cells cs t fr)) (v : Value) :
  (w.setCell ⟨b, o, none⟩ v).heap[b]? = some (.cells (cs.setIfInBounds o v) t fr) := by
 obtain ⟨hl, he⟩ := Array.getElem?_eq_some_iff.1 h
 have hl2 : b < (w.setCell ⟨b, o, none⟩ v).heap.size := by simpa [World.setCell] using hl
 rw [Array.getElem?_eq_some_iff]
 refine ⟨hl2, ?_⟩
 simp only [World.setCell, Array.getElem_modify_self, he]
 rfl
theorem Rdr.go {c : Ctx} {w : World} {i d : Nat} (h : Rdr c w i d) (j : Nat) (hj : j < c.l.length) : Rdr c (w.setCell ⟨c.R, 1, none⟩ (.int .i64 (j : Int))) j d :=
 ⟨h.base.later (Ap.setCell (R := c.R) (Ap.refl _ _ _) (p := ⟨c.R, 1, none⟩) (Or.inr rfl) _) h.base.size, by rw [zqq h.blk]; rfl, hj, h.deep⟩
theorem Rdr.dive {c : Ctx} {w : World} {i d : Nat} (h : Rdr c w i d) (e : Nat) (he : e ≤ 30) : Rdr c (w.setCell ⟨c.R, 2, none⟩ (.int .i64 (e : Int))) i e :=
 ⟨h.base.later (Ap.setCell (R := c.R) (Ap.refl _ _ _) (p := ⟨c.R, 2, none⟩) (Or.inr rfl) _) h.base.size, by rw [zqq h.blk]; rfl, h.lt, he⟩
def faultV (er : Int) (p : Nat) : List PanicEntry := [{ v := .iface 127 (.agg #[.int .i64 er, .int .i64 (p : Int)]), recovered := false }]
def zk6 {α : Type} (c : Ctx) (w : World) (d : Nat) (V : World → α → Value → Prop) (r : PR α) (e : Ending) (w' : World) : Prop :=
 match r with
 | .ok x j => (∃ v, e = .returned v ∧ V w' x v) ∧ Rdr c w' j d ∧ Ap c.R w.heap.size w w'
 | .bad er p => e = .panicked (faultV er p) ∧ Ap c.R w.heap.size w w'
 | .out => True
end Go.Proofs.YtodmgaikhbmlnaaGreatDoor
