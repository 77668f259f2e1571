/-
  The document's parser: lists.
-/
import Derived.Test.YtodmgaikhbmlnaaGreatDoorTw0
import Derived.Test.YtodmgaikhbmlnaaGreatDoorTw4
import Derived.Test.YtodmgaikhbmlnaaGreatDoorTw13
import Derived.Test.YtodmgaikhbmlnaaGreatDoorTw7
import Derived.Test.YtodmgaikhbmlnaaGreatDoorTw12
import Derived.Deep.LoopGhost
import Derived.Deep.MidRow
import Derived.Laws.AppendOwnNone
import Derived.MapKept
import Derived.RegionTactic
set_option maxRecDepth 100000
set_option maxHeartbeats 16000000
namespace Go.Proofs.YtodmgaikhbmlnaaGreatDoor
open Go.RowKit
theorem rbraces_old (c : PC) (w : World) (i : Nat) (er pl D : Int) (body : Bool) (he : er ≠ 0) (h : Ps c w i er pl) :
  Calls Tryz.prog 100 #[pPtr c, .int .i64 D, .bool body] w (NPost c w er pl ZN) := by
 have HC := hide (rmust_old c w i er pl he tLBrace h)
 have HP := hide h
 clear h
 go_enter Tryz.func100, Tryz.ntmps100
 go_wp2_with fail
 refine cm HC.out ?_
 rintro e w1 ⟨rfl, rfl⟩
 clear HC
 have HC1 := hide (rok_old he HP.out)
 have HC2 := hide (rmust_old c w1 i er pl he tRBrace HP.out)
 go_wp2_with fail
 refine wp_loop_rounds 1 ?_
 rw [rounds_succ]
 go_wp2_with fail
 refine cm HC1.out ?_
 rintro e w2 ⟨rfl, rfl⟩
 clear HC1
 go_wp2_with fail
 refine cm HC2.out ?_
 rintro e w3 ⟨rfl, rfl⟩
 clear HC2
 cases body with
 | false =>
  go_wp2_with fail; go_ret; exact ⟨⟨_, rfl, _, rfl⟩, ⟨i, HP.out.alloc _⟩, he, (Ap.refl c.P _ w3).alloc (Nat.le_refl _) _⟩
 | true =>
  have HC3 := hide (rok_old he (HP.out.alloc (nodeObj 6 noText 0 (.slice none 0 0)))); go_wp2_with fail; refine cm HC3.out ?_; rintro e w4 ⟨rfl, rfl⟩; clear HC3; go_wp2_with fail; go_ret
  exact ⟨⟨_, rfl, _, rfl⟩, ⟨i, HP.out.alloc _⟩, he, (Ap.refl c.P _ w3).alloc (Nat.le_refl _) _⟩
theorem rlist_old (c : PC) (w : World) (i : Nat) (er pl : Int) (s : ByteArray) (fv : Value) (he : er ≠ 0) (h : Ps c w i er pl) :
  Calls Tryz.prog 147 #[pPtr c, .string s, fv] w fun e w' => e = .returned (.slice none 0 0) ∧ w' = w := by
 have HC1 := hide (rok_old he h)
 have HC2 := hide (rmust_old c w i er pl he s h)
 clear h
 go_enter Tryz.func147, Tryz.ntmps147
 go_wp2_with fail
 refine wp_loop_rounds 1 ?_
 rw [rounds_succ]
 go_wp2_with fail
 refine cm HC1.out ?_
 rintro e w2 ⟨rfl, rfl⟩
 clear HC1
 go_wp2_with fail
 refine cm HC2.out ?_
 rintro e w3 ⟨rfl, rfl⟩
 clear HC2
 go_wp2_with fail
 go_ret
 exact ⟨rfl, rfl⟩
structure PartC (c : PC) (lo : Nat) (K : World → Prop) (f : Nat) (caps : Array Value) (part : Nat → PR Tr) : Prop where
 enters : ∀ args W, (callFunc f args).run Tryz.prog W = .ok (.enter f args) W
 stays : ∀ W W', K W → c.P < W.heap.size → Ap c.P W.heap.size W W' → K W'
 does : ∀ W i r, K W → r = part i → r ≠ .out → Ps c W i 0 (-1) → Calls Tryz.prog f caps W (QPost c W (NV W.heap.size) ZN r)
 /-- What it leans on lies in blocks below a bound. -/
 kept : ∀ B W W', K W → Below B W W' → lo ≤ B → K W'
def RowZ (B : Nat) (w : World) (v : Value) : Prop := ∃ ps : List Nat, ps.length ≤ 9 ∧ w.ownsRow B 22 1 v ps.length (ps.map nPtr)
theorem RowZ.of {B : Nat} {w : World} {ts : List Tr} {v : Value} (h : KV B w ts v) (hl : ts.length ≤ 8) : RowZ B w v := by
 obtain ⟨ps, hr, hk⟩ := h
 exact ⟨ps, by rw [NAts.length _ _ hk]; omega, hr⟩
def LPost (c : PC) (w : World) (r : PR (List Tr)) (e : Ending) (w' : World) : Prop :=
 match r with
 | .ok ts j => (∃ v, e = .returned v ∧ KV w.heap.size w' ts v ∧ ts.length ≤ 8) ∧ Ps c w' j 0 (-1) ∧ Ap c.P w.heap.size w w'
 | .bad er pl => (∃ v, e = .returned v ∧ RowZ w.heap.size w' v) ∧ (∃ j, Ps c w' j er (pl : Int)) ∧ er ≠ 0 ∧ Ap c.P w.heap.size w w'
 | .out => True
theorem rlist_all {c : PC} {K : World → Prop} {f : Nat} {caps : Array Value} {part : Nat → PR Tr} {lo : Nat} (hp : PartC c lo K f caps part) (s : ByteArray) (hsn : s ≠ noText) (n : Nat) (w : World) (i : Nat) (r : PR (List Tr)) (hs : r = rlistLoop c.l s part n [] i) (ho : r ≠ .out) (hk : K w) (hlo : lo ≤ w.heap.size) (h : Ps c w i 0 (-1)) :
  Calls Tryz.prog 147 #[pPtr c, .string s, .func (.func f) #[] caps] w (LPost c w r) := by
 have hen := hp.enters
 obtain ⟨i0, hi0, hz0, hz1, hz2⟩ := info_parts info22
 have HLT := hide h.rlt
 have HL := hide h.base.len
 have HLO := hide h.base.size
 have HS := hide hs
 have HO := hide ho
 have HPC := hide hp
 have HK0 := hide hk
 have HLB := hide hlo
 have HP0 := hide h
 clear h hs ho hp hk hlo
 go_enter Tryz.func147, Tryz.ntmps147
 go_wp2_with fail
 go_loopg [7] n (fun k v wr => (∃ acc j, rlistLoop c.l s part k acc j = r ∧ KV w.heap.size wr acc v ∧ Ps c wr j 0 (-1) ∧ Ap c.P w.heap.size w wr ∧ acc.length ≤ 8 ∧ K wr)
  ∨ (∃ er pl, r = .bad er pl ∧ er ≠ 0 ∧ (∃ j, Ps c wr j er (pl : Int)) ∧ Ap c.P w.heap.size w wr ∧ RowZ w.heap.size wr v))
 case atStart => exact Or.inl ⟨[], i, HS.out.symm, KV.nil _ _, HP0.out, Ap.refl _ _ _, by simp, HK0.out⟩
 case round =>
  clear HS HP0 HK0
  rcases hrel with ⟨acc, j, hq, hkv, hps, hap, hle, hkk⟩ | ⟨er, pl, hq, he, ⟨j, hps⟩, hap, hrz⟩
  ·
   obtain ⟨k, rfl⟩ : ∃ k, gk = k + 1 := by
    cases gk with
    | zero => exact absurd hq.symm HO.out
    | succ k => exact ⟨k, rfl⟩
   have HC1 := hide (rok_new hps); have HC2 := hide (rnext_any c wr j s hsn hps); have HP1 := hide hps; have HA1 := hide hap; have HK1 := hide hkv; have HKW := hide hkk; have hL := unhide HL; have hjl := hps.lt
   by_cases hx : fx c.l j = s
   ·
    have HQ : Hid (PR.ok acc (j + 1) = r) := by
     unfold rlistLoop at hq; rw [if_pos hx] at hq; exact hq
    have hd1 : decide (fx c.l j = s) = true := decide_eq_true hx; rw [hd1] at HC2; obtain ⟨va, vc, rfl⟩ := hkv.shape; have HX := hide hx; clear hq hkv hps hap hx hd1 hkk; go_wp2_with fail; refine cm HC1.out ?_
    rintro e w2 ⟨rfl, rfl⟩; clear HC1; go_wp2_with fail; refine cm HC2.out ?_; rintro e w3 ⟨rfl, hb3⟩; have HA3 := hide (HA1.out.next (Ap.of hb3)); have HK3 := hide (KV.later HK1.out (Ap.of (R := c.P) hb3) HLT.out)
    have HC3 := hide (rmust_any c w3 j s hsn (HP1.out.later hb3)); clear hb3 HC2 HP1 HA1 HK1; go_wp2_with fail; refine cm HC3.out ?_; intro e w4 hp
    have hmm : mustP c.l s j = .ok () (j + 1) := by unfold mustP; rw [if_pos HX.out]
    rw [hmm] at hp; obtain ⟨⟨v, rfl, rfl⟩, hp4, ha4⟩ := hp; have HP4 := hide hp4; have HA4 := hide (HA3.out.next ha4); have HK4 := hide (KV.later HK3.out ha4 HLT.out); clear hp4 ha4 hmm HC3 HA3 HK3
    have hq : r = .ok acc (j + 1) := HQ.out.symm; subst hq; go_wp2_with fail; go_ret; exact ⟨⟨_, rfl, HK4.out, hle⟩, HP4.out, HA4.out⟩
   ·
    have HQ : Hid (((if acc.length = 0 then PR.ok () j else mustP c.l tComma j).bind fun _ i1 => if acc.length = 8 then badF c.l 4 i1 else (part i1).bind fun t i2 => rlistLoop c.l s part k (acc ++ [t]) i2) = r) := by
     unfold rlistLoop at hq; rw [if_neg hx] at hq; exact hq
    have hd1 : decide (fx c.l j = s) = false := decide_eq_false hx; rw [hd1] at HC2; obtain ⟨va, vc, rfl⟩ := hkv.shape; clear hq hkv hps hap hx hd1 hkk; go_wp2_with fail; refine cm HC1.out ?_; rintro e w2 ⟨rfl, rfl⟩
    clear HC1; go_wp2_with fail; refine cm HC2.out ?_; rintro e w3 ⟨rfl, hb3⟩; have HP3 := hide (HP1.out.later hb3); have HA3 := hide (HA1.out.next (Ap.of hb3))
    have HK3 := hide (KV.later HK1.out (Ap.of (R := c.P) hb3) HLT.out); have HKW3 := hide (HPC.out.stays _ _ HKW.out HP1.out.rlt (Ap.of hb3)); clear hb3 HC2 HP1 HA1 HK1 HKW
    by_cases h0 : acc.length = 0
    ·
     have hgt : decide ((0 : Int) < (acc.length : Int)) = false := by rw [h0]; rfl
     have hgt2 : decide (0 < acc.length) = false := by rw [h0]; rfl
     have h8 : ((acc.length : Int) == 8) = false := by rw [h0]; rfl
     rw [if_pos h0] at HQ; have HQ' : Hid ((if acc.length = 8 then badF c.l 4 j else (part j).bind fun t i2 => rlistLoop c.l s part k (acc ++ [t]) i2) = r) := unhide HQ; rw [if_neg (by omega)] at HQ'; clear HQ
     have HQ := HQ'; have HLE8 : Hid (acc.length < 8) := by show _ < _; omega
     clear HQ' h0; have HCo := hide (rok_new HP3.out); go_wp2_with fail; refine cm HCo.out ?_; rintro e wo ⟨rfl, rfl⟩; clear HCo
     cases hr : part j with
     | out =>
      rw [hr] at HQ; exact absurd HQ.out.symm HO.out
     | bad er pl =>
      have HRR := hide hr; rw [hr] at HQ; have hq : r = .bad er pl := HQ.out.symm; have HQQ := hide hq; have HC5 := hide (HPC.out.does wo j _ HKW3.out HRR.out.symm (by nofun) HP3.out); clear hr hq HQ; go_wp2_with fail
      refine cm HC5.out ?_; rintro e w4 ⟨⟨v, rfl, p4, rfl⟩, hp4, he, ha4⟩; have HP4 := hide hp4; have HA4 := hide (HA3.out.next ha4); have HK4 := hide (KV.later HK3.out ha4 HLT.out); clear hp4 ha4 HC5 HP3 HA3 HK3
      obtain ⟨ps, hown, hk4⟩ := unhide HK4; have hlen := NAts.length _ _ hk4; have hOB := own_lt hown; rw [hlen] at hown; have HOWN := hide hown; have HLEN := hide hlen; have HKK := hide hk4; have hsz := HA4.out.size
      have HOB := hide hOB; clear hown hk4 HK4 hOB hlen
      go_wp2_with (at_builtin; refine wpList_append_lies _ rfl _ _ 36 rfl w.heap.size 22 i0 (.pointer none) 1 8 Tryz.underlying36 hi0 hz0 hz1 hz2 rfl (by decide) _ _ _ rfl (HOWN.out.alloc _) ⟨w4.heap.size, 0, none⟩ 1 1 [nPtr p4] rfl rfl (one_cells w4 p4 _ rfl) (one_one p4) (by decide) (by unfold maxLen; omega) (by omega) (by simp; omega) (w4.heap.size + 1) (by simp) ?_)
      intro g cap w5 hown' hgrow hg _; have HB5 := hide (((Below.refl w.heap.size w4).alloc hsz (.cells #[nPtr p4] 22)).grown hgrow (by simp; omega) (fun k hk => (unhide HOB k hk).2))
      have HA5 := hide ((HA4.out.alloc hsz (.cells #[nPtr p4] 22)).grown hgrow (by simp; omega) (fun k hk => (unhide HOB k hk).2))
      have HP5 : Hid (∃ j, Ps c w5 j er (pl : Int)) := by
       obtain ⟨j2, hp⟩ := unhide HP4; exact ⟨j2, hp.ap HB5.out HLO.out⟩
      have HZ5 : Hid (RowZ w.heap.size w5 (.slice (some ⟨g, 0, none⟩) (acc.length + 1) cap)) := ⟨ps ++ [p4], by have := unhide HLEN; simp; omega, by have hl := unhide HLEN; rw [List.length_append, List.length_singleton, hl, List.map_append]; exact hown'⟩
      clear hown' hgrow hg HKK HOWN; go_wp2_with fail
      go_roundg k
      case measure => omega
      case rel => exact Or.inr ⟨er, pl, HQQ.out, he, HP5.out, HA5.out, HZ5.out⟩
     | ok t j2 =>
      have HRR := hide hr; rw [hr] at HQ; have hq : rlistLoop c.l s part k (acc ++ [t]) j2 = r := unhide HQ; have HQQ := hide hq; have HC5 := hide (HPC.out.does wo j _ HKW3.out HRR.out.symm (by nofun) HP3.out)
      clear hr hq HQ; go_wp2_with fail; refine cm HC5.out ?_; rintro e w4 ⟨⟨v, rfl, p4, rfl, hn4⟩, hp4, ha4⟩; have HP4 := hide hp4; have HA4 := hide (HA3.out.next ha4); have HK4 := hide (KV.later HK3.out ha4 HLT.out)
      have HN4 := hide (apart_own HK3.out HA3.out.size hn4); have HKW4 := hide (HPC.out.stays _ _ HKW3.out HP3.out.rlt ha4); clear hn4; clear hp4 ha4 HC5 HP3 HA3 HK3; obtain ⟨ps, hown, hk4⟩ := unhide HK4
      have hlen := NAts.length _ _ hk4; have hOB := own_lt hown; rw [hlen] at hown; have HOWN := hide hown; have HLEN := hide hlen; have HKK := hide hk4; have hsz := HA4.out.size; have HOB := hide hOB
      clear hown hk4 HK4 hOB hlen
      go_wp2_with (at_builtin; refine wpList_append_lies _ rfl _ _ 36 rfl w.heap.size 22 i0 (.pointer none) 1 8 Tryz.underlying36 hi0 hz0 hz1 hz2 rfl (by decide) _ _ _ rfl (HOWN.out.alloc _) ⟨w4.heap.size, 0, none⟩ 1 1 [nPtr p4] rfl rfl (one_cells w4 p4 _ rfl) (one_one p4) (by decide) (by unfold maxLen; omega) (by omega) (by simp; omega) (w4.heap.size + 1) (by simp) ?_)
      intro g cap w5 hown' hgrow hg _; have HB5 := hide (((Below.refl w.heap.size w4).alloc hsz (.cells #[nPtr p4] 22)).grown hgrow (by simp; omega) (fun k hk => (unhide HOB k hk).2))
      have HA5 := hide ((HA4.out.alloc hsz (.cells #[nPtr p4] 22)).grown hgrow (by simp; omega) (fun k hk => (unhide HOB k hk).2))
      have HK5 : Hid (KV w.heap.size w5 (acc ++ [t]) (.slice (some ⟨g, 0, none⟩) (acc.length + 1) cap)) := kv_push HKK.out (NAts.cons HN4.out NAts.nil) (by rw [List.map_append]; exact hown') (by simp [HLEN.out]) hgrow hg
      have HP5 := hide (HP4.out.ap HB5.out HLO.out); have HKW5 := hide (HPC.out.kept _ _ _ HKW4.out HB5.out HLB.out); clear hown' hgrow hg HKK HOWN; go_wp2_with fail
      go_roundg k
      case measure => omega
      case rel => exact Or.inl ⟨acc ++ [t], j2, HQQ.out, HK5.out, HP5.out, HA5.out, by have hh := unhide HLE8; simp; omega, HKW5.out⟩
    ·
     have hgt : decide ((acc.length : Int) > 0) = true := by simp; omega
     rw [if_neg h0] at HQ; have HC4 := hide (rmust_any c w3 j tComma (by decide) HP3.out); go_wp2_with fail; refine cm HC4.out ?_; intro e w6 hp
     cases hm : mustP c.l tComma j with
     | out => rw [hm] at HQ; exact absurd HQ.out.symm HO.out
     | bad er pl =>
      rw [hm] at hp HQ; have hq : r = .bad er pl := HQ.out.symm; obtain ⟨⟨v, rfl, rfl⟩, ⟨j6, hp6⟩, he, ha6⟩ := hp; have HQQ := hide hq; have HP6 := hide hp6; have HA6 := hide (HA3.out.next ha6)
      have HK6 := hide (KV.later HK3.out ha6 HLT.out); clear hp6 ha6 hm HC4 hq HQ
      by_cases h8 : acc.length = 8
      ·
       have h8' : ((acc.length : Int) == 8) = true := by rw [h8]; rfl
       have HC7 := hide (rfail_old c w6 j6 er pl 4 he HP6.out); go_wp2_with fail; refine cm HC7.out ?_; rintro e w7 ⟨⟨v, rfl, q, rfl⟩, ⟨j7, hp7⟩, _, ha7⟩; have HC8 := hide (rok_old he hp7); have HP7 := hide hp7
       have HA7 := hide (HA6.out.next ha7); have HK7 := hide (KV.later HK6.out ha7 HLT.out); clear hp7 ha7 HC7; go_wp2_with fail; refine cm HC8.out ?_; rintro e w8 ⟨rfl, rfl⟩; clear HC8; go_wp2_with fail
       go_roundg k
       case measure => omega
       case rel => exact Or.inr ⟨er, pl, HQQ.out, he, ⟨j7, HP7.out⟩, HA7.out, RowZ.of (by have hk := unhide HK7; rw [h8] at hk; exact hk) hle⟩
      ·
       have h8' : ((acc.length : Int) == 8) = false := beq_eq_false_iff_ne.2 (by omega); have HC8 := hide (rok_old he HP6.out); go_wp2_with fail; refine cm HC8.out ?_; rintro e w8 ⟨rfl, rfl⟩; clear HC8; go_wp2_with fail
       go_roundg k
       case measure => omega
       case rel => exact Or.inr ⟨er, pl, HQQ.out, he, ⟨j6, HP6.out⟩, HA6.out, RowZ.of HK6.out hle⟩
     | ok x6 j6 =>
      rw [hm] at hp HQ; obtain ⟨⟨v, rfl, rfl⟩, hp6, ha6⟩ := hp; have HQ' : Hid ((if acc.length = 8 then badF c.l 4 j6 else (part j6).bind fun t i2 => rlistLoop c.l s part k (acc ++ [t]) i2) = r) := unhide HQ; clear HQ
      have HQ := HQ'; clear HQ'; have HP6 := hide hp6; have HA6 := hide (HA3.out.next ha6); have HK6 := hide (KV.later HK3.out ha6 HLT.out); have HKW6 := hide (HPC.out.stays _ _ HKW3.out HP3.out.rlt ha6)
      clear hp6 ha6 hm HC4 HP3 HA3 HK3 HKW3
      by_cases h8 : acc.length = 8
      ·
       have h8' : ((acc.length : Int) == 8) = true := by rw [h8]; rfl
       rw [if_pos h8] at HQ; have HC7 := hide (rfail_new c w6 j6 4 (by decide) HP6.out); go_wp2_with fail; refine cm HC7.out ?_; rintro e w7 ⟨⟨v, rfl, q, rfl⟩, ⟨j7, hp7⟩, he, ha7⟩; have HC8 := hide (rok_old he hp7)
       have HP7 := hide hp7; have HA7 := hide (HA6.out.next ha7); have HK7 := hide (KV.later HK6.out ha7 HLT.out); clear hp7 ha7 HC7; go_wp2_with fail; refine cm HC8.out ?_; rintro e w8 ⟨rfl, rfl⟩; clear HC8
       go_wp2_with fail
       go_roundg k
       case measure => omega
       case rel => exact Or.inr ⟨4, (tkA c.l j6).pl, HQ.out.symm, by decide, ⟨j7, HP7.out⟩, HA7.out, RowZ.of (by have hk := unhide HK7; rw [h8] at hk; exact hk) hle⟩
      ·
       have h8' : ((acc.length : Int) == 8) = false := beq_eq_false_iff_ne.2 (by omega); rw [if_neg h8] at HQ; have HLE8 : Hid (acc.length < 8) := by show _ < _; omega
       have HCo := hide (rok_new HP6.out); go_wp2_with fail; refine cm HCo.out ?_; rintro e wo ⟨rfl, rfl⟩; clear HCo
       cases hr : part j6 with
       | out =>
        rw [hr] at HQ; exact absurd HQ.out.symm HO.out
       | bad er pl =>
        have HRR := hide hr; rw [hr] at HQ; have hq : r = .bad er pl := HQ.out.symm; have HQQ := hide hq; have HC5 := hide (HPC.out.does wo j6 _ HKW6.out HRR.out.symm (by nofun) HP6.out); clear hr hq HQ; go_wp2_with fail
        refine cm HC5.out ?_; rintro e w4 ⟨⟨v, rfl, p4, rfl⟩, hp4, he, ha4⟩; have HP4 := hide hp4; have HA4 := hide (HA6.out.next ha4); have HK4 := hide (KV.later HK6.out ha4 HLT.out); clear hp4 ha4 HC5 HP6 HA6 HK6
        obtain ⟨ps, hown, hk4⟩ := unhide HK4; have hlen := NAts.length _ _ hk4; have hOB := own_lt hown; rw [hlen] at hown; have HOWN := hide hown; have HLEN := hide hlen; have HKK := hide hk4; have hsz := HA4.out.size
        have HOB := hide hOB; clear hown hk4 HK4 hOB hlen
        go_wp2_with (at_builtin; refine wpList_append_lies _ rfl _ _ 36 rfl w.heap.size 22 i0 (.pointer none) 1 8 Tryz.underlying36 hi0 hz0 hz1 hz2 rfl (by decide) _ _ _ rfl (HOWN.out.alloc _) ⟨w4.heap.size, 0, none⟩ 1 1 [nPtr p4] rfl rfl (one_cells w4 p4 _ rfl) (one_one p4) (by decide) (by unfold maxLen; omega) (by omega) (by simp; omega) (w4.heap.size + 1) (by simp) ?_)
        intro g cap w5 hown' hgrow hg _; have HB5 := hide (((Below.refl w.heap.size w4).alloc hsz (.cells #[nPtr p4] 22)).grown hgrow (by simp; omega) (fun k hk => (unhide HOB k hk).2))
        have HA5 := hide ((HA4.out.alloc hsz (.cells #[nPtr p4] 22)).grown hgrow (by simp; omega) (fun k hk => (unhide HOB k hk).2))
        have HP5 : Hid (∃ j, Ps c w5 j er (pl : Int)) := by
         obtain ⟨j2, hp⟩ := unhide HP4; exact ⟨j2, hp.ap HB5.out HLO.out⟩
        have HZ5 : Hid (RowZ w.heap.size w5 (.slice (some ⟨g, 0, none⟩) (acc.length + 1) cap)) := ⟨ps ++ [p4], by have := unhide HLEN; simp; omega, by have hl := unhide HLEN; rw [List.length_append, List.length_singleton, hl, List.map_append]; exact hown'⟩
        clear hown' hgrow hg HKK HOWN; go_wp2_with fail
        go_roundg k
        case measure => omega
        case rel => exact Or.inr ⟨er, pl, HQQ.out, he, HP5.out, HA5.out, HZ5.out⟩
       | ok t j2 =>
        have HRR := hide hr; rw [hr] at HQ; have hq : rlistLoop c.l s part k (acc ++ [t]) j2 = r := unhide HQ; have HQQ := hide hq; have HC5 := hide (HPC.out.does wo j6 _ HKW6.out HRR.out.symm (by nofun) HP6.out)
        clear hr hq HQ; go_wp2_with fail; refine cm HC5.out ?_; rintro e w4 ⟨⟨v, rfl, p4, rfl, hn4⟩, hp4, ha4⟩; have HP4 := hide hp4; have HA4 := hide (HA6.out.next ha4); have HK4 := hide (KV.later HK6.out ha4 HLT.out)
        have HN4 := hide (apart_own HK6.out HA6.out.size hn4); have HKW4 := hide (HPC.out.stays _ _ HKW6.out HP6.out.rlt ha4); clear hn4; clear hp4 ha4 HC5 HP6 HA6 HK6; obtain ⟨ps, hown, hk4⟩ := unhide HK4
        have hlen := NAts.length _ _ hk4; have hOB := own_lt hown; rw [hlen] at hown; have HOWN := hide hown; have HLEN := hide hlen; have HKK := hide hk4; have hsz := HA4.out.size; have HOB := hide hOB
        clear hown hk4 HK4 hOB hlen
        go_wp2_with (at_builtin; refine wpList_append_lies _ rfl _ _ 36 rfl w.heap.size 22 i0 (.pointer none) 1 8 Tryz.underlying36 hi0 hz0 hz1 hz2 rfl (by decide) _ _ _ rfl (HOWN.out.alloc _) ⟨w4.heap.size, 0, none⟩ 1 1 [nPtr p4] rfl rfl (one_cells w4 p4 _ rfl) (one_one p4) (by decide) (by unfold maxLen; omega) (by omega) (by simp; omega) (w4.heap.size + 1) (by simp) ?_)
        intro g cap w5 hown' hgrow hg _; have HB5 := hide (((Below.refl w.heap.size w4).alloc hsz (.cells #[nPtr p4] 22)).grown hgrow (by simp; omega) (fun k hk => (unhide HOB k hk).2))
        have HA5 := hide ((HA4.out.alloc hsz (.cells #[nPtr p4] 22)).grown hgrow (by simp; omega) (fun k hk => (unhide HOB k hk).2))
        have HK5 : Hid (KV w.heap.size w5 (acc ++ [t]) (.slice (some ⟨g, 0, none⟩) (acc.length + 1) cap)) := kv_push HKK.out (NAts.cons HN4.out NAts.nil) (by rw [List.map_append]; exact hown') (by simp [HLEN.out]) hgrow hg
        have HP5 := hide (HP4.out.ap HB5.out HLO.out); have HKW5 := hide (HPC.out.kept _ _ _ HKW4.out HB5.out HLB.out); clear hown' hgrow hg HKK HOWN; go_wp2_with fail
        go_roundg k
        case measure => omega
        case rel => exact Or.inl ⟨acc ++ [t], j2, HQQ.out, HK5.out, HP5.out, HA5.out, by have hh := unhide HLE8; simp; omega, HKW5.out⟩
  ·
   obtain ⟨zps, hzl, hzr⟩ := hrz; obtain ⟨za, zc, rfl⟩ := row_shut hzr; have HZ := hide hzr; clear hzr; have HC1 := hide (rok_old he hps); have HC2 := hide (rmust_old c wr j er pl he s hps); have HP1 := hide hps
   have HA1 := hide hap; clear hps hap; subst hq; go_wp2_with fail; refine cm HC1.out ?_; rintro e w2 ⟨rfl, rfl⟩; clear HC1; go_wp2_with fail; refine cm HC2.out ?_; rintro e w3 ⟨rfl, rfl⟩; clear HC2; go_wp2_with fail
   go_ret; exact ⟨⟨_, rfl, zps, hzl, HZ.out⟩, ⟨j, HP1.out⟩, he, HA1.out⟩
theorem rlist_any {c : PC} {K : World → Prop} {f : Nat} {caps : Array Value} {part : Nat → PR Tr} {lo : Nat} (hp : PartC c lo K f caps part) (s : ByteArray) (hsn : s ≠ noText) (n : Nat) (w : World) (i : Nat) (r : PR (List Tr)) (hs : r = rlistLoop c.l s part n [] i) (ho : r ≠ .out) (hk : K w) (hlo : lo ≤ w.heap.size) (h : Ps c w i 0 (-1)) :
  Calls Tryz.prog 147 #[pPtr c, .string s, .func (.func f) #[] caps] w (QPost c w (KV w.heap.size) ZL r) := by
 refine cm (rlist_all hp s hsn n w i r hs ho hk hlo h) ?_
 intro e w' hh
 cases r with
 | out => exact trivial
 | ok ts j =>
  obtain ⟨⟨v, rfl, h1, _⟩, h2, h3⟩ := hh; exact ⟨⟨v, rfl, h1⟩, h2, h3⟩
 | bad er pl =>
  obtain ⟨⟨v, rfl, ps, _, h1⟩, h2, he, h3⟩ := hh; obtain ⟨a, k, hv⟩ := row_shut h1; exact ⟨⟨v, rfl, a, _, k, hv⟩, h2, he, h3⟩
structure BoxP (c : PC) (b : Nat) (W : World) : Prop where
 blk : W.heap[b]? = some (.cells #[pPtr c] 64 (0, 0))
 ne : b ≠ c.P
theorem BoxP.cell {c : PC} {b : Nat} {W : World} (h : BoxP c b W) : W.cell? ⟨b, 0, none⟩ = some (pPtr c) := by rw [cell_of h.blk]; rfl
theorem BoxP.lt {c : PC} {b : Nat} {W : World} (h : BoxP c b W) : b < W.heap.size := lt_of_heap h.blk
theorem BoxP.ap {c : PC} {b : Nat} {W W' : World} (h : BoxP c b W) (ha : Ap c.P W.heap.size W W') : BoxP c b W' := ⟨by rw [ha.block b h.lt h.ne]; exact h.blk, h.ne⟩
theorem BoxP.below {c : PC} {b B : Nat} {W W' : World} (h : BoxP c b W) (ha : Below B W W') (hb : b < B) : BoxP c b W' := ⟨by rw [ha.block b hb]; exact h.blk, h.ne⟩
structure BoxN (c : PC) (b : Nat) (d : Nat) (W : World) : Prop where
 blk : W.heap[b]? = some (.cells #[.int .i64 (d : Int)] 3 (0, 0))
 ne : b ≠ c.P
theorem BoxN.cell {c : PC} {b d : Nat} {W : World} (h : BoxN c b d W) : W.cell? ⟨b, 0, none⟩ = some (.int .i64 (d : Int)) := by rw [cell_of h.blk]; rfl
theorem BoxN.lt {c : PC} {b d : Nat} {W : World} (h : BoxN c b d W) : b < W.heap.size := lt_of_heap h.blk
theorem BoxN.ap {c : PC} {b d : Nat} {W W' : World} (h : BoxN c b d W) (ha : Ap c.P W.heap.size W W') : BoxN c b d W' := ⟨by rw [ha.block b h.lt h.ne]; exact h.blk, h.ne⟩
theorem BoxN.below {c : PC} {b d B : Nat} {W W' : World} (h : BoxN c b d W) (ha : Below B W W') (hb : b < B) : BoxN c b d W' := ⟨by rw [ha.block b hb]; exact h.blk, h.ne⟩
theorem en142 : ∀ args W, (callFunc 148 args).run Tryz.prog W = .ok (.enter 148 args) W := fun _ _ => by kernel_rfl
theorem nv_leaf {B : Nat} {w : World} (hB : B ≤ w.heap.size) (kd : Int) (tx : ByteArray) (z : Int) : NV B (w.alloc (nodeObj kd tx z (.slice none 0 0))) (.mk kd tx z []) (nPtr w.heap.size) := (EV.new (KV.nil B w) hB kd tx z).nv
theorem rparam_does {c : PC} {b : Nat} (W : World) (i : Nat) (r : PR Tr) (hk : BoxP c b W) (hs : r = paramP c.l i) (ho : r ≠ .out) (h : Ps c W i 0 (-1)) :
  Calls Tryz.prog 148 #[.pointer (some ⟨b, 0, none⟩)] W (QPost c W (NV W.heap.size) ZN r) := by
 have k0 := hk.cell
 unfold paramP at hs
 have HC := hide (rident_any c W i h)
 have HS := hide hs
 have HO := hide ho
 clear hk h hs ho
 go_enter Tryz.func148, Tryz.ntmps148
 go_wp2_with fail
 refine cm HC.out ?_
 intro e w1 hp
 cases hr : nameP c.l i with
 | out => rw [hr] at HS; exact absurd HS.out HO.out
 | bad er pl =>
  rw [hr] at hp HS; have hq : r = .bad er pl := unhide HS; subst hq; obtain ⟨⟨v, rfl, s, rfl⟩, ⟨j, hp1⟩, he, ha⟩ := hp; have HP := hide hp1; have HA := hide ha; clear hp1 ha hr HC; go_wp2_with fail; go_ret
  exact ⟨⟨_, rfl, _, rfl⟩, ⟨j, HP.out.alloc _⟩, he, HA.out.alloc HA.out.size _⟩
 | ok x j =>
  rw [hr] at hp HS; have hq : r = .ok (.mk 23 x 0 []) j := unhide HS; subst hq; obtain ⟨⟨v, rfl, rfl⟩, hp1, ha⟩ := hp; have HP := hide hp1; have HA := hide ha; clear hp1 ha hr HC; go_wp2_with fail; go_ret
  exact ⟨⟨_, rfl, nv_leaf HA.out.size 23 x 0⟩, HP.out.alloc _, HA.out.alloc HA.out.size _⟩
theorem param_part (c : PC) (b : Nat) : PartC c (b + 1) (BoxP c b) 148 #[.pointer (some ⟨b, 0, none⟩)] (paramP c.l) where
 enters := en142
 stays := fun _ _ hk _ ha => hk.ap ha
 does := fun W i r hk hs ho h => rparam_does W i r hk hs ho h
 kept := fun _ _ _ hk ha hB => hk.below ha (by omega)
theorem rfunction_old (c : PC) (w : World) (i : Nat) (er pl kd D : Int) (s : ByteArray) (he : er ≠ 0) (h : Ps c w i er pl) :
  Calls Tryz.prog 103 #[pPtr c, .int .i64 kd, .string s, .int .i64 D] w (NPost c w er pl ZN) := by
 have HP1 := hide (h.alloc (.cells #[pPtr c] 64))
 have HC1 := hide (rmust_old c _ i er pl he tOpen HP1.out)
 have hb : (w.alloc (.cells #[pPtr c] 64)).cell? ⟨w.heap.size, 0, none⟩ = some (pPtr c) := by rw [cell_of (heap_new _ _)]; rfl
 clear h
 go_enter Tryz.func103, Tryz.ntmps103
 go_wp2_with fail
 refine cm HC1.out ?_
 rintro e w1 ⟨rfl, rfl⟩
 clear HC1
 have HC2 := hide (rlist_old c _ i er pl tShut (.func (.func 148) #[] #[.pointer (some ⟨w.heap.size, 0, none⟩)]) he HP1.out)
 go_wp2_with fail
 refine cm HC2.out ?_
 rintro e w2 ⟨rfl, rfl⟩
 clear HC2
 have HC3 := hide (rbraces_old c _ i er pl D true he (HP1.out.alloc (nodeObj 40 noText 0 (.slice none 0 0))))
 go_wp2_with fail
 refine cm HC3.out ?_
 rintro e w3 ⟨⟨v, rfl, q, rfl⟩, ⟨j, hp3⟩, _, ha3⟩
 have HP3 := hide hp3
 have HA3 := hide ((((Ap.refl c.P w.heap.size w).alloc (Nat.le_refl _) (.cells #[pPtr c] 64)).alloc (by simp) (nodeObj 40 noText 0 (.slice none 0 0))).trans (ha3.mono (by simp; omega)))
 clear hp3 ha3 HC3
 go_wp2_with fail
 go_ret
 exact ⟨⟨_, rfl, _, rfl⟩, ⟨j, (HP3.out.alloc _).alloc _⟩, he, (HA3.out.alloc HA3.out.size _).alloc (by have := HA3.out.size; simp; omega) _⟩
theorem setMap_new (W : World) (o1 o2 : Obj) : setMap (W.alloc o1) W.heap.size o2 = W.alloc o2 := by
 have h : (W.heap.push o1).setIfInBounds W.heap.size o2 = W.heap.push o2 := by
  apply Array.ext (by simp); intro k h1 h2; simp only [Array.size_setIfInBounds, Array.size_push] at h1; rw [Array.getElem_setIfInBounds (by simpa using h1)]
  by_cases hk : W.heap.size = k
  ·
   subst hk; simp
  ·
   rw [if_neg hk, Array.getElem_push_lt (by omega), Array.getElem_push_lt (by omega)]
 unfold setMap World.alloc
 simp only [h]
theorem upd_last (T E : TypeId) (W : World) (l : List (ByteArray × Value)) (s : ByteArray) (v : Value) (k : Nat) (m m' : Array MapEntry) (hk : k = l.length) (hm : m = mapOf l) (hm' : m' = mapOf (l ++ [(s, v)])) (hT : Tryz.prog.underlying T = some (.map 9 E)) (hn : l.find? (fun e => decide (s = e.1)) = none) :
  (Instr.mapUpdate T (.map (some W.heap.size)) (.string s) v).run Tryz.prog (W.alloc (.map m k)) = .ok () (W.alloc (.map m' (k + 1))) := by
 subst hk hm hm'
 rw [update_new T E W.heap.size l s v _ hT (heap_new _ _) hn, setMap_new]
theorem lookup_map1 (T E : TypeId) (m k : Nat) (l : List (ByteArray × Value)) (s : ByteArray) (z : Value) (W : World) (hT : Tryz.prog.underlying T = some (.map 9 E)) (hm : W.heap[m]? = some (.map (mapOf l) k)) (hz : (zeroValue E).run Tryz.prog W = .ok z W) :
  (Instr.lookup T (.map (some m)) (.string s) false).run Tryz.prog W = .ok (((l.find? (fun e => decide (s = e.1))).map (·.2)).getD z) W := by
 obtain ⟨o, h1, h2⟩ := find_ents s l 0 0
 have h9 := Tryz.underlying9
 have h3 : (Instr.findKey 9 (.string s) (mapOf l).toList).run Tryz.prog W = .ok o W := by
  unfold Instr.findKey; rw [Sem.run_bind, run_underlying h9 W]; simp only [Result.andThen_ok, mapOf]; rw [h1]; rfl
 unfold Instr.lookup
 rw [Sem.run_bind, run_underlying hT W]
 have hck : ∀ b, (Instr.checkKey b 10000 9 (.string s)).run Tryz.prog W = .ok () W := by
  intro b; rw [Instr.checkKey, Sem.run_bind, run_underlying h9 W]; rfl
 have hg : (getObj m).run Tryz.prog W = .ok (.map (mapOf l) k) W := by simp [getObj, Sem.run, hm]
 simp only [Result.andThen_ok, Sem.run_bind, hg, Sem.run_pure, hck, h3]
 cases o with
 | none =>
  cases hf : l.find? (fun e => decide (s = e.1)) with
  | none => simp [hz]
  | some x => rw [hf] at h2; simp at h2
 | some y =>
  cases hf : l.find? (fun e => decide (s = e.1)) with
  | none => rw [hf] at h2; simp at h2
  | some x => rw [hf] at h2; simp at h2; simp [h2]
def numsV (l : List (ByteArray × Int)) : List (ByteArray × Value) := l.map fun e => (e.1, .int .i64 e.2)
theorem look_nums (g k : Nat) (l : List (ByteArray × Int)) (s : ByteArray) (W : World) (hm : W.heap[g]? = some (.map (mapOf (numsV l)) k)) :
  (Instr.lookup 98 (.map (some g)) (.string s) false).run Tryz.prog W = .ok (.int .i64 ((look2 l s).getD 0)) W := by
 rw [lookup_map1 98 3 g k _ s (.int .i64 0) W Tryz.underlying98 hm (by kernel_rfl)]
 unfold numsV look2
 rw [List.find?_map]
 simp only [Function.comp_def]
 cases l.find? (fun e => decide (s = e.1)) <;> rfl
theorem lits_made (W : World) : ∃ m1 m2 m3 m4 : Array MapEntry,
  (Instr.makeMap 98 none).run Tryz.prog W = .ok (.map (some W.heap.size)) (W.alloc (.map #[] 0))
  ∧ (Instr.mapUpdate 98 (.map (some W.heap.size)) (.string tTrue) (.int .i64 19)).run Tryz.prog (W.alloc (.map #[] 0)) = .ok () (W.alloc (.map m1 1))
  ∧ (Instr.mapUpdate 98 (.map (some W.heap.size)) (.string tFalse) (.int .i64 20)).run Tryz.prog (W.alloc (.map m1 1)) = .ok () (W.alloc (.map m2 2))
  ∧ (Instr.mapUpdate 98 (.map (some W.heap.size)) (.string tNull) (.int .i64 21)).run Tryz.prog (W.alloc (.map m2 2)) = .ok () (W.alloc (.map m3 3))
  ∧ (Instr.mapUpdate 98 (.map (some W.heap.size)) (.string tUndef) (.int .i64 22)).run Tryz.prog (W.alloc (.map m3 3)) = .ok () (W.alloc (.map m4 4))
  ∧ ∀ s, (Instr.lookup 98 (.map (some W.heap.size)) (.string s) false).run Tryz.prog (W.alloc (.map m4 4)) = .ok (.int .i64 (litK s)) (W.alloc (.map m4 4)) := by
 refine ⟨mapOf (numsV (lits.take 1)), mapOf (numsV (lits.take 2)), mapOf (numsV (lits.take 3)), mapOf (numsV lits), mkMap 98 W, ?_, ?_, ?_, ?_, ?_⟩
 ·
  exact upd_last 98 3 W [] tTrue _ 0 _ _ rfl rfl rfl Tryz.underlying98 rfl
 ·
  exact upd_last 98 3 W (numsV (lits.take 1)) tFalse _ 1 _ _ rfl rfl rfl Tryz.underlying98 (by decide +kernel)
 ·
  exact upd_last 98 3 W (numsV (lits.take 2)) tNull _ 2 _ _ rfl rfl rfl Tryz.underlying98 (by decide +kernel)
 ·
  exact upd_last 98 3 W (numsV (lits.take 3)) tUndef _ 3 _ _ rfl rfl rfl Tryz.underlying98 (by decide +kernel)
 ·
  intro s; exact look_nums W.heap.size 4 lits s _ (heap_new _ _)
theorem ops_made (W : World) : ∃ m1 m2 m3 m4 m5 m6 m7 : Array MapEntry,
  (Instr.makeMap 98 none).run Tryz.prog W = .ok (.map (some W.heap.size)) (W.alloc (.map #[] 0))
  ∧ (Instr.mapUpdate 98 (.map (some W.heap.size)) (.string tOr) (.int .i64 25)).run Tryz.prog (W.alloc (.map #[] 0)) = .ok () (W.alloc (.map m1 1))
  ∧ (Instr.mapUpdate 98 (.map (some W.heap.size)) (.string tAnd) (.int .i64 26)).run Tryz.prog (W.alloc (.map m1 1)) = .ok () (W.alloc (.map m2 2))
  ∧ (Instr.mapUpdate 98 (.map (some W.heap.size)) (.string tSame) (.int .i64 27)).run Tryz.prog (W.alloc (.map m2 2)) = .ok () (W.alloc (.map m3 3))
  ∧ (Instr.mapUpdate 98 (.map (some W.heap.size)) (.string tLess) (.int .i64 28)).run Tryz.prog (W.alloc (.map m3 3)) = .ok () (W.alloc (.map m4 4))
  ∧ (Instr.mapUpdate 98 (.map (some W.heap.size)) (.string tAdd) (.int .i64 29)).run Tryz.prog (W.alloc (.map m4 4)) = .ok () (W.alloc (.map m5 5))
  ∧ (Instr.mapUpdate 98 (.map (some W.heap.size)) (.string tSub) (.int .i64 30)).run Tryz.prog (W.alloc (.map m5 5)) = .ok () (W.alloc (.map m6 6))
  ∧ (Instr.mapUpdate 98 (.map (some W.heap.size)) (.string tMul) (.int .i64 31)).run Tryz.prog (W.alloc (.map m6 6)) = .ok () (W.alloc (.map m7 7))
  ∧ ∀ s, (Instr.lookup 98 (.map (some W.heap.size)) (.string s) false).run Tryz.prog (W.alloc (.map m7 7)) = .ok (.int .i64 (opK s)) (W.alloc (.map m7 7)) := by
 refine ⟨mapOf (numsV (ops.take 1)), mapOf (numsV (ops.take 2)), mapOf (numsV (ops.take 3)), mapOf (numsV (ops.take 4)), mapOf (numsV (ops.take 5)), mapOf (numsV (ops.take 6)), mapOf (numsV ops), mkMap 98 W, ?_, ?_, ?_, ?_, ?_, ?_, ?_, ?_⟩
 ·
  exact upd_last 98 3 W [] tOr _ 0 _ _ rfl rfl rfl Tryz.underlying98 rfl
 ·
  exact upd_last 98 3 W (numsV (ops.take 1)) tAnd _ 1 _ _ rfl rfl rfl Tryz.underlying98 (by decide +kernel)
 ·
  exact upd_last 98 3 W (numsV (ops.take 2)) tSame _ 2 _ _ rfl rfl rfl Tryz.underlying98 (by decide +kernel)
 ·
  exact upd_last 98 3 W (numsV (ops.take 3)) tLess _ 3 _ _ rfl rfl rfl Tryz.underlying98 (by decide +kernel)
 ·
  exact upd_last 98 3 W (numsV (ops.take 4)) tAdd _ 4 _ _ rfl rfl rfl Tryz.underlying98 (by decide +kernel)
 ·
  exact upd_last 98 3 W (numsV (ops.take 5)) tSub _ 5 _ _ rfl rfl rfl Tryz.underlying98 (by decide +kernel)
 ·
  exact upd_last 98 3 W (numsV (ops.take 6)) tMul _ 6 _ _ rfl rfl rfl Tryz.underlying98 (by decide +kernel)
 ·
  intro s; exact look_nums W.heap.size 7 ops s _ (heap_new _ _)
theorem rfunction_any {c : PC} {F : Fns} (hF : RCt c F) (hN : ∃ k, FNx c.l k F) (hK : FOk F) (w : World) (kd : Int) (s : ByteArray) (d i : Nat) (r : PR Tr) (hd : d ≤ 30) (hs : r = rfuncTail c.l F kd s d i) (ho : r ≠ .out) (h : Ps c w i 0 (-1)) :
  Calls Tryz.prog 103 #[pPtr c, .int .i64 kd, .string s, .int .i64 (d : Int)] w (QPost c w (NV w.heap.size) ZN r) := by
 unfold rfuncTail rparamsP at hs
 have HLT := hide h.rlt
 have hne : w.heap.size ≠ c.P := by have := h.rlt; omega
 have HBX : Hid (BoxP c w.heap.size (w.alloc (.cells #[pPtr c] 64))) := ⟨heap_new _ _, hne⟩
 have HP0 := hide (h.alloc (.cells #[pPtr c] 64))
 have HA0 := hide ((Ap.refl c.P w.heap.size w).alloc (Nat.le_refl _) (.cells #[pPtr c] 64))
 have HC1 := hide (rmust_any c _ i tOpen (by decide) HP0.out)
 have hb := HBX.out.cell
 have HS := hide hs
 have HO := hide ho
 have HF := hide hF
 have HNX := hide hN
 have HKO := hide hK
 clear h hs ho hF hN hK hne
 go_enter Tryz.func103, Tryz.ntmps103
 go_wp2_with fail
 refine cm HC1.out ?_
 intro e w1 hp
 cases hr : mustP c.l tOpen i with
 | out => rw [hr] at HS; exact absurd HS.out HO.out
 | bad er pl =>
  rw [hr] at hp HS; have hq : r = .bad er pl := unhide HS; subst hq; obtain ⟨⟨v, rfl, rfl⟩, ⟨j, hp1⟩, he, ha⟩ := hp; have HP1 := hide hp1; have HA1 := hide (HA0.out.trans (ha.mono (by simp)))
  have hb1 := (HBX.out.ap ha).cell; clear hp1 ha hr HC1 HP0 HA0 hb; have HC2 := hide (rlist_old c w1 j er pl tShut (.func (.func 148) #[] #[.pointer (some ⟨w.heap.size, 0, none⟩)]) he HP1.out); go_wp2_with fail
  refine cm HC2.out ?_; rintro e w2 ⟨rfl, rfl⟩; clear HC2; have HC3 := hide (rbraces_old c _ j er pl d true he (HP1.out.alloc (nodeObj 40 noText 0 (.slice none 0 0)))); have hwl : w.heap.size < w2.heap.size := by
   rcases Nat.lt_or_ge w.heap.size w2.heap.size with h' | h'
   ·
    exact h'
   ·
    simp [World.cell?, Array.getElem?_eq_none h'] at hb1
  go_wp2_with fail; refine cm HC3.out ?_; rintro e w3 ⟨⟨v, rfl, q, rfl⟩, ⟨j3, hp3⟩, _, ha3⟩; have HP3 := hide hp3
  have HA3 := hide ((HA1.out.alloc HA1.out.size (nodeObj 40 noText 0 (.slice none 0 0))).trans (ha3.mono (by simp; omega)))
  clear hp3 ha3 HC3; go_wp2_with fail; go_ret; exact ⟨⟨_, rfl, _, rfl⟩, ⟨j3, (HP3.out.alloc _).alloc _⟩, he, (HA3.out.alloc HA3.out.size _).alloc (by have := HA3.out.size; simp; omega) _⟩
 | ok x1 j1 =>
  rw [hr] at hp HS; obtain ⟨⟨v, rfl, rfl⟩, hp1, ha⟩ := hp; have HP1 := hide hp1; have HA1 := hide (HA0.out.trans (ha.mono (by simp))); have HBX1 := hide (HBX.out.ap ha); have hb1 := HBX1.out.cell; have hwl := HBX1.out.lt
  clear hp1 ha hr HC1 HP0 HA0 hb HBX
  cases hr2 : rlistLoop c.l tShut (paramP c.l) F.fuel [] j1 with
  | out => rw [bind_ok, hr2] at HS; exact absurd HS.out HO.out
  | bad er pl =>
   have HC2 := hide (rlist_any (param_part c w.heap.size) tShut (by decide) F.fuel w1 j1 _ hr2.symm (by nofun) HBX1.out (by omega) HP1.out); rw [bind_ok, hr2] at HS; have hq : r = .bad er pl := unhide HS; subst hq
   clear hr2; go_wp2_with fail; refine cm HC2.out ?_; rintro e w2 ⟨⟨v, rfl, a, n, k, rfl⟩, ⟨j, hp2⟩, he, ha2⟩; have HP2 := hide hp2; have HA2 := hide (HA1.out.next ha2); have hb2 := (HBX1.out.ap ha2).cell
   have hwl2 := (HBX1.out.ap ha2).lt; clear hp2 ha2 HC2 HP1 HA1; have HC3 := hide (rbraces_old c _ j er pl d true he (HP2.out.alloc (nodeObj 40 noText 0 (.slice a n k)))); go_wp2_with fail; refine cm HC3.out ?_
   rintro e w3 ⟨⟨v, rfl, q, rfl⟩, ⟨j3, hp3⟩, _, ha3⟩; have HP3 := hide hp3; have HA3 := hide ((HA2.out.alloc HA2.out.size (nodeObj 40 noText 0 (.slice a n k))).trans (ha3.mono (by simp; omega)))
   clear hp3 ha3 HC3; go_wp2_with fail; go_ret; exact ⟨⟨_, rfl, _, rfl⟩, ⟨j3, (HP3.out.alloc _).alloc _⟩, he, (HA3.out.alloc HA3.out.size _).alloc (by have := HA3.out.size; simp; omega) _⟩
  | ok ts j2 =>
   have HC2 := hide (rlist_any (param_part c w.heap.size) tShut (by decide) F.fuel w1 j1 _ hr2.symm (by nofun) HBX1.out (by omega) HP1.out); rw [bind_ok, hr2] at HS
   have hq : r = (blockP c.l F d j2).bind fun b i2 => .ok (.mk kd s 0 [.mk 40 noText 0 ts, codeT b]) i2 := unhide HS; have HQ := hide hq; clear hr2 hq HS; go_wp2_with fail; refine cm HC2.out ?_
   rintro e w2 ⟨⟨v, rfl, hkv⟩, hp2, ha2⟩; obtain ⟨a, k, rfl⟩ := hkv.shape; have HP2 := hide (hp2.alloc (nodeObj 40 noText 0 (.slice a ts.length k)))
   have HA2 := hide ((HA1.out.next ha2).alloc (HA1.out.next ha2).size (nodeObj 40 noText 0 (.slice a ts.length k))); have HNP := hide (EV.new (hkv.mono HA1.out.size) (HA1.out.next ha2).size 40 noText 0).nv
   have hb2 := (HBX1.out.ap ha2).cell; have hwl2 := (HBX1.out.ap ha2).lt; clear hp2 ha2 HC2 HP1 HA1 hkv
   cases hr3 : blockP c.l F d j2 with
   | out => rw [hr3] at HQ; exact absurd HQ.out HO.out
   | bad er pl =>
    have HC3 := hide (rbraces_any HF.out HNX.out HKO.out true _ d j2 (.bad er pl) hd (by rw [hr3]; rfl) (by nofun) HP2.out)
    rw [hr3] at HQ; have hq : r = .bad er pl := unhide HQ; subst hq; clear hr3; go_wp2_with fail; refine cm HC3.out ?_; rintro e w3 ⟨⟨v, rfl, q, rfl⟩, ⟨j3, hp3⟩, he, ha3⟩; have HP3 := hide hp3
    have HA3 := hide (HA2.out.trans (ha3.mono (by simp; omega)))
    clear hp3 ha3 HC3; go_wp2_with fail; go_ret; exact ⟨⟨_, rfl, _, rfl⟩, ⟨j3, (HP3.out.alloc _).alloc _⟩, he, (HA3.out.alloc HA3.out.size _).alloc (by have := HA3.out.size; simp; omega) _⟩
   | ok b j3 =>
    have HC3 := hide (rbraces_any HF.out HNX.out HKO.out true _ d j2 (.ok (codeT b) j3) hd (by rw [hr3]; rfl) (by nofun) HP2.out)
    rw [hr3] at HQ; have hq : r = .ok (.mk kd s 0 [.mk 40 noText 0 ts, codeT b]) j3 := unhide HQ; subst hq; clear hr3; go_wp2_with fail; refine cm HC3.out ?_; rintro e w3 ⟨⟨v, rfl, q, rfl, hn3⟩, hp3, ha3⟩
    have HP3 := hide hp3; have HA3 := hide (HA2.out.trans (ha3.mono (by simp; omega)))
    have HNB : Hid (NAt (fun x => w.heap.size ≤ x) w3 (codeT b) q) := NAt.mono (fun x hx _ => Nat.le_trans HA2.out.size hx) _ _ hn3; obtain ⟨q0, he0, hq0⟩ := NV.later HNP.out ha3 HLT.out
    have hq0' : q0 = w2.heap.size := by simpa [nPtr] using he0.symm
    subst hq0'; have HNP3 := hide hq0; clear hp3 ha3 HC3 hn3 hq0 he0 HNP; go_wp2_with fail; go_ret
    refine ⟨⟨_, rfl, (nv_row (NAts.cons HNP3.out (NAts.cons HNB.out NAts.nil)) HA3.out.size (by simp [maxLen]) #[nPtr w2.heap.size, nPtr q] rfl 2 rfl kd s 0 _ rfl).nv⟩, (HP3.out.alloc _).alloc _, (HA3.out.alloc HA3.out.size _).alloc (by have := HA3.out.size; simp; omega) _⟩
structure Box2 (c : PC) (b1 b2 d : Nat) (W : World) : Prop where
 p : BoxP c b1 W
 n : BoxN c b2 d W
theorem Box2.ap {c : PC} {b1 b2 d : Nat} {W W' : World} (h : Box2 c b1 b2 d W) (ha : Ap c.P W.heap.size W W') : Box2 c b1 b2 d W' := ⟨h.p.ap ha, h.n.ap ha⟩
theorem en238 : ∀ args W, (callFunc 257 args).run Tryz.prog W = .ok (.enter 257 args) W := fun _ _ => by kernel_rfl
theorem en251 : ∀ args W, (callFunc 272 args).run Tryz.prog W = .ok (.enter 272 args) W := fun _ _ => by kernel_rfl
theorem rarg_does {c : PC} {F : Fns} (hF : RCt c F) {b1 b2 d : Nat} (hd : d ≤ 30) (W : World) (i : Nat) (r : PR Tr) (hk : Box2 c b1 b2 d W) (hs : r = argP c.l F d i) (ho : r ≠ .out) (h : Ps c W i 0 (-1)) :
  Calls Tryz.prog 257 #[.pointer (some ⟨b1, 0, none⟩), .pointer (some ⟨b2, 0, none⟩)] W (QPost c W (NV W.heap.size) ZN r) := by
 have k0 := hk.p.cell
 have k1 := hk.n.cell
 have HC := hide (hF.vl W d i r hd hs ho h)
 have HO := hide ho
 clear hk h hs ho hF
 go_enter Tryz.func257, Tryz.ntmps257
 go_wp2_with fail
 refine cm HC.out ?_
 intro e w1 hp
 cases r with
 | out => exact absurd rfl HO.out
 | bad er pl =>
  obtain ⟨⟨v, rfl, q, rfl⟩, hp1, he, ha⟩ := hp; have HP := hide hp1; have HA := hide ha; clear hp1 ha HC; go_wp2_with fail; go_ret; exact ⟨⟨_, rfl, _, rfl⟩, HP.out, he, HA.out⟩
 | ok t j =>
  obtain ⟨⟨v, rfl, q, rfl, hn⟩, hp1, ha⟩ := hp; have HP := hide hp1; have HA := hide ha; have HN := hide hn; clear hp1 ha hn HC; go_wp2_with fail; go_ret; exact ⟨⟨_, rfl, q, rfl, HN.out⟩, HP.out, HA.out⟩
theorem arg_part {c : PC} {F : Fns} (hF : RCt c F) (b1 b2 d : Nat) (hd : d ≤ 30) : PartC c (max b1 b2 + 1) (Box2 c b1 b2 d) 257 #[.pointer (some ⟨b1, 0, none⟩), .pointer (some ⟨b2, 0, none⟩)] (argP c.l F d) where
 enters := en238
 stays := fun _ _ hk _ ha => hk.ap ha
 does := fun W i r hk hs ho h => rarg_does hF hd W i r hk hs ho h
 kept := fun _ _ _ hk ha hB => ⟨hk.p.below ha (by omega), hk.n.below ha (by omega)⟩
theorem rprop_does {c : PC} {F : Fns} (hF : RCt c F) {b1 b2 d : Nat} (hd : d ≤ 30) (W : World) (i : Nat) (r : PR Tr) (hk : Box2 c b1 b2 d W) (hs : r = propP c.l F d i) (ho : r ≠ .out) (h : Ps c W i 0 (-1)) :
  Calls Tryz.prog 272 #[.pointer (some ⟨b1, 0, none⟩), .pointer (some ⟨b2, 0, none⟩)] W (QPost c W (NV W.heap.size) ZN r) := by
 have k0 := hk.p.cell
 have k1 := hk.n.cell
 unfold propP at hs
 have HC := hide (rident_any c W i h)
 have HLT := hide h.rlt
 have HBX := hide hk
 have HS := hide hs
 have HO := hide ho
 have HF := hide hF
 clear hk h hs ho hF
 go_enter Tryz.func272, Tryz.ntmps272
 go_wp2_with fail
 refine cm HC.out ?_
 intro e w1 hp
 clear k0 k1
 cases hr : nameP c.l i with
 | out => rw [hr] at HS; exact absurd HS.out HO.out
 | bad er pl =>
  rw [hr] at hp HS; have hq : r = .bad er pl := unhide HS; subst hq; obtain ⟨⟨v, rfl, s, rfl⟩, ⟨j, hp1⟩, he, ha⟩ := hp; have HP1 := hide hp1; have HA1 := hide ha; have k0 := (HBX.out.ap ha).p.cell
  have k1 := (HBX.out.ap ha).n.cell; have HC2 := hide (rmust_old c w1 j er pl he tColon hp1); have HC3 := hide (rvalue_old c w1 j er pl ((d : Int) + 1) he hp1); clear hp1 ha hr HC; go_wp2_with fail; refine cm HC2.out ?_
  rintro e w2 ⟨rfl, rfl⟩; clear HC2; go_wp2_with fail; refine cm HC3.out ?_; rintro e w3 ⟨⟨v, rfl, q, rfl⟩, ⟨j3, hp3⟩, _, ha3⟩; have HP3 := hide hp3; have HA3 := hide (HA1.out.next ha3); clear hp3 ha3 HC3; go_wp2_with fail
  go_ret; exact ⟨⟨_, rfl, _, rfl⟩, ⟨j3, (HP3.out.alloc _).alloc _⟩, he, (HA3.out.alloc HA3.out.size _).alloc (by have := HA3.out.size; simp; omega) _⟩
 | ok x j1 =>
  rw [hr] at hp HS; obtain ⟨⟨v, rfl, rfl⟩, hp1, ha⟩ := hp; have HP1 := hide hp1; have HA1 := hide ha; have HB1 := hide (HBX.out.ap ha); have k0 := HB1.out.p.cell; have k1 := HB1.out.n.cell
  have HC2 := hide (rmust_any c w1 j1 tColon (by decide) hp1); clear hp1 ha hr HC HBX; go_wp2_with fail; refine cm HC2.out ?_; intro e w2 hp; clear k0 k1
  cases hr2 : mustP c.l tColon j1 with
  | out => rw [bind_ok, hr2] at HS; exact absurd HS.out HO.out
  | bad er pl =>
   rw [bind_ok, hr2] at HS; rw [hr2] at hp; have hq : r = .bad er pl := unhide HS; subst hq; obtain ⟨⟨v, rfl, rfl⟩, ⟨j, hp2⟩, he, ha⟩ := hp; have HA2 := hide (HA1.out.next ha); have k0 := (HB1.out.ap ha).p.cell
   have k1 := (HB1.out.ap ha).n.cell; have HC3 := hide (rvalue_old c w2 j er pl ((d : Int) + 1) he hp2); clear hp2 ha hr2 HC2; go_wp2_with fail; refine cm HC3.out ?_; rintro e w3 ⟨⟨v, rfl, q, rfl⟩, ⟨j3, hp3⟩, _, ha3⟩
   have HP3 := hide hp3; have HA3 := hide (HA2.out.next ha3); clear hp3 ha3 HC3; go_wp2_with fail; go_ret
   exact ⟨⟨_, rfl, _, rfl⟩, ⟨j3, (HP3.out.alloc _).alloc _⟩, he, (HA3.out.alloc HA3.out.size _).alloc (by have := HA3.out.size; simp; omega) _⟩
  | ok x2 j2 =>
   rw [bind_ok, hr2] at HS; rw [hr2] at hp; obtain ⟨⟨v, rfl, rfl⟩, hp2, ha⟩ := hp; have HA2 := hide (HA1.out.next ha); have HP2 := hide hp2; have k0 := (HB1.out.ap ha).p.cell; have k1 := (HB1.out.ap ha).n.cell
   have hq : r = (deepP c.l F.vl d j2).bind fun t i3 => .ok (.mk 39 x 0 [t]) i3 := unhide HS; have HQ := hide hq; clear hp2 ha hr2 HC2 hq HS HA1 HP1
   cases hr3 : deepP c.l F.vl d j2 with
   | out => rw [hr3] at HQ; exact absurd HQ.out HO.out
   | bad er pl =>
    have HC3 := hide (HF.out.vl w2 d j2 _ hd hr3.symm (by nofun) HP2.out); rw [hr3] at HQ; have hq : r = .bad er pl := unhide HQ; subst hq; clear hr3; go_wp2_with fail; refine cm HC3.out ?_
    rintro e w3 ⟨⟨v, rfl, q, rfl⟩, ⟨j3, hp3⟩, he, ha3⟩; have HP3 := hide hp3; have HA3 := hide (HA2.out.next ha3); clear hp3 ha3 HC3; go_wp2_with fail; go_ret
    exact ⟨⟨_, rfl, _, rfl⟩, ⟨j3, (HP3.out.alloc _).alloc _⟩, he, (HA3.out.alloc HA3.out.size _).alloc (by have := HA3.out.size; simp; omega) _⟩
   | ok t j3 =>
    have HC3 := hide (HF.out.vl w2 d j2 _ hd hr3.symm (by nofun) HP2.out); rw [hr3] at HQ; have hq : r = .ok (.mk 39 x 0 [t]) j3 := unhide HQ; subst hq; clear hr3; go_wp2_with fail; refine cm HC3.out ?_
    rintro e w3 ⟨⟨v, rfl, q, rfl, hn⟩, hp3, ha3⟩; have HP3 := hide hp3; have HA3 := hide (HA2.out.next ha3)
    have HN3 : Hid (NAt (fun b => W.heap.size ≤ b) w3 t q) := NAt.mono (fun b hb _ => Nat.le_trans HA2.out.size hb) _ _ hn; clear hp3 ha3 HC3 hn; go_wp2_with fail; go_ret
    exact ⟨⟨_, rfl, (nv_row (NAts.cons HN3.out NAts.nil) HA3.out.size (by simp [maxLen]) #[nPtr q] rfl 1 rfl 39 x 0 _ rfl).nv⟩, (HP3.out.alloc _).alloc _, (HA3.out.alloc HA3.out.size _).alloc (by have := HA3.out.size; simp; omega) _⟩
theorem prop_part {c : PC} {F : Fns} (hF : RCt c F) (b1 b2 d : Nat) (hd : d ≤ 30) : PartC c (max b1 b2 + 1) (Box2 c b1 b2 d) 272 #[.pointer (some ⟨b1, 0, none⟩), .pointer (some ⟨b2, 0, none⟩)] (propP c.l F d) where
 enters := en251
 stays := fun _ _ hk _ ha => hk.ap ha
 does := fun W i r hk hs ho h => rprop_does hF hd W i r hk hs ho h
 kept := fun _ _ _ hk ha hB => ⟨hk.p.below ha (by omega), hk.n.below ha (by omega)⟩
end Go.Proofs.YtodmgaikhbmlnaaGreatDoor
