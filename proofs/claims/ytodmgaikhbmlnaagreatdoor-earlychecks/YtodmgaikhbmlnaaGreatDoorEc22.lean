/-
  Whether a value begins.
-/
import Derived.Test.YtodmgaikhbmlnaaGreatDoorEc21
set_option maxRecDepth 100000
set_option maxHeartbeats 16000000
namespace Go.Proofs.YtodmgaikhbmlnaaGreatDoor
open Go.RowKit
theorem w3_any {c : Ctx} {b : Nat} {w1 W2 : World} {i d : Nat} {v0 v1 v2 v3 : Value} (h : Rdr c w1 i d) (hlo : c.lo ≤ b) (p1 : w1.heap[b]? = some O160)
  (hW : W2 = (((w1.setCell ⟨b, 0, none⟩ v0).setCell ⟨b, 1, none⟩ v1).setCell ⟨b, 2, none⟩ v2).setCell ⟨b, 3, none⟩ v3) :
  Rdr c W2 i d ∧ Below b w1 W2 ∧ C160 b W2 v0 v1 v2 v3 := by
 have hB : Below b w1 W2 := by
  rw [hW]
  exact ((((Below.refl _ w1).setCell (p := ⟨b, 0, none⟩) (Nat.le_refl _) v0).setCell (p := ⟨b, 1, none⟩) (Nat.le_refl _) v1).setCell (p := ⟨b, 2, none⟩) (Nat.le_refl _) v2).setCell (p := ⟨b, 3, none⟩) (Nat.le_refl _) v3
 refine ⟨h.ap hB hlo, hB, c160 ?_⟩
 rw [hW]
 exact set4 p1 v0 v1 v2 v3
section
variable {c : Ctx} (w : World) (d i : Nat)
include c w d i
theorem av_name (hk : (tkA c.l i).kd = 1) (h : Rdr c w i d) : Calls Tryz.prog 279 #[rPtr c] w fun e w' => e = .returned (.bool true) ∧ Below w.heap.size w w' := by
 have HR0 := hide h
 have HB0 := hide (Below.refl w.heap.size w)
 have b1 : ((tkA c.l i).kd == 1) = true := by rw [hk]; decide
 have b3 : ((tkA c.l i).kd == 3) = false := by rw [hk]; decide
 have b4 : ((tkA c.l i).kd == 4) = false := by rw [hk]; decide
 exact zbcn
theorem av_num (hk : (tkA c.l i).kd = 3) (h : Rdr c w i d) : Calls Tryz.prog 279 #[rPtr c] w fun e w' => e = .returned (.bool true) ∧ Below w.heap.size w w' := by
 have HR0 := hide h
 have HB0 := hide (Below.refl w.heap.size w)
 have b1 : ((tkA c.l i).kd == 1) = false := by rw [hk]; decide
 have b3 : ((tkA c.l i).kd == 3) = true := by rw [hk]; decide
 have b4 : ((tkA c.l i).kd == 4) = false := by rw [hk]; decide
 exact zbcn
theorem av_str (hk : (tkA c.l i).kd = 4) (h : Rdr c w i d) : Calls Tryz.prog 279 #[rPtr c] w fun e w' => e = .returned (.bool true) ∧ Below w.heap.size w w' := by
 have HR0 := hide h
 have HB0 := hide (Below.refl w.heap.size w)
 have b1 : ((tkA c.l i).kd == 1) = false := by rw [hk]; decide
 have b3 : ((tkA c.l i).kd == 3) = false := by rw [hk]; decide
 have b4 : ((tkA c.l i).kd == 4) = true := by rw [hk]; decide
 exact zbcn
end
section
variable {c : Ctx} (w : World) (d i : Nat) (h1 : (tkA c.l i).kd ≠ 1) (h3 : (tkA c.l i).kd ≠ 3) (h4 : (tkA c.l i).kd ≠ 4)
include c w d i h1 h3 h4
open zrqce in
theorem av_map (q : Nat) (hq : look2 vlKeys (fx c.l i) = some q) (h : Rdr c w i d) : Calls Tryz.prog 279 #[rPtr c] w fun e w' => e = .returned (.bool true) ∧ Below w.heap.size w w' := by
 exact zrcp
open zrqcc in
theorem av_none (hq : look2 vlKeys (fx c.l i) = none) (hsg : sgOf (fx c.l i) = none) (h : Rdr c w i d) : Calls Tryz.prog 279 #[rPtr c] w fun e w' => e = .returned (.bool false) ∧ Below w.heap.size w w' := by
 exact zrcp
open zrqcd in
theorem av_some (x : Sg) (hq : look2 vlKeys (fx c.l i) = none) (hsg : sgOf (fx c.l i) = some x) (h : Rdr c w i d) : Calls Tryz.prog 279 #[rPtr c] w fun e w' => e = .returned (.bool (decide (x.parts < 2))) ∧ Below w.heap.size w w' := by
 exact zrcp
end
theorem atValue_any (c : Ctx) : Asks c 279 (isVal c.l) := by
 intro w d i h
 unfold isVal
 by_cases h1 : (tkA c.l i).kd = 1
 ·
  rw [h1]; exact av_name w d i h1 h
 ·
  by_cases h3 : (tkA c.l i).kd = 3
  ·
   rw [h3]; exact av_num w d i h3 h
  ·
   by_cases h4 : (tkA c.l i).kd = 4
   ·
    rw [h4]; exact av_str w d i h4 h
   ·
    rw [beq_eq_false_iff_ne.2 h1, beq_eq_false_iff_ne.2 h3, beq_eq_false_iff_ne.2 h4]; simp only [Bool.false_or]
    cases hq : look2 vlKeys (fx c.l i) with
    | some q => exact av_map w d i h1 h3 h4 q hq h
    | none =>
     cases hsg : sgOf (fx c.l i) with
     | none => exact av_none w d i h1 h3 h4 hq hsg h
     | some x =>
      have hx := av_some w d i h1 h3 h4 x hq hsg h
      cases hp : decide (x.parts < 2) with
      | true => rw [hp] at hx; simpa [Option.filter, hp] using hx
      | false => rw [hp] at hx; simpa [Option.filter, hp] using hx
theorem push0 {c : Ctx} {w w1 : World} {j d : Nat} {t : Tr} {p : Nat} {u : Value} {ps : List Nat} (hO : Open w.heap.size w1 t p u ps) (hR : Rdr c w1 j d) (hA : Ap c.R w.heap.size w w1) (hlo : c.lo ≤ w.heap.size) :
  EV w.heap.size (w1.setCell ⟨p, 3, none⟩ u) (.mk t.kd t.tx t.n (t.kids ++ [])) (nPtr p) ∧ Rdr c (w1.setCell ⟨p, 3, none⟩ u) j d ∧ Ap c.R w.heap.size w (w1.setCell ⟨p, 3, none⟩ u) := by
 have hset : ∀ b, b ≠ p → (w1.setCell ⟨p, 3, none⟩ u).heap[b]? = w1.heap[b]? := fun b hb => Below.heap_setCell w1 ⟨p, 3, none⟩ _ b hb
 have hB : Below w.heap.size w1 (w1.setCell ⟨p, 3, none⟩ u) := (Below.refl _ _).setCell (p := ⟨p, 3, none⟩) hO.low _
 refine ⟨?_, hR.ap hB hlo, hA.trans (Ap.of hB)⟩
 rw [List.append_nil]
 refine ⟨p, u, ps, rfl, hO.low, by rw [heap_set hO.blk]; rfl, ?_, hO.own, NAts.later (fun b hb _ => hset b hb.2.1) _ _ hO.kids⟩
 exact owns_stay (I := fun b => b ≠ p) (fun b hb _ => hset b hb) (fun g hg e => hO.own (by rw [hg, e])) hO.row
theorem pushN {c : Ctx} {w w1 w3 : World} {j d : Nat} {t : Tr} {us : List Tr} {p g cap m : Nat} {u : Value} {ps qs : List Nat} (hO : Open w.heap.size w1 t p u ps) (hx : NAts (fun b => w.heap.size ≤ b ∧ b ≠ p ∧ u.ownBlock ≠ some b) w1 us qs) (hR : Rdr c w1 j d) (hA : Ap c.R w.heap.size w w1) (hlo : c.lo ≤ w.heap.size)
  (hown : w3.ownsRow w.heap.size 22 1 (.slice (some ⟨g, 0, none⟩) m cap) m (ps.map nPtr ++ qs.map nPtr)) (hm : m = ps.length + qs.length) (hgr : w1.grownBy w3 u.ownBlock) (hg : u.ownBlock = some g ∨ g = w1.heap.size) :
  EV w.heap.size (w3.setCell ⟨p, 3, none⟩ (.slice (some ⟨g, 0, none⟩) m cap)) (.mk t.kd t.tx t.n (t.kids ++ us)) (nPtr p) ∧
  Rdr c (w3.setCell ⟨p, 3, none⟩ (.slice (some ⟨g, 0, none⟩) m cap)) j d ∧
  Ap c.R w.heap.size w (w3.setCell ⟨p, 3, none⟩ (.slice (some ⟨g, 0, none⟩) m cap)) := by
 have hrow : ∀ k, u.ownBlock = some k → w.heap.size ≤ k := fun k hk => (own_lt hO.row k hk).2
 have hgrow : Below w.heap.size w1 w3 := (Below.refl w.heap.size w1).grown hgr hA.size hrow
 have hset : Below w.heap.size w1 (w3.setCell ⟨p, 3, none⟩ (.slice (some ⟨g, 0, none⟩) m cap)) := hgrow.setCell (p := ⟨p, 3, none⟩) hO.low _
 refine ⟨?_, hR.ap hset hlo, hA.trans (Ap.of hset)⟩
 exact ev_push hO.low hO.blk hO.own hO.kids hx (by rw [List.map_append]; exact hown) (by rw [hm, List.length_append]) hgr hg
theorem en239 : ∀ args W, (callFunc 279 args).run Tryz.prog W = .ok (.enter 279 args) W := fun _ _ => by kernel_rfl
theorem en240 : ∀ args W, (callFunc 280 args).run Tryz.prog W = .ok (.enter 280 args) W := fun _ _ => by kernel_rfl
theorem LV.many {B : Nat} {w : World} {ts : List Tr} {v : Value} (h : LV B w ts v) (hne : ts ≠ []) : ∃ g cap qs, v = .slice (some ⟨g, 0, none⟩) ts.length cap ∧ qs.length = ts.length ∧ NAts (From B) w ts qs ∧ (∀ j u, (qs.map nPtr)[j]? = some u → w.cell? ((⟨g, 0, none⟩ : Addr).add j) = some u) := by
 obtain ⟨⟨qs, hr, hk⟩, _, _⟩ := h
 have hl := NAts.length _ _ hk
 have hp : 0 < qs.length := by rw [hl]; exact List.length_pos_iff.2 hne
 obtain ⟨g, cap, hv, hc⟩ := row_open hr hp
 refine ⟨g, cap, qs, by rw [hv, hl], hl, NAts.mono (fun b hb _ => hb.1) _ _ hk, fun j u hj => ?_⟩
 rw [Addr.add_mid, Nat.zero_add]
 rw [List.getElem?_map] at hj
 cases hq : qs[j]? with
 | none => rw [hq] at hj; cases hj
 | some q =>
  rw [hq] at hj; obtain ⟨hlt, he⟩ := List.getElem?_eq_some_iff.1 hq; rw [hc j hlt, he]; exact hj
theorem map_one (qs : List Nat) : ∀ u ∈ qs.map nPtr, u.oneCell' = true := by
 intro u hu
 obtain ⟨q, _, rfl⟩ := List.mem_map.1 hu
 rfl
theorem Open.cap {B : Nat} {w : World} {t : Tr} {p : Nat} {ua : Option Addr} {n uc : Nat} {ps : List Nat} (h : Open B w t p (.slice ua n uc) ps) (hp : 0 < t.kids.length) : n ≤ uc ∧ ∃ g, ua = some ⟨g, 0, none⟩ := by
 have hl := NAts.length _ _ h.kids
 rcases h.row.2 with hn | ⟨g, cap, cur, hv, _, _, h1, _⟩
 ·
  omega
 ·
  simp only [Value.slice.injEq] at hv; obtain ⟨rfl, rfl, rfl⟩ := hv; exact ⟨h1, g, rfl⟩
open zrqci in
theorem asked_any {c : Ctx} {F : Fns} (hF : FC c F) (hN : ∃ k, FNx c.l k F) (hK : FOk F) : Does c 277 NV (askedP c.l F) := by
 have hmf := mf_bound c.R 279
 have hmf2 := mf_bound c.R 280
 intro w d i r hs ho h
 have HLO := hide h.base.size
 have HE := hide h.base.ends
 have HL := hide h.base.len
 obtain ⟨i0, hi0, hz0, hz1, hz2⟩ := info_parts info22
 have HNX := hide hN
 have HFC := hide hF
 have HR0 := hide h
 have HA0 := hide (Ap.refl c.R w.heap.size w)
 have HLT := hide h.rlt
 unfold askedP at hs
 have HS := hide hs
 have HO := hide ho
 clear h hs ho
 go_enter Tryz.func277, Tryz.ntmps277
 cases hr : aloneP c.l F d i with
 | out =>
  exact zbak
 | bad er p =>
  have HC := hide (alone_any hF hN hK w d i _ rfl (by rw [hr]; nofun) HR0.out)
  exact zbav
 | ok x1 j1 =>
  have HC := hide (alone_any hF hN hK w d i _ rfl (by rw [hr]; nofun) HR0.out)
  rw [hr] at HC HS; simp only [bind_ok] at HS; exact zrcs
end Go.Proofs.YtodmgaikhbmlnaaGreatDoor
