/-
  Values of two parts, from the left.
-/
import Derived.Test.YtoimgcjbcbhclaaGreatDoorAo0
import Derived.Test.YtoimgcjbcbhclaaGreatDoorAo1
import Derived.Test.YtoimgcjbcbhclaaGreatDoorAo7
import Derived.Test.YtoimgcjbcbhclaaGreatDoorAo10
set_option maxRecDepth 100000
set_option maxHeartbeats 16000000
namespace Go.Proofs.YtoimgcjbcbhclaaGreatDoor
open Go.RowKit
theorem pair_any {c : Ctx} {F : Fns} (hF : FC c F) (hN : ∃ k, FNx c.l k F) (b : Int) (w : World) (d i : Nat) (r : PR Tr) (hs : pairP c.l F b d i = r) (ho : r ≠ .out) (h : Rdr c w i d) : Calls Tryz.prog 281 #[rPtr c, .int .i64 b] w (PPost c w d (NV w.heap.size) r) := by
 have HE := hide h.base.ends
 have HL := hide h.base.len
 have HNX := hide hN
 have HFC := hide hF
 clear hN
 have HR0 := hide h
 have HA0 := hide (Ap.refl c.R w.heap.size w)
 have HLT := hide h.rlt
 unfold pairP at hs
 have HS := hide hs
 have HO := hide ho
 clear h hs ho
 go_enter Tryz.func281, Tryz.ntmps281
 cases hr : F.sg d i with
 | out =>
  exact zbak
 | bad er p =>
  have HC := hide (hF.sg w d i _ rfl (by rw [hr]; nofun) HR0.out)
  exact zbas
 | ok x1 j1 =>
  have HC := hide (hF.sg w d i _ rfl (by rw [hr]; nofun) HR0.out)
  rw [hr] at HC HS; simp only [bind_ok] at HS; clear hr; go_wp2_with fail; refine cm HC.out ?_; intro e w1 hp; obtain ⟨⟨v1, rfl, p1, rfl, hn1⟩, hrd, ha⟩ := hp; clear HC; have HA1 := hide (HA0.out.next ha)
  have HR1 := hide hrd; have HN1 := hide (nat_mono hn1 HA0.out.size); clear hn1; clear hrd ha HA0 HR0; clear hF; go_wp2_with fail
  go_loopw [5] (fun v wr => ∃ k t j p, v = nPtr p ∧ pairLoop c.l F b d k t j = r ∧ Rdr c wr j d ∧ Ap c.R w.heap.size w wr ∧ NAt (From w.heap.size) wr t p) (fun _ wr => c.l.length - nxt c wr)
  case atStart => exact ⟨F.fuel, x1, j1, p1, rfl, HS.out, HR1.out, HA1.out, HN1.out⟩
  case round =>
   obtain ⟨k, t, j, p0, rfl, hq, hrd, hap, hnt⟩ := hrel; clear HS HR1 HA1 HN1
   cases k with
   | zero => exact absurd hq.symm HO.out
   | succ k =>
    have HR2 := hide hrd; have HRM := hide hrd; have HA2 := hide hap; have HN2 := hide hnt; have hjl := hrd.lt; have hL := unhide HL; unfold pairLoop at hq
    cases hsg : sgP 2 (fx c.l j) with
    | none =>
     rw [hsg] at hq; have HQ := hide hq; have HSG := hide hsg; clear hq hrd hap hnt hsg; have HC := hide (sign_any c 2 wr j d HR2.out); rw [HSG.out] at HC; simp only [sgVO, noSg, Option.isSome] at HC; go_wp2_with fail
     refine cm HC.out ?_; rintro e ws ⟨rfl, hbws⟩; clear HC; have HAws := hide (HA2.out.next (Ap.of hbws)); have HRws := hide (HR2.out.later hbws); replace HN2 := hide (nat_later HN2.out (Ap.of hbws) HLT.out); clear hbws
     have HAs2 := hide (HAws.out.alloc HAws.out.size (.cells #[.string ⟨#[]⟩, .int .i64 0, .int .i64 0, .int .i64 0] 189))
     have HRs2 := hide (HRws.out.alloc (.cells #[.string ⟨#[]⟩, .int .i64 0, .int .i64 0, .int .i64 0] 189))
     replace HN2 := hide (nat_later HN2.out (Ap.of ((Below.refl _ _).alloc (Nat.le_refl _) (.cells #[.string ⟨#[]⟩, .int .i64 0, .int .i64 0, .int .i64 0] 189))) HLT.out); go_wp2_with fail; go_ret
     exact ppOk HQ.out.symm ⟨p0, rfl, HN2.out⟩ HRs2.out HAs2.out
    | some x =>
     rw [hsg] at hq
     dsimp only at hq
     have HSG := hide hsg; have hi := sgP_lt HE.out hjl hsg; obtain ⟨hx2, hx7⟩ := sg2 hsg; clear hrd hap hnt hsg
     by_cases hle : x.str < b
     ·
      rw [if_pos hle] at hq; have HQ := hide hq; clear hq; have HC := hide (sign_any c 2 wr j d HR2.out); rw [HSG.out] at HC; simp only [sgVO, sgV, Option.isSome] at HC; go_wp2_with fail; refine cm HC.out ?_
      rintro e ws ⟨rfl, hbws⟩; clear HC; have HAws := hide (HA2.out.next (Ap.of hbws)); have HRws := hide (HR2.out.later hbws); replace HN2 := hide (nat_later HN2.out (Ap.of hbws) HLT.out); clear hbws
      have HAs2 := hide (HAws.out.alloc HAws.out.size (.cells #[.string x.tx, .int .i64 x.kd, .int .i64 x.parts, .int .i64 x.str] 189))
      have HRs2 := hide (HRws.out.alloc (.cells #[.string x.tx, .int .i64 x.kd, .int .i64 x.parts, .int .i64 x.str] 189))
      replace HN2 := hide (nat_later HN2.out (Ap.of ((Below.refl _ _).alloc (Nat.le_refl _) (.cells #[.string x.tx, .int .i64 x.kd, .int .i64 x.parts, .int .i64 x.str] 189))) HLT.out); go_wp2_with fail; go_ret
      exact ppOk HQ.out.symm ⟨p0, rfl, HN2.out⟩ HRs2.out HAs2.out
     ·
      rw [if_neg hle] at hq; have HQ := hide hq; clear hq; have HC := hide (sign_any c 2 wr j d HR2.out); rw [HSG.out] at HC; simp only [sgVO, sgV, Option.isSome] at HC; go_wp2_with fail; refine cm HC.out ?_
      rintro e ws ⟨rfl, hbws⟩; clear HC; have HAws := hide (HA2.out.next (Ap.of hbws)); have HRws := hide (HR2.out.later hbws); replace HN2 := hide (nat_later HN2.out (Ap.of hbws) HLT.out); have hc1 := HRws.out.c1
      have hcz := HRws.out.fz; have hcl := HRws.out.rlt; obtain ⟨hx1, hxa, hx3⟩ := behindSign x HRws.out HAws.out hi; have HX1 := hide hx1; have HX2 := hide hxa; have HX3 := hide hx3
      have HTL : Hid (c.R < ws.heap.size) := hcl
      replace HN2 : Hid (NAt (From w.heap.size) (((ws.setCell ⟨c.R, 1, none⟩ (.int .i64 ((j : Int) + 1))).alloc (.cells #[.string x.tx, .int .i64 x.kd, .int .i64 x.parts, .int .i64 x.str] 189)).drew) t p0) := nat_later (c := c) HN2.out ⟨rfl, rfl, rfl, by simp, fun k hk hkr => by
       show ((ws.setCell ⟨c.R, 1, none⟩ (.int .i64 ((j : Int) + 1))).alloc (.cells #[.string x.tx, .int .i64 x.kd, .int .i64 x.parts, .int .i64 x.str] 189)).heap[k]? = _
       rw [Below.heap_alloc _ _ k (by simpa using hk), Below.heap_setCell ws ⟨c.R, 1, none⟩ _ k hkr]⟩ HLT.out
      clear hbws hx1 hxa hx3 HRws HAws
      cases hr : F.pr (x.str + 1) d (j + 1) with
      | out =>
       exact zbfk
      | bad er p =>
       have HC := hide (HFC.out.pr (x.str + 1) (by omega) (by omega) ((ws.setCell ⟨c.R, 1, none⟩ (.int .i64 ((j : Int) + 1))).alloc (.cells #[.string x.tx, .int .i64 x.kd, .int .i64 x.parts, .int .i64 x.str] 189)).drew d (j + 1) _ rfl (by rw [hr]; nofun) HX1.out)
       rw [hr] at HC HQ; simp only [bind_bad] at HQ; clear hr; go_wp2_with fail
       refine wp_region_held (S := fun W => W.heap[ws.heap.size]? = some (.cells #[.string x.tx, .int .i64 x.kd, .int .i64 x.parts, .int .i64 x.str] 189)) (by kernel_rfl) ?_; change wpAnyH _ _ _ _ _ _ _ _ (World.drew _)
       refine wh 0 (.pointer (some ⟨ws.heap.size, 1, none⟩)) HX3.out ?_; refine wg 1 (.int .i64 x.kd) rfl (Or.inl ⟨by kernel_rfl, fun W hW => by obtain ⟨_, kk, _, _, _, _⟩ := c160 hW; go_simp⟩) HX3.out ?_
       refine wh 2 (nPtr p0) HX3.out ?_; refine wh 3 (rPtr c) HX3.out ?_; refine wh 4 (.pointer (some ⟨ws.heap.size, 3, none⟩)) HX3.out ?_
       refine wg 5 (.int .i64 x.str) rfl (Or.inl ⟨by kernel_rfl, fun W hW => by obtain ⟨_, _, _, kk, _, _⟩ := c160 hW; go_simp⟩) HX3.out ?_
       refine wg 6 (.int .i64 (x.str + 1)) rfl (Or.inl ⟨by kernel_rfl, fun W _ => by have hw : IntKind.i64.wrap (x.str + 1) = x.str + 1 := (by rw [IntKind.wrap_i64]; omega); go_simp; try exact hw⟩) HX3.out ?_
       refine wq1 7 fun K hK => ?_; go_simp; refine cm HC.out ?_; intro e w' hp; obtain ⟨rfl, ha⟩ := hp; exact ⟨rfl, ppBad HQ.out.symm (HX2.out.next ha)⟩
      | ok u j2 =>
       have HC := hide (HFC.out.pr (x.str + 1) (by omega) (by omega) ((ws.setCell ⟨c.R, 1, none⟩ (.int .i64 ((j : Int) + 1))).alloc (.cells #[.string x.tx, .int .i64 x.kd, .int .i64 x.parts, .int .i64 x.str] 189)).drew d (j + 1) _ rfl (by rw [hr]; nofun) HX1.out)
       have hgt : j + 1 < j2 := by
        obtain ⟨kk, hkk⟩ := unhide HNX; exact ((hkk.pr (x.str + 1) d (j + 1) hi).2 u j2 hr).1
       rw [hr] at HC HQ; simp only [bind_ok] at HQ; clear hr; go_wp2_with fail
       refine wp_region_held (S := fun W => W.heap[ws.heap.size]? = some (.cells #[.string x.tx, .int .i64 x.kd, .int .i64 x.parts, .int .i64 x.str] 189)) (by kernel_rfl) ?_; change wpAnyH _ _ _ _ _ _ _ _ (World.drew _)
       refine wh 0 (.pointer (some ⟨ws.heap.size, 1, none⟩)) HX3.out ?_; refine wg 1 (.int .i64 x.kd) rfl (Or.inl ⟨by kernel_rfl, fun W hW => by obtain ⟨_, kk, _, _, _, _⟩ := c160 hW; go_simp⟩) HX3.out ?_
       refine wh 2 (nPtr p0) HX3.out ?_; refine wh 3 (rPtr c) HX3.out ?_; refine wh 4 (.pointer (some ⟨ws.heap.size, 3, none⟩)) HX3.out ?_
       refine wg 5 (.int .i64 x.str) rfl (Or.inl ⟨by kernel_rfl, fun W hW => by obtain ⟨_, _, _, kk, _, _⟩ := c160 hW; go_simp⟩) HX3.out ?_
       refine wg 6 (.int .i64 (x.str + 1)) rfl (Or.inl ⟨by kernel_rfl, fun W _ => by have hw : IntKind.i64.wrap (x.str + 1) = x.str + 1 := (by rw [IntKind.wrap_i64]; omega); go_simp; try exact hw⟩) HX3.out ?_
       refine wq1 7 fun K hK => ?_; go_simp; refine cm HC.out ?_; intro e w1 hp; obtain ⟨⟨v1, rfl, p1, rfl, hn1⟩, hrd, ha⟩ := hp; clear HC; have HA1 := hide (HX2.out.next ha); have HR1 := hide hrd; have hj2 := hrd.lt
       replace HN2 := hide (nats_pair HN2.out ha HLT.out HX2.out.size hn1); have HS1 := hide ((ha.block _ (lt_of_heap HX3.out) (by have := unhide HTL; omega)).trans HX3.out)
       clear hn1 hrd ha; refine hK.out _ _ HS1.out (fun _ => ?_); clear hK K; refine wq1 8 fun K hK => ?_; go_simp
       have HS2 := hide ((Below.heap_alloc w1 (.cells #[nPtr p0, nPtr p1] 22) _ (lt_of_heap HS1.out)).trans HS1.out); refine hK.out _ _ HS2.out (fun _ => ?_); clear hK K; refine wq1 9 fun K hK => ?_; go_simp
       refine cm (node_any x.kd noText (.slice (some ⟨w1.heap.size, 0, none⟩) 2 2) (w1.alloc (.cells #[nPtr p0, nPtr p1] 22)) ⟨_, _, _, rfl⟩) ?_; rintro e wn ⟨rfl, rfl⟩
       have HS3 := hide ((Below.heap_alloc (w1.alloc (.cells #[nPtr p0, nPtr p1] 22)) (nodeObj x.kd noText 0 (.slice (some ⟨w1.heap.size, 0, none⟩) 2 2)) _ (lt_of_heap HS2.out)).trans HS2.out)
       refine hK.out _ _ HS3.out (fun _ => ?_); clear hK K; refine wh 10 (nPtr (w1.alloc (.cells #[nPtr p0, nPtr p1] 22)).heap.size) HS3.out ?_; refine wpAnyH_done (by kernel_rfl) ?_ _; go_simp
       obtain ⟨m1, m2, m3⟩ := made HR1.out HA1.out HN2.out (by simp [maxLen]) #[nPtr p0, nPtr p1] rfl 2 rfl x.kd noText (w1.heap.size + 1) rfl; obtain ⟨pm, hpm, hnm⟩ := m1.nv
       have hpe : pm = w1.heap.size + 1 := by simpa [nPtr] using hpm.symm
       subst hpe; have HM1 := hide hnm; have HM2 := hide m2; have HM3 := hide m3; clear m1 m2 m3 hpm hnm; go_wp2_with fail
       go_roundw
       case rel => exact ⟨k, .mk x.kd noText 0 [t, u], j2, w1.heap.size + 1, rfl, HQ.out, HM2.out, HM3.out, HM1.out⟩
       case measure => rw [nxt_eq HM2.out, nxt_eq HRM.out]; omega
structure Open (B : Nat) (w : World) (t : Tr) (p : Nat) (u : Value) (ps : List Nat) : Prop where
 low : B ≤ p
 blk : w.heap[p]? = some (nodeObj t.kd t.tx t.n u)
 row : w.ownsRow B 22 1 u ps.length (ps.map nPtr)
 own : u.ownBlock ≠ some p
 kids : NAts (fun b => B ≤ b ∧ b ≠ p ∧ u.ownBlock ≠ some b) w t.kids ps
theorem EV.opens {B : Nat} {w : World} {t : Tr} {v : Value} (h : EV B w t v) : ∃ p u ps, v = nPtr p ∧ Open B w t p u ps := by
 obtain ⟨p, u, ps, rfl, h1, h2, h3, h4, h5⟩ := h
 exact ⟨p, u, ps, rfl, h1, h2, h3, h4, h5⟩
theorem Open.ev {B : Nat} {w : World} {t : Tr} {p : Nat} {u : Value} {ps : List Nat} (h : Open B w t p u ps) : EV B w t (nPtr p) := ⟨p, u, ps, rfl, h.low, h.blk, h.row, h.own, h.kids⟩
theorem Open.later {c : Ctx} {B : Nat} {w w' : World} {t : Tr} {p : Nat} {u : Value} {ps : List Nat} (h : Open B w t p u ps) (ha : Ap c.R w.heap.size w w') (hB : c.R < B) : Open B w' t p u ps :=
 ⟨h.low, by rw [ha.block p (lt_of_heap h.blk) (by have := h.low; omega)]; exact h.blk, owns_stay (I := fun b => B ≤ b) (Stay.of_ap ha hB fun _ h => h) (fun g hg => (own_lt h.row g hg).2) h.row, h.own, NAts.later (Stay.of_ap ha hB fun _ h => h.1) _ _ h.kids⟩
section
variable {B : Nat} {w : World} {t : Tr} {p : Nat} {u : Value} {ps : List Nat} (h : Open B w t p u ps)
include B w t p u ps h
theorem Open.cell : w.cell? ⟨p, 3, none⟩ = some u ∧ (∀ o, w.frozen? ⟨p, o, none⟩ = false) ∧ p < w.heap.size :=
 ⟨(node_cells h.blk).2.2.2.1, (node_cells h.blk).2.2.2.2, lt_of_heap h.blk⟩
theorem Open.shape : ∃ a cap, u = .slice a t.kids.length cap := by
 rw [← NAts.length _ _ h.kids]; exact row_shut h.row
end
theorem Open.apart {c : Ctx} {B : Nat} {w w1 : World} {t : Tr} {p : Nat} {u : Value} {ps : List Nat} (h : Open B w t p u ps) (hB : B ≤ w.heap.size) (ha : Ap c.R w.heap.size w w1) (hR : c.R < B) {us : List Tr} {qs : List Nat} (hn : NAts (From w.heap.size) w1 us qs) :
  NAts (fun b => B ≤ b ∧ b ≠ p ∧ u.ownBlock ≠ some b) w1 (t.kids ++ us) (ps ++ qs) :=
 NAts.append (M := w.heap.size) _ _ (NAts.mono (fun b hb _ => by
  have h1 : w.heap.size ≤ b := hb; have h2 := lt_of_heap h.blk; exact ⟨⟨by omega, by omega, fun e => by have := (own_lt h.row b e).1; omega⟩, h1⟩) _ _ hn)
  (NAts.later (I := fun b => (B ≤ b ∧ b ≠ p ∧ u.ownBlock ≠ some b) ∧ b < w.heap.size) (Stay.of_ap ha hR fun _ h => h.1.1) _ _ (NAts.mono (fun _ hb hl => ⟨hb, hl⟩) _ _ h.kids))
theorem ev_push {B : Nat} {w0 w3 : World} {kd n : Int} {tx : ByteArray} {ts us : List Tr} {ps qs : List Nat} {p g m cap : Nat} {u : Value} (hB : B ≤ p) (hb : w0.heap[p]? = some (nodeObj kd tx n u)) (hu : u.ownBlock ≠ some p)
  (hk : NAts (fun b => B ≤ b ∧ b ≠ p ∧ u.ownBlock ≠ some b) w0 (ts ++ us) (ps ++ qs))
  (hown : w3.ownsRow B 22 1 (.slice (some ⟨g, 0, none⟩) m cap) m ((ps ++ qs).map nPtr)) (hm : m = (ps ++ qs).length) (hgr : w0.grownBy w3 u.ownBlock) (hg : u.ownBlock = some g ∨ g = w0.heap.size) :
  EV B (w3.setCell ⟨p, 3, none⟩ (.slice (some ⟨g, 0, none⟩) m cap)) (.mk kd tx n (ts ++ us)) (nPtr p) := by
 subst hm
 have hlt := lt_of_heap hb
 have hgp : g ≠ p := by
  rcases hg with hg | hg
  ·
   exact fun e => hu (by rw [hg, e])
  ·
   omega
 have h3 : w3.heap[p]? = some (nodeObj kd tx n u) := by rw [hgr.block p hlt (fun e => hu e.symm)]; exact hb
 have hset : ∀ b, b ≠ p → (w3.setCell ⟨p, 3, none⟩ (.slice (some ⟨g, 0, none⟩) (ps ++ qs).length cap)).heap[b]? = w3.heap[b]? := fun b hb => Below.heap_setCell w3 ⟨p, 3, none⟩ _ b hb
 refine ⟨p, .slice (some ⟨g, 0, none⟩) (ps ++ qs).length cap, ps ++ qs, rfl, hB, by rw [heap_set h3]; rfl, ?_, fun e => hgp (by simpa [Value.ownBlock] using e), ?_⟩
 ·
  exact owns_stay (I := fun b => b = g) (fun b hb _ => hset b (by rw [hb]; exact hgp)) (fun g' hg' => by simpa [Value.ownBlock] using hg'.symm) hown
 ·
  have h0 := NAts.mono (J := fun b => B ≤ b ∧ b ≠ p ∧ b ≠ g ∧ u.ownBlock ≠ some b) (fun b hb hl => ⟨hb.1, hb.2.1, fun e => by (rcases hg with hg | hg); (exact hb.2.2 (by rw [hg, e])); omega, hb.2.2⟩) _ _ hk
  have hs : Stay (fun b => B ≤ b ∧ b ≠ p ∧ b ≠ g ∧ u.ownBlock ≠ some b) w0 (w3.setCell ⟨p, 3, none⟩ (.slice (some ⟨g, 0, none⟩) (ps ++ qs).length cap)) := by
   intro b hb hl; rw [hset b hb.2.1]; exact hgr.block b hl (fun e => hb.2.2.2 e.symm)
  exact NAts.mono (fun b hb _ => ⟨hb.1, hb.2.1, fun e => by simp only [Value.ownBlock, Option.some.injEq] at e; exact hb.2.2.1 e.symm⟩) _ _ (NAts.later hs _ _ h0)
theorem push1 {c : Ctx} {w w1 w3 : World} {j d : Nat} {t x : Tr} {p q g cap : Nat} {u : Value} {ps : List Nat} (hO : Open w.heap.size w1 t p u ps) (hx : NAts (fun b => w.heap.size ≤ b ∧ b ≠ p ∧ u.ownBlock ≠ some b) w1 (t.kids ++ [x]) (ps ++ [q])) (hR : Rdr c w1 j d) (hA : Ap c.R w.heap.size w w1) (hlo : c.lo ≤ w.heap.size)
  (hown : w3.ownsRow w.heap.size 22 1 (.slice (some ⟨g, 0, none⟩) (t.kids.length + 1) cap) (t.kids.length + 1) (ps.map nPtr ++ [nPtr q])) (hgr : (w1.alloc (.cells #[nPtr q] 22)).grownBy w3 u.ownBlock) (hg : u.ownBlock = some g ∨ g = w1.heap.size + 1) :
  EV w.heap.size (w3.setCell ⟨p, 3, none⟩ (.slice (some ⟨g, 0, none⟩) (t.kids.length + 1) cap)) (.mk t.kd t.tx t.n (t.kids ++ [x])) (nPtr p) ∧
  Rdr c (w3.setCell ⟨p, 3, none⟩ (.slice (some ⟨g, 0, none⟩) (t.kids.length + 1) cap)) j d ∧
  Ap c.R w.heap.size w (w3.setCell ⟨p, 3, none⟩ (.slice (some ⟨g, 0, none⟩) (t.kids.length + 1) cap)) := by
 have hlen := NAts.length _ _ hO.kids
 have hst : ∀ I, Stay I w1 (w1.alloc (.cells #[nPtr q] 22)) := fun I b _ hl => Below.heap_alloc w1 _ b hl
 have hb : (w1.alloc (.cells #[nPtr q] 22)).heap[p]? = some (nodeObj t.kd t.tx t.n u) := by rw [Below.heap_alloc w1 _ p (lt_of_heap hO.blk)]; exact hO.blk
 have hrow : ∀ k, u.ownBlock = some k → w.heap.size ≤ k := fun k hk => (own_lt hO.row k hk).2
 have hgrow : Below w.heap.size w1 w3 := ((Below.refl w.heap.size w1).alloc hA.size _).grown hgr (by simp; have := hA.size; omega) hrow
 have hset : Below w.heap.size w1 (w3.setCell ⟨p, 3, none⟩ (.slice (some ⟨g, 0, none⟩) (t.kids.length + 1) cap)) := hgrow.setCell (p := ⟨p, 3, none⟩) hO.low _
 refine ⟨?_, hR.ap hset hlo, hA.trans (Ap.of hset)⟩
 refine ev_push (w0 := w1.alloc (.cells #[nPtr q] 22)) hO.low hb hO.own (NAts.later (hst _) _ _ hx) (by rw [List.map_append]; exact hown) (by simp [hlen]) hgr ?_
 rcases hg with hg | hg
 ·
  exact Or.inl hg
 ·
  exact Or.inr (by simp [hg])
theorem choice_eq (l : List Tk) (F : Fns) (d i : Nat) : choiceP l F d i = (behindP l F d i).bind fun n i2 =>
  if fx l i2 = tElse then (deepP l F.st d (i2 + 1)).bind fun s2 i3 => .ok (.mk n.kd n.tx n.n (n.kids ++ [s2])) i3 else .ok n i2 := by
 unfold choiceP behindP
 cases inParP l F d (i + 1) with
 | out => rfl
 | bad er p => rfl
 | ok v i1 =>
  simp only [bind_ok]
  cases deepP l F.st d i1 with
  | out => rfl
  | bad er p => rfl
  | ok s i2 => rfl
theorem behind_kids {l : List Tk} {F : Fns} {d i j : Nat} {t : Tr} (h : behindP l F d i = .ok t j) : t.kids.length = 2 := by
 unfold behindP at h
 cases h1 : inParP l F d (i + 1) with
 | out => rw [h1] at h; cases h
 | bad er p => rw [h1] at h; cases h
 | ok v i1 =>
  rw [h1, bind_ok] at h
  cases h2 : deepP l F.st d i1 with
  | out => rw [h2] at h; cases h
  | bad er p => rw [h2] at h; cases h
  | ok s i2 => rw [h2, bind_ok] at h; cases h; rfl
theorem choice_any {c : Ctx} {F : Fns} (hF : FC c F) (w : World) (d i : Nat) (r : PR Tr) (hk : (tkA c.l i).kd ≠ 6) (hs : choiceP c.l F d i = r) (ho : r ≠ .out) (h : Rdr c w i d) : Calls Tryz.prog 167 #[rPtr c] w (PPost c w d (NV w.heap.size) r) := by
 have hmf := mf_bound c.R 176
 have HKD := hide hk
 have HLO := hide h.base.size
 obtain ⟨i0, hi0, hz0, hz1, hz2⟩ := info_parts info22
 rw [choice_eq] at hs
 clear hk
 have HR0 := hide h
 have HA0 := hide (Ap.refl c.R w.heap.size w)
 have HLT := hide h.rlt
 have HS := hide hs
 have HO := hide ho
 clear h hs ho
 go_enter Tryz.func167, Tryz.ntmps167
 cases hr : behindP c.l F d i with
 | out =>
  exact zbak
 | bad er p =>
  have HC := hide (behind_any hF w d i _ HKD.out rfl (by rw [hr]; nofun) HR0.out)
  exact zbas
 | ok x1 j1 =>
  have HKL := hide (behind_kids hr); have HC := hide (behind_any hF w d i _ HKD.out rfl (by rw [hr]; nofun) HR0.out)
  rw [hr] at HC HS; simp only [bind_ok] at HS; clear hr; go_wp2_with fail; refine cm HC.out ?_; intro e w1 hp; obtain ⟨⟨v1, rfl, hn1⟩, hrd, ha⟩ := hp; clear HC; have HA1 := hide (HA0.out.next ha); have HR1 := hide hrd
  have HN1 := hide (EV.mono hn1 HA0.out.size); clear hn1; clear hrd ha HA0 HR0; obtain ⟨p0, u0, ps0, rfl, hop⟩ := HN1.out.opens; have HOP := hide hop; clear hop HN1
  by_cases hx : fx c.l j1 = tElse
  ·
   rw [if_pos hx] at HS; have HC := hide (take_yes c tElse w1 j1 d HR1.out hx (by decide)); clear hx; go_wp2_with fail; refine cm HC.out ?_; rintro e w2 ⟨rfl, hr2, ha2⟩; clear HC; have HR2 := hide hr2
   have HA2 := hide (HA1.out.next ha2); replace HOP := hide (Open.later HOP.out ha2 HLT.out); clear hr2 ha2 HR1 HA1; obtain ⟨hc3, hcf, hcl⟩ := HOP.out.cell; obtain ⟨ua, uc, hue⟩ := HOP.out.shape; subst hue
   cases hr : deepP c.l F.st d (j1 + 1) with
   | out =>
    exact zbak
   | bad er p =>
    have HC := hide (deepS hF w2.drew d (j1 + 1) HR2.out.drew (by rw [hr]; nofun))
    rw [hr] at HC HS; simp only [bind_bad] at HS; clear hr; go_wp2_with fail; refine wp_region_any (by kernel_rfl) ?_; change wpAny _ _ _ _ _ _ _ (World.drew _); refine wt 0 (nPtr p0) ?_; refine wt 1 (nPtr p0) ?_
    refine wt 2 (nPtr p0) ?_; refine wt 3 (.pointer (some ⟨p0, 3, none⟩)) ?_; refine wt 5 (rPtr c) ?_; refine wt 6 (rPtr c) ?_; refine wt 7 (.func (.func 176) #[rPtr c] #[]) ?_
    refine wr2 4 8 (fun K hK => ?_) fun K hK => ?_
    ·
     go_simp; refine hK _ _ ?_; clear hK K; refine wr1 8 fun K hK => ?_; exact zbfs
    ·
     exact zbfs
   | ok tx1 jx =>
    have HC := hide (deepS hF w2.drew d (j1 + 1) HR2.out.drew (by rw [hr]; nofun))
    rw [hr] at HC HS; simp only [bind_ok] at HS; clear hr; go_wp2_with fail; refine via2 (H := fun wc pc => Ap c.R w2.heap.size w2 wc ∧ Rdr c wc jx d ∧ NAt (From w2.heap.size) wc tx1 pc) (G := ?G1) (fun CONT => ?_) ?_
    rotate_left
    ·
     refine wp_region_any (by kernel_rfl) ?_; change wpAny _ _ _ _ _ _ _ (World.drew _); refine wt 0 (nPtr p0) ?_; refine wt 1 (nPtr p0) ?_; refine wt 2 (nPtr p0) ?_; refine wt 3 (.pointer (some ⟨p0, 3, none⟩)) ?_
     refine wt 5 (rPtr c) ?_; refine wt 6 (rPtr c) ?_; refine wt 7 (.func (.func 176) #[rPtr c] #[]) ?_; refine wr2 4 8 (fun K hK => ?_) fun K hK => ?_
     ·
      go_simp; refine hK _ _ ?_; clear hK K; refine wr1 8 fun K hK => ?_; go_simp; refine cm HC.out ?_; intro e wc hp; obtain ⟨⟨vc, rfl, pc, rfl, hnc⟩, hrd, ha⟩ := hp
      have ha0 := ((Ap.refl c.R w2.heap.size w2).drew).next ha; have HY : Hid (Ap c.R w2.heap.size w2 wc ∧ Rdr c wc jx d ∧ NAt (From w2.heap.size) wc tx1 pc) := ⟨ha0, hrd, hnc⟩; exact zcaw
     ·
      go_simp; refine cm HC.out ?_; intro e wc hp; obtain ⟨⟨vc, rfl, pc, rfl, hnc⟩, hrd, ha⟩ := hp; have ha0 := ((Ap.refl c.R w2.heap.size w2).drew).next ha
      have HY : Hid (Ap c.R w2.heap.size w2 wc ∧ Rdr c wc jx d ∧ NAt (From w2.heap.size) wc tx1 pc) := ⟨ha0, hrd, hnc⟩; exact zcax
    intro wc pc hY; obtain ⟨ha0, hrd, hnc⟩ := hY; have HAc := hide (HA2.out.next ha0); have HRc := hide hrd; have HOc := hide (Open.later HOP.out ha0 HLT.out)
    have HNc := hide (Open.apart HOP.out HA2.out.size ha0 HLT.out (NAts.cons hnc NAts.nil)); obtain ⟨gc3, gcf, gcl⟩ := HOc.out.cell; clear hrd ha0 hnc; have hlen := NAts.length _ _ HOc.out.kids; have hown := HOc.out.row
    rw [hlen] at hown; have HOWN := hide hown; have hsz := HAc.out.size; have hkl : x1.kids.length ≤ 3 := by rw [HKL.out]; decide
    clear hown hlen; refine wr1 10 fun K hK => ?_
    refine step_append_lies _ rfl _ _ 46 rfl w.heap.size 22 i0 (.pointer none) 1 8 Tryz.underlying46 hi0 hz0 hz1 hz2 rfl (by decide) _ _ _ rfl (HOWN.out.alloc _) ⟨wc.heap.size, 0, none⟩ 1 1 [nPtr pc] rfl rfl (one_cells wc pc _ rfl) (one_one pc) (by decide) (by unfold maxLen; omega) (by omega) (by simp; omega) (wc.heap.size + 1) (by simp) ?_
    intro g cap w3 hown3 hgr3 hg3 _; refine hK _ _ ?_; clear hK K; have HP1 := hide (push1 HOc.out HNc.out HRc.out HAc.out HLO.out hown3 hgr3 hg3)
    have hp3 : w3.cell? ⟨p0, 3, none⟩ = wc.cell? ⟨p0, 3, none⟩ ∧ w3.frozen? ⟨p0, 3, none⟩ = wc.frozen? ⟨p0, 3, none⟩ := by
     exact zcal
    obtain ⟨hp3c, hp3f⟩ := hp3; rw [gc3] at hp3c; rw [gcf 3] at hp3f; clear hown3 hgr3 hg3; refine wt 11 (nPtr p0) ?_; refine wt 12 (.pointer (some ⟨p0, 3, none⟩)) ?_; refine wr1 13 fun K hK => ?_; go_simp
    refine hK _ _ ?_; clear hK K hp3c hp3f gc3 gcf gcl HOWN; refine wpAny_done (by kernel_rfl) ?_ _; go_simp; obtain ⟨m1, m2, m3⟩ := unhide HP1; have HM1 := hide m1; have HM2 := hide m2; have HM3 := hide m3; clear m1 m2 m3
    go_wp2_with fail; go_ret; exact ppOk HS.out.symm HM1.out.nv HM2.out HM3.out
  ·
   rw [if_neg hx] at HS; have HC := hide (take_not c tElse w1 j1 d HR1.out hx); clear hx; go_wp2_with fail; refine cm HC.out ?_; rintro e w2 ⟨rfl, hb2⟩; clear HC; have HR2 := hide (HR1.out.later hb2)
   have HA2 := hide (HA1.out.next (Ap.of hb2)); replace HOP := hide (Open.later HOP.out (Ap.of hb2) HLT.out); clear hb2; go_wp2_with fail; go_ret; exact ppOk HS.out.symm HOP.out.ev.nv HR2.out HA2.out
theorem giving_any {c : Ctx} {F : Fns} (hF : FC c F) (w : World) (d i : Nat) (r : PR Tr) (hk : (tkA c.l i).kd ≠ 6) (hs : givingP c.l F d i = r) (ho : r ≠ .out) (h : Rdr c w i d) : Calls Tryz.prog 169 #[rPtr c] w (PPost c w d (NV w.heap.size) r) := by
 have hmf := mf_bound c.R 243
 have HKD := hide hk
 have HLO := hide h.base.size
 obtain ⟨i0, hi0, hz0, hz1, hz2⟩ := info_parts info22
 clear hk
 have HR0 := hide h
 have HA0 := hide (Ap.refl c.R w.heap.size w)
 have HLT := hide h.rlt
 unfold givingP at hs
 have HS := hide hs
 have HO := hide ho
 clear h hs ho
 go_enter Tryz.func169, Tryz.ntmps169
 obtain ⟨hd, hhd⟩ : ∃ hd, hd = hdKind (tkA c.l i).tx := ⟨_, rfl⟩
 rw [← hhd] at HS
 have HC := hide (kind_any c w i d HR0.out HKD.out)
 rw [← hhd] at HC
 clear hhd
 go_wp2_with fail
 refine cm HC.out ?_
 rintro e wk ⟨rfl, hrk, hak⟩
 clear HC
 have HRk := hide hrk
 have HAk := hide (HA0.out.next hak)
 clear hrk hak HR0 HA0
 have HC := hide (node_any hd noText (.slice none 0 0) wk ⟨_, _, _, rfl⟩)
 go_wp2_with fail
 refine cm HC.out ?_
 rintro e wn0 ⟨rfl, rfl⟩
 clear HC
 obtain ⟨m1, m2, m3⟩ := made0 HRk.out HAk.out (KV.nil _ _) hd noText _ rfl
 obtain ⟨t0, ht0⟩ : ∃ t0 : Tr, t0 = .mk hd noText 0 [] := ⟨_, rfl⟩
 rw [← ht0] at m1
 have HKL : Hid (t0.kids.length = 0) := by
  show _ = _
  rw [ht0]; rfl
 have HTK : Hid (t0.kd = hd) := by
  show _ = _
  rw [ht0]; rfl
 have HT0 := hide ht0
 obtain ⟨p0, u0, ps0, hpe, hop⟩ := m1.opens
 have hpe2 : p0 = wk.heap.size := by simpa [nPtr] using hpe.symm
 obtain ⟨hk0, _, _, _, _⟩ := node_cells hop.blk
 rw [HTK.out] at hk0
 have hkl0 := lt_of_heap hop.blk
 rw [hpe2] at hop hk0 hkl0
 have HOP0 := hide hop
 have HRn := hide m2
 have HAn := hide m3
 clear m1 m2 m3 hop hpe ht0
 obtain ⟨wn, hwn⟩ : ∃ wn, wn = wk.alloc (nodeObj hd noText 0 (.slice none 0 0)) := ⟨_, rfl⟩
 rw [← hwn] at HOP0 HRn HAn hk0 hkl0
 rw [← hpe2] at HOP0 hk0 hkl0
 rw [← hwn, ← hpe2]
 clear hwn hpe2
 by_cases h11 : hd = 11
 ·
  rw [if_pos (Or.inl h11)] at HS; have b11 : (hd == 11) = true := beq_iff_eq.2 h11; clear h11; have HOP := hide HOP0.out; obtain ⟨hc3, hcf, hcl⟩ := HOP.out.cell; obtain ⟨ua, uc, hue⟩ := HOP.out.shape; subst hue
  cases hr : deepP c.l F.vl d (i + 1) with
  | out =>
   exact zbak
  | bad er p =>
   have HC := hide (deepV hF wn.drew d (i + 1) HRn.out.drew (by rw [hr]; nofun))
   rw [hr] at HC HS; simp only [bind_bad] at HS; clear hr; go_wp2_with fail; refine wp_region_any (by kernel_rfl) ?_; change wpAny _ _ _ _ _ _ _ (World.drew _); refine wt 0 (nPtr p0) ?_; refine wt 1 (nPtr p0) ?_
   refine wt 2 (nPtr p0) ?_; refine wt 3 (.pointer (some ⟨p0, 3, none⟩)) ?_; refine wt 5 (rPtr c) ?_; refine wt 6 (rPtr c) ?_; refine wt 7 (.func (.func 243) #[rPtr c] #[]) ?_
   refine wr2 4 8 (fun K hK => ?_) fun K hK => ?_
   ·
    go_simp; refine hK _ _ ?_; clear hK K; refine wr1 8 fun K hK => ?_; exact zbcx
   ·
    exact zbcx
  | ok tx1 jx =>
   have HC := hide (deepV hF wn.drew d (i + 1) HRn.out.drew (by rw [hr]; nofun))
   rw [hr] at HC HS; simp only [bind_ok] at HS; clear hr; go_wp2_with fail; refine via2 (H := fun wc pc => Ap c.R wn.heap.size wn wc ∧ Rdr c wc jx d ∧ NAt (From wn.heap.size) wc tx1 pc) (G := ?G1) (fun CONT => ?_) ?_
   rotate_left
   ·
    refine wp_region_any (by kernel_rfl) ?_; change wpAny _ _ _ _ _ _ _ (World.drew _); refine wt 0 (nPtr p0) ?_; refine wt 1 (nPtr p0) ?_; refine wt 2 (nPtr p0) ?_; refine wt 3 (.pointer (some ⟨p0, 3, none⟩)) ?_
    refine wt 5 (rPtr c) ?_; refine wt 6 (rPtr c) ?_; refine wt 7 (.func (.func 243) #[rPtr c] #[]) ?_; refine wr2 4 8 (fun K hK => ?_) fun K hK => ?_
    ·
     go_simp; refine hK _ _ ?_; clear hK K; refine wr1 8 fun K hK => ?_; go_simp; refine cm HC.out ?_; intro e wc hp; obtain ⟨⟨vc, rfl, pc, rfl, hnc⟩, hrd, ha⟩ := hp
     have ha0 := ((Ap.refl c.R wn.heap.size wn).drew).next ha; have HY : Hid (Ap c.R wn.heap.size wn wc ∧ Rdr c wc jx d ∧ NAt (From wn.heap.size) wc tx1 pc) := ⟨ha0, hrd, hnc⟩; exact zcaw
    ·
     go_simp; refine cm HC.out ?_; intro e wc hp; obtain ⟨⟨vc, rfl, pc, rfl, hnc⟩, hrd, ha⟩ := hp; have ha0 := ((Ap.refl c.R wn.heap.size wn).drew).next ha
     have HY : Hid (Ap c.R wn.heap.size wn wc ∧ Rdr c wc jx d ∧ NAt (From wn.heap.size) wc tx1 pc) := ⟨ha0, hrd, hnc⟩; exact zcax
   intro wc pc hY; obtain ⟨ha0, hrd, hnc⟩ := hY; have HAc := hide (HAn.out.next ha0); have HRc := hide hrd; have HOc := hide (Open.later HOP.out ha0 HLT.out)
   have HNc := hide (Open.apart HOP.out HAn.out.size ha0 HLT.out (NAts.cons hnc NAts.nil)); obtain ⟨gc3, gcf, gcl⟩ := HOc.out.cell; clear hrd ha0 hnc; have hlen := NAts.length _ _ HOc.out.kids; have hown := HOc.out.row
   rw [hlen] at hown; have HOWN := hide hown; have hsz := HAc.out.size; have hkl : t0.kids.length ≤ 3 := by rw [HKL.out]; decide
   clear hown hlen; refine wr1 10 fun K hK => ?_
   refine step_append_lies _ rfl _ _ 46 rfl w.heap.size 22 i0 (.pointer none) 1 8 Tryz.underlying46 hi0 hz0 hz1 hz2 rfl (by decide) _ _ _ rfl (HOWN.out.alloc _) ⟨wc.heap.size, 0, none⟩ 1 1 [nPtr pc] rfl rfl (one_cells wc pc _ rfl) (one_one pc) (by decide) (by unfold maxLen; omega) (by omega) (by simp; omega) (wc.heap.size + 1) (by simp) ?_
   intro g cap w3 hown3 hgr3 hg3 _; refine hK _ _ ?_; clear hK K; have HP1 := hide (push1 HOc.out HNc.out HRc.out HAc.out HLO.out hown3 hgr3 hg3)
   have hp3 : w3.cell? ⟨p0, 3, none⟩ = wc.cell? ⟨p0, 3, none⟩ ∧ w3.frozen? ⟨p0, 3, none⟩ = wc.frozen? ⟨p0, 3, none⟩ := by
    exact zcal
   obtain ⟨hp3c, hp3f⟩ := hp3; rw [gc3] at hp3c; rw [gcf 3] at hp3f; clear hown3 hgr3 hg3; refine wt 11 (nPtr p0) ?_; refine wt 12 (.pointer (some ⟨p0, 3, none⟩)) ?_; refine wr1 13 fun K hK => ?_; go_simp; refine hK _ _ ?_
   clear hK K hp3c hp3f gc3 gcf gcl HOWN; refine wpAny_done (by kernel_rfl) ?_ _; go_simp; obtain ⟨m1, m2, m3⟩ := unhide HP1; have HM1 := hide m1; have HM2 := hide m2; have HM3 := hide m3; clear m1 m2 m3
   cases hr : mustP c.l tSemi jx with
   | out =>
    exact zbak
   | bad er p =>
    exact zbbj
   | ok x1 j1 =>
    exact zbcj
 ·
  have b11 : (hd == 11) = false := beq_eq_false_iff_ne.2 h11; have HC := hide (fixed_any c wn (i + 1) d HRn.out)
  by_cases hx : fx c.l (i + 1) = tSemi
  ·
   rw [if_neg (fun hh => hh.elim h11 (fun h2 => h2 hx))] at HS; have bx : ((fx c.l (i + 1)).toList == [59]) = true := tl_eqL (b := tSemi) rfl hx; clear h11 hx; go_wp2_with fail; refine cm HC.out ?_; rintro e wf ⟨rfl, hbf⟩
   clear HC; have HRf := hide (HRn.out.later hbf); have HAf := hide (HAn.out.next (Ap.of hbf)); have HOP := hide (Open.later HOP0.out (Ap.of hbf) HLT.out); clear hbf hk0 hkl0; have HM1 := hide HOP.out.ev
   cases hr : mustP c.l tSemi (i + 1) with
   | out =>
    exact zbak
   | bad er p =>
    have HC := hide (must_any c tSemi wf (i + 1) d HRf.out (by decide)); rw [hr] at HC HS; simp only [bind_bad] at HS; clear hr; go_wp2_with fail; refine cm HC.out ?_; intro e w' hp; obtain ⟨rfl, ha⟩ := hp
    exact ⟨rfl, ppBad HS.out.symm (HAf.out.next ha)⟩
   | ok x1 j1 =>
    have HC := hide (must_any c tSemi wf (i + 1) d HRf.out (by decide)); rw [hr] at HC HS; simp only [bind_ok] at HS; clear hr; go_wp2_with fail; refine cm HC.out ?_; intro e w1 hp; obtain ⟨⟨v1, rfl, rfl⟩, hrd, ha⟩ := hp
    clear HC; have HA1 := hide (HAf.out.next ha); have HR1 := hide hrd; replace HM1 := hide (EV.later HM1.out ha HLT.out); clear hrd ha HAf HRf; have ht0 := unhide HT0; subst ht0; go_wp2_with fail; go_ret
    exact ppOk HS.out.symm HM1.out.nv HR1.out HA1.out
  ·
   rw [if_pos (Or.inr hx)] at HS; have bx : ((fx c.l (i + 1)).toList == [59]) = false := tl_neL (b := tSemi) rfl hx; clear h11 hx; go_wp2_with fail; refine cm HC.out ?_; rintro e wf ⟨rfl, hbf⟩; clear HC
   have HRf := hide (HRn.out.later hbf); have HAf := hide (HAn.out.next (Ap.of hbf)); have HOP := hide (Open.later HOP0.out (Ap.of hbf) HLT.out); clear hbf hk0 hkl0; obtain ⟨hc3, hcf, hcl⟩ := HOP.out.cell
   obtain ⟨ua, uc, hue⟩ := HOP.out.shape; subst hue
   cases hr : deepP c.l F.vl d (i + 1) with
   | out =>
    exact zbak
   | bad er p =>
    have HC := hide (deepV hF wf.drew d (i + 1) HRf.out.drew (by rw [hr]; nofun))
    rw [hr] at HC HS; simp only [bind_bad] at HS; clear hr; go_wp2_with fail; refine wp_region_any (by kernel_rfl) ?_; change wpAny _ _ _ _ _ _ _ (World.drew _); refine wt 0 (nPtr p0) ?_; refine wt 1 (nPtr p0) ?_
    refine wt 2 (nPtr p0) ?_; refine wt 3 (.pointer (some ⟨p0, 3, none⟩)) ?_; refine wt 5 (rPtr c) ?_; refine wt 6 (rPtr c) ?_; refine wt 7 (.func (.func 243) #[rPtr c] #[]) ?_
    refine wr2 4 8 (fun K hK => ?_) fun K hK => ?_
    ·
     go_simp; refine hK _ _ ?_; clear hK K; refine wr1 8 fun K hK => ?_; exact zbfr
    ·
     exact zbfr
   | ok tx1 jx =>
    have HC := hide (deepV hF wf.drew d (i + 1) HRf.out.drew (by rw [hr]; nofun))
    rw [hr] at HC HS; simp only [bind_ok] at HS; clear hr; go_wp2_with fail; refine via2 (H := fun wc pc => Ap c.R wf.heap.size wf wc ∧ Rdr c wc jx d ∧ NAt (From wf.heap.size) wc tx1 pc) (G := ?G2) (fun CONT => ?_) ?_
    rotate_left
    ·
     refine wp_region_any (by kernel_rfl) ?_; change wpAny _ _ _ _ _ _ _ (World.drew _); refine wt 0 (nPtr p0) ?_; refine wt 1 (nPtr p0) ?_; refine wt 2 (nPtr p0) ?_; refine wt 3 (.pointer (some ⟨p0, 3, none⟩)) ?_
     refine wt 5 (rPtr c) ?_; refine wt 6 (rPtr c) ?_; refine wt 7 (.func (.func 243) #[rPtr c] #[]) ?_; refine wr2 4 8 (fun K hK => ?_) fun K hK => ?_
     ·
      go_simp; refine hK _ _ ?_; clear hK K; refine wr1 8 fun K hK => ?_; go_simp; refine cm HC.out ?_; intro e wc hp; obtain ⟨⟨vc, rfl, pc, rfl, hnc⟩, hrd, ha⟩ := hp
      have ha0 := ((Ap.refl c.R wf.heap.size wf).drew).next ha; have HY : Hid (Ap c.R wf.heap.size wf wc ∧ Rdr c wc jx d ∧ NAt (From wf.heap.size) wc tx1 pc) := ⟨ha0, hrd, hnc⟩; exact zcaw
     ·
      go_simp; refine cm HC.out ?_; intro e wc hp; obtain ⟨⟨vc, rfl, pc, rfl, hnc⟩, hrd, ha⟩ := hp; have ha0 := ((Ap.refl c.R wf.heap.size wf).drew).next ha
      have HY : Hid (Ap c.R wf.heap.size wf wc ∧ Rdr c wc jx d ∧ NAt (From wf.heap.size) wc tx1 pc) := ⟨ha0, hrd, hnc⟩; exact zcax
    intro wc pc hY; obtain ⟨ha0, hrd, hnc⟩ := hY; have HAc := hide (HAf.out.next ha0); have HRc := hide hrd; have HOc := hide (Open.later HOP.out ha0 HLT.out)
    have HNc := hide (Open.apart HOP.out HAf.out.size ha0 HLT.out (NAts.cons hnc NAts.nil)); obtain ⟨gc3, gcf, gcl⟩ := HOc.out.cell; clear hrd ha0 hnc; have hlen := NAts.length _ _ HOc.out.kids; have hown := HOc.out.row
    rw [hlen] at hown; have HOWN := hide hown; have hsz := HAc.out.size; have hkl : t0.kids.length ≤ 3 := by rw [HKL.out]; decide
    clear hown hlen; refine wr1 10 fun K hK => ?_
    refine step_append_lies _ rfl _ _ 46 rfl w.heap.size 22 i0 (.pointer none) 1 8 Tryz.underlying46 hi0 hz0 hz1 hz2 rfl (by decide) _ _ _ rfl (HOWN.out.alloc _) ⟨wc.heap.size, 0, none⟩ 1 1 [nPtr pc] rfl rfl (one_cells wc pc _ rfl) (one_one pc) (by decide) (by unfold maxLen; omega) (by omega) (by simp; omega) (wc.heap.size + 1) (by simp) ?_
    intro g cap w3 hown3 hgr3 hg3 _; refine hK _ _ ?_; clear hK K; have HP1 := hide (push1 HOc.out HNc.out HRc.out HAc.out HLO.out hown3 hgr3 hg3)
    have hp3 : w3.cell? ⟨p0, 3, none⟩ = wc.cell? ⟨p0, 3, none⟩ ∧ w3.frozen? ⟨p0, 3, none⟩ = wc.frozen? ⟨p0, 3, none⟩ := by
     exact zcal
    obtain ⟨hp3c, hp3f⟩ := hp3; rw [gc3] at hp3c; rw [gcf 3] at hp3f; clear hown3 hgr3 hg3; refine wt 11 (nPtr p0) ?_; refine wt 12 (.pointer (some ⟨p0, 3, none⟩)) ?_; refine wr1 13 fun K hK => ?_; go_simp
    refine hK _ _ ?_; clear hK K hp3c hp3f gc3 gcf gcl HOWN; refine wpAny_done (by kernel_rfl) ?_ _; go_simp; obtain ⟨m1, m2, m3⟩ := unhide HP1; have HM1 := hide m1; have HM2 := hide m2; have HM3 := hide m3; clear m1 m2 m3
    cases hr : mustP c.l tSemi jx with
    | out =>
     exact zbak
    | bad er p =>
     exact zbbj
    | ok x1 j1 =>
     exact zbcj
end Go.Proofs.YtoimgcjbcbhclaaGreatDoor
