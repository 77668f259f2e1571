/-
  Values of one part, and of two.
-/
import Derived.Test.YtoimgcjbcbhclaaGreatDoorRn0
import Derived.Test.YtoimgcjbcbhclaaGreatDoorRn6
import Derived.Test.YtoimgcjbcbhclaaGreatDoorRn9
set_option maxRecDepth 100000
set_option maxHeartbeats 16000000
namespace Go.Proofs.YtoimgcjbcbhclaaGreatDoor
open Go.RowKit
theorem sg2 {s : ByteArray} {x : Sg} (h : sgP 2 s = some x) : 2 ≤ x.str ∧ x.str ≤ 7 := by
 unfold sgP at h
 cases hf : sgOf s with
 | none => rw [hf] at h; cases h
 | some y =>
  rw [hf] at h; have hm := List.mem_of_find?_eq_some hf; have hy : y = x ∧ (y.parts == 2) = true := by
   simp only [Option.filter] at h
   split at h
   ·
    exact ⟨Option.some.inj h, by assumption⟩
   ·
    cases h
  obtain ⟨rfl, hp⟩ := hy; simp only [sgs, List.mem_cons, List.not_mem_nil, or_false] at hm
  rcases hm with rfl | rfl | rfl | rfl | rfl | rfl | rfl | rfl | rfl | rfl | rfl | rfl | rfl | rfl <;> first | decide | (exact absurd hp (by decide))
theorem behindSign {c : Ctx} {w ws : World} {i d : Nat} (x : Sg) (hR : Rdr c ws i d) (hA : Ap c.R w.heap.size w ws) (hi : i + 1 < c.l.length) :
  Rdr c ((ws.setCell ⟨c.R, 1, none⟩ (.int .i64 ((i : Int) + 1))).alloc (.cells #[.string x.tx, .int .i64 x.kd, .int .i64 x.parts, .int .i64 x.str] 189)).drew (i + 1) d ∧ Ap c.R w.heap.size w ((ws.setCell ⟨c.R, 1, none⟩ (.int .i64 ((i : Int) + 1))).alloc (.cells #[.string x.tx, .int .i64 x.kd, .int .i64 x.parts, .int .i64 x.str] 189)).drew ∧
  ((ws.setCell ⟨c.R, 1, none⟩ (.int .i64 ((i : Int) + 1))).alloc (.cells #[.string x.tx, .int .i64 x.kd, .int .i64 x.parts, .int .i64 x.str] 189)).drew.heap[ws.heap.size]? = some (.cells #[.string x.tx, .int .i64 x.kd, .int .i64 x.parts, .int .i64 x.str] 189) := by
 obtain ⟨h1, h2⟩ := stepped hR hA hi
 refine ⟨(h1.alloc _).drew, (h2.alloc h2.size _).drew, ?_⟩
 have := zqx (ws.setCell ⟨c.R, 1, none⟩ (.int .i64 ((i : Int) + 1))) (.cells #[.string x.tx, .int .i64 x.kd, .int .i64 x.parts, .int .i64 x.str] 189)
 rw [World.size_setCell] at this
 exact this
theorem single_none {c : Ctx} {F : Fns} (hQ : Does c 303 NV (zd1 c.l F)) (w : World) (d i : Nat) (r : PR Tr) (hsg : sgP 1 (fx c.l i) = none) (hs : zd1 c.l F d i = r) (ho : r ≠ .out) (h : Rdr c w i d) : Calls Tryz.prog 292 #[rPtr c] w (zk3 c w d (NV w.heap.size) r) := by
 have HSG := qh hsg
 clear hsg
 have HR0 := qh h
 have HA0 := qh (Ap.refl c.R w.heap.size w)
 have HLT := qh h.rlt
 have HS := qh hs
 have HO := qh ho
 clear h hs ho
 go_enter Tryz.func292, Tryz.ntmps292
 have HC := qh (zy9 c 1 w i d HR0.out)
 rw [HSG.out] at HC
 simp only [sgVO, noSg, Option.isSome] at HC
 go_wp2_with fail
 refine cm HC.out ?_
 rintro e ws ⟨rfl, hbws⟩
 clear HC
 have HAws := qh (HA0.out.next (Ap.of hbws))
 have HRws := qh (HR0.out.later hbws)
 clear hbws HR0 HA0
 have HAs2 := qh (HAws.out.alloc HAws.out.size (.cells #[.string ⟨#[]⟩, .int .i64 0, .int .i64 0, .int .i64 0] 189))
 have HRs2 := qh (HRws.out.alloc (.cells #[.string ⟨#[]⟩, .int .i64 0, .int .i64 0, .int .i64 0] 189))
 cases hr : zd1 c.l F d i with
 | out =>
  rw [hr] at HS; exact absurd HS.out.symm HO.out
 | bad er p =>
  have HC := qh (hQ (ws.alloc (.cells #[.string ⟨#[]⟩, .int .i64 0, .int .i64 0, .int .i64 0] 189)) d i _ rfl (by rw [hr]; nofun) HRs2.out)
  rw [hr] at HC HS; clear hr; go_wp2_with fail; refine cm HC.out ?_; intro e w' hp; obtain ⟨rfl, ha⟩ := hp; exact ⟨rfl, zq7 HS.out.symm (HAs2.out.next ha)⟩
 | ok x1 j1 =>
  have HC := qh (hQ (ws.alloc (.cells #[.string ⟨#[]⟩, .int .i64 0, .int .i64 0, .int .i64 0] 189)) d i _ rfl (by rw [hr]; nofun) HRs2.out)
  rw [hr] at HC HS; clear hr; go_wp2_with fail; refine cm HC.out ?_; intro e w1 hp; obtain ⟨⟨v1, rfl, p1, rfl, hn1⟩, hrd, ha⟩ := hp; clear HC; have HA1 := qh (HAs2.out.next ha); have HR1 := qh hrd
  have HN1 := qh (zww hn1 HAs2.out.size); clear hn1; clear hrd ha HAs2 HRs2; go_wp2_with fail; go_ret; exact ppOk HS.out.symm ⟨p1, rfl, HN1.out⟩ HR1.out HA1.out
theorem single_some {c : Ctx} {F : Fns} (hF : FC c F) (w : World) (d i : Nat) (x : Sg) (r : PR Tr) (hsg : sgP 1 (fx c.l i) = some x) (hs : ((zq2 c.l F.sg d (i + 1)).bind fun t i1 => PR.ok (.mk x.kd zzx 0 [t]) i1) = r) (ho : r ≠ .out) (h : Rdr c w i d) : Calls Tryz.prog 292 #[rPtr c] w (zk3 c w d (NV w.heap.size) r) := by
 have hmf := zk2 c.R 292
 have HSG := qh hsg
 have hi := sgP_lt h.base.ends h.lt hsg
 have hL := h.base.len
 clear hsg
 have HR0 := qh h
 have HA0 := qh (Ap.refl c.R w.heap.size w)
 have HLT := qh h.rlt
 have HS := qh hs
 have HO := qh ho
 clear h hs ho
 go_enter Tryz.func292, Tryz.ntmps292
 have HC := qh (zy9 c 1 w i d HR0.out)
 rw [HSG.out] at HC
 simp only [sgVO, sgV, Option.isSome] at HC
 go_wp2_with fail
 refine cm HC.out ?_
 rintro e ws ⟨rfl, hbws⟩
 clear HC
 have HAws := qh (HA0.out.next (Ap.of hbws))
 have HRws := qh (HR0.out.later hbws)
 have hc1 := HRws.out.c1
 have hcz := HRws.out.fz
 have hcl := HRws.out.rlt
 obtain ⟨hx1, hx2, hx3⟩ := behindSign x HRws.out HAws.out hi
 have HX1 := qh hx1
 have HX2 := qh hx2
 have HX3 := qh hx3
 have HTL : Hid (c.R < ws.heap.size) := hcl
 clear hbws hx1 hx2 hx3 HRws HAws HR0 HA0
 cases hr : zq2 c.l F.sg d (i + 1) with
 | out =>
  rw [hr] at HS; simp only [zqj] at HS; exact absurd HS.out.symm HO.out
 | bad er p =>
  have HC := qh (deepG hF ((ws.setCell ⟨c.R, 1, none⟩ (.int .i64 ((i : Int) + 1))).alloc (.cells #[.string x.tx, .int .i64 x.kd, .int .i64 x.parts, .int .i64 x.str] 189)).drew d (i + 1) HX1.out (by rw [hr]; nofun))
  rw [hr] at HC HS; simp only [zz6] at HS; clear hr; go_wp2_with fail
  refine wp_region_held (S := fun W => W.heap[ws.heap.size]? = some (.cells #[.string x.tx, .int .i64 x.kd, .int .i64 x.parts, .int .i64 x.str] 189)) (by kernel_rfl) ?_; change wpAnyH _ _ _ _ _ _ _ _ (World.drew _)
  refine wh 0 (.pointer (some ⟨ws.heap.size, 1, none⟩)) HX3.out ?_; refine wg 1 (.int .i64 x.kd) rfl (Or.inl ⟨by kernel_rfl, fun W hW => by obtain ⟨_, kk, _, _, _, _⟩ := c160 hW; go_simp⟩) HX3.out ?_
  refine wh 2 (rPtr c) HX3.out ?_; refine wh 3 (rPtr c) HX3.out ?_; refine wh 4 (.func (.func 292) #[rPtr c] #[]) HX3.out ?_; refine wq1 5 fun K hK => ?_; go_simp; refine cm HC.out ?_; intro e w' hp; obtain ⟨rfl, ha⟩ := hp
  exact ⟨rfl, zq7 HS.out.symm (HX2.out.next ha)⟩
 | ok t j =>
  have HC := qh (deepG hF ((ws.setCell ⟨c.R, 1, none⟩ (.int .i64 ((i : Int) + 1))).alloc (.cells #[.string x.tx, .int .i64 x.kd, .int .i64 x.parts, .int .i64 x.str] 189)).drew d (i + 1) HX1.out (by rw [hr]; nofun))
  rw [hr] at HC HS; simp only [zzv] at HS; clear hr; go_wp2_with fail
  refine wp_region_held (S := fun W => W.heap[ws.heap.size]? = some (.cells #[.string x.tx, .int .i64 x.kd, .int .i64 x.parts, .int .i64 x.str] 189)) (by kernel_rfl) ?_; change wpAnyH _ _ _ _ _ _ _ _ (World.drew _)
  refine wh 0 (.pointer (some ⟨ws.heap.size, 1, none⟩)) HX3.out ?_; refine wg 1 (.int .i64 x.kd) rfl (Or.inl ⟨by kernel_rfl, fun W hW => by obtain ⟨_, kk, _, _, _, _⟩ := c160 hW; go_simp⟩) HX3.out ?_
  refine wh 2 (rPtr c) HX3.out ?_; refine wh 3 (rPtr c) HX3.out ?_; refine wh 4 (.func (.func 292) #[rPtr c] #[]) HX3.out ?_; refine wq1 5 fun K hK => ?_; go_simp; refine cm HC.out ?_; intro e w1 hp
  obtain ⟨⟨v1, rfl, p1, rfl, hn1⟩, hrd, ha⟩ := hp; clear HC; have HA1 := qh (HX2.out.next ha); have HR1 := qh hrd; have HN1 := qh (zww hn1 HX2.out.size)
  have HS1 := qh ((ha.block _ (zzz HX3.out) (by have := zzq HTL; omega)).trans HX3.out)
  clear hn1 hrd ha; refine hK.out _ _ HS1.out (fun _ => ?_); clear hK K; refine wq1 6 fun K hK => ?_; go_simp; have HS2 := qh ((Below.heap_alloc w1 (.cells #[nPtr p1] 22) _ (zzz HS1.out)).trans HS1.out)
  refine hK.out _ _ HS2.out (fun _ => ?_); clear hK K; refine wq1 7 fun K hK => ?_; go_simp; refine cm (zqk x.kd zzx (.slice (some ⟨w1.heap.size, 0, none⟩) 1 1) (w1.alloc (.cells #[nPtr p1] 22)) ⟨_, _, _, rfl⟩) ?_
  rintro e wn ⟨rfl, rfl⟩; have HS3 := qh ((Below.heap_alloc (w1.alloc (.cells #[nPtr p1] 22)) (zzk x.kd zzx 0 (.slice (some ⟨w1.heap.size, 0, none⟩) 1 1)) _ (zzz HS2.out)).trans HS2.out)
  refine hK.out _ _ HS3.out (fun _ => ?_); clear hK K; refine wh 8 (nPtr (w1.alloc (.cells #[nPtr p1] 22)).heap.size) HS3.out ?_; refine wpAnyH_done (by kernel_rfl) ?_ _; go_simp; go_wp2_with fail; go_ret
  obtain ⟨m1, m2, m3⟩ := made HR1.out HA1.out (NAts.cons HN1.out NAts.nil) (by simp [maxLen]) #[nPtr p1] rfl 1 rfl x.kd zzx (w1.heap.size + 1) rfl; exact ppOk HS.out.symm m1.nv m2 m3
theorem single_any {c : Ctx} {F : Fns} (hF : FC c F) (hQ : Does c 303 NV (zd1 c.l F)) : Does c 292 NV (zd3 c.l F) := by
 intro w d i r hs ho h
 unfold zd3 at hs
 cases hg : sgP 1 (fx c.l i) with
 | none => rw [hg] at hs; exact single_none hQ w d i r hg hs ho h
 | some x => rw [hg] at hs; exact single_some hF w d i x r hg hs ho h
theorem pair_any {c : Ctx} {F : Fns} (hF : FC c F) (hN : ∃ k, FNx c.l k F) (b : Int) (w : World) (d i : Nat) (r : PR Tr) (hs : pairP c.l F b d i = r) (ho : r ≠ .out) (h : Rdr c w i d) : Calls Tryz.prog 281 #[rPtr c, .int .i64 b] w (zk3 c w d (NV w.heap.size) r) := by
 have HE := qh h.base.ends
 have HL := qh h.base.len
 have HNX := qh hN
 have HFC := qh hF
 clear hN
 have HR0 := qh h
 have HA0 := qh (Ap.refl c.R w.heap.size w)
 have HLT := qh h.rlt
 unfold pairP at hs
 have HS := qh hs
 have HO := qh ho
 clear h hs ho
 go_enter Tryz.func281, Tryz.ntmps281
 cases hr : F.sg d i with
 | out =>
  rw [hr] at HS; simp only [zqj] at HS; exact absurd HS.out.symm HO.out
 | bad er p =>
  have HC := qh (hF.sg w d i _ rfl (by rw [hr]; nofun) HR0.out)
  rw [hr] at HC HS; simp only [zz6] at HS; clear hr; go_wp2_with fail; refine cm HC.out ?_; intro e w' hp; obtain ⟨rfl, ha⟩ := hp; exact ⟨rfl, zq7 HS.out.symm (HA0.out.next ha)⟩
 | ok x1 j1 =>
  have HC := qh (hF.sg w d i _ rfl (by rw [hr]; nofun) HR0.out)
  rw [hr] at HC HS; simp only [zzv] at HS; clear hr; go_wp2_with fail; refine cm HC.out ?_; intro e w1 hp; obtain ⟨⟨v1, rfl, p1, rfl, hn1⟩, hrd, ha⟩ := hp; clear HC; have HA1 := qh (HA0.out.next ha)
  have HR1 := qh hrd; have HN1 := qh (zww hn1 HA0.out.size); clear hn1; clear hrd ha HA0 HR0; clear hF; go_wp2_with fail
  go_loopw [5] (fun v wr => ∃ k t j p, v = nPtr p ∧ zk7 c.l F b d k t j = r ∧ Rdr c wr j d ∧ Ap c.R w.heap.size w wr ∧ NAt (From w.heap.size) wr t p) (fun _ wr => c.l.length - nxt c wr)
  case atStart => exact ⟨F.fuel, x1, j1, p1, rfl, HS.out, HR1.out, HA1.out, HN1.out⟩
  case round =>
   obtain ⟨k, t, j, p0, rfl, hq, hrd, hap, hnt⟩ := hrel; clear HS HR1 HA1 HN1
   cases k with
   | zero => exact absurd hq.symm HO.out
   | succ k =>
    have HR2 := qh hrd; have HRM := qh hrd; have HA2 := qh hap; have HN2 := qh hnt; have hjl := hrd.lt; have hL := zzq HL; unfold zk7 at hq
    cases hsg : sgP 2 (fx c.l j) with
    | none =>
     rw [hsg] at hq; have HQ := qh hq; have HSG := qh hsg; clear hq hrd hap hnt hsg; have HC := qh (zy9 c 2 wr j d HR2.out); rw [HSG.out] at HC; simp only [sgVO, noSg, Option.isSome] at HC; go_wp2_with fail
     refine cm HC.out ?_; rintro e ws ⟨rfl, hbws⟩; clear HC; have HAws := qh (HA2.out.next (Ap.of hbws)); have HRws := qh (HR2.out.later hbws); replace HN2 := qh (zkk HN2.out (Ap.of hbws) HLT.out); clear hbws
     have HAs2 := qh (HAws.out.alloc HAws.out.size (.cells #[.string ⟨#[]⟩, .int .i64 0, .int .i64 0, .int .i64 0] 189))
     have HRs2 := qh (HRws.out.alloc (.cells #[.string ⟨#[]⟩, .int .i64 0, .int .i64 0, .int .i64 0] 189))
     replace HN2 := qh (zkk HN2.out (Ap.of (qb.alloc qv (.cells #[.string ⟨#[]⟩, .int .i64 0, .int .i64 0, .int .i64 0] 189))) HLT.out); go_wp2_with fail; go_ret
     exact ppOk HQ.out.symm ⟨p0, rfl, HN2.out⟩ HRs2.out HAs2.out
    | some x =>
     rw [hsg] at hq
     dsimp only at hq
     have HSG := qh hsg; have hi := sgP_lt HE.out hjl hsg; obtain ⟨hx2, hx7⟩ := sg2 hsg; clear hrd hap hnt hsg
     by_cases hle : x.str < b
     ·
      rw [if_pos hle] at hq; have HQ := qh hq; clear hq; have HC := qh (zy9 c 2 wr j d HR2.out); rw [HSG.out] at HC; simp only [sgVO, sgV, Option.isSome] at HC; go_wp2_with fail; refine cm HC.out ?_
      rintro e ws ⟨rfl, hbws⟩; clear HC; have HAws := qh (HA2.out.next (Ap.of hbws)); have HRws := qh (HR2.out.later hbws); replace HN2 := qh (zkk HN2.out (Ap.of hbws) HLT.out); clear hbws
      have HAs2 := qh (HAws.out.alloc HAws.out.size (.cells #[.string x.tx, .int .i64 x.kd, .int .i64 x.parts, .int .i64 x.str] 189))
      have HRs2 := qh (HRws.out.alloc (.cells #[.string x.tx, .int .i64 x.kd, .int .i64 x.parts, .int .i64 x.str] 189))
      replace HN2 := qh (zkk HN2.out (Ap.of (qb.alloc qv (.cells #[.string x.tx, .int .i64 x.kd, .int .i64 x.parts, .int .i64 x.str] 189))) HLT.out); go_wp2_with fail; go_ret
      exact ppOk HQ.out.symm ⟨p0, rfl, HN2.out⟩ HRs2.out HAs2.out
     ·
      rw [if_neg hle] at hq; have HQ := qh hq; clear hq; have HC := qh (zy9 c 2 wr j d HR2.out); rw [HSG.out] at HC; simp only [sgVO, sgV, Option.isSome] at HC; go_wp2_with fail; refine cm HC.out ?_
      rintro e ws ⟨rfl, hbws⟩; clear HC; have HAws := qh (HA2.out.next (Ap.of hbws)); have HRws := qh (HR2.out.later hbws); replace HN2 := qh (zkk HN2.out (Ap.of hbws) HLT.out); have hc1 := HRws.out.c1
      have hcz := HRws.out.fz; have hcl := HRws.out.rlt; obtain ⟨hx1, hxa, hx3⟩ := behindSign x HRws.out HAws.out hi; have HX1 := qh hx1; have HX2 := qh hxa; have HX3 := qh hx3
      have HTL : Hid (c.R < ws.heap.size) := hcl
      replace HN2 : Hid (NAt (From w.heap.size) (((ws.setCell ⟨c.R, 1, none⟩ (.int .i64 ((j : Int) + 1))).alloc (.cells #[.string x.tx, .int .i64 x.kd, .int .i64 x.parts, .int .i64 x.str] 189)).drew) t p0) := zkk (c := c) HN2.out ⟨rfl, rfl, rfl, by simp, fun k hk hkr => by
       show ((ws.setCell ⟨c.R, 1, none⟩ (.int .i64 ((j : Int) + 1))).alloc (.cells #[.string x.tx, .int .i64 x.kd, .int .i64 x.parts, .int .i64 x.str] 189)).heap[k]? = _
       rw [Below.heap_alloc _ _ k (by simpa using hk), Below.heap_setCell ws ⟨c.R, 1, none⟩ _ k hkr]⟩ HLT.out
      clear hbws hx1 hxa hx3 HRws HAws
      cases hr : F.pr (x.str + 1) d (j + 1) with
      | out =>
       rw [hr] at HQ; simp only [zqj] at HQ; exact absurd HQ.out.symm HO.out
      | bad er p =>
       have HC := qh (HFC.out.pr (x.str + 1) (by omega) (by omega) ((ws.setCell ⟨c.R, 1, none⟩ (.int .i64 ((j : Int) + 1))).alloc (.cells #[.string x.tx, .int .i64 x.kd, .int .i64 x.parts, .int .i64 x.str] 189)).drew d (j + 1) _ rfl (by rw [hr]; nofun) HX1.out)
       rw [hr] at HC HQ; simp only [zz6] at HQ; clear hr; go_wp2_with fail
       refine wp_region_held (S := fun W => W.heap[ws.heap.size]? = some (.cells #[.string x.tx, .int .i64 x.kd, .int .i64 x.parts, .int .i64 x.str] 189)) (by kernel_rfl) ?_; change wpAnyH _ _ _ _ _ _ _ _ (World.drew _)
       refine wh 0 (.pointer (some ⟨ws.heap.size, 1, none⟩)) HX3.out ?_; refine wg 1 (.int .i64 x.kd) rfl (Or.inl ⟨by kernel_rfl, fun W hW => by obtain ⟨_, kk, _, _, _, _⟩ := c160 hW; go_simp⟩) HX3.out ?_
       refine wh 2 (nPtr p0) HX3.out ?_; refine wh 3 (rPtr c) HX3.out ?_; refine wh 4 (.pointer (some ⟨ws.heap.size, 3, none⟩)) HX3.out ?_
       refine wg 5 (.int .i64 x.str) rfl (Or.inl ⟨by kernel_rfl, fun W hW => by obtain ⟨_, _, _, kk, _, _⟩ := c160 hW; go_simp⟩) HX3.out ?_
       refine wg 6 (.int .i64 (x.str + 1)) rfl (Or.inl ⟨by kernel_rfl, fun W _ => by have hw : IntKind.i64.wrap (x.str + 1) = x.str + 1 := (by rw [IntKind.wrap_i64]; omega); go_simp; try exact hw⟩) HX3.out ?_
       refine wq1 7 fun K hK => ?_; go_simp; refine cm HC.out ?_; intro e w' hp; obtain ⟨rfl, ha⟩ := hp; exact ⟨rfl, zq7 HQ.out.symm (HX2.out.next ha)⟩
      | ok u j2 =>
       have HC := qh (HFC.out.pr (x.str + 1) (by omega) (by omega) ((ws.setCell ⟨c.R, 1, none⟩ (.int .i64 ((j : Int) + 1))).alloc (.cells #[.string x.tx, .int .i64 x.kd, .int .i64 x.parts, .int .i64 x.str] 189)).drew d (j + 1) _ rfl (by rw [hr]; nofun) HX1.out)
       have hgt : j + 1 < j2 := by
        obtain ⟨kk, hkk⟩ := zzq HNX; exact ((hkk.pr (x.str + 1) d (j + 1) hi).2 u j2 hr).1
       rw [hr] at HC HQ; simp only [zzv] at HQ; clear hr; go_wp2_with fail
       refine wp_region_held (S := fun W => W.heap[ws.heap.size]? = some (.cells #[.string x.tx, .int .i64 x.kd, .int .i64 x.parts, .int .i64 x.str] 189)) (by kernel_rfl) ?_; change wpAnyH _ _ _ _ _ _ _ _ (World.drew _)
       refine wh 0 (.pointer (some ⟨ws.heap.size, 1, none⟩)) HX3.out ?_; refine wg 1 (.int .i64 x.kd) rfl (Or.inl ⟨by kernel_rfl, fun W hW => by obtain ⟨_, kk, _, _, _, _⟩ := c160 hW; go_simp⟩) HX3.out ?_
       refine wh 2 (nPtr p0) HX3.out ?_; refine wh 3 (rPtr c) HX3.out ?_; refine wh 4 (.pointer (some ⟨ws.heap.size, 3, none⟩)) HX3.out ?_
       refine wg 5 (.int .i64 x.str) rfl (Or.inl ⟨by kernel_rfl, fun W hW => by obtain ⟨_, _, _, kk, _, _⟩ := c160 hW; go_simp⟩) HX3.out ?_
       refine wg 6 (.int .i64 (x.str + 1)) rfl (Or.inl ⟨by kernel_rfl, fun W _ => by have hw : IntKind.i64.wrap (x.str + 1) = x.str + 1 := (by rw [IntKind.wrap_i64]; omega); go_simp; try exact hw⟩) HX3.out ?_
       refine wq1 7 fun K hK => ?_; go_simp; refine cm HC.out ?_; intro e w1 hp; obtain ⟨⟨v1, rfl, p1, rfl, hn1⟩, hrd, ha⟩ := hp; clear HC; have HA1 := qh (HX2.out.next ha); have HR1 := qh hrd; have hj2 := hrd.lt
       replace HN2 := qh (zg8 HN2.out ha HLT.out HX2.out.size hn1); have HS1 := qh ((ha.block _ (zzz HX3.out) (by have := zzq HTL; omega)).trans HX3.out)
       clear hn1 hrd ha; refine hK.out _ _ HS1.out (fun _ => ?_); clear hK K; refine wq1 8 fun K hK => ?_; go_simp
       have HS2 := qh ((Below.heap_alloc w1 (.cells #[nPtr p0, nPtr p1] 22) _ (zzz HS1.out)).trans HS1.out); refine hK.out _ _ HS2.out (fun _ => ?_); clear hK K; refine wq1 9 fun K hK => ?_; go_simp
       refine cm (zqk x.kd zzx (.slice (some ⟨w1.heap.size, 0, none⟩) 2 2) (w1.alloc (.cells #[nPtr p0, nPtr p1] 22)) ⟨_, _, _, rfl⟩) ?_; rintro e wn ⟨rfl, rfl⟩
       have HS3 := qh ((Below.heap_alloc (w1.alloc (.cells #[nPtr p0, nPtr p1] 22)) (zzk x.kd zzx 0 (.slice (some ⟨w1.heap.size, 0, none⟩) 2 2)) _ (zzz HS2.out)).trans HS2.out)
       refine hK.out _ _ HS3.out (fun _ => ?_); clear hK K; refine wh 10 (nPtr (w1.alloc (.cells #[nPtr p0, nPtr p1] 22)).heap.size) HS3.out ?_; refine wpAnyH_done (by kernel_rfl) ?_ _; go_simp
       obtain ⟨m1, m2, m3⟩ := made HR1.out HA1.out HN2.out (by simp [maxLen]) #[nPtr p0, nPtr p1] rfl 2 rfl x.kd zzx (w1.heap.size + 1) rfl; obtain ⟨pm, hpm, hnm⟩ := m1.nv
       have hpe : pm = w1.heap.size + 1 := by simpa [nPtr] using hpm.symm
       subst hpe; have HM1 := qh hnm; have HM2 := qh m2; have HM3 := qh m3; clear m1 m2 m3 hpm hnm; go_wp2_with fail
       go_roundw
       case rel => exact ⟨k, .mk x.kd zzx 0 [t, u], j2, w1.heap.size + 1, rfl, HQ.out, HM2.out, HM3.out, HM1.out⟩
       case measure => rw [zyq HM2.out, zyq HRM.out]; omega
structure Open (B : Nat) (w : World) (t : Tr) (p : Nat) (u : Value) (ps : List Nat) : Prop where
 low : B ≤ p
 blk : w.heap[p]? = some (zzk t.kd t.tx t.n u)
 row : w.ownsRow B 22 1 u ps.length (ps.map nPtr)
 own : u.ownBlock ≠ some p
 kids : NAts (fun b => B ≤ b ∧ b ≠ p ∧ u.ownBlock ≠ some b) w t.kids ps
theorem EV.opens {B : Nat} {w : World} {t : Tr} {v : Value} (h : EV B w t v) : ∃ p u ps, v = nPtr p ∧ Open B w t p u ps := by
 obtain ⟨p, u, ps, rfl, h1, h2, h3, h4, h5⟩ := h
 exact ⟨p, u, ps, rfl, h1, h2, h3, h4, h5⟩
theorem Open.ev {B : Nat} {w : World} {t : Tr} {p : Nat} {u : Value} {ps : List Nat} (h : Open B w t p u ps) : EV B w t (nPtr p) := ⟨p, u, ps, rfl, h.low, h.blk, h.row, h.own, h.kids⟩
theorem Open.later {c : Ctx} {B : Nat} {w w' : World} {t : Tr} {p : Nat} {u : Value} {ps : List Nat} (h : Open B w t p u ps) (ha : Ap c.R w.heap.size w w') (hB : c.R < B) : Open B w' t p u ps :=
 ⟨h.low, by rw [ha.block p (zzz h.blk) (by have := h.low; omega)]; exact h.blk, zx2 (I := fun b => B ≤ b) (Stay.of_ap ha hB fun _ h => h) (fun g hg => (zx6 h.row g hg).2) h.row, h.own, NAts.later (Stay.of_ap ha hB fun _ h => h.1) _ _ h.kids⟩
theorem Open.cell {B : Nat} {w : World} {t : Tr} {p : Nat} {u : Value} {ps : List Nat} (h : Open B w t p u ps) : w.cell? ⟨p, 3, none⟩ = some u ∧ (∀ o, w.frozen? ⟨p, o, none⟩ = false) ∧ p < w.heap.size :=
 ⟨(zzj h.blk).2.2.2.1, (zzj h.blk).2.2.2.2, zzz h.blk⟩
theorem Open.shape {B : Nat} {w : World} {t : Tr} {p : Nat} {u : Value} {ps : List Nat} (h : Open B w t p u ps) : ∃ a cap, u = .slice a t.kids.length cap := by
 rw [← NAts.length _ _ h.kids]; exact zjj h.row
theorem Open.apart {c : Ctx} {B : Nat} {w w1 : World} {t : Tr} {p : Nat} {u : Value} {ps : List Nat} (h : Open B w t p u ps) (hB : B ≤ w.heap.size) (ha : Ap c.R w.heap.size w w1) (hR : c.R < B) {us : List Tr} {qs : List Nat} (hn : NAts (From w.heap.size) w1 us qs) :
  NAts (fun b => B ≤ b ∧ b ≠ p ∧ u.ownBlock ≠ some b) w1 (t.kids ++ us) (ps ++ qs) :=
 NAts.append (M := w.heap.size) _ _ (NAts.mono (fun b hb _ => by
  have h1 : w.heap.size ≤ b := hb; have h2 := zzz h.blk; exact ⟨⟨by omega, by omega, fun e => by have := (zx6 h.row b e).1; omega⟩, h1⟩) _ _ hn)
  (NAts.later (I := fun b => (B ≤ b ∧ b ≠ p ∧ u.ownBlock ≠ some b) ∧ b < w.heap.size) (Stay.of_ap ha hR fun _ h => h.1.1) _ _ (NAts.mono (fun _ hb hl => ⟨hb, hl⟩) _ _ h.kids))
theorem ev_push {B : Nat} {w0 w3 : World} {kd n : Int} {tx : ByteArray} {ts us : List Tr} {ps qs : List Nat} {p g m cap : Nat} {u : Value} (hB : B ≤ p) (hb : w0.heap[p]? = some (zzk kd tx n u)) (hu : u.ownBlock ≠ some p)
  (hk : NAts (fun b => B ≤ b ∧ b ≠ p ∧ u.ownBlock ≠ some b) w0 (ts ++ us) (ps ++ qs))
  (hown : w3.ownsRow B 22 1 (.slice (some ⟨g, 0, none⟩) m cap) m ((ps ++ qs).map nPtr)) (hm : m = (ps ++ qs).length) (hgr : w0.grownBy w3 u.ownBlock) (hg : u.ownBlock = some g ∨ g = w0.heap.size) :
  EV B (w3.setCell ⟨p, 3, none⟩ (.slice (some ⟨g, 0, none⟩) m cap)) (.mk kd tx n (ts ++ us)) (nPtr p) := by
 subst hm
 have hlt := zzz hb
 have hgp : g ≠ p := by
  rcases hg with hg | hg
  ·
   exact fun e => hu (by rw [hg, e])
  ·
   omega
 have h3 : w3.heap[p]? = some (zzk kd tx n u) := by rw [hgr.block p hlt (fun e => hu e.symm)]; exact hb
 have hset : ∀ b, b ≠ p → (w3.setCell ⟨p, 3, none⟩ (.slice (some ⟨g, 0, none⟩) (ps ++ qs).length cap)).heap[b]? = w3.heap[b]? := fun b hb => Below.heap_setCell w3 ⟨p, 3, none⟩ _ b hb
 refine ⟨p, .slice (some ⟨g, 0, none⟩) (ps ++ qs).length cap, ps ++ qs, rfl, hB, by rw [zz8 h3]; rfl, ?_, fun e => hgp (by simpa [Value.ownBlock] using e), ?_⟩
 ·
  exact zx2 (I := fun b => b = g) (fun b hb _ => hset b (by rw [hb]; exact hgp)) (fun g' hg' => by simpa [Value.ownBlock] using hg'.symm) hown
 ·
  have h0 := NAts.mono (J := fun b => B ≤ b ∧ b ≠ p ∧ b ≠ g ∧ u.ownBlock ≠ some b) (fun b hb hl => ⟨hb.1, hb.2.1, fun e => by (rcases hg with hg | hg); (exact hb.2.2 (by rw [hg, e])); omega, hb.2.2⟩) _ _ hk
  have hs : Stay (fun b => B ≤ b ∧ b ≠ p ∧ b ≠ g ∧ u.ownBlock ≠ some b) w0 (w3.setCell ⟨p, 3, none⟩ (.slice (some ⟨g, 0, none⟩) (ps ++ qs).length cap)) := by
   intro b hb hl; rw [hset b hb.2.1]; exact hgr.block b hl (fun e => hb.2.2.2 e.symm)
  exact NAts.mono (fun b hb _ => ⟨hb.1, hb.2.1, fun e => by simp only [Value.ownBlock, Option.some.injEq] at e; exact hb.2.2.1 e.symm⟩) _ _ (NAts.later hs _ _ h0)
theorem push1 {c : Ctx} {w w1 w3 : World} {j d : Nat} {t x : Tr} {p q g cap : Nat} {u : Value} {ps : List Nat} (hO : Open w.heap.size w1 t p u ps) (hx : NAts (fun b => w.heap.size ≤ b ∧ b ≠ p ∧ u.ownBlock ≠ some b) w1 (t.kids ++ [x]) (ps ++ [q])) (hR : Rdr c w1 j d) (hA : Ap c.R w.heap.size w w1) (hlo : c.lo ≤ w.heap.size)
  (hown : w3.ownsRow w.heap.size 22 1 (.slice (some ⟨g, 0, none⟩) (t.kids.length + 1) cap) (t.kids.length + 1) (ps.map nPtr ++ [nPtr q])) (hgr : (w1.alloc (.cells #[nPtr q] 22)).grownBy w3 u.ownBlock) (hg : u.ownBlock = some g ∨ g = w1.heap.size + 1) :
  EV w.heap.size (w3.setCell ⟨p, 3, none⟩ (.slice (some ⟨g, 0, none⟩) (t.kids.length + 1) cap)) (.mk t.kd t.tx t.n (t.kids ++ [x])) (nPtr p) ∧
  Rdr c (w3.setCell ⟨p, 3, none⟩ (.slice (some ⟨g, 0, none⟩) (t.kids.length + 1) cap)) j d ∧
  Ap c.R w.heap.size w (w3.setCell ⟨p, 3, none⟩ (.slice (some ⟨g, 0, none⟩) (t.kids.length + 1) cap)) := by
 have hlen := NAts.length _ _ hO.kids
 have hst : ∀ I, Stay I w1 (w1.alloc (.cells #[nPtr q] 22)) := fun I b _ hl => Below.heap_alloc w1 _ b hl
 have hb : (w1.alloc (.cells #[nPtr q] 22)).heap[p]? = some (zzk t.kd t.tx t.n u) := by rw [Below.heap_alloc w1 _ p (zzz hO.blk)]; exact hO.blk
 have hrow : ∀ k, u.ownBlock = some k → w.heap.size ≤ k := fun k hk => (zx6 hO.row k hk).2
 have hgrow : Below w.heap.size w1 w3 := ((Below.refl w.heap.size w1).alloc hA.size _).grown hgr (by simp; have := hA.size; omega) hrow
 have hset : Below w.heap.size w1 (w3.setCell ⟨p, 3, none⟩ (.slice (some ⟨g, 0, none⟩) (t.kids.length + 1) cap)) := hgrow.setCell (p := ⟨p, 3, none⟩) hO.low _
 refine ⟨?_, hR.ap hset hlo, hA.trans (Ap.of hset)⟩
 refine ev_push (w0 := w1.alloc (.cells #[nPtr q] 22)) hO.low hb hO.own (NAts.later (hst _) _ _ hx) (by rw [List.map_append]; exact hown) (by simp [hlen]) hgr ?_
 rcases hg with hg | hg
 ·
  exact Or.inl hg
 ·
  exact Or.inr (by simp [hg])
theorem choice_eq (l : List Tk) (F : Fns) (d i : Nat) : zy2 l F d i = (zvy l F d i).bind fun n i2 =>
  if fx l i2 = zg0 then (zq2 l F.st d (i2 + 1)).bind fun s2 i3 => .ok (.mk n.kd n.tx n.n (n.kids ++ [s2])) i3 else .ok n i2 := by
 unfold zy2 zvy
 cases zv4 l F d (i + 1) with
 | out => rfl
 | bad er p => rfl
 | ok v i1 =>
  simp only [zzv]
  cases zq2 l F.st d i1 with
  | out => rfl
  | bad er p => rfl
  | ok s i2 => rfl
theorem behind_kids {l : List Tk} {F : Fns} {d i j : Nat} {t : Tr} (h : zvy l F d i = .ok t j) : t.kids.length = 2 := by
 unfold zvy at h
 cases h1 : zv4 l F d (i + 1) with
 | out => rw [h1] at h; cases h
 | bad er p => rw [h1] at h; cases h
 | ok v i1 =>
  rw [h1, zzv] at h
  cases h2 : zq2 l F.st d i1 with
  | out => rw [h2] at h; cases h
  | bad er p => rw [h2] at h; cases h
  | ok s i2 => rw [h2, zzv] at h; cases h; rfl
theorem choice_any {c : Ctx} {F : Fns} (hF : FC c F) (w : World) (d i : Nat) (r : PR Tr) (hk : (tkA c.l i).kd ≠ 6) (hs : zy2 c.l F d i = r) (ho : r ≠ .out) (h : Rdr c w i d) : Calls Tryz.prog 167 #[rPtr c] w (zk3 c w d (NV w.heap.size) r) := by
 have hmf := zk2 c.R 176
 have HKD := qh hk
 have HLO := qh h.base.size
 obtain ⟨i0, hi0, hz0, hz1, hz2⟩ := info_parts zk0
 rw [choice_eq] at hs
 clear hk
 have HR0 := qh h
 have HA0 := qh (Ap.refl c.R w.heap.size w)
 have HLT := qh h.rlt
 have HS := qh hs
 have HO := qh ho
 clear h hs ho
 go_enter Tryz.func167, Tryz.ntmps167
 cases hr : zvy c.l F d i with
 | out =>
  rw [hr] at HS; simp only [zqj] at HS; exact absurd HS.out.symm HO.out
 | bad er p =>
  have HC := qh (znz hF w d i _ HKD.out rfl (by rw [hr]; nofun) HR0.out)
  rw [hr] at HC HS; simp only [zz6] at HS; clear hr; go_wp2_with fail; refine cm HC.out ?_; intro e w' hp; obtain ⟨rfl, ha⟩ := hp; exact ⟨rfl, zq7 HS.out.symm (HA0.out.next ha)⟩
 | ok x1 j1 =>
  have HKL := qh (behind_kids hr); have HC := qh (znz hF w d i _ HKD.out rfl (by rw [hr]; nofun) HR0.out)
  rw [hr] at HC HS; simp only [zzv] at HS; clear hr; go_wp2_with fail; refine cm HC.out ?_; intro e w1 hp; obtain ⟨⟨v1, rfl, hn1⟩, hrd, ha⟩ := hp; clear HC; have HA1 := qh (HA0.out.next ha); have HR1 := qh hrd
  have HN1 := qh (EV.mono hn1 HA0.out.size); clear hn1; clear hrd ha HA0 HR0; obtain ⟨p0, u0, ps0, rfl, hop⟩ := HN1.out.opens; have HOP := qh hop; clear hop HN1
  by_cases hx : fx c.l j1 = zg0
  ·
   rw [if_pos hx] at HS; have HC := qh (zkv c zg0 w1 j1 d HR1.out hx (by decide)); clear hx; go_wp2_with fail; refine cm HC.out ?_; rintro e w2 ⟨rfl, hr2, ha2⟩; clear HC; have HR2 := qh hr2
   have HA2 := qh (HA1.out.next ha2); replace HOP := qh (Open.later HOP.out ha2 HLT.out); clear hr2 ha2 HR1 HA1; obtain ⟨hc3, hcf, hcl⟩ := HOP.out.cell; obtain ⟨ua, uc, hue⟩ := HOP.out.shape; subst hue
   cases hr : zq2 c.l F.st d (j1 + 1) with
   | out =>
    rw [hr] at HS; simp only [zqj] at HS; exact absurd HS.out.symm HO.out
   | bad er p =>
    have HC := qh (deepS hF w2.drew d (j1 + 1) HR2.out.drew (by rw [hr]; nofun))
    rw [hr] at HC HS; simp only [zz6] at HS; clear hr; go_wp2_with fail; refine wp_region_any (by kernel_rfl) ?_; change wpAny _ _ _ _ _ _ _ (World.drew _); refine wt 0 (nPtr p0) ?_; refine wt 1 (nPtr p0) ?_
    refine wt 2 (nPtr p0) ?_; refine wt 3 (.pointer (some ⟨p0, 3, none⟩)) ?_; refine wt 5 (rPtr c) ?_; refine wt 6 (rPtr c) ?_; refine wt 7 (.func (.func 176) #[rPtr c] #[]) ?_
    refine wr2 4 8 (fun K hK => ?_) fun K hK => ?_
    ·
     go_simp; refine hK _ _ ?_; clear hK K; refine wr1 8 fun K hK => ?_; go_simp; refine cm HC.out ?_; intro e w' hp; obtain ⟨rfl, ha⟩ := hp; exact ⟨rfl, zq7 HS.out.symm (HA2.out.drew.next ha)⟩
    ·
     go_simp; refine cm HC.out ?_; intro e w' hp; obtain ⟨rfl, ha⟩ := hp; exact ⟨rfl, zq7 HS.out.symm (HA2.out.drew.next ha)⟩
   | ok tx1 jx =>
    have HC := qh (deepS hF w2.drew d (j1 + 1) HR2.out.drew (by rw [hr]; nofun))
    rw [hr] at HC HS; simp only [zzv] at HS; clear hr; go_wp2_with fail; refine via2 (H := fun wc pc => Ap c.R w2.heap.size w2 wc ∧ Rdr c wc jx d ∧ NAt (From w2.heap.size) wc tx1 pc) (G := ?G1) (fun CONT => ?_) ?_
    rotate_left
    ·
     refine wp_region_any (by kernel_rfl) ?_; change wpAny _ _ _ _ _ _ _ (World.drew _); refine wt 0 (nPtr p0) ?_; refine wt 1 (nPtr p0) ?_; refine wt 2 (nPtr p0) ?_; refine wt 3 (.pointer (some ⟨p0, 3, none⟩)) ?_
     refine wt 5 (rPtr c) ?_; refine wt 6 (rPtr c) ?_; refine wt 7 (.func (.func 176) #[rPtr c] #[]) ?_; refine wr2 4 8 (fun K hK => ?_) fun K hK => ?_
     ·
      go_simp; refine hK _ _ ?_; clear hK K; refine wr1 8 fun K hK => ?_; go_simp; refine cm HC.out ?_; intro e wc hp; obtain ⟨⟨vc, rfl, pc, rfl, hnc⟩, hrd, ha⟩ := hp
      have ha0 := ((Ap.refl c.R w2.heap.size w2).drew).next ha; have HY : Hid (Ap c.R w2.heap.size w2 wc ∧ Rdr c wc jx d ∧ NAt (From w2.heap.size) wc tx1 pc) := ⟨ha0, hrd, hnc⟩
      obtain ⟨gc3, gcf, gcl⟩ := (Open.later HOP.out ha0 HLT.out).cell; clear hrd ha ha0 hnc; refine hK _ _ ?_; clear hK K; refine wr1 9 fun K hK => ?_; go_simp; refine hK _ _ ?_; clear hK K
      refine zq9 (listed' := tf 10 4) (by kernel_rfl) rfl ?_; exact CONT wc pc HY.out
     ·
      go_simp; refine cm HC.out ?_; intro e wc hp; obtain ⟨⟨vc, rfl, pc, rfl, hnc⟩, hrd, ha⟩ := hp; have ha0 := ((Ap.refl c.R w2.heap.size w2).drew).next ha
      have HY : Hid (Ap c.R w2.heap.size w2 wc ∧ Rdr c wc jx d ∧ NAt (From w2.heap.size) wc tx1 pc) := ⟨ha0, hrd, hnc⟩; obtain ⟨gc3, gcf, gcl⟩ := (Open.later HOP.out ha0 HLT.out).cell; clear hrd ha ha0 hnc
      refine hK _ _ ?_; clear hK K; refine wr2 4 9 (fun K hK => ?_) fun K hK => ?_
      ·
       go_simp; refine hK _ _ ?_; clear hK K; refine wr1 9 fun K hK => ?_; go_simp; refine hK _ _ ?_; clear hK K; exact wz 10 4 (CONT wc pc HY.out)
      ·
       go_simp; refine hK _ _ ?_; clear hK K; refine wr1 4 fun K hK => ?_; go_simp; refine hK _ _ ?_; clear hK K; exact wz 10 4 (CONT wc pc HY.out)
    intro wc pc hY; obtain ⟨ha0, hrd, hnc⟩ := hY; have HAc := qh (HA2.out.next ha0); have HRc := qh hrd; have HOc := qh (Open.later HOP.out ha0 HLT.out)
    have HNc := qh (Open.apart HOP.out HA2.out.size ha0 HLT.out (NAts.cons hnc NAts.nil)); obtain ⟨gc3, gcf, gcl⟩ := HOc.out.cell; clear hrd ha0 hnc; have hlen := NAts.length _ _ HOc.out.kids; have hown := HOc.out.row
    rw [hlen] at hown; have HOWN := qh hown; have hsz := HAc.out.size; have hkl : x1.kids.length ≤ 3 := by rw [HKL.out]; decide
    clear hown hlen; refine wr1 10 fun K hK => ?_
    refine step_append_lies _ rfl _ _ 46 rfl w.heap.size 22 i0 (.pointer none) 1 8 Tryz.underlying46 hi0 hz0 hz1 hz2 rfl (by decide) _ _ _ rfl (HOWN.out.alloc _) ⟨wc.heap.size, 0, none⟩ 1 1 [nPtr pc] rfl rfl (zq1 wc pc _ rfl) (zxv pc) (by decide) (by unfold maxLen; omega) (by omega) (by simp; omega) (wc.heap.size + 1) (by simp) ?_
    intro g cap w3 hown3 hgr3 hg3 _; refine hK _ _ ?_; clear hK K; have HP1 := qh (push1 HOc.out HNc.out HRc.out HAc.out HLO.out hown3 hgr3 hg3)
    have hp3 : w3.cell? ⟨p0, 3, none⟩ = wc.cell? ⟨p0, 3, none⟩ ∧ w3.frozen? ⟨p0, 3, none⟩ = wc.frozen? ⟨p0, 3, none⟩ := by
     have hbb : w3.heap[p0]? = wc.heap[p0]? := (hgr3.block p0 (by simp; omega) (fun e => HOc.out.own e.symm)).trans (Below.heap_alloc wc _ p0 gcl)
     exact ⟨World.cell?_of_block (w := wc) hbb, World.frozen?_of_block (w := wc) hbb⟩
    obtain ⟨hp3c, hp3f⟩ := hp3; rw [gc3] at hp3c; rw [gcf 3] at hp3f; clear hown3 hgr3 hg3; refine wt 11 (nPtr p0) ?_; refine wt 12 (.pointer (some ⟨p0, 3, none⟩)) ?_; refine wr1 13 fun K hK => ?_; go_simp
    refine hK _ _ ?_; clear hK K hp3c hp3f gc3 gcf gcl HOWN; refine wpAny_done (by kernel_rfl) ?_ _; go_simp; obtain ⟨m1, m2, m3⟩ := zzq HP1; have HM1 := qh m1; have HM2 := qh m2; have HM3 := qh m3; clear m1 m2 m3
    go_wp2_with fail; go_ret; exact ppOk HS.out.symm HM1.out.nv HM2.out HM3.out
  ·
   rw [if_neg hx] at HS; have HC := qh (zwj c zg0 w1 j1 d HR1.out hx); clear hx; go_wp2_with fail; refine cm HC.out ?_; rintro e w2 ⟨rfl, hb2⟩; clear HC; have HR2 := qh (HR1.out.later hb2)
   have HA2 := qh (HA1.out.next (Ap.of hb2)); replace HOP := qh (Open.later HOP.out (Ap.of hb2) HLT.out); clear hb2; go_wp2_with fail; go_ret; exact ppOk HS.out.symm HOP.out.ev.nv HR2.out HA2.out
end Go.Proofs.YtoimgcjbcbhclaaGreatDoor
