/-
  Values alone.
-/
import Derived.Test.YtodmgaikhbmlnaaGreatDoorEc20
set_option maxRecDepth 100000
set_option maxHeartbeats 16000000
namespace Go.Proofs.YtodmgaikhbmlnaaGreatDoor
open Go.RowKit
theorem madeN {c : Ctx} {w W : World} {j d : Nat} (hR : Rdr c W j d) (hA : Ap c.R w.heap.size w W) (kd : Int) (tx : ByteArray) (n : Int) (q : Nat) (hq : q = W.heap.size) :
  NV w.heap.size (W.alloc (nodeObj kd tx n (.slice none 0 0))) (.mk kd tx n []) (nPtr q) ∧ Rdr c (W.alloc (nodeObj kd tx n (.slice none 0 0))) j d ∧ Ap c.R w.heap.size w (W.alloc (nodeObj kd tx n (.slice none 0 0))) := by
 subst hq
 exact ⟨(EV.new (KV.nil _ _) hA.size kd tx n).nv, hR.alloc _, hA.alloc hA.size _⟩
theorem stepped {c : Ctx} {w W : World} {i d : Nat} (hR : Rdr c W i d) (hA : Ap c.R w.heap.size w W) (hj : i + 1 < c.l.length) :
  Rdr c (W.setCell ⟨c.R, 1, none⟩ (.int .i64 ((i : Int) + 1))) (i + 1) d ∧ Ap c.R w.heap.size w (W.setCell ⟨c.R, 1, none⟩ (.int .i64 ((i : Int) + 1))) :=
 ⟨hR.go2 (i + 1) hj (by omega), hA.setCell (p := ⟨c.R, 1, none⟩) (Or.inr rfl) _⟩
open zrqby in
theorem al_some {c : Ctx} (f : Nat) (hen : ∀ args W, (callFunc f args).run Tryz.prog W = .ok (.enter f args) W) (w : World) (d i : Nat) (r : PR Tr) (ho : r ≠ .out) (q : Nat) (hq : look2 vlKeys (fx c.l i) = some q) (hf : vlFn q = f) (hp : ∀ W, Rdr c W i d → Calls Tryz.prog f #[rPtr c] W (PPost c W d (NV W.heap.size) r)) (h : Rdr c w i d) :
  Calls Tryz.prog 278 #[rPtr c] w (PPost c w d (NV w.heap.size) r) := by
 have HL : Hid (∀ W : World, Rdr c W i d → (Instr.lookup 168 (.map (some c.mV)) (.string (fx c.l i)) true).run Tryz.prog W = .ok (.tuple #[.func (.func f) #[.pointer (some ⟨c.R, 0, none⟩)] #[], .bool true]) W) := fun W hW => by
  have := look_vals c (fx c.l i) W hW.base.vals; rw [hq] at this; simp only [vlVO, hf] at this; exact this
 have HR0 := hide h
 have HA0 := hide (Ap.refl c.R w.heap.size w)
 have HP := hide hp
 have HLT := hide h.rlt
 have HO := hide ho
 clear h ho hq hf hp
 exact zrw
open zrqbx in
theorem al_sign {c : Ctx} (w : World) (d i : Nat) (x : Sg) (hq : look2 vlKeys (fx c.l i) = none) (hsg : sgP 0 (fx c.l i) = some x) (h : Rdr c w i d) : Calls Tryz.prog 278 #[rPtr c] w (PPost c w d (NV w.heap.size) (.ok (.mk x.kd noText 0 []) (i + 1))) := by
 exact zrbi
section
variable {c : Ctx} (w : World) (d i : Nat) (hq : look2 vlKeys (fx c.l i) = none) (hsg : sgP 0 (fx c.l i) = none)
include c w d i hq hsg
open zrqbt in
theorem al_name (hk : (tkA c.l i).kd = 1) (h : Rdr c w i d) : Calls Tryz.prog 278 #[rPtr c] w (PPost c w d (NV w.heap.size) (.ok (.mk 23 (tkA c.l i).tx 0 []) (i + 1))) := by
 exact zrbi
open zrqbu in
theorem al_str (hk : (tkA c.l i).kd = 4) (h : Rdr c w i d) : Calls Tryz.prog 278 #[rPtr c] w (PPost c w d (NV w.heap.size) (.ok (.mk 18 (tkA c.l i).tx 0 []) (i + 1))) := by
 exact zrbi
open zrqbv in
theorem al_num (hk : (tkA c.l i).kd = 3) (h : Rdr c w i d) : Calls Tryz.prog 278 #[rPtr c] w (PPost c w d (NV w.heap.size) (.ok (.mk 17 noText (tkA c.l i).n []) (i + 1))) := by
 exact zrbi
open zrqbw in
theorem al_bad (h1 : (tkA c.l i).kd ≠ 1) (h4 : (tkA c.l i).kd ≠ 4) (h3 : (tkA c.l i).kd ≠ 3) (h : Rdr c w i d) : Calls Tryz.prog 278 #[rPtr c] w (PPost c w d (NV w.heap.size) (.bad 3 (tkA c.l i).pl)) := by
 exact zrbi
end
theorem en135 : ∀ args W, (callFunc 165 args).run Tryz.prog W = .ok (.enter 165 args) W := fun _ _ => by kernel_rfl
theorem en136 : ∀ args W, (callFunc 166 args).run Tryz.prog W = .ok (.enter 166 args) W := fun _ _ => by kernel_rfl
theorem en137 : ∀ args W, (callFunc 167 args).run Tryz.prog W = .ok (.enter 167 args) W := fun _ _ => by kernel_rfl
theorem vl_lt {s : ByteArray} {q : Nat} (h : look2 vlKeys s = some q) : q < 3 := by
 unfold look2 at h
 cases hf : vlKeys.find? (fun e => decide (s = e.1)) with
 | none => rw [hf] at h; cases h
 | some e =>
  rw [hf] at h; have hm := List.mem_of_find?_eq_some hf; simp only [Option.map_some, Option.some.injEq] at h; subst h; simp only [vlKeys, List.mem_cons, List.not_mem_nil, or_false] at hm
  rcases hm with rfl | rfl | rfl <;> decide
theorem alone_any {c : Ctx} {F : Fns} (hF : FC c F) (hN : ∃ k, FNx c.l k F) (hK : FOk F) : Does c 278 NV (aloneP c.l F) := by
 intro w d i r hs ho h
 unfold aloneP at hs
 cases hq : look2 vlKeys (fx c.l i) with
 | some q =>
  have hlt := vl_lt hq; have h3 : q = 0 ∨ q = 1 ∨ q = 2 := by omega
  rw [hq] at hs
  rcases h3 with rfl | rfl | rfl
  ·
   exact al_some 165 en135 w d i r ho 0 hq rfl (fun W hW => inPar_any hF W d i r hs ho hW) h
  ·
   exact al_some 166 en136 w d i r ho 1 hq rfl (fun W hW => object_any hF hN W d i r hs ho hW) h
  ·
   exact al_some 167 en137 w d i r ho 2 hq rfl (fun W hW => lambda_any hF hN hK W d i r hs ho hW) h
 | none =>
  rw [hq] at hs; simp only at hs
  cases hg : sgP 0 (fx c.l i) with
  | some x =>
   rw [hg] at hs; subst hs; exact al_sign w d i x hq hg h
  | none =>
   rw [hg] at hs; simp only at hs
   by_cases h1 : (tkA c.l i).kd = 1
   ·
    rw [if_pos h1] at hs; subst hs; exact al_name w d i hq hg h1 h
   ·
    by_cases h4 : (tkA c.l i).kd = 4
    ·
     rw [if_neg h1, if_pos h4] at hs; subst hs; exact al_str w d i hq hg h4 h
    ·
     by_cases h3 : (tkA c.l i).kd = 3
     ·
      rw [if_neg h1, if_neg h4, if_pos h3] at hs; subst hs; exact al_num w d i hq hg h3 h
     ·
      rw [if_neg h1, if_neg h4, if_neg h3] at hs; subst hs; exact al_bad w d i hq hg h1 h4 h3 h
theorem behind_any {c : Ctx} {F : Fns} (hF : FC c F) (w : World) (d i : Nat) (r : PR Tr) (hk : (tkA c.l i).kd ≠ 6) (hs : behindP c.l F d i = r) (ho : r ≠ .out) (h : Rdr c w i d) : Calls Tryz.prog 162 #[rPtr c] w (PPost c w d (EV w.heap.size) r) := by
 have hmf := mf_bound c.R 170
 have HKD := hide hk
 clear hk
 have HR0 := hide h
 have HA0 := hide (Ap.refl c.R w.heap.size w)
 have HLT := hide h.rlt
 unfold behindP at hs
 have HS := hide hs
 have HO := hide ho
 clear h hs ho
 go_enter Tryz.func162, Tryz.ntmps162
 have HC := hide (kind_any c w i d HR0.out HKD.out)
 go_wp2_with fail
 refine cm HC.out ?_
 rintro e wk ⟨rfl, hrk, hak⟩
 clear HC
 have HRk := hide hrk
 have HAk := hide (HA0.out.next hak)
 clear hrk hak HR0 HA0
 cases hr : inParP c.l F d (i + 1) with
 | out =>
  exact zbak
 | bad er p =>
  have HC := hide (inPar_any hF wk d (i + 1) _ rfl (by rw [hr]; nofun) HRk.out)
  exact zbfh
 | ok x1 j1 =>
  have HC := hide (inPar_any hF wk d (i + 1) _ rfl (by rw [hr]; nofun) HRk.out)
  rw [hr] at HC HS; simp only [bind_ok] at HS; clear hr; go_wp2_with fail; refine cm HC.out ?_; intro e w1 hp; obtain ⟨⟨v1, rfl, p1, rfl, hn1⟩, hrd, ha⟩ := hp; clear HC; have HA1 := hide (HAk.out.next ha)
  have HR1 := hide hrd; have HN1 := hide (nat_mono hn1 HAk.out.size); clear hn1; clear hrd ha HAk HRk
  cases hr : deepP c.l F.st d j1 with
  | out =>
   exact zbak
  | bad er p =>
   have HC := hide (deepS hF w1 d j1 HR1.out (by rw [hr]; nofun))
   exact zbck
  | ok x2 j2 =>
   have HC := hide (deepS hF w1 d j1 HR1.out (by rw [hr]; nofun))
   rw [hr] at HC HS; simp only [bind_ok] at HS; clear hr; go_wp2_with fail; refine cm HC.out ?_; intro e w2 hp; obtain ⟨⟨v2, rfl, p2, rfl, hn2⟩, hrd, ha⟩ := hp; clear HC; have HA2 := hide (HA1.out.next ha)
   have HR2 := hide hrd; replace HN1 := hide (nat_later HN1.out ha HLT.out); have HN2 := hide (nat_mono hn2 HA1.out.size); clear hn2; clear hrd ha HA1 HR1
   have HC := hide (node_any (hdKind (tkA c.l i).tx) noText (.slice (some ⟨w2.heap.size, 0, none⟩) 2 2) (w2.alloc (.cells #[nPtr p1, nPtr p2] 22)) ⟨_, _, _, rfl⟩); go_wp2_with fail; refine cm HC.out ?_
   rintro e wn ⟨rfl, rfl⟩; clear HC; go_wp2_with fail; go_ret
   obtain ⟨m1, m2, m3⟩ := made HR2.out HA2.out (NAts.cons HN1.out (NAts.cons HN2.out NAts.nil)) (by simp [maxLen]) #[nPtr p1, nPtr p2] rfl 2 rfl (hdKind (tkA c.l i).tx) noText (w2.heap.size + 1) rfl
   exact ppOk HS.out.symm m1 m2 m3
theorem c113 {b : Nat} {w1 : World} {v0 v1 v2 v3 : Value} (p0 : w1.heap[b]? = some (.cells #[v0, v1, v2, v3] 123)) : C160 b w1 v0 v1 v2 v3 :=
 ⟨by rw [cell_of p0]; rfl, by rw [cell_of p0]; rfl, by rw [cell_of p0]; rfl, by rw [cell_of p0]; rfl, frozen_of p0, lt_of_heap p0⟩
open zrqbz in
theorem value_any {c : Ctx} {F : Fns} (hF : FC c F) : Does c 222 NV (valueP c.l F) := by
 have hmf := mf_bound c.R 222
 intro w d i r hs ho h
 have HR0 := hide h
 have HA0 := hide (Ap.refl c.R w.heap.size w)
 have HLT := hide h.rlt
 unfold valueP at hs
 have HS := hide hs
 have HO := hide ho
 clear h hs ho
 go_enter Tryz.func222, Tryz.ntmps222
 have HC := hide (token_any c w i d HR0.out)
 unfold tkV at HC
 go_wp2_with fail
 refine cm HC.out ?_
 rintro e wt ⟨rfl, hbwt⟩
 clear HC
 have HAwt := hide (HA0.out.next (Ap.of hbwt))
 have HRwt := hide (HR0.out.later hbwt)
 clear hbwt HR0
 exact zrbc
theorem sg2 {s : ByteArray} {x : Sg} (h : sgP 2 s = some x) : 2 ≤ x.str ∧ x.str ≤ 7 := by
 unfold sgP at h
 cases hf : sgOf s with
 | none => rw [hf] at h; cases h
 | some y =>
  rw [hf] at h; have hm := List.mem_of_find?_eq_some hf; have hy : y = x ∧ (y.parts == 2) = true := by
   simp only [Option.filter] at h
   split at h
   ·
    exact ⟨Option.some.inj h, by assumption⟩
   ·
    cases h
  obtain ⟨rfl, hp⟩ := hy; simp only [sgs, List.mem_cons, List.not_mem_nil, or_false] at hm
  rcases hm with rfl | rfl | rfl | rfl | rfl | rfl | rfl | rfl | rfl | rfl | rfl | rfl | rfl | rfl <;> first | decide | (exact absurd hp (by decide))
theorem behindSign {c : Ctx} {w ws : World} {i d : Nat} (x : Sg) (hR : Rdr c ws i d) (hA : Ap c.R w.heap.size w ws) (hi : i + 1 < c.l.length) :
  Rdr c ((ws.setCell ⟨c.R, 1, none⟩ (.int .i64 ((i : Int) + 1))).alloc (.cells #[.string x.tx, .int .i64 x.kd, .int .i64 x.parts, .int .i64 x.str] 175)).drew (i + 1) d ∧ Ap c.R w.heap.size w ((ws.setCell ⟨c.R, 1, none⟩ (.int .i64 ((i : Int) + 1))).alloc (.cells #[.string x.tx, .int .i64 x.kd, .int .i64 x.parts, .int .i64 x.str] 175)).drew ∧
  ((ws.setCell ⟨c.R, 1, none⟩ (.int .i64 ((i : Int) + 1))).alloc (.cells #[.string x.tx, .int .i64 x.kd, .int .i64 x.parts, .int .i64 x.str] 175)).drew.heap[ws.heap.size]? = some (.cells #[.string x.tx, .int .i64 x.kd, .int .i64 x.parts, .int .i64 x.str] 175) := by
 obtain ⟨h1, h2⟩ := stepped hR hA hi
 refine ⟨(h1.alloc _).drew, (h2.alloc h2.size _).drew, ?_⟩
 have := heap_new (ws.setCell ⟨c.R, 1, none⟩ (.int .i64 ((i : Int) + 1))) (.cells #[.string x.tx, .int .i64 x.kd, .int .i64 x.parts, .int .i64 x.str] 175)
 rw [World.size_setCell] at this
 exact this
section
variable {c : Ctx} {F : Fns}
include c F
theorem single_none (hQ : Does c 277 NV (askedP c.l F)) (w : World) (d i : Nat) (r : PR Tr) (hsg : sgP 1 (fx c.l i) = none) (hs : askedP c.l F d i = r) (ho : r ≠ .out) (h : Rdr c w i d) : Calls Tryz.prog 273 #[rPtr c] w (PPost c w d (NV w.heap.size) r) := by
 have HSG := hide hsg
 clear hsg
 have HR0 := hide h
 have HA0 := hide (Ap.refl c.R w.heap.size w)
 have HLT := hide h.rlt
 have HS := hide hs
 have HO := hide ho
 clear h hs ho
 go_enter Tryz.func273, Tryz.ntmps273
 have HC := hide (sign_any c 1 w i d HR0.out)
 rw [HSG.out] at HC
 simp only [sgVO, noSg, Option.isSome] at HC
 go_wp2_with fail
 refine cm HC.out ?_
 rintro e ws ⟨rfl, hbws⟩
 clear HC
 have HAws := hide (HA0.out.next (Ap.of hbws))
 have HRws := hide (HR0.out.later hbws)
 clear hbws HR0 HA0
 have HAs2 := hide (HAws.out.alloc HAws.out.size (.cells #[.string ⟨#[]⟩, .int .i64 0, .int .i64 0, .int .i64 0] 175))
 have HRs2 := hide (HRws.out.alloc (.cells #[.string ⟨#[]⟩, .int .i64 0, .int .i64 0, .int .i64 0] 175))
 cases hr : askedP c.l F d i with
 | out =>
  rw [hr] at HS; exact absurd HS.out.symm HO.out
 | bad er p =>
  have HC := hide (hQ (ws.alloc (.cells #[.string ⟨#[]⟩, .int .i64 0, .int .i64 0, .int .i64 0] 175)) d i _ rfl (by rw [hr]; nofun) HRs2.out)
  rw [hr] at HC HS; clear hr; go_wp2_with fail; refine cm HC.out ?_; intro e w' hp; obtain ⟨rfl, ha⟩ := hp; exact ⟨rfl, ppBad HS.out.symm (HAs2.out.next ha)⟩
 | ok x1 j1 =>
  have HC := hide (hQ (ws.alloc (.cells #[.string ⟨#[]⟩, .int .i64 0, .int .i64 0, .int .i64 0] 175)) d i _ rfl (by rw [hr]; nofun) HRs2.out)
  rw [hr] at HC HS; clear hr; go_wp2_with fail; refine cm HC.out ?_; intro e w1 hp; obtain ⟨⟨v1, rfl, p1, rfl, hn1⟩, hrd, ha⟩ := hp; clear HC; have HA1 := hide (HAs2.out.next ha); have HR1 := hide hrd
  have HN1 := hide (nat_mono hn1 HAs2.out.size); clear hn1; clear hrd ha HAs2 HRs2; go_wp2_with fail; go_ret; exact ppOk HS.out.symm ⟨p1, rfl, HN1.out⟩ HR1.out HA1.out
open zrqca in
theorem single_some (hF : FC c F) (w : World) (d i : Nat) (x : Sg) (r : PR Tr) (hsg : sgP 1 (fx c.l i) = some x) (hs : ((deepP c.l F.sg d (i + 1)).bind fun t i1 => PR.ok (.mk x.kd noText 0 [t]) i1) = r) (ho : r ≠ .out) (h : Rdr c w i d) : Calls Tryz.prog 273 #[rPtr c] w (PPost c w d (NV w.heap.size) r) := by
 have hmf := mf_bound c.R 273
 have HSG := hide hsg
 have hi := sgP_lt h.base.ends h.lt hsg
 have hL := h.base.len
 clear hsg
 have HR0 := hide h
 have HA0 := hide (Ap.refl c.R w.heap.size w)
 have HLT := hide h.rlt
 have HS := hide hs
 have HO := hide ho
 clear h hs ho
 go_enter Tryz.func273, Tryz.ntmps273
 have HC := hide (sign_any c 1 w i d HR0.out)
 rw [HSG.out] at HC
 simp only [sgVO, sgV, Option.isSome] at HC
 go_wp2_with fail
 refine cm HC.out ?_
 rintro e ws ⟨rfl, hbws⟩
 clear HC
 have HAws := hide (HA0.out.next (Ap.of hbws))
 have HRws := hide (HR0.out.later hbws)
 have hc1 := HRws.out.c1
 have hcz := HRws.out.fz
 have hcl := HRws.out.rlt
 obtain ⟨hx1, hx2, hx3⟩ := behindSign x HRws.out HAws.out hi
 have HX1 := hide hx1
 have HX2 := hide hx2
 have HX3 := hide hx3
 have HTL : Hid (c.R < ws.heap.size) := hcl
 clear hbws hx1 hx2 hx3 HRws HAws HR0 HA0
 cases hr : deepP c.l F.sg d (i + 1) with
 | out =>
  exact zbak
 | bad er p =>
  have HC := hide (deepG hF ((ws.setCell ⟨c.R, 1, none⟩ (.int .i64 ((i : Int) + 1))).alloc (.cells #[.string x.tx, .int .i64 x.kd, .int .i64 x.parts, .int .i64 x.str] 175)).drew d (i + 1) HX1.out (by rw [hr]; nofun))
  rw [hr] at HC HS; simp only [bind_bad] at HS; exact zrdd
 | ok t j =>
  have HC := hide (deepG hF ((ws.setCell ⟨c.R, 1, none⟩ (.int .i64 ((i : Int) + 1))).alloc (.cells #[.string x.tx, .int .i64 x.kd, .int .i64 x.parts, .int .i64 x.str] 175)).drew d (i + 1) HX1.out (by rw [hr]; nofun))
  rw [hr] at HC HS; simp only [bind_ok] at HS; clear hr; exact zrdg
theorem single_any (hF : FC c F) (hQ : Does c 277 NV (askedP c.l F)) : Does c 273 NV (singleP c.l F) := by
 intro w d i r hs ho h
 unfold singleP at hs
 cases hg : sgP 1 (fx c.l i) with
 | none => rw [hg] at hs; exact single_none hQ w d i r hg hs ho h
 | some x => rw [hg] at hs; exact single_some hF w d i x r hg hs ho h
end
open zrqcb in
theorem pair_any {c : Ctx} {F : Fns} (hF : FC c F) (hN : ∃ k, FNx c.l k F) (b : Int) (w : World) (d i : Nat) (r : PR Tr) (hs : pairP c.l F b d i = r) (ho : r ≠ .out) (h : Rdr c w i d) : Calls Tryz.prog 261 #[rPtr c, .int .i64 b] w (PPost c w d (NV w.heap.size) r) := by
 have HE := hide h.base.ends
 have HL := hide h.base.len
 have HNX := hide hN
 have HFC := hide hF
 clear hN
 have HR0 := hide h
 have HA0 := hide (Ap.refl c.R w.heap.size w)
 have HLT := hide h.rlt
 unfold pairP at hs
 have HS := hide hs
 have HO := hide ho
 clear h hs ho
 go_enter Tryz.func261, Tryz.ntmps261
 cases hr : F.sg d i with
 | out =>
  exact zbak
 | bad er p =>
  have HC := hide (hF.sg w d i _ rfl (by rw [hr]; nofun) HR0.out)
  exact zbav
 | ok x1 j1 =>
  have HC := hide (hF.sg w d i _ rfl (by rw [hr]; nofun) HR0.out)
  rw [hr] at HC HS; simp only [bind_ok] at HS; exact zrcs
structure Open (B : Nat) (w : World) (t : Tr) (p : Nat) (u : Value) (ps : List Nat) : Prop where
 low : B ≤ p
 blk : w.heap[p]? = some (nodeObj t.kd t.tx t.n u)
 row : w.ownsRow B 22 1 u ps.length (ps.map nPtr)
 own : u.ownBlock ≠ some p
 kids : NAts (fun b => B ≤ b ∧ b ≠ p ∧ u.ownBlock ≠ some b) w t.kids ps
theorem EV.opens {B : Nat} {w : World} {t : Tr} {v : Value} (h : EV B w t v) : ∃ p u ps, v = nPtr p ∧ Open B w t p u ps := by
 obtain ⟨p, u, ps, rfl, h1, h2, h3, h4, h5⟩ := h
 exact ⟨p, u, ps, rfl, h1, h2, h3, h4, h5⟩
theorem Open.ev {B : Nat} {w : World} {t : Tr} {p : Nat} {u : Value} {ps : List Nat} (h : Open B w t p u ps) : EV B w t (nPtr p) := ⟨p, u, ps, rfl, h.low, h.blk, h.row, h.own, h.kids⟩
theorem Open.later {c : Ctx} {B : Nat} {w w' : World} {t : Tr} {p : Nat} {u : Value} {ps : List Nat} (h : Open B w t p u ps) (ha : Ap c.R w.heap.size w w') (hB : c.R < B) : Open B w' t p u ps :=
 ⟨h.low, by rw [ha.block p (lt_of_heap h.blk) (by have := h.low; omega)]; exact h.blk, owns_stay (I := fun b => B ≤ b) (Stay.of_ap ha hB fun _ h => h) (fun g hg => (own_lt h.row g hg).2) h.row, h.own, NAts.later (Stay.of_ap ha hB fun _ h => h.1) _ _ h.kids⟩
section
variable {B : Nat} {w : World} {t : Tr} {p : Nat} {u : Value} {ps : List Nat} (h : Open B w t p u ps)
include B w t p u ps h
theorem Open.cell : w.cell? ⟨p, 3, none⟩ = some u ∧ (∀ o, w.frozen? ⟨p, o, none⟩ = false) ∧ p < w.heap.size :=
 ⟨(node_cells h.blk).2.2.2.1, (node_cells h.blk).2.2.2.2, lt_of_heap h.blk⟩
theorem Open.shape : ∃ a cap, u = .slice a t.kids.length cap := by
 rw [← NAts.length _ _ h.kids]; exact row_shut h.row
end
theorem Open.apart {B : Nat} {w w1 : World} {t : Tr} {p : Nat} {u : Value} {ps : List Nat} (h : Open B w t p u ps) (hB : B ≤ w.heap.size) {us : List Tr} {qs : List Nat} (hn : NAts (From w.heap.size) w1 us qs) :
  NAts (fun b => B ≤ b ∧ b ≠ p ∧ u.ownBlock ≠ some b) w1 us qs :=
 NAts.mono (fun b hb _ => by
  have h1 : w.heap.size ≤ b := hb; have h2 := lt_of_heap h.blk; exact ⟨by omega, by omega, fun e => by have := (own_lt h.row b e).1; omega⟩) _ _ hn
theorem ev_push {B : Nat} {w0 w3 : World} {kd n : Int} {tx : ByteArray} {ts us : List Tr} {ps qs : List Nat} {p g m cap : Nat} {u : Value} (hB : B ≤ p) (hb : w0.heap[p]? = some (nodeObj kd tx n u)) (hu : u.ownBlock ≠ some p)
  (hk : NAts (fun b => B ≤ b ∧ b ≠ p ∧ u.ownBlock ≠ some b) w0 ts ps) (hq : NAts (fun b => B ≤ b ∧ b ≠ p ∧ u.ownBlock ≠ some b) w0 us qs)
  (hown : w3.ownsRow B 22 1 (.slice (some ⟨g, 0, none⟩) m cap) m ((ps ++ qs).map nPtr)) (hm : m = (ps ++ qs).length) (hgr : w0.grownBy w3 u.ownBlock) (hg : u.ownBlock = some g ∨ g = w0.heap.size) :
  EV B (w3.setCell ⟨p, 3, none⟩ (.slice (some ⟨g, 0, none⟩) m cap)) (.mk kd tx n (ts ++ us)) (nPtr p) := by
 subst hm
 have hlt := lt_of_heap hb
 have hgp : g ≠ p := by
  rcases hg with hg | hg
  ·
   exact fun e => hu (by rw [hg, e])
  ·
   omega
 have h3 : w3.heap[p]? = some (nodeObj kd tx n u) := by rw [hgr.block p hlt (fun e => hu e.symm)]; exact hb
 have hset : ∀ b, b ≠ p → (w3.setCell ⟨p, 3, none⟩ (.slice (some ⟨g, 0, none⟩) (ps ++ qs).length cap)).heap[b]? = w3.heap[b]? := fun b hb => Below.heap_setCell w3 ⟨p, 3, none⟩ _ b hb
 refine ⟨p, .slice (some ⟨g, 0, none⟩) (ps ++ qs).length cap, ps ++ qs, rfl, hB, by rw [heap_set h3]; rfl, ?_, fun e => hgp (by simpa [Value.ownBlock] using e), ?_⟩
 ·
  exact owns_stay (I := fun b => b = g) (fun b hb _ => hset b (by rw [hb]; exact hgp)) (fun g' hg' => by simpa [Value.ownBlock] using hg'.symm) hown
 ·
  have h0 := NAts.mono (J := fun b => B ≤ b ∧ b ≠ p ∧ b ≠ g ∧ u.ownBlock ≠ some b) (fun b hb hl => ⟨hb.1, hb.2.1, fun e => by (rcases hg with hg | hg); (exact hb.2.2 (by rw [hg, e])); omega, hb.2.2⟩) _ _ (NAts.append hq _ _ hk)
  have hs : Stay (fun b => B ≤ b ∧ b ≠ p ∧ b ≠ g ∧ u.ownBlock ≠ some b) w0 (w3.setCell ⟨p, 3, none⟩ (.slice (some ⟨g, 0, none⟩) (ps ++ qs).length cap)) := by
   intro b hb hl; rw [hset b hb.2.1]; exact hgr.block b hl (fun e => hb.2.2.2 e.symm)
  exact NAts.mono (fun b hb _ => ⟨hb.1, hb.2.1, fun e => by simp only [Value.ownBlock, Option.some.injEq] at e; exact hb.2.2.1 e.symm⟩) _ _ (NAts.later hs _ _ h0)
theorem push1 {c : Ctx} {w w1 w3 : World} {j d : Nat} {t x : Tr} {p q g cap : Nat} {u : Value} {ps : List Nat} (hO : Open w.heap.size w1 t p u ps) (hx : NAts (fun b => w.heap.size ≤ b ∧ b ≠ p ∧ u.ownBlock ≠ some b) w1 [x] [q]) (hR : Rdr c w1 j d) (hA : Ap c.R w.heap.size w w1) (hlo : c.lo ≤ w.heap.size)
  (hown : w3.ownsRow w.heap.size 22 1 (.slice (some ⟨g, 0, none⟩) (t.kids.length + 1) cap) (t.kids.length + 1) (ps.map nPtr ++ [nPtr q])) (hgr : (w1.alloc (.cells #[nPtr q] 22)).grownBy w3 u.ownBlock) (hg : u.ownBlock = some g ∨ g = w1.heap.size + 1) :
  EV w.heap.size (w3.setCell ⟨p, 3, none⟩ (.slice (some ⟨g, 0, none⟩) (t.kids.length + 1) cap)) (.mk t.kd t.tx t.n (t.kids ++ [x])) (nPtr p) ∧
  Rdr c (w3.setCell ⟨p, 3, none⟩ (.slice (some ⟨g, 0, none⟩) (t.kids.length + 1) cap)) j d ∧
  Ap c.R w.heap.size w (w3.setCell ⟨p, 3, none⟩ (.slice (some ⟨g, 0, none⟩) (t.kids.length + 1) cap)) := by
 have hlen := NAts.length _ _ hO.kids
 have hst : ∀ I, Stay I w1 (w1.alloc (.cells #[nPtr q] 22)) := fun I b _ hl => Below.heap_alloc w1 _ b hl
 have hb : (w1.alloc (.cells #[nPtr q] 22)).heap[p]? = some (nodeObj t.kd t.tx t.n u) := by rw [Below.heap_alloc w1 _ p (lt_of_heap hO.blk)]; exact hO.blk
 have hrow : ∀ k, u.ownBlock = some k → w.heap.size ≤ k := fun k hk => (own_lt hO.row k hk).2
 have hgrow : Below w.heap.size w1 w3 := ((Below.refl w.heap.size w1).alloc hA.size _).grown hgr (by simp; have := hA.size; omega) hrow
 have hset : Below w.heap.size w1 (w3.setCell ⟨p, 3, none⟩ (.slice (some ⟨g, 0, none⟩) (t.kids.length + 1) cap)) := hgrow.setCell (p := ⟨p, 3, none⟩) hO.low _
 refine ⟨?_, hR.ap hset hlo, hA.trans (Ap.of hset)⟩
 refine ev_push (w0 := w1.alloc (.cells #[nPtr q] 22)) hO.low hb hO.own (NAts.later (hst _) _ _ hO.kids) (NAts.later (hst _) _ _ hx) (by rw [List.map_append]; exact hown) (by simp [hlen]) hgr ?_
 rcases hg with hg | hg
 ·
  exact Or.inl hg
 ·
  exact Or.inr (by simp [hg])
theorem choice_eq (l : List Tk) (F : Fns) (d i : Nat) : choiceP l F d i = (behindP l F d i).bind fun n i2 =>
  if fx l i2 = tElse then (deepP l F.st d (i2 + 1)).bind fun s2 i3 => .ok (.mk n.kd n.tx n.n (n.kids ++ [s2])) i3 else .ok n i2 := by
 unfold choiceP behindP
 cases inParP l F d (i + 1) with
 | out => rfl
 | bad er p => rfl
 | ok v i1 =>
  simp only [bind_ok]
  cases deepP l F.st d i1 with
  | out => rfl
  | bad er p => rfl
  | ok s i2 => rfl
theorem behind_kids {l : List Tk} {F : Fns} {d i j : Nat} {t : Tr} (h : behindP l F d i = .ok t j) : t.kids.length = 2 := by
 unfold behindP at h
 cases h1 : inParP l F d (i + 1) with
 | out => rw [h1] at h; cases h
 | bad er p => rw [h1] at h; cases h
 | ok v i1 =>
  rw [h1, bind_ok] at h
  cases h2 : deepP l F.st d i1 with
  | out => rw [h2] at h; cases h
  | bad er p => rw [h2] at h; cases h
  | ok s i2 => rw [h2, bind_ok] at h; cases h; rfl
open zrqcf in
theorem choice_any {c : Ctx} {F : Fns} (hF : FC c F) (w : World) (d i : Nat) (r : PR Tr) (hk : (tkA c.l i).kd ≠ 6) (hs : choiceP c.l F d i = r) (ho : r ≠ .out) (h : Rdr c w i d) : Calls Tryz.prog 161 #[rPtr c] w (PPost c w d (NV w.heap.size) r) := by
 have hmf := mf_bound c.R 170
 have HKD := hide hk
 have HLO := hide h.base.size
 obtain ⟨i0, hi0, hz0, hz1, hz2⟩ := info_parts info22
 rw [choice_eq] at hs
 clear hk
 have HR0 := hide h
 have HA0 := hide (Ap.refl c.R w.heap.size w)
 have HLT := hide h.rlt
 have HS := hide hs
 have HO := hide ho
 clear h hs ho
 go_enter Tryz.func161, Tryz.ntmps161
 cases hr : behindP c.l F d i with
 | out =>
  exact zbak
 | bad er p =>
  have HC := hide (behind_any hF w d i _ HKD.out rfl (by rw [hr]; nofun) HR0.out)
  exact zbav
 | ok x1 j1 =>
  have HKL := hide (behind_kids hr); have HC := hide (behind_any hF w d i _ HKD.out rfl (by rw [hr]; nofun) HR0.out)
  exact zrdf
open zrqcg in
theorem giving_any {c : Ctx} {F : Fns} (hF : FC c F) (w : World) (d i : Nat) (r : PR Tr) (hk : (tkA c.l i).kd ≠ 6) (hs : givingP c.l F d i = r) (ho : r ≠ .out) (h : Rdr c w i d) : Calls Tryz.prog 163 #[rPtr c] w (PPost c w d (NV w.heap.size) r) := by
 have hmf := mf_bound c.R 222
 have HKD := hide hk
 have HLO := hide h.base.size
 obtain ⟨i0, hi0, hz0, hz1, hz2⟩ := info_parts info22
 clear hk
 have HR0 := hide h
 have HA0 := hide (Ap.refl c.R w.heap.size w)
 have HLT := hide h.rlt
 unfold givingP at hs
 have HS := hide hs
 have HO := hide ho
 clear h hs ho
 go_enter Tryz.func163, Tryz.ntmps163
 exact zrdu
open zrqch in
theorem decl_any {c : Ctx} {F : Fns} (hF : FC c F) (w : World) (d i : Nat) (r : PR Tr) (hk : (tkA c.l i).kd ≠ 6) (hs : declP c.l F d i = r) (ho : r ≠ .out) (h : Rdr c w i d) : Calls Tryz.prog 157 #[rPtr c] w (PPost c w d (NV w.heap.size) r) := by
 have hmf := mf_bound c.R 222
 have HKD := hide hk
 have HLO := hide h.base.size
 obtain ⟨i0, hi0, hz0, hz1, hz2⟩ := info_parts info22
 clear hk
 have HR0 := hide h
 have HA0 := hide (Ap.refl c.R w.heap.size w)
 have HLT := hide h.rlt
 unfold declP at hs
 have HS := hide hs
 have HO := hide ho
 clear h hs ho
 go_enter Tryz.func157, Tryz.ntmps157
 exact zrdu
end Go.Proofs.YtodmgaikhbmlnaaGreatDoor
