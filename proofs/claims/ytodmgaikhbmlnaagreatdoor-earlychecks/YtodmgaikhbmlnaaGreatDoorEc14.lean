/-
  Parts of proofs that stand more than once.
-/
import Derived.Test.YtodmgaikhbmlnaaGreatDoorEc13
import Derived.Test.YtodmgaikhbmlnaaGreatDoorProg
import Derived.WalkKit
import Derived.WalkSpells
import Derived.WalkLawsBesides
import Derived.Lib.Bytealg
import Derived.Laws.Rows
import Derived.ProofKit
import Derived.OpenShut
import Derived.Stop.Joined
import Derived.Test.YtodmgaikhbmlnaaGreatDoorRows
import Derived.LaidMore
import Derived.RegionTactic
import Derived.Deep.RegionHeld
set_option maxRecDepth 100000
set_option maxHeartbeats 16000000
namespace Go.Proofs.YtodmgaikhbmlnaaGreatDoor
open Go.RowKit
theorem zbek {G : Prop} (h : G := by
  have HC := hide (must_any c tSemi wy j1 d HRy.out (by decide)); rw [hr] at HC HS; simp only [bind_bad] at HS; clear hr; go_wp2_with fail; refine cm HC.out ?_; intro e w' hp; obtain ⟨rfl, ha⟩ := hp
  exact ⟨rfl, ppBad HS.out.symm (HAy.out.next ha)⟩
 ) : G := h
theorem zbel {G : Prop} (h : G := by
  unfold isFunT at hf; unfold need; rw [if_pos (by simpa using hf)]
 ) : G := h
theorem zbem {G : Prop} (h : G := by
  have := isFunE_any t p W (hnb W hW); rw [hfu] at this; exact this
 ) : G := h
theorem zben {G : Prop} (h : G := by
  go_enter Tryz.func205, Tryz.ntmps205; go_wp2_with fail; go_ret; exact ⟨rfl, HB.out⟩
 ) : G := h
theorem zbeo {G : Prop} (h : G := by
  refine hK _ _ ?_; clear hK K; refine wr1 7 fun K hK => ?_; go_simp; refine hK _ _ ?_; clear hK K; refine wpAny_same (listed' := tf 8 4) (by kernel_rfl) rfl ?_; exact CONT wc pc HHY.out
 ) : G := h
theorem zbep {G : Prop} (h : G := by
  refine cm (SC.out.hr1 _ HS0.out) ?_; rintro e x1 ⟨rfl, hq1⟩; have HS1 : Hid (Below wA.heap.size wA x1) := HS0.out.trans (hq1.mono HS0.out.size); clear hq1; go_wp2_with fail; go_ret
  exact ⟨rfl, HBA.out.trans (HS1.out.mono HBA.out.size)⟩
 ) : G := h
theorem zbeq {G : Prop} (h : G := by
  refine cm (SC.out.ha3 _ HS4.out) ?_; rintro e x5 ⟨rfl, hq5⟩; have HS5 : Hid (Below wA.heap.size wA x5) := HS4.out.trans (hq5.mono HS4.out.size); clear hq5; go_wp2_with fail; go_ret
  exact ⟨rfl, HBA.out.trans (HS5.out.mono HBA.out.size)⟩
 ) : G := h
theorem zber {G : Prop} (h : G := by
  have h1 : Below w.heap.size w (RW w) := ((Below.refl _ _).alloc (Nat.le_refl _) _).alloc (by simp) _; have h2 : Below w.heap.size w w2 := h1.trans (HB2.out.mono (by omega))
  exact h2.trans ((ha.mono (B' := w.heap.size) (by omega)).below (by omega))
 ) : G := h
theorem zbes {G : Prop} (h : G := by
  go_wp2_with fail; refine cm HC.out ?_; rintro e w1 ⟨⟨u, rfl, hr⟩, hb⟩; obtain ⟨ua, uc, rfl⟩ := hr.form; have HR := hide hr; have HB := hide hb; clear HC hr hb; go_wp2_with fail; go_ret; exact ⟨⟨_, rfl, HR.out⟩, HB.out⟩
 ) : G := h
theorem zbet {G : Prop} (h : G := by
  go_enter Tryz.func88, Tryz.ntmps88; go_wp2_with fail; go_ret; exact ⟨rfl, rfl⟩
 ) : G := h
theorem zbeu {G : Prop} (h : G := by
  clear ih hsh ht hnt hS hrow htc; go_enter Tryz.func90, Tryz.ntmps90; go_wp2_with fail; go_ret; exact ⟨rfl, HB0.out⟩
 ) : G := h
theorem zbev {G : Prop} (h : G := by
  cases ad <;> rcases hown.2 with ⟨rfl, rfl⟩ | ⟨g, cap, cur, rfl, _, _, hnc, _⟩ <;>
   simp [Builtin.append_, run_underlying ht, sizeOf, typeInfo, Builtin.lenOf, Builtin.firstCells, loadCells, loadCellsFrom, storeCells, *]
 ) : G := h
theorem zbew {G : Prop} (h : G := by
  clear hno hk2; go_wp2_with fail; refine cm HC4.out ?_; intro e w4 hp; obtain ⟨⟨v, rfl, q, rfl⟩, hp4, he, ha4⟩ := id hp; have HH := hide (HD.out _ _ hp); clear hp hp4 ha4 HC4; go_wp2_with fail; go_ret; exact unhide HH
 ) : G := h
theorem zbex {G : Prop} (h : G := by
  rw [e]; have HV := hide hv; clear b1 b2 b3 hb h1 h2 hv; go_enter Tryz.func216, Tryz.ntmps216
  go_wp2
  go_ret2
  refine ⟨?_, rfl⟩
  show Ending.returned (.tuple #[.int .u8 (s[i].toNat : Int), .bool true]) = _
  rw [HV.out]; rfl
 ) : G := h
theorem zbey {G : Prop} (h : G := by
  split at h
  ·
   cases h
  ·
   cases h; exact ⟨fun h => absurd h (by decide), fun h => absurd h (by decide)⟩
 ) : G := h
theorem zbez {G : Prop} (h : G := by
  obtain ⟨hl, h0 | ⟨g, cap, cur, hv, hge, hh, hr⟩⟩ := h
  ·
   exact ⟨hl, Or.inl h0⟩
  ·
   exact ⟨hl, Or.inr ⟨g, cap, cur, hv, hge, by rw [hb.block g (Array.getElem?_eq_some_iff.1 hh).1]; exact hh, hr⟩⟩
 ) : G := h
theorem zbfa {G : Prop} (h : G := by
  go_wp2_with fail; exact bodyPost_ret (v := .tuple #[.slice none 0 0, .agg #[.int .i64 3, .int .i64 (((q + 1 : Nat) : Int))]]) (by simp [results, Tryz.results45, go_sem, rc0, rc1]) rfl ⟨rfl, HI.out.out _ _⟩
 ) : G := h
theorem zbfb {G : Prop} (h : G := by
  split at h
  ·
   cases h; omega
  ·
   obtain ⟨u, i1, h1, h⟩ := binds h; have h2 := deep_cb (l := l) (hF.st _ _) u i1 h1; have h4 := ih _ _ _ _ h; rw [counts_app, counts_cons, counts_nil] at h4; omega
 ) : G := h
theorem zbfc {G : Prop} (h : G := by
  refine hK.out _ _ HR2.out (fun _ => ?_); clear hK K; refine wh 12 (.bool true) HR2.out ?_; refine wpAnyH_done (by kernel_rfl) ?_ _; go_simp; go_wp2_with fail; go_ret; exact ⟨ret_bool (by simp), HW2.out⟩
 ) : G := h
theorem zbfd {G : Prop} (h : G := by
  go_wp2_with fail; exact bodyPost_ret (v := .tuple #[.pointer none, .iface 129 (.pointer (some ⟨b, 0, none⟩))]) (by simp [results, Tryz.results13, go_sem]) rfl ⟨b, rfl, H1.out, H2.out, H3.out⟩
 ) : G := h
theorem zbfe {G : Prop} (h : G := by
  obtain ⟨v, i1, h1, h⟩ := binds h; obtain ⟨_, i2, h2, h⟩ := binds h; cases h; have e1 := deep_cb (l := l) (hF.vl _ _) v _ h1; have e2 := must_eq h2; rw [count_mk, counts_cons, counts_nil]; omega
 ) : G := h
theorem zbff {G : Prop} (h : G := by
  obtain ⟨ps, h1, h2⟩ := h; refine ⟨ps, ⟨h1.1, ?_⟩, h2⟩
  rcases h1.2 with hn | ⟨g, cap, cur, hv, hb, rest⟩
  ·
   exact Or.inl hn
  ·
   exact Or.inr ⟨g, cap, cur, hv, by omega, rest⟩
 ) : G := h
theorem zbfg {G : Prop} (h : G := by
  obtain ⟨_, _, _, h⟩ := bind_inv h; obtain ⟨_, _, _, h⟩ := bind_inv h
  cases h; exact hd_ne
 ) : G := h
theorem zbfh {G : Prop} (h : G := by
  rw [hr] at HC HS; simp only [bind_bad] at HS; clear hr; go_wp2_with fail; refine cm HC.out ?_; intro e w' hp; obtain ⟨rfl, ha⟩ := hp; exact ⟨rfl, ppBad HS.out.symm (HAk.out.next ha)⟩
 ) : G := h
theorem zbfi {G : Prop} (h : G := by
  show _ = _
  rw [HBEL.out.block 2 (by simp; omega), Below.heap_alloc w _ 2 hlt]; exact unhide HG
 ) : G := h
theorem zbfj {G : Prop} (h : G := by
  go_enter Tryz.func101, Tryz.ntmps101; go_wp2_with fail; refine cm HC.out ?_; rintro e w1 ⟨rfl, hb⟩; have HB := hide hb; clear HC hb; go_wp2_with fail; go_ret; exact ⟨rfl, HB.out⟩
 ) : G := h
theorem zbfk {G : Prop} (h : G := by
  refine hK.out _ _ HR2.out (fun _ => ?_); clear hK K; refine wh 12 (.bool false) HR2.out ?_; refine wpAnyH_done (by kernel_rfl) ?_ _; go_simp; go_wp2_with fail; go_ret; exact ⟨rfl, HW2.out⟩
 ) : G := h
theorem zbfl {G : Prop} (h : G := by
  have HNO2 := hide hno; clear hno; go_wp2_with fail
  go_roundw
  case rel => exact ⟨k + 1, by omega, by go_num, HM4.out, HA4.out, HS4.out, HNO2.out⟩
  case measure => simp [intOf]; omega
 ) : G := h
theorem zbfm {G : Prop} (h : G := by
  split
  ·
   exact Imp.bind (deepP_imp (h.vl _ _)) fun _ _ => Imp.refl _
  ·
   exact Imp.refl _
 ) : G := h
theorem zbfn {G : Prop} (h : G := by
  have hst := pastN_stop lodB s q hqs (by unfold lodB; rw [hl, hd]; rfl)
  exfalso; omega
 ) : G := h
theorem zbfo {G : Prop} (h : G := by
  have h0 := fx_lt hE hi ‹_› (by decide); exact Nx.bind (nameP_nx hE h0) fun s j h1 h2 => ((ih d _ j (by omega) h2).le (by omega)).imp fun h => ⟨h.1, by omega⟩
 ) : G := h
theorem zbfp {G : Prop} (h : G := by
  rw [ha.block _ (by omega) (by omega), HB2.out.block _ (by omega)]; have := heap_new (w.alloc (.cells #[.pointer none] 22)) (.cells #[.nilIface] 29); simpa using this
 ) : G := h
theorem zbfq {G : Prop} (h : G := by
  obtain ⟨cur, hb, h1, h2, h3, h4⟩ := h.tokens; rw [cell_of hb, ← tks_get c.l i j hi hj, ← h4, List.getElem?_take_of_lt (by omega), Array.getElem?_toList]
 ) : G := h
theorem zbfr {G : Prop} (h : G := by
  rw [HRR.out] at HC; go_wp2_with fail; refine cm HC.out ?_; intro e w' hp; obtain ⟨rfl, ha⟩ := hp; exact ⟨rfl, ppBad HQ.out.symm (HA3.out.next ha)⟩
 ) : G := h
theorem zbfs {G : Prop} (h : G := by
  have := program_any (hF c hc) ⟨KK, fns_nx (by rw [hc]; exact hE) KK⟩ (fns_ok c.l KK) W _ rfl (by rw [hc, hr]; nofun) hrd
  rw [hc, hr] at this; exact this
 ) : G := h
theorem zbft {G : Prop} (h : G := by
  go_simp; refine hK _ _ ?_; clear hK K; exact wz 6 2 CONT
 ) : G := h
theorem zbfu {G : Prop} (h : G := by
  obtain ⟨hl, h0 | ⟨g, cap, cur, hv, hge, hr⟩⟩ := h
  ·
   exact ⟨hl, Or.inl h0⟩
  ·
   exact ⟨hl, Or.inr ⟨g, cap, cur, hv, by omega, hr⟩⟩
 ) : G := h
theorem zbfv {G : Prop} (h : G := by
  rcases Nat.lt_or_ge b w.heap.size with h1 | h1
  ·
   exact h1
  ·
   have h2 : w.heap[b]? = none := Array.getElem?_eq_none h1; simp [World.cell?, h2] at h
 ) : G := h
theorem zbfw {G : Prop} (h : G := by
  have b1 := unhide HB; have b2 := unhide HB2; have b3 := unhide HB3; exact (b1.trans (b2.mono b1.size)).trans (b3.mono (Nat.le_trans b1.size b2.size))
 ) : G := h
theorem zbfx {G : Prop} (h : G := by
  clear h2
  cases h1 : (kd == 1) <;> cases h6 : (kd == 6) <;>
  ·
   go_enter Tryz.func18, Tryz.ntmps18; go_wp2_with fail; go_ret; exact ⟨rfl, rfl⟩
 ) : G := h
theorem zbfy {G : Prop} (h : G := by
  unfold leftOf; rw [Array.filter_filter]
  congr 1
  funext x
  rw [Array.contains_push]
  cases (x.born == e.born) <;> cases seen.contains x.born <;> rfl
 ) : G := h
theorem zbfz {G : Prop} (h : G := by
  rw [hr] at HQ; simp only [bind_out] at HQ; exact absurd HQ.out.symm HO.out
 ) : G := h
theorem zbga {G : Prop} (h : G := by
  go_enter Tryz.func216, Tryz.ntmps216
  go_wp2
  go_ret2
  exact ⟨rfl, rfl⟩
 ) : G := h
theorem zbgb {G : Prop} (h : G := by
  rename_i s hs
  have h0 := sgP_lt hE hi hs; exact Nx.bind (deepP_nx ((hF.sg _ _ h0).imp fun h => by omega)) fun t j h1 h2 => Nx.ok (by omega) h2
 ) : G := h
theorem zbgc {G : Prop} (h : G := by
  clear hbm; go_wp2_with fail
  go_roundw
  case rel => exact ⟨m + 1, by omega, by go_num, HN3.out, HBM.out⟩
  case measure => simp [intOf]; omega
 ) : G := h
theorem zbgd {G : Prop} (h : G := by
  go_wp2_with fail
  go_round
  case rel => exact ⟨q + 1, by omega, by go_num, Or.inr ⟨by omega, rfl⟩⟩
  case measure => simp [intOf]; omega
 ) : G := h
theorem zbge {G : Prop} (h : G := by
  exact ((((HPW.out.step hl).alloc _).alloc _).alloc _ |>.alloc _).drew
 ) : G := h
theorem zbgf {G : Prop} (h : G := by
  split at h
  ·
   cases h; exact ha
  ·
   obtain ⟨u, i1, h1, h⟩ := binds h; exact ih _ _ _ _ (mem_app ha (deep_kh (hF.st _ _) u i1 h1)) h
 ) : G := h
theorem zbgg {G : Prop} (h : G := by
  go_simp; refine cm HC.out ?_; intro e w' hp; obtain ⟨rfl, ha⟩ := hp; exact ⟨rfl, ppBad HS.out.symm (HAf.out.drew.next ha)⟩
 ) : G := h
theorem zbgh {G : Prop} (h : G := by
  go_simp; refine cm HC.out ?_; intro e w' hp; obtain ⟨rfl, ha⟩ := hp; exact ⟨rfl, ppBad HS.out.symm (HA2.out.drew.next ha)⟩
 ) : G := h
theorem zbgi {G : Prop} (h : G := by
  unfold exprP at h'; obtain ⟨v, _, _, h'⟩ := bind_inv h'; obtain ⟨_, _, _, h'⟩ := bind_inv h'
  cases h'
  exact ⟨v, [], rfl⟩
 ) : G := h
theorem zbgj {G : Prop} (h : G := by
  rw [hj] at h3; have h4 : (⟨g, 0, none⟩ : Addr).add j = ⟨g, j, none⟩ := by simp [Addr.add]; exact Eq.symm
  rw [h4]; exact h3
 ) : G := h
theorem zbgk {G : Prop} (h : G := by
  go_wp2_with fail; go_ret; exact ⟨⟨_, rfl, _, rfl⟩, ⟨i, HP.out.alloc _⟩, he, (Ap.refl c.P _ w3).alloc (Nat.le_refl _) _⟩
 ) : G := h
theorem zbgl {G : Prop} (h : G := by
  refine Nx.bind (nameP_nx hE h2) fun s j2 h3 h4 => ?_; exact (rfuncTail_nx hE hF h4 fun h => by have := hq h; omega).le (by omega)
 ) : G := h
theorem zbgm {G : Prop} (h : G := by
  rcases hr.2 with hn | ⟨g, cap, cur, hv, hb, rest⟩
  ·
   exact Or.inl hn
  ·
   exact Or.inr ⟨g, cap, cur, hv, by omega, rest⟩
 ) : G := h
theorem zbgn {G : Prop} (h : G := by
  go_simp; refine cm HCC.out ?_; intro e wc hp; obtain ⟨rfl, ha⟩ := hp; exact ⟨rfl, ppBad rfl (HAg1.out.drew.next ha)⟩
 ) : G := h
theorem zbgo {G : Prop} (h : G := by
  refine Nx.bind (nameP_nx hE h2) fun s j2 h3 h4 => ?_; exact (funcTail_nx hE hF h4 fun h => by have := hq h; omega).le (by omega)
 ) : G := h
theorem zbgp {G : Prop} (h : G := by
  go_wp2
  go_ret; exact ⟨ret_bool (by have := unhide HE; rw [List.take_of_length_le (by omega)] at this; exact this.symm), rfl⟩
 ) : G := h
theorem zbgq {G : Prop} (h : G := by
  go_simp; refine cm HCF.out ?_; intro e wc hp; obtain ⟨rfl, ha⟩ := hp; exact ⟨rfl, ppBad rfl (HAz.out.drew.next ha)⟩
 ) : G := h
theorem zbgr {G : Prop} (h : G := by
  go_simp; refine cm HCF.out ?_; intro e wc hp; obtain ⟨rfl, ha⟩ := hp; exact ⟨rfl, ppBad rfl (HAf.out.drew.next ha)⟩
 ) : G := h
theorem zbgs {G : Prop} (h : G := by
  have h1 := counts_le t.kids k hk; exact ih t.kids[k] (by omega) (hills _ (List.getElem_mem _)) (by omega) q true true true W hq
 ) : G := h
theorem zbgt {G : Prop} (h : G := by
  go_enter Tryz.func268, Tryz.ntmps268; go_wp2_with fail
  go_region
  go_wp2_with fail; go_ret; exact ⟨rfl, (Below.refl _ _).drew⟩
 ) : G := h
theorem zbgu {G : Prop} (h : G := by
  obtain ⟨p, hp, hn⟩ := h; have : q = p := by injection hp with h1; injection h1 with h2; injection h2
  rw [this]; exact hn
 ) : G := h
theorem zbgv {G : Prop} (h : G := by
  refine mem_snoc HALL.out ?_; have h1 := unhide HRR; unfold deepP at h1
  split at h1
  ·
   cases h1
  ·
   exact HKO.out _ _ _ _ h1
 ) : G := h
def btwB (lo hi c : Int) : Bool := decide (lo ≤ c) && decide (c ≤ hi)
def letB (c : Int) : Bool := btwB 97 122 c || c == 95
def digB (c : Int) : Bool := btwB 48 57 c
def lodB (c : Int) : Bool := letB c || digB c
def inB (s : List UInt8) (c : Int) : Bool := decide (0 ≤ Lib.indexByte s c.toNat.toUInt8)
theorem hide {p : Prop} (h : p) : Hid p := h
theorem unhide {p : Prop} (h : Hid p) : p := h
theorem ret_bool {a b : Bool} (h : a = b) : Ending.returned (.bool a) = .returned (.bool b) := by rw [h]
theorem isLetter_any (c : Int) (w : World) :
  Calls Tryz.prog 93 #[.int .u8 c] w fun e w' => e = .returned (.bool (letB c)) ∧ w' = w := by
 go_enter Tryz.func93, Tryz.ntmps93
 go_wp2
 all_goals go_ret
 all_goals refine ⟨ret_bool ?_, rfl⟩
 all_goals simp [letB, btwB, *]
 all_goals omega
theorem isDigit_any (c : Int) (w : World) :
  Calls Tryz.prog 94 #[.int .u8 c] w fun e w' => e = .returned (.bool (digB c)) ∧ w' = w := by
 go_enter Tryz.func94, Tryz.ntmps94
 go_wp2
 all_goals go_ret
 all_goals refine ⟨ret_bool ?_, rfl⟩
 all_goals (simp [digB, btwB, *]; try omega)
theorem between1_any (c lo hi : Int) (p q : Addr) (w : World) (h1 : w.cell? p = some (.int .u8 lo)) (h2 : w.cell? q = some (.int .u8 hi)) :
  Calls Tryz.prog 202 #[.int .u8 c, .pointer (some p), .pointer (some q)] w fun e w' => e = .returned (.bool (btwB lo hi c)) ∧ w' = w := by
 go_enter Tryz.func202, Tryz.ntmps202
 go_wp2
 all_goals go_ret
 all_goals refine ⟨ret_bool ?_, rfl⟩
 all_goals (simp [btwB, *]; try omega)
theorem ib_run (s : ByteArray) (c : Int) (w : World) : (callFunc 258 #[.string s, .int .u8 c]).run Tryz.prog w = .ok (.value (.int .i64 (Lib.indexByte s.data.toList c.toNat.toUInt8))) w := by
 rw [run_callFunc_extern Tryz.func258 (by kernel_rfl) (by kernel_rfl) (by kernel_rfl) (e := Extern.BytealgIndexByte.indexByte) (by kernel_rfl), Lib.run_indexByteString]
 rfl
theorem among1_any (c : Int) (p : Addr) (s : ByteArray) (w : World) (h1 : w.cell? p = some (.string s)) :
  Calls Tryz.prog 150 #[.int .u8 c, .pointer (some p)] w fun e w' => e = .returned (.bool (inB s.data.toList c)) ∧ w' = w := by
 have hib := ib_run s c
 go_enter Tryz.func150, Tryz.ntmps150
 go_wp2
 go_ret
 exact ⟨ret_bool (by simp [inB]), rfl⟩
theorem en29 : ∀ args W, (callFunc 150 args).run Tryz.prog W = .ok (.enter 150 args) W := fun _ _ => by kernel_rfl
theorem en48 : ∀ args W, (callFunc 201 args).run Tryz.prog W = .ok (.enter 201 args) W := fun _ _ => by kernel_rfl
theorem en49 : ∀ args W, (callFunc 202 args).run Tryz.prog W = .ok (.enter 202 args) W := fun _ _ => by kernel_rfl
/-- A value is a teller of p: in every later world it is a function that answers so and leaves the world as it was. -/
def Tells (w : World) (v : Value) (p : Int → Bool) : Prop :=
 ∃ f caps, v = .func (.func f) #[] caps ∧ (∀ args W, (callFunc f args).run Tryz.prog W = .ok (.enter f args) W) ∧ ∀ W, Below w.heap.size w W → ∀ b : UInt8, Calls Tryz.prog f (#[.int .u8 (b.toNat : Int)] ++ caps) W fun e W' => e = .returned (.bool (p (b.toNat : Int))) ∧ W' = W
theorem Tells.later {w w' : World} {v : Value} {p : Int → Bool} (h : Tells w v p) (hb : Below w.heap.size w w') : Tells w' v p := by
 obtain ⟨f, caps, rfl, he, h⟩ := h
 exact ⟨f, caps, rfl, he, fun W hW c => h W (hb.trans (hW.mono hb.size)) c⟩
theorem cell_later2 {w W : World} {b o : Nat} {v : Value} (hb : Below w.heap.size w W) (h : w.cell? ⟨b, o, none⟩ = some v) (hlt : b < w.heap.size) : W.cell? ⟨b, o, none⟩ = some v := by
 rw [hb.cell (p := ⟨b, o, none⟩) hlt]; exact h
theorem mf_run : ∀ (fn : Fn) (first cap : Array Value) (w : World), (Instr.makeFunc fn first cap).run Tryz.prog w = .ok (.func fn first cap) w := fun _ _ _ _ => rfl
theorem between_any (lo hi : Int) (w : World) :
  Calls Tryz.prog 139 #[.int .u8 lo, .int .u8 hi] w fun e w' => ∃ v, e = .returned v ∧ Tells w' v (btwB lo hi) ∧ Below w.heap.size w w' := by
 have hmf := mf_run
 go_enter Tryz.func139, Tryz.ntmps139
 go_wp2
 go_ret
 refine ⟨_, rfl, ⟨202, _, rfl, en49, fun W hW c => ?_⟩, ((Below.refl _ _).alloc (Nat.le_refl _) _).alloc (by simp) _⟩
 refine between1_any _ lo hi _ _ W ?_ ?_
 ·
  exact cell_later2 hW (by simp [World.cell?_alloc_past, World.cell?_alloc_at]) (by simp; omega)
 ·
  exact cell_later2 hW (by simp [World.cell?_alloc_at]) (by simp)
theorem among_any (s : ByteArray) (w : World) :
  Calls Tryz.prog 108 #[.string s] w fun e w' => ∃ v, e = .returned v ∧ Tells w' v (inB s.data.toList) ∧ Below w.heap.size w w' := by
 have hmf := mf_run
 go_enter Tryz.func108, Tryz.ntmps108
 go_wp2
 go_ret
 refine ⟨_, rfl, ⟨150, _, rfl, en29, fun W hW c => ?_⟩, (Below.refl _ _).alloc (Nat.le_refl _) _⟩
 refine among1_any _ _ s W ?_
 exact cell_later2 hW (by simp [World.cell?_alloc_at]) (by simp)
theorem either1_any (c : Int) (p q : Addr) (f g : Nat) (cf cg : Array Value) (P Q : Int → Bool) (w : World) (ef : ∀ args W, (callFunc f args).run Tryz.prog W = .ok (.enter f args) W) (eg : ∀ args W, (callFunc g args).run Tryz.prog W = .ok (.enter g args) W) (h1 : w.cell? p = some (.func (.func f) #[] cf)) (h2 : w.cell? q = some (.func (.func g) #[] cg))
  (hf : Calls Tryz.prog f (#[.int .u8 c] ++ cf) w fun e w' => e = .returned (.bool (P c)) ∧ w' = w)
  (hg : Calls Tryz.prog g (#[.int .u8 c] ++ cg) w fun e w' => e = .returned (.bool (Q c)) ∧ w' = w) :
  Calls Tryz.prog 201 #[.int .u8 c, .pointer (some p), .pointer (some q)] w fun e w' => e = .returned (.bool (P c || Q c)) ∧ w' = w := by
 have Hf : Hid _ := hf
 have Hg : Hid _ := hg
 clear hf hg
 cases hP : P c
 ·
  go_enter Tryz.func201, Tryz.ntmps201; go_wp2_with fail; refine Calls.mono Hf.out ?_; rw [hP]; rintro e w' ⟨rfl, rfl⟩; go_wp2_with fail; refine Calls.mono Hg.out ?_; rintro e w' ⟨rfl, rfl⟩; go_wp2_with fail; go_ret
  exact ⟨ret_bool (by simp), rfl⟩
 ·
  go_enter Tryz.func201, Tryz.ntmps201; go_wp2_with fail; refine Calls.mono Hf.out ?_; rw [hP]; rintro e w' ⟨rfl, rfl⟩; go_wp2_with fail; go_ret; exact ⟨ret_bool (by simp), rfl⟩
theorem either_any (u v : Value) (P Q : Int → Bool) (w : World) (hu : Tells w u P) (hv : Tells w v Q) :
  Calls Tryz.prog 138 #[u, v] w fun e w' => ∃ x, e = .returned x ∧ Tells w' x (fun c => P c || Q c) ∧ Below w.heap.size w w' := by
 have hmf := mf_run
 obtain ⟨f, cf, rfl, ef, hf⟩ := hu
 obtain ⟨g, cg, rfl, eg, hg⟩ := hv
 have Hf := hide hf
 have Hg := hide hg
 clear hf hg
 go_enter Tryz.func138, Tryz.ntmps138
 go_wp2
 go_ret
 have hb : Below w.heap.size w ((w.alloc (.cells #[.func (.func f) #[] cf] 107)).alloc (.cells #[.func (.func g) #[] cg] 107)) := ((Below.refl _ _).alloc (Nat.le_refl _) _).alloc (by simp) _
 refine ⟨_, rfl, ⟨201, _, rfl, en48, fun W hW c => ?_⟩, hb⟩
 have hWw := hb.trans (hW.mono hb.size)
 refine either1_any _ _ _ f g cf cg P Q W ef eg ?_ ?_ (unhide Hf W hWw c) (unhide Hg W hWw c)
 ·
  exact cell_later2 hW (by simp [World.cell?_alloc_past, World.cell?_alloc_at]) (by simp; omega)
 ·
  exact cell_later2 hW (by simp [World.cell?_alloc_at]) (by simp)
theorem digit_any (w : World) : Calls Tryz.prog 140 #[] w fun e w' => ∃ x, e = .returned x ∧ Tells w' x digB ∧ Below w.heap.size w w' := by
 go_enter Tryz.func140, Tryz.ntmps140
 go_wp2_with fail
 refine (between_any 48 57 _).mono ?_
 rintro e w' ⟨x, rfl, hx, hb⟩
 have HX := hide hx
 have HB := hide hb
 clear hx hb
 go_wp2_with fail
 go_ret
 exact ⟨x, rfl, HX.out, HB.out⟩
theorem Tells.congr {w : World} {v : Value} {p q : Int → Bool} (h : Tells w v p) (e : ∀ b : UInt8, p (b.toNat : Int) = q (b.toNat : Int)) : Tells w v q := by
 obtain ⟨f, caps, rfl, he, h⟩ := h
 exact ⟨f, caps, rfl, he, fun W hW b => by rw [← e b]; exact h W hW b⟩
theorem inB_under (b : UInt8) : inB [95] (b.toNat : Int) = ((b.toNat : Int) == 95) := by
 have key : ∀ m : Fin 256, inB [95] ((m.val : Nat) : Int) = (((m.val : Nat) : Int) == 95) := by decide +kernel
 exact key ⟨b.toNat, b.toNat_lt⟩
def gapB (c : Int) : Bool := c == 32 || c == 10
theorem inB_gap (b : UInt8) : inB [32, 10] (b.toNat : Int) = gapB (b.toNat : Int) := by
 have key : ∀ m : Fin 256, inB [32, 10] ((m.val : Nat) : Int) = gapB ((m.val : Nat) : Int) := by decide +kernel
 exact key ⟨b.toNat, b.toNat_lt⟩
open zrqbe in
theorem letter_any (w : World) : Calls Tryz.prog 83 #[] w fun e w' => ∃ x, e = .returned x ∧ Tells w' x letB ∧ Below w.heap.size w w' := by
 go_enter Tryz.func83, Tryz.ntmps83
 go_wp2_with fail
 refine (between_any 97 122 _).mono ?_
 rintro e w1 ⟨x, rfl, hx, hb⟩
 have HX := hide hx
 have HB := hide hb
 clear hx hb
 go_wp2_with fail
 refine (among_any _ _).mono ?_
 exact zreb
open zrqbf in
theorem lod_any (w : World) : Calls Tryz.prog 85 #[] w fun e w' => ∃ x, e = .returned x ∧ Tells w' x lodB ∧ Below w.heap.size w w' := by
 go_enter Tryz.func85, Tryz.ntmps85
 go_wp2_with fail
 refine (letter_any _).mono ?_
 rintro e w1 ⟨x, rfl, hx, hb⟩
 have HX := hide hx
 have HB := hide hb
 clear hx hb
 go_wp2_with fail
 refine (digit_any _).mono ?_
 exact zreb
/-- The first place from k on whose byte is of another kind, or the end. -/
def pastN (p : Int → Bool) (s : ByteArray) (k : Nat) : Nat := k + ((s.data.toList.drop k).takeWhile (fun b => p (b.toNat : Int))).length
section
variable (p : Int → Bool) (s : ByteArray) (k : Nat)
include p s k
theorem pastN_le (h : k ≤ s.size) : pastN p s k ≤ s.size := by
 unfold pastN
 have h1 := ((List.takeWhile_prefix (l := s.data.toList.drop k) (fun b => p (b.toNat : Int))).length_le)
 have h2 : (s.data.toList.drop k).length = s.size - k := by simp
 omega
theorem pastN_go (h : k < s.size) (hp : p (s[k].toNat : Int) = true) : pastN p s (k + 1) = pastN p s k := by
 unfold pastN
 have hk : k < s.data.toList.length := by simpa using h
 have e : s.data.toList.drop k = s[k] :: s.data.toList.drop (k + 1) := List.drop_eq_getElem_cons hk
 rw [e, List.takeWhile_cons, if_pos hp, List.length_cons]; omega
theorem pastN_stop (h : k < s.size) (hp : p (s[k].toNat : Int) = false) : pastN p s k = k := by
 unfold pastN
 have hk : k < s.data.toList.length := by simpa using h
 have e : s.data.toList.drop k = s[k] :: s.data.toList.drop (k + 1) := List.drop_eq_getElem_cons hk
 rw [e, List.takeWhile_cons, if_neg (by rw [hp]; simp)]; rfl
theorem pastN_end (h : s.size ≤ k) : pastN p s k = k := by
 unfold pastN
 rw [List.drop_of_length_le (by simpa using h)]; rfl
end
theorem ret_int {k : IntKind} {a b : Int} (h : a = b) : Ending.returned (.int k a) = .returned (.int k b) := by rw [h]
theorem past_any (s : ByteArray) (k0 : Nat) (v : Value) (p : Int → Bool) (w : World) (hs : s.size ≤ maxLen) (hk0 : k0 ≤ s.size) (hv : Tells w v p) :
  Calls Tryz.prog 84 #[.string s, .int .i64 (k0 : Int), v] w fun e w' => e = .returned (.int .i64 (pastN p s k0 : Nat)) ∧ w' = w := by
 unfold maxLen at hs
 obtain ⟨f, caps, rfl, ef, hf⟩ := hv
 have hf := hf w (Below.refl _ _)
 have Hf := hide hf
 clear hf
 go_enter Tryz.func84, Tryz.ntmps84
 go_wp2
 go_loopw [1] (fun i wr => ∃ k : Nat, k ≤ s.size ∧ i = .int .i64 k ∧ pastN p s k = pastN p s k0 ∧ wr = w) (fun i _ => s.size - (intOf i).toNat)
 case atStart => exact ⟨k0, hk0, rfl, rfl, rfl⟩
 case round =>
  obtain ⟨k, hk, rfl, he, rfl⟩ := hrel; have HE := hide he; clear he
  by_cases hlt : k < s.size
  ·
   cases hp : p (s[k].toNat : Int)
   ·
    have hst := hide (pastN_stop p s k hlt hp); have HP := hide hp; clear hp; go_wp2_with fail; refine Calls.mono (unhide Hf _) ?_; rw [HP.out]; rintro e w' ⟨rfl, rfl⟩; go_wp2_with fail; go_ret
    exact ⟨ret_int (by rw [← HE.out, hst.out]), rfl⟩
   ·
    have hst := hide (pastN_go p s k hlt hp); have HP := hide hp; clear hp; go_wp2_with fail; refine Calls.mono (unhide Hf _) ?_; rw [HP.out]; rintro e w' ⟨rfl, rfl⟩; go_wp2_with fail
    go_roundw
    case rel => exact ⟨k + 1, by omega, by go_num, by rw [hst.out, HE.out], by trivial⟩
    case measure => simp [intOf]; omega
  ·
   have hst := hide (pastN_end p s k (by omega)); go_wp2_with fail; go_ret; exact ⟨ret_int (by rw [← HE.out, hst.out]), rfl⟩
def isIn (ws : List ByteArray) (s : ByteArray) : Bool := ws.any (fun x => x.toList == s.toList)
section
variable (ws : List ByteArray) (s : ByteArray) (k : Nat) (h : k < ws.length)
include ws s k h
theorem isIn_take_succ (h0 : isIn (ws.take k) s = false) (h1 : (ws[k].toList == s.toList) = false) : isIn (ws.take (k + 1)) s = false := by
 unfold isIn at *
 rw [List.take_succ_eq_append_getElem h, List.any_append, h0]
 simpa using h1
theorem isIn_hit (h1 : (ws[k].toList == s.toList) = true) : isIn ws s = true := by
 unfold isIn
 exact List.any_eq_true.2 ⟨ws[k], List.getElem_mem h, h1⟩
end
theorem has_any (a : Addr) (cap : Nat) (ws : List ByteArray) (s : ByteArray) (w : World) (hn : ws.length ≤ 1000)
  (hc : ∀ i, i < ws.length → w.cell? (a.add i) = some (.string (ws.getD i ByteArray.empty))) :
  Calls Tryz.prog 79 #[.slice (some a) ws.length cap, .string s] w fun e w' => e = .returned (.bool (isIn ws s)) ∧ w' = w := by
 go_enter Tryz.func79, Tryz.ntmps79
 go_wp2
 go_loop [6, 9] (fun _ i => ∃ k : Nat, k ≤ ws.length ∧ i = .int .i64 k ∧ isIn (ws.take k) s = false) (fun _ i => ws.length - (intOf i).toNat)
 case atStart => exact ⟨0, Nat.zero_le _, rfl, rfl⟩
 case round =>
  obtain ⟨k, hk, rfl, he⟩ := hrel; have HE := hide he; clear he
  by_cases hlt : k < ws.length
  ·
   have hck := hc k hlt; clear hc
   go_wp2
   ·
    go_ret; exact ⟨ret_bool (isIn_hit ws s k hlt ‹_›).symm, rfl⟩
   ·
    exact ⟨⟨k + 1, by omega, by go_num, isIn_take_succ ws s k hlt HE.out ‹_›⟩, by simp [intOf]; omega⟩
  ·
   clear hc; exact zbgp
theorem idx53 (cs : Array Value) (k : Nat) (hk : k < 19) (x : ByteArray) (hx : cs[k]? = some (.string x)) (w : World) :
  (Instr.index 160 (.agg cs) (.int .i64 (k : Int))).run Tryz.prog w = .ok (.string x) w := by
 simp [Instr.index, run_underlying Tryz.underlying160, asIntOf, go_sem, hk, hx]
theorem isWord_any (ws : List ByteArray) (s : ByteArray) (w : World) (hn : ws.length = 19) (t : TypeId) (fr : Nat × Nat)
  (hg : w.heap[2]? = some (.cells (ws.map Value.string).toArray t fr)) :
  Calls Tryz.prog 86 #[.string s] w fun e w' => e = .returned (.bool (isIn ws s)) ∧ w' = w := by
 obtain ⟨cs, hcs⟩ : ∃ cs, cs = (ws.map Value.string).toArray := ⟨_, rfl⟩
 rw [← hcs] at hg
 have hsz : cs.size = 19 := by rw [hcs]; simpa using hn
 have hix : ∀ k : Nat, k < 19 → ∀ W, (Instr.index 160 (.agg cs) (.int .i64 (k : Int))).run Tryz.prog W = .ok (.string (ws.getD k ByteArray.empty)) W := fun k hk W =>
  idx53 cs k hk _ (by rw [hcs]; simp [hn, hk]) W
 have HIX := hide hix
 have Hcs := hide hcs
 have Hsz := hide hsz
 have Hg := hide hg
 clear hix hcs hsz hg
 go_enter Tryz.func86, Tryz.ntmps86
 go_wp2_with (refine wpList_load_row rfl 160 _ rfl 2 rfl t cs fr _ Hg.out Tryz.underlying160 rfl (by rw [Hsz.out]; kernel_rfl) ?_)
 go_loop [4, 6] (fun _ i => ∃ k : Nat, k ≤ 19 ∧ i = .int .i64 k ∧ isIn (ws.take k) s = false) (fun _ i => 19 - (intOf i).toNat)
 case atStart => exact ⟨0, Nat.zero_le _, rfl, rfl⟩
 case round =>
  obtain ⟨k, hk, rfl, he⟩ := hrel; have HE := hide he; clear he
  by_cases hlt : k < 19
  ·
   have hck := unhide HIX k hlt
   go_wp2
   ·
    go_ret; exact ⟨ret_bool (isIn_hit ws s k (by omega) (by rw [BEq.comm]; assumption)).symm, rfl⟩
   ·
    exact ⟨⟨k + 1, by omega, by go_num, isIn_take_succ ws s k (by omega) HE.out (by rw [BEq.comm]; assumption)⟩, by simp [intOf]; omega⟩
  ·
   exact zbgp
theorem refIsWord_any (a : Addr) (cap : Nat) (ws : List ByteArray) (s : ByteArray) (w : World) (hn : ws.length = 19)
  (hg : w.cell? ⟨3, 0, none⟩ = some (.slice (some a) 19 cap))
  (hc : ∀ i, i < ws.length → w.cell? (a.add i) = some (.string (ws.getD i ByteArray.empty))) :
  Calls Tryz.prog 95 #[.string s] w fun e w' => e = .returned (.bool (isIn ws s)) ∧ w' = w := by
 have HC := hide hc
 have HN := hide hn
 clear hc hn
 go_enter Tryz.func95, Tryz.ntmps95
 go_wp2_with fail
 have hh := has_any a cap ws s w (by rw [HN.out]; omega) HC.out
 rw [HN.out] at hh
 refine hh.mono ?_
 rintro e w' ⟨rfl, rfl⟩
 go_wp2_with fail
 go_ret
 exact ⟨rfl, rfl⟩
end Go.Proofs.YtodmgaikhbmlnaaGreatDoor
namespace Go.Proofs.YtodmgaikhbmlnaaGreatDoor
open Go.ChangeShapes Go.WideShapes Go.ChangeAt Go.WideMaps Go.WideElems Go.RowKit
def ofBytes (l : List UInt8) : ByteArray := ⟨l.toArray⟩
def wordsL : List (List UInt8) := [[118, 97, 114], [108, 101, 116], [99, 111, 110, 115, 116], [102, 117, 110, 99, 116, 105, 111, 110], [105, 102], [101, 108, 115, 101], [119, 104, 105, 108, 101], [119, 105, 116, 104], [114, 101, 116, 117, 114, 110], [116, 104, 114, 111, 119], [116, 114, 121], [99, 97, 116, 99, 104], [102, 105, 110, 97, 108, 108, 121], [116, 121, 112, 101, 111, 102], [100, 101, 108, 101, 116, 101], [116, 114, 117, 101], [102, 97, 108, 115, 101], [110, 117, 108, 108], [117, 110, 100, 101, 102, 105, 110, 101, 100]]
def wordsS : List ByteArray := wordsL.map ofBytes
def signsL : List (List UInt8) := [[61, 61, 61], [38, 38], [124, 124], [40], [41], [123], [125], [91], [93], [59], [58], [44], [46], [61], [43], [45], [42], [60], [33]]
def signsS : List ByteArray := signsL.map ofBytes
theorem wordsS_len : wordsS.length = 19 := rfl
theorem signsS_len : signsS.length = 19 := rfl
theorem ofBytes_eq {s : ByteArray} {l : List UInt8} (h : s.data.toList = l) : s = ofBytes l := bytes_inj (by rw [h]; rfl)
theorem at_eq (s : ByteArray) (i : Nat) (h : i < s.size) : s.data.toList.getD i 0 = s[i] := by
 have h3 : i < s.data.toList.length := by (have h4 : s.data.toList.length = s.size := by simp); omega
 rw [List.getD_eq_getElem?_getD, List.getElem?_eq_getElem h3]; rfl
end Go.Proofs.YtodmgaikhbmlnaaGreatDoor
namespace Go.Proofs.YtodmgaikhbmlnaaGreatDoor
open Go.ChangeShapes Go.WideShapes Go.ChangeAt Go.WideMaps Go.WideElems Go.RowKit
theorem ownK : ownKnob Tryz.prog.godebug = none := by kernel_rfl
theorem gWords : Tryz.prog.globalNamed "sloppyscope/lex.words" = some 2 := by kernel_rfl
theorem gRefWords : Tryz.prog.globalNamed "sloppyscope/sloppyref.words" = some 3 := by kernel_rfl
theorem gSigns : Tryz.prog.globalNamed "sloppyscope/lex.signs" = some 6 := by kernel_rfl
theorem tWords : (Tryz.prog.globals[2]?).map (·.type) = some 160 := by kernel_rfl
theorem tRefWords : (Tryz.prog.globals[3]?).map (·.type) = some 54 := by kernel_rfl
theorem tSigns : (Tryz.prog.globals[6]?).map (·.type) = some 160 := by kernel_rfl
theorem cells9 : Tryz.prog.cellsOf 9 = 1 := by kernel_rfl
theorem cells53 : Tryz.prog.cellsOf 160 = 19 := by kernel_rfl
theorem array_of_trod {W : World} {fuel : Nat} {cs : List Value} {p : List MemPlace} (L : List (List UInt8)) (hL : L.length = 19)
  (h : DataW.trod (fun _ => ()) Tryz.prog W 0 (fun _ => true) false fuel 160 cs = some (.agg (L.map fun l => .lit (.string l)), p)) : cs = (L.map ofBytes).map Value.string := by
 obtain ⟨xs, m, rfl, hx, hlen, hn, hel⟩ := DataW.trod_array Tryz.underlying160 h
 simp only [Prod.mk.injEq, DataW.agg.injEq] at hx
 rw [cells53] at hlen
 refine List.ext_getElem (by simp [hL, hlen]) fun i h1 h2 => ?_
 have hi : i < 19 := by omega
 have he := hel i hi
 rw [cells9, Nat.mul_one, List.getElem?_eq_getElem (by omega)] at he
 obtain ⟨s, e1, e2, _⟩ := DataW.trod_string Tryz.underlying9 he
 have e3 : (xs.map (·.1))[i]'(by simp [hn]; omega) = .lit (.string (L[i]'(by omega))) := by
  have e4 : (xs.map (·.1))[i]? = (L.map fun l => (DataW.lit (.string l) : DataW Unit))[i]? := by rw [hx.1]
  rw [List.getElem?_eq_getElem (by simp [hn]; omega), List.getElem?_eq_getElem (by simp; omega)] at e4
  simpa using e4
 rw [List.getElem_map, e2] at e3
 have e5 : s.data.toList = L[i]'(by omega) := by simpa using e3
 have e6 : (cs.drop i)[0]? = some (.string s) := by
  have : ((cs.drop i).take 1)[0]? = some (.string s) := by rw [e1]; rfl
  simpa using this
 rw [List.getElem?_drop, Nat.add_zero, List.getElem?_eq_getElem h1] at e6
 rw [Option.some.inj e6]
 simp [ofBytes_eq e5]
theorem heap_of_var {W : World} {n : String} {g : Nat} {cs : Array Value} (hg : Tryz.prog.globalNamed n = some g) (h : W.var? Tryz.prog n = some cs) : ∃ t fr, W.heap[g]? = some (.cells cs t fr) := by
 simp only [World.var?, hg, Option.bind_some] at h
 split at h
 ·
  rename_i cs' t fr hh
  cases h; exact ⟨t, fr, hh⟩
 ·
  cases h
theorem slice_of_trod {W : World} {fuel : Nat} {cs : List Value} {p : List MemPlace} (L : List (List UInt8))
  (h : DataW.trod (fun _ => ()) Tryz.prog W 0 (fun _ => true) false fuel 54 cs = some (.slice (L.map fun l => .lit (.string l)) [], p)) :
  ∃ a cap, cs = [.slice (some a) L.length cap] ∧ ∀ i, i < (L.map ofBytes).length → W.cell? (a.add i) = some (.string ((L.map ofBytes).getD i ByteArray.empty)) := by
 rcases open_strings Tryz.underlying54 Tryz.underlying9 cells9 h with ⟨_, hx⟩ | ⟨a, len, cap, ss, hcs, _, hl, _, hz, hx, hcell, _⟩
 ·
  simp at hx
 simp only [if_true] at hz
 simp only [Prod.mk.injEq, DataW.slice.injEq] at hx
 obtain ⟨⟨hx1, hx2⟩, _⟩ := hx
 have hsl : ss.length = len := by
  have : (strs (H := Unit) (ss.drop len)).length = 0 := by rw [← hx2]; rfl
  simp [strs] at this; omega
 rw [List.take_of_length_le (by omega)] at hx1
 have hss : ss = L.map ofBytes := by
  refine List.ext_getElem (by have := congrArg List.length hx1; simpa [strs] using this.symm) fun i h1 h2 => ?_
  have e4 : (L.map fun l => (DataW.lit (.string l) : DataW Unit))[i]? = (strs ss)[i]? := by rw [hx1]
  simp only [List.length_map] at h2; simp [strs, h1, h2] at e4; rw [List.getElem_map]; exact ofBytes_eq e4.symm
 refine ⟨a, cap, ?_, ?_⟩
 ·
  rw [hcs]; have : L.length = len := by have := congrArg List.length hss; simp at this; omega
  rw [this]
 ·
  intro i hi; rw [← hss]; exact hcell i (by rw [hss]; exact hi)
end Go.Proofs.YtodmgaikhbmlnaaGreatDoor
namespace Go.Proofs.YtodmgaikhbmlnaaGreatDoor
open Go.RowKit
section
variable {P : Program} {md : Region.Mode} {ops : Array Oper} {Q : Exit → Act → World → Prop} {S : World → Prop} {fuel : Nat} {listed : Array Bool} {a : Act} {w : World}
theorem wt {oi : Oper} (i : Nat) (v : Value)
    (h : wpAny P md ops Q fuel (listed.setIfInBounds i true) (a.put oi.dst v) w) (hi : ops[i]? = some oi := by rfl)
    (hs : Region.noSelect ops = true := by kernel_rfl) (hf : Region.free md ops listed i = true := by kernel_rfl) (hr : (Region.ready md ops listed).contains i = true := by kernel_rfl)
    (hQ : ∀ c a w, Q (.panic c) (a.put oi.dst v) w → Q (.panic c) a w := by exact fun _ _ _ h => h) (hy : Yields P ops oi v a := by exact Or.inl ⟨by kernel_rfl, fun w => by go_simp⟩) : wpAny P md ops Q (fuel + 1) listed a w :=
  wpAny_take hi hs hf hr hQ hy h
theorem wg {oi : Oper} (i : Nat) (v : Value) (hi : ops[i]? = some oi) (hy : YieldsIf P ops S oi v a) (hS : S w)
    (h : wpAnyH P md ops Q S fuel (listed.setIfInBounds i true) (a.put oi.dst v) w)
    (hs : Region.noSelect ops = true := by kernel_rfl) (hf : Region.free md ops listed i = true := by kernel_rfl) (hr : (Region.ready md ops listed).contains i = true := by kernel_rfl)
    (hQ : ∀ c a w, Q (.panic c) (a.put oi.dst v) w → Q (.panic c) a w := by exact fun _ _ _ h => h) : wpAnyH P md ops Q S (fuel + 1) listed a w :=
  wpAnyH_take hi hs hf hr hQ hy hS h
theorem wh {oi : Oper} (i : Nat) (v : Value) (hS : S w)
    (h : wpAnyH P md ops Q S fuel (listed.setIfInBounds i true) (a.put oi.dst v) w) (hi : ops[i]? = some oi := by rfl)
    (hs : Region.noSelect ops = true := by kernel_rfl) (hf : Region.free md ops listed i = true := by kernel_rfl) (hr : (Region.ready md ops listed).contains i = true := by kernel_rfl)
    (hQ : ∀ c a w, Q (.panic c) (a.put oi.dst v) w → Q (.panic c) a w := by exact fun _ _ _ h => h) (hy : YieldsIf P ops S oi v a := by exact Or.inl ⟨by kernel_rfl, fun _ _ => by go_simp⟩) : wpAnyH P md ops Q S (fuel + 1) listed a w :=
  wpAnyH_take hi hs hf hr hQ hy hS h
theorem wr1 {o : Oper} (i : Nat)
    (h : ∀ K' : Act → World → Prop, (∀ a w, wpAny P md ops Q fuel (listed.setIfInBounds i true) a w → K' a w) → if Region.wanted o (yielded ops a.tmps) = true then Oper.wp P o a w K' Q else K' (a.put o.dst undef) w)
    (ho : ops[i]? = some o := by rfl) (hr : Region.ready md ops listed = [i] := by kernel_rfl) : wpAny P md ops Q (fuel + 1) listed a w :=
  wpAny_ready hr (by simp) (AllReady.cons ho h AllReady.nil)
theorem wr2 {o o' : Oper} (i j : Nat)
    (h : ∀ K' : Act → World → Prop, (∀ a w, wpAny P md ops Q fuel (listed.setIfInBounds i true) a w → K' a w) → if Region.wanted o (yielded ops a.tmps) = true then Oper.wp P o a w K' Q else K' (a.put o.dst undef) w)
    (h' : ∀ K' : Act → World → Prop, (∀ a w, wpAny P md ops Q fuel (listed.setIfInBounds j true) a w → K' a w) → if Region.wanted o' (yielded ops a.tmps) = true then Oper.wp P o' a w K' Q else K' (a.put o'.dst undef) w)
    (ho : ops[i]? = some o := by rfl) (ho' : ops[j]? = some o' := by rfl) (hr : Region.ready md ops listed = [i, j] := by kernel_rfl) : wpAny P md ops Q (fuel + 1) listed a w :=
  wpAny_ready hr (by simp) (AllReady.cons ho h (AllReady.cons ho' h' AllReady.nil))
theorem wq1 {o : Oper} (i : Nat)
    (h : ∀ K' : Act → World → Prop, Shut (∀ a w, S w → (S w → wpAnyH P md ops Q S fuel (listed.setIfInBounds i true) a w) → K' a w) → if Region.wanted o (yielded ops a.tmps) = true then Oper.wp P o a w K' Q else K' (a.put o.dst undef) w)
    (ho : ops[i]? = some o := by rfl) (hr : Region.ready md ops listed = [i] := by kernel_rfl) : wpAnyH P md ops Q S (fuel + 1) listed a w :=
  wpAnyH_ready hr (by simp) (AllReadyH.cons ho h AllReadyH.nil)
theorem via2 {H G : World → Nat → Prop} {goal : Prop} (h1 : (∀ wc pc, H wc pc → G wc pc) → goal) (h2 : ∀ wc pc, H wc pc → G wc pc) : goal := h1 h2
theorem wpAny_same {listed' : Array Bool} {a' : Act} (h1 : listed = listed') (h2 : a = a') (h : wpAny P md ops Q fuel listed' a' w) : wpAny P md ops Q fuel listed a w := by
  subst h1 h2; exact h
def tf (n m : Nat) : Array Bool := Array.replicate n true ++ Array.replicate m false
theorem wz {a' : Act} (n m : Nat) (h : wpAny P md ops Q fuel (tf n m) a' w) (h1 : listed = tf n m := by kernel_rfl) (h2 : a = a' := by kernel_rfl) : wpAny P md ops Q fuel listed a w := wpAny_same h1 h2 h
theorem cm {f : FuncId} {args : Array Value} {R R' : Ending → World → Prop} (h : Calls P f args w R) (hr : ∀ e w', R e w' → R' e w') : Calls P f args w R' := h.mono hr
end
end Go.Proofs.YtodmgaikhbmlnaaGreatDoor
