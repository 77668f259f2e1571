/-
  The document's parser: blocks.
-/
import Derived.Test.YtoimgcjbcbhclaaGreatDoorRn17
import Derived.Deep.LoopGhost
namespace Go.Proofs.YtoimgcjbcbhclaaGreatDoor.Old
open Go.RowKit
def bodyB (body : Bool) (r : PR Tr) : PR Tr := if body then r.bind fun t j => .ok (zhk t) j else r
theorem bodyB_bad (body : Bool) (er : Int) (p : Nat) : bodyB body (.bad er p) = .bad er p := by cases body <;> rfl
theorem bodyB_out (body : Bool) : bodyB body .out = .out := by cases body <;> rfl
def MustD (c : PC) (s : ByteArray) (i : Nat) (w : World) (w1 : World) : Prop :=
 ((∃ j, zz0 c.l s i = .ok () j ∧ Ps c w1 j 0 (-1)) ∨ (∃ er pl, zz0 c.l s i = .bad er pl ∧ er ≠ 0 ∧ ∃ j, Ps c w1 j er (pl : Int))) ∧ Ap c.P w.heap.size w w1
theorem must_d {c : PC} {s : ByteArray} {i : Nat} {w w1 : World} {e : Ending} (h : zj3 c w (fun _ (_ : Unit) v => ZU v) ZU (zz0 c.l s i) e w1) : e = .returned (.tuple #[]) ∧ MustD c s i w w1 := by
 cases hr : zz0 c.l s i with
 | out =>
  exfalso; unfold zz0 badF at hr
  split at hr <;> cases hr
 | ok x j =>
  rw [hr] at h; obtain ⟨⟨v, rfl, rfl⟩, h2, h3⟩ := h; exact ⟨rfl, Or.inl ⟨j, hr, h2⟩, h3⟩
 | bad er pl =>
  rw [hr] at h; obtain ⟨⟨v, rfl, rfl⟩, h2, he, h3⟩ := h; exact ⟨rfl, Or.inr ⟨er, pl, hr, he, h2⟩, h3⟩
theorem zk8 {c : PC} {w : World} {i : Nat} (h : Ps c w i 0 (-1)) : Calls Tryz.prog 110 #[pPtr c] w fun e w' => e = .returned (.bool true) ∧ w' = w := zy5 c w i 0 (-1) h
theorem zvj {c : PC} {w : World} {i : Nat} {er pl : Int} (he : er ≠ 0) (h : Ps c w i er pl) : Calls Tryz.prog 110 #[pPtr c] w fun e w' => e = .returned (.bool false) ∧ w' = w := by
 have := zy5 c w i er pl h
 rw [beq_eq_false_iff_ne.2 he] at this
 exact this
theorem mem_snoc {α : Type} {p : α → Prop} {l : List α} {x : α} (h : ∀ t ∈ l, p t) (hx : p x) : ∀ t ∈ l ++ [x], p t := by
 intro t ht
 rcases List.mem_append.1 ht with h1 | h1
 ·
  exact h t h1
 ·
  rw [List.mem_singleton.1 h1]; exact hx
set_option maxRecDepth 100000 in
set_option maxHeartbeats 4000000 in
theorem zx8 {c : PC} {F : Fns} (hF : RCt c F) (hN : ∃ k, FNx c.l k F) (hK : FOk F) (body : Bool) (w : World) (d i : Nat) (r : PR Tr) (hd30 : d ≤ 30) (hs : r = bodyB body (zq0 c.l F d i)) (ho : r ≠ .out) (h : Ps c w i 0 (-1)) :
  Calls Tryz.prog 186 #[pPtr c, .int .i64 (d : Int), .bool body] w (zj3 c w (NV w.heap.size) ZN r) := by
 obtain ⟨i0, hi0, hz0, hz1, hz2⟩ := info_parts zk0
 have HC := qh (zx4 c w i zz4 (by decide) h)
 have HLT := qh h.rlt
 have HL := qh h.base.len
 have HLO := qh h.base.size
 unfold zq0 at hs
 have HS := qh hs
 have HO := qh ho
 have HF := qh hF
 have HNX := qh hN
 have HKO := qh hK
 clear h hs ho hF hN hK
 go_enter Tryz.func186, Tryz.ntmps186
 go_wp2_with fail
 refine cm HC.out ?_
 intro e w1 hp
 obtain ⟨rfl, hm⟩ := must_d hp
 have HM := qh hm
 clear hp hm HC
 go_wp2_with fail
 go_loopg [7] F.fuel (fun k v wr => (∃ acc j, bodyB body ((zx7 c.l F d k acc j).bind fun ts i2 => .ok (.mk 6 zzx 0 ts) i2) = r ∧ KV w.heap.size wr acc v ∧ Ps c wr j 0 (-1) ∧ Ap c.P w.heap.size w wr ∧ acc.length ≤ j ∧ (∀ t ∈ acc, t.kd = 15 → ∃ x y, t.kids = x :: y))
  ∨ (∃ er pl, r = .bad er pl ∧ er ≠ 0 ∧ (∃ j, Ps c wr j er (pl : Int)) ∧ Ap c.P w.heap.size w wr ∧ ZL v))
 case atStart =>
  obtain ⟨hm, ha⟩ := zzq HM
  rcases hm with ⟨j, hm, hp⟩ | ⟨er, pl, hm, he, hp⟩
  ·
   refine Or.inl ⟨[], j, ?_, KV.nil _ _, hp, ha, Nat.zero_le _, by simp⟩; rw [HS.out, hm]; rfl
  ·
   refine Or.inr ⟨er, pl, ?_, he, hp, ha, _, _, _, rfl⟩; rw [HS.out, hm]; exact bodyB_bad _ _ _
 case round =>
  clear HM HS
  rcases hrel with ⟨acc, j, hq, hkv, hps, hap, hle, hall⟩ | ⟨er, pl, hq, he, ⟨j, hps⟩, hap, a, n, kk, rfl⟩
  ·
   obtain ⟨k, rfl⟩ : ∃ k, gk = k + 1 := by
    cases gk with
    | zero => rw [show zx7 c.l F d 0 acc j = .out from rfl] at hq; exact absurd (hq.symm.trans (bodyB_out body)) HO.out
    | succ k => exact ⟨k, rfl⟩
   have HC1 := qh (zk8 hps); have HC2 := qh (zzy c wr j zvq (by decide) hps); have HP1 := qh hps; have HA1 := qh hap; have HK1 := qh hkv; have hL := zzq HL; have hjl := hps.lt
   by_cases hx : fx c.l j = zvq
   ·
    have HQ : Hid (bodyB body (.ok (.mk 6 zzx 0 acc) (j + 1)) = r) := by
     unfold zx7 at hq; rw [if_pos hx] at hq; exact hq
    have HALL := qh hall; have hd1 : decide (fx c.l j = zvq) = true := decide_eq_true hx; rw [hd1] at HC2; obtain ⟨va, vc, rfl⟩ := hkv.shape; have HX := qh hx; clear hq hkv hps hap hx hd1 hall; go_wp2_with fail
    refine cm HC1.out ?_; rintro e w2 ⟨rfl, rfl⟩; clear HC1; go_wp2_with fail; refine cm HC2.out ?_; rintro e w3 ⟨rfl, hb3⟩; have HP3 := qh (HP1.out.later hb3); have HA3 := qh (HA1.out.next (Ap.of hb3))
    have HK3 := qh (KV.later HK1.out (Ap.of (R := c.P) hb3) HLT.out); have HC3 := qh (zx4 c w3 j zvq (by decide) (HP1.out.later hb3)); clear hb3 HC2 HP1 HA1 HK1; go_wp2_with fail; refine cm HC3.out ?_
    intro e w4 hp; have hmm : zz0 c.l zvq j = .ok () (j + 1) := by unfold zz0; rw [if_pos HX.out]
    rw [hmm] at hp; obtain ⟨⟨v, rfl, rfl⟩, hp4, ha4⟩ := hp; have HP4 := qh hp4; have HA4 := qh (HA3.out.next ha4); have HK4 := qh (KV.later HK3.out ha4 HLT.out); clear hp4 ha4 hmm HC3 HP3 HA3 HK3
    cases body with
    | false =>
     have hq : r = .ok (.mk 6 zzx 0 acc) (j + 1) := HQ.out.symm; subst hq; go_wp2_with fail; go_ret; refine ⟨⟨_, rfl, (EV.new HK4.out HA4.out.size 6 zzx 0).nv⟩, HP4.out.alloc _, HA4.out.alloc HA4.out.size _⟩
    | true =>
     have hq : r = .ok (.mk 6 (zv1 acc) 0 acc) (j + 1) := by rw [← codeT_block]; exact HQ.out.symm
     subst hq; have HC5 := qh (zk8 (HP4.out.alloc (zzk 6 zzx 0 (.slice va acc.length vc))))
     have HC6 := qh (strict_any (KV.later HK4.out (Ap.of (R := c.P) (qb.alloc qv (zzk 6 zzx 0 (.slice va acc.length vc)))) HLT.out) HALL.out (by omega))
     have hc1 : (w4.alloc (zzk 6 zzx 0 (.slice va acc.length vc))).cell? ⟨w4.heap.size, 1, none⟩ = some (.string zzx) := by rw [zqy (zqx _ _)]; rfl
     have hf1 : (w4.alloc (zzk 6 zzx 0 (.slice va acc.length vc))).frozen? ⟨w4.heap.size, 1, none⟩ = false := zkz (zqx _ _) 1; go_wp2_with fail; refine cm HC5.out ?_; rintro e w5 ⟨rfl, rfl⟩; clear HC5
     go_wp2_with fail; refine cm HC6.out ?_; rintro e w6 ⟨rfl, rfl⟩; clear HC6; go_wp2_with fail; go_ret; exact ⟨⟨_, rfl, (EV.new HK4.out HA4.out.size 6 (zv1 acc) 0).nv⟩, HP4.out.alloc _, HA4.out.alloc HA4.out.size _⟩
   ·
    have HQ : Hid (bodyB body ((zq2 c.l F.st d j).bind (fun t i1 => (zx7 c.l F d k (acc ++ [t]) i1).bind fun ts i2 => PR.ok (.mk 6 zzx 0 ts) i2)) = r) := by
     unfold zx7 at hq; rw [if_neg hx] at hq; rw [← hq]
     cases zq2 c.l F.st d j <;> rfl
    have HALL := qh hall; have hd1 : decide (fx c.l j = zvq) = false := decide_eq_false hx; rw [hd1] at HC2; have HRV := qh hkv; clear hq hkv hps hap hx hd1 hall
    cases hr : zq2 c.l F.st d j with
    | out =>
     rw [hr] at HQ; exact absurd (HQ.out.symm.trans (bodyB_out body)) HO.out
    | bad er pl =>
     have HRR := qh hr; rw [hr] at HQ; have hq : r = .bad er pl := HQ.out.symm.trans (bodyB_bad body er pl); have HQQ := qh hq; clear hr hq HQ; obtain ⟨va, vc, hve⟩ := HRV.out.shape; subst hve; go_wp2_with fail
     refine cm HC1.out ?_; rintro e w2 ⟨rfl, rfl⟩; clear HC1; go_wp2_with fail; refine cm HC2.out ?_; rintro e w3 ⟨rfl, hb3⟩; have HP3 := qh (HP1.out.later hb3); have HA3 := qh (HA1.out.next (Ap.of hb3))
     have HK3 := qh (KV.later HK1.out (Ap.of (R := c.P) hb3) HLT.out); have HC3 := qh (HF.out.st w3 d j _ hd30 HRR.out.symm (by nofun) (HP1.out.later hb3)); clear hb3 HC2 HP1 HA1 HK1; go_wp2_with fail
     refine cm HC3.out ?_; rintro e w4 ⟨⟨v, rfl, p4, rfl⟩, hp4, he, ha4⟩; have HP4 := qh hp4; have HA4 := qh (HA3.out.next ha4); have HK4 := qh (KV.later HK3.out ha4 HLT.out); clear hp4 ha4 HC3 HP3 HA3 HK3
     obtain ⟨ps, hown, hk4⟩ := zzq HK4; have hlen := NAts.length _ _ hk4; have hOB := zx6 hown; rw [hlen] at hown; have HOWN := qh hown; have HLEN := qh hlen; have HKK := qh hk4; have hsz := HA4.out.size
     have HOB := qh hOB; clear hown hk4 HK4 hOB hlen
     go_wp2_with (at_builtin; refine wpList_append_lies _ rfl _ _ 46 rfl w.heap.size 22 i0 (.pointer none) 1 8 Tryz.underlying46 hi0 hz0 hz1 hz2 rfl (by decide) _ _ _ rfl (HOWN.out.alloc _) ⟨w4.heap.size, 0, none⟩ 1 1 [nPtr p4] rfl rfl (zq1 w4 p4 _ rfl) (zxv p4) (by decide) (by unfold maxLen; omega) (by omega) (by simp; omega) (w4.heap.size + 1) (by simp) ?_)
     intro g cap w5 hown' hgrow hg _; have HA5 := qh ((HA4.out.alloc hsz (.cells #[nPtr p4] 22)).grown hgrow (by simp; omega) (fun k hk => (zzq HOB k hk).2))
     have HP5 : Hid (∃ j, Ps c w5 j er (pl : Int)) := by
      obtain ⟨j2, hp⟩ := zzq HP4; exact ⟨j2, hp.ap (((Below.refl w.heap.size w4).alloc hsz (.cells #[nPtr p4] 22)).grown hgrow (by simp; omega) (fun k hk => (zzq HOB k hk).2)) HLO.out⟩
     clear hown' hgrow hg HKK HOWN; go_wp2_with fail
     go_roundg k
     case measure => omega
     case rel => exact Or.inr ⟨er, pl, HQQ.out, he, HP5.out, HA5.out, _, _, _, rfl⟩
    | ok t j2 =>
     have HRR := qh hr; rw [hr] at HQ; have hq : bodyB body ((zx7 c.l F d k (acc ++ [t]) j2).bind fun ts i2 => PR.ok (.mk 6 zzx 0 ts) i2) = r := zzq HQ; have HQQ := qh hq; clear hr hq HQ
     obtain ⟨va, vc, hve⟩ := HRV.out.shape; subst hve; go_wp2_with fail; refine cm HC1.out ?_; rintro e w2 ⟨rfl, rfl⟩; clear HC1; go_wp2_with fail; refine cm HC2.out ?_; rintro e w3 ⟨rfl, hb3⟩
     have HP3 := qh (HP1.out.later hb3); have HA3 := qh (HA1.out.next (Ap.of hb3)); have HK3 := qh (KV.later HK1.out (Ap.of (R := c.P) hb3) HLT.out)
     have HC3 := qh (HF.out.st w3 d j _ hd30 HRR.out.symm (by nofun) (HP1.out.later hb3)); clear hb3 HC2 HP1 HA1 HK1; go_wp2_with fail; refine cm HC3.out ?_; rintro e w4 ⟨⟨v, rfl, p4, rfl, hn4⟩, hp4, ha4⟩
     have HP4 := qh hp4; have HA4 := qh (HA3.out.next ha4); have HN4 := qh (zhv HK3.out HA3.out.size hn4); have HK4 := qh (KV.later HK3.out ha4 HLT.out); have hlt2 := hp4.lt; have hgt : j < j2 := by
      obtain ⟨kk, hkk⟩ := zzq HNX; exact ((zkw (l := c.l) (d := d) (hkk.st (d + 1) j hjl)).2 t j2 HRR.out).1
     clear hp4 ha4 hn4 HC3 HP3 HA3 HK3; obtain ⟨ps, hown, hk4⟩ := zzq HK4; have hlen := NAts.length _ _ hk4; have hOB := zx6 hown; rw [hlen] at hown; have HOWN := qh hown; have HLEN := qh hlen
     have HKK := qh hk4; have hsz := HA4.out.size; have HOB := qh hOB; clear hown hk4 HK4 hOB hlen
     go_wp2_with (at_builtin; refine wpList_append_lies _ rfl _ _ 46 rfl w.heap.size 22 i0 (.pointer none) 1 8 Tryz.underlying46 hi0 hz0 hz1 hz2 rfl (by decide) _ _ _ rfl (HOWN.out.alloc _) ⟨w4.heap.size, 0, none⟩ 1 1 [nPtr p4] rfl rfl (zq1 w4 p4 _ rfl) (zxv p4) (by decide) (by unfold maxLen; omega) (by omega) (by simp; omega) (w4.heap.size + 1) (by simp) ?_)
     intro g cap w5 hown' hgrow hg _
     have HK5 : Hid (KV w.heap.size w5 (acc ++ [t]) (.slice (some ⟨g, 0, none⟩) (acc.length + 1) cap)) := zfx HKK.out (NAts.cons HN4.out NAts.nil) (by rw [List.map_append]; exact hown') (by simp [HLEN.out]) hgrow hg
     have HA5 := qh ((HA4.out.alloc hsz (.cells #[nPtr p4] 22)).grown hgrow (by simp; omega) (fun k hk => (zzq HOB k hk).2))
     have HP5 := qh (HP4.out.ap (((Below.refl w.heap.size w4).alloc hsz (.cells #[nPtr p4] 22)).grown hgrow (by simp; omega) (fun k hk => (zzq HOB k hk).2)) HLO.out)
     have HALL2 : Hid (∀ u ∈ acc ++ [t], u.kd = 15 → ∃ x y, u.kids = x :: y) := by
      refine mem_snoc HALL.out ?_; have h1 := zzq HRR; unfold zq2 at h1
      split at h1
      ·
       cases h1
      ·
       exact HKO.out _ _ _ _ h1
     clear hown' hgrow hg HKK HOWN; go_wp2_with fail
     go_roundg k
     case measure => omega
     case rel => exact Or.inl ⟨acc ++ [t], j2, HQQ.out, HK5.out, HP5.out, HA5.out, by simp; omega, HALL2.out⟩
  ·
   have HC1 := qh (zvj he hps); have HC2 := qh (zx9 c wr j er pl he zvq hps); have HP1 := qh hps; have HA1 := qh hap; clear hps hap; subst hq; go_wp2_with fail; refine cm HC1.out ?_
   rintro e w2 ⟨rfl, rfl⟩; clear HC1; go_wp2_with fail; refine cm HC2.out ?_; rintro e w3 ⟨rfl, rfl⟩; clear HC2
   cases body with
   | false =>
    go_wp2_with fail; go_ret; exact ⟨⟨_, rfl, _, rfl⟩, ⟨j, HP1.out.alloc _⟩, he, HA1.out.alloc HA1.out.size _⟩
   | true =>
    have HC3 := qh (zvj he (HP1.out.alloc (zzk 6 zzx 0 (.slice a n kk)))); go_wp2_with fail; refine cm HC3.out ?_; rintro e w4 ⟨rfl, rfl⟩; clear HC3; go_wp2_with fail; go_ret
    exact ⟨⟨_, rfl, _, rfl⟩, ⟨j, HP1.out.alloc _⟩, he, HA1.out.alloc HA1.out.size _⟩
end Go.Proofs.YtoimgcjbcbhclaaGreatDoor.Old
namespace Go.Proofs.YtoimgcjbcbhclaaGreatDoor.Old
open Go.RowKit
set_option maxRecDepth 100000 in
set_option maxHeartbeats 1000000 in
theorem zy6 (c : PC) (w : World) (i : Nat) (er pl D : Int) (body : Bool) (he : er ≠ 0) (h : Ps c w i er pl) :
  Calls Tryz.prog 186 #[pPtr c, .int .i64 D, .bool body] w (NPost c w er pl ZN) := by
 have HC := qh (zx9 c w i er pl he zz4 h)
 have HP := qh h
 clear h
 go_enter Tryz.func186, Tryz.ntmps186
 go_wp2_with fail
 refine cm HC.out ?_
 rintro e w1 ⟨rfl, rfl⟩
 clear HC
 have HC1 := qh (zvj he HP.out)
 have HC2 := qh (zx9 c w1 i er pl he zvq HP.out)
 go_wp2_with fail
 refine wp_loop_rounds 1 ?_
 rw [rounds_succ]
 go_wp2_with fail
 refine cm HC1.out ?_
 rintro e w2 ⟨rfl, rfl⟩
 clear HC1
 go_wp2_with fail
 refine cm HC2.out ?_
 rintro e w3 ⟨rfl, rfl⟩
 clear HC2
 cases body with
 | false =>
  go_wp2_with fail; go_ret; exact ⟨⟨_, rfl, _, rfl⟩, ⟨i, HP.out.alloc _⟩, he, (Ap.refl c.P _ w3).alloc qv _⟩
 | true =>
  have HC3 := qh (zvj he (HP.out.alloc (zzk 6 zzx 0 (.slice none 0 0)))); go_wp2_with fail; refine cm HC3.out ?_; rintro e w4 ⟨rfl, rfl⟩; clear HC3; go_wp2_with fail; go_ret
  exact ⟨⟨_, rfl, _, rfl⟩, ⟨i, HP.out.alloc _⟩, he, (Ap.refl c.P _ w3).alloc qv _⟩
set_option maxRecDepth 100000 in
set_option maxHeartbeats 1000000 in
theorem rlist_old (c : PC) (w : World) (i : Nat) (er pl : Int) (s : ByteArray) (fv : Value) (he : er ≠ 0) (h : Ps c w i er pl) :
  Calls Tryz.prog 252 #[pPtr c, .string s, fv] w fun e w' => e = .returned (.slice none 0 0) ∧ w' = w := by
 have HC1 := qh (zvj he h)
 have HC2 := qh (zx9 c w i er pl he s h)
 clear h
 go_enter Tryz.func252, Tryz.ntmps252
 go_wp2_with fail
 refine wp_loop_rounds 1 ?_
 rw [rounds_succ]
 go_wp2_with fail
 refine cm HC1.out ?_
 rintro e w2 ⟨rfl, rfl⟩
 clear HC1
 go_wp2_with fail
 refine cm HC2.out ?_
 rintro e w3 ⟨rfl, rfl⟩
 clear HC2
 go_wp2_with fail
 go_ret
 exact ⟨rfl, rfl⟩
structure PartC (c : PC) (lo : Nat) (K : World → Prop) (f : Nat) (caps : Array Value) (part : Nat → PR Tr) : Prop where
 enters : ∀ args W, (callFunc f args).run Tryz.prog W = .ok (.enter f args) W
 stays : ∀ W W', K W → c.P < W.heap.size → Ap c.P W.heap.size W W' → K W'
 does : ∀ W i r, K W → r = part i → r ≠ .out → Ps c W i 0 (-1) → Calls Tryz.prog f caps W (zj3 c W (NV W.heap.size) ZN r)
 /-- What it leans on lies in blocks below a bound. -/
 kept : ∀ B W W', K W → Below B W W' → lo ≤ B → K W'
def RowZ (B : Nat) (w : World) (v : Value) : Prop := ∃ ps : List Nat, ps.length ≤ 9 ∧ w.ownsRow B 22 1 v ps.length (ps.map nPtr)
theorem RowZ.of {B : Nat} {w : World} {ts : List Tr} {v : Value} (h : KV B w ts v) (hl : ts.length ≤ 8) : RowZ B w v := by
 obtain ⟨ps, hr, hk⟩ := h
 exact ⟨ps, by rw [NAts.length _ _ hk]; omega, hr⟩
def LPost (c : PC) (w : World) (r : PR (List Tr)) (e : Ending) (w' : World) : Prop :=
 match r with
 | .ok ts j => (∃ v, e = .returned v ∧ KV w.heap.size w' ts v ∧ ts.length ≤ 8) ∧ Ps c w' j 0 (-1) ∧ Ap c.P w.heap.size w w'
 | .bad er pl => (∃ v, e = .returned v ∧ RowZ w.heap.size w' v) ∧ (∃ j, Ps c w' j er (pl : Int)) ∧ er ≠ 0 ∧ Ap c.P w.heap.size w w'
 | .out => True
set_option maxRecDepth 100000 in
set_option maxHeartbeats 4000000 in
theorem rlist_all {c : PC} {K : World → Prop} {f : Nat} {caps : Array Value} {part : Nat → PR Tr} {lo : Nat} (hp : PartC c lo K f caps part) (s : ByteArray) (hsn : s ≠ zzx) (n : Nat) (w : World) (i : Nat) (r : PR (List Tr)) (hs : r = zx1 c.l s part n [] i) (ho : r ≠ .out) (hk : K w) (hlo : lo ≤ w.heap.size) (h : Ps c w i 0 (-1)) :
  Calls Tryz.prog 252 #[pPtr c, .string s, .func (.func f) #[] caps] w (LPost c w r) := by
 have hen := hp.enters
 obtain ⟨i0, hi0, hz0, hz1, hz2⟩ := info_parts zk0
 have HLT := qh h.rlt
 have HL := qh h.base.len
 have HLO := qh h.base.size
 have HS := qh hs
 have HO := qh ho
 have HPC := qh hp
 have HK0 := qh hk
 have HLB := qh hlo
 have HP0 := qh h
 clear h hs ho hp hk hlo
 go_enter Tryz.func252, Tryz.ntmps252
 go_wp2_with fail
 go_loopg [7] n (fun k v wr => (∃ acc j, zx1 c.l s part k acc j = r ∧ KV w.heap.size wr acc v ∧ Ps c wr j 0 (-1) ∧ Ap c.P w.heap.size w wr ∧ acc.length ≤ 8 ∧ K wr)
  ∨ (∃ er pl, r = .bad er pl ∧ er ≠ 0 ∧ (∃ j, Ps c wr j er (pl : Int)) ∧ Ap c.P w.heap.size w wr ∧ RowZ w.heap.size wr v))
 case atStart => exact Or.inl ⟨[], i, HS.out.symm, KV.nil _ _, HP0.out, Ap.refl _ _ _, by simp, HK0.out⟩
 case round =>
  clear HS HP0 HK0
  rcases hrel with ⟨acc, j, hq, hkv, hps, hap, hle, hkk⟩ | ⟨er, pl, hq, he, ⟨j, hps⟩, hap, hrz⟩
  ·
   obtain ⟨k, rfl⟩ : ∃ k, gk = k + 1 := by
    cases gk with
    | zero => exact absurd hq.symm HO.out
    | succ k => exact ⟨k, rfl⟩
   have HC1 := qh (zk8 hps); have HC2 := qh (zzy c wr j s hsn hps); have HP1 := qh hps; have HA1 := qh hap; have HK1 := qh hkv; have HKW := qh hkk; have hL := zzq HL; have hjl := hps.lt
   by_cases hx : fx c.l j = s
   ·
    have HQ : Hid (PR.ok acc (j + 1) = r) := by
     unfold zx1 at hq; rw [if_pos hx] at hq; exact hq
    have hd1 : decide (fx c.l j = s) = true := decide_eq_true hx; rw [hd1] at HC2; obtain ⟨va, vc, rfl⟩ := hkv.shape; have HX := qh hx; clear hq hkv hps hap hx hd1 hkk; go_wp2_with fail; refine cm HC1.out ?_
    rintro e w2 ⟨rfl, rfl⟩; clear HC1; go_wp2_with fail; refine cm HC2.out ?_; rintro e w3 ⟨rfl, hb3⟩; have HA3 := qh (HA1.out.next (Ap.of hb3)); have HK3 := qh (KV.later HK1.out (Ap.of (R := c.P) hb3) HLT.out)
    have HC3 := qh (zx4 c w3 j s hsn (HP1.out.later hb3)); clear hb3 HC2 HP1 HA1 HK1; go_wp2_with fail; refine cm HC3.out ?_; intro e w4 hp
    have hmm : zz0 c.l s j = .ok () (j + 1) := by unfold zz0; rw [if_pos HX.out]
    rw [hmm] at hp; obtain ⟨⟨v, rfl, rfl⟩, hp4, ha4⟩ := hp; have HP4 := qh hp4; have HA4 := qh (HA3.out.next ha4); have HK4 := qh (KV.later HK3.out ha4 HLT.out); clear hp4 ha4 hmm HC3 HA3 HK3
    have hq : r = .ok acc (j + 1) := HQ.out.symm; subst hq; go_wp2_with fail; go_ret; exact ⟨⟨_, rfl, HK4.out, hle⟩, HP4.out, HA4.out⟩
   ·
    have HQ : Hid (((if acc.length = 0 then PR.ok () j else zz0 c.l zh5 j).bind fun _ i1 => if acc.length = 8 then badF c.l 4 i1 else (part i1).bind fun t i2 => zx1 c.l s part k (acc ++ [t]) i2) = r) := by
     unfold zx1 at hq; rw [if_neg hx] at hq; exact hq
    have hd1 : decide (fx c.l j = s) = false := decide_eq_false hx; rw [hd1] at HC2; obtain ⟨va, vc, rfl⟩ := hkv.shape; clear hq hkv hps hap hx hd1 hkk; go_wp2_with fail; refine cm HC1.out ?_; rintro e w2 ⟨rfl, rfl⟩
    clear HC1; go_wp2_with fail; refine cm HC2.out ?_; rintro e w3 ⟨rfl, hb3⟩; have HP3 := qh (HP1.out.later hb3); have HA3 := qh (HA1.out.next (Ap.of hb3))
    have HK3 := qh (KV.later HK1.out (Ap.of (R := c.P) hb3) HLT.out); have HKW3 := qh (HPC.out.stays _ _ HKW.out HP1.out.rlt (Ap.of hb3)); clear hb3 HC2 HP1 HA1 HK1 HKW
    by_cases h0 : acc.length = 0
    ·
     have hgt : decide ((0 : Int) < (acc.length : Int)) = false := by rw [h0]; rfl
     have hgt2 : decide (0 < acc.length) = false := by rw [h0]; rfl
     have h8 : ((acc.length : Int) == 8) = false := by rw [h0]; rfl
     rw [if_pos h0] at HQ; have HQ' : Hid ((if acc.length = 8 then badF c.l 4 j else (part j).bind fun t i2 => zx1 c.l s part k (acc ++ [t]) i2) = r) := zzq HQ; rw [if_neg (by omega)] at HQ'; clear HQ
     have HQ := HQ'; have HLE8 : Hid (acc.length < 8) := by show _ < _; omega
     clear HQ' h0; have HCo := qh (zk8 HP3.out); go_wp2_with fail; refine cm HCo.out ?_; rintro e wo ⟨rfl, rfl⟩; clear HCo
     cases hr : part j with
     | out =>
      rw [hr] at HQ; exact absurd HQ.out.symm HO.out
     | bad er pl =>
      have HRR := qh hr; rw [hr] at HQ; have hq : r = .bad er pl := HQ.out.symm; have HQQ := qh hq; have HC5 := qh (HPC.out.does wo j _ HKW3.out HRR.out.symm (by nofun) HP3.out); clear hr hq HQ; go_wp2_with fail
      refine cm HC5.out ?_; rintro e w4 ⟨⟨v, rfl, p4, rfl⟩, hp4, he, ha4⟩; have HP4 := qh hp4; have HA4 := qh (HA3.out.next ha4); have HK4 := qh (KV.later HK3.out ha4 HLT.out); clear hp4 ha4 HC5 HP3 HA3 HK3
      obtain ⟨ps, hown, hk4⟩ := zzq HK4; have hlen := NAts.length _ _ hk4; have hOB := zx6 hown; rw [hlen] at hown; have HOWN := qh hown; have HLEN := qh hlen; have HKK := qh hk4; have hsz := HA4.out.size
      have HOB := qh hOB; clear hown hk4 HK4 hOB hlen
      go_wp2_with (at_builtin; refine wpList_append_lies _ rfl _ _ 46 rfl w.heap.size 22 i0 (.pointer none) 1 8 Tryz.underlying46 hi0 hz0 hz1 hz2 rfl (by decide) _ _ _ rfl (HOWN.out.alloc _) ⟨w4.heap.size, 0, none⟩ 1 1 [nPtr p4] rfl rfl (zq1 w4 p4 _ rfl) (zxv p4) (by decide) (by unfold maxLen; omega) (by omega) (by simp; omega) (w4.heap.size + 1) (by simp) ?_)
      intro g cap w5 hown' hgrow hg _; have HB5 := qh (((Below.refl w.heap.size w4).alloc hsz (.cells #[nPtr p4] 22)).grown hgrow (by simp; omega) (fun k hk => (zzq HOB k hk).2))
      have HA5 := qh ((HA4.out.alloc hsz (.cells #[nPtr p4] 22)).grown hgrow (by simp; omega) (fun k hk => (zzq HOB k hk).2))
      have HP5 : Hid (∃ j, Ps c w5 j er (pl : Int)) := by
       obtain ⟨j2, hp⟩ := zzq HP4; exact ⟨j2, hp.ap HB5.out HLO.out⟩
      have HZ5 : Hid (RowZ w.heap.size w5 (.slice (some ⟨g, 0, none⟩) (acc.length + 1) cap)) := ⟨ps ++ [p4], by have := zzq HLEN; simp; omega, by have hl := zzq HLEN; rw [List.length_append, List.length_singleton, hl, List.map_append]; exact hown'⟩
      clear hown' hgrow hg HKK HOWN; go_wp2_with fail
      go_roundg k
      case measure => omega
      case rel => exact Or.inr ⟨er, pl, HQQ.out, he, HP5.out, HA5.out, HZ5.out⟩
     | ok t j2 =>
      have HRR := qh hr; rw [hr] at HQ; have hq : zx1 c.l s part k (acc ++ [t]) j2 = r := zzq HQ; have HQQ := qh hq; have HC5 := qh (HPC.out.does wo j _ HKW3.out HRR.out.symm (by nofun) HP3.out)
      clear hr hq HQ; go_wp2_with fail; refine cm HC5.out ?_; rintro e w4 ⟨⟨v, rfl, p4, rfl, hn4⟩, hp4, ha4⟩; have HP4 := qh hp4; have HA4 := qh (HA3.out.next ha4); have HK4 := qh (KV.later HK3.out ha4 HLT.out)
      have HN4 := qh (zhv HK3.out HA3.out.size hn4); have HKW4 := qh (HPC.out.stays _ _ HKW3.out HP3.out.rlt ha4); clear hn4; clear hp4 ha4 HC5 HP3 HA3 HK3; obtain ⟨ps, hown, hk4⟩ := zzq HK4
      have hlen := NAts.length _ _ hk4; have hOB := zx6 hown; rw [hlen] at hown; have HOWN := qh hown; have HLEN := qh hlen; have HKK := qh hk4; have hsz := HA4.out.size; have HOB := qh hOB
      clear hown hk4 HK4 hOB hlen
      go_wp2_with (at_builtin; refine wpList_append_lies _ rfl _ _ 46 rfl w.heap.size 22 i0 (.pointer none) 1 8 Tryz.underlying46 hi0 hz0 hz1 hz2 rfl (by decide) _ _ _ rfl (HOWN.out.alloc _) ⟨w4.heap.size, 0, none⟩ 1 1 [nPtr p4] rfl rfl (zq1 w4 p4 _ rfl) (zxv p4) (by decide) (by unfold maxLen; omega) (by omega) (by simp; omega) (w4.heap.size + 1) (by simp) ?_)
      intro g cap w5 hown' hgrow hg _; have HB5 := qh (((Below.refl w.heap.size w4).alloc hsz (.cells #[nPtr p4] 22)).grown hgrow (by simp; omega) (fun k hk => (zzq HOB k hk).2))
      have HA5 := qh ((HA4.out.alloc hsz (.cells #[nPtr p4] 22)).grown hgrow (by simp; omega) (fun k hk => (zzq HOB k hk).2))
      have HK5 : Hid (KV w.heap.size w5 (acc ++ [t]) (.slice (some ⟨g, 0, none⟩) (acc.length + 1) cap)) := zfx HKK.out (NAts.cons HN4.out NAts.nil) (by rw [List.map_append]; exact hown') (by simp [HLEN.out]) hgrow hg
      have HP5 := qh (HP4.out.ap HB5.out HLO.out); have HKW5 := qh (HPC.out.kept _ _ _ HKW4.out HB5.out HLB.out); clear hown' hgrow hg HKK HOWN; go_wp2_with fail
      go_roundg k
      case measure => omega
      case rel => exact Or.inl ⟨acc ++ [t], j2, HQQ.out, HK5.out, HP5.out, HA5.out, by have hh := zzq HLE8; simp; omega, HKW5.out⟩
    ·
     have hgt : decide ((acc.length : Int) > 0) = true := by simp; omega
     rw [if_neg h0] at HQ; have HC4 := qh (zx4 c w3 j zh5 (by decide) HP3.out); go_wp2_with fail; refine cm HC4.out ?_; intro e w6 hp
     cases hm : zz0 c.l zh5 j with
     | out => rw [hm] at HQ; exact absurd HQ.out.symm HO.out
     | bad er pl =>
      rw [hm] at hp HQ; have hq : r = .bad er pl := HQ.out.symm; obtain ⟨⟨v, rfl, rfl⟩, ⟨j6, hp6⟩, he, ha6⟩ := hp; have HQQ := qh hq; have HP6 := qh hp6; have HA6 := qh (HA3.out.next ha6)
      have HK6 := qh (KV.later HK3.out ha6 HLT.out); clear hp6 ha6 hm HC4 hq HQ
      by_cases h8 : acc.length = 8
      ·
       have h8' : ((acc.length : Int) == 8) = true := by rw [h8]; rfl
       have HC7 := qh (rfail_old c w6 j6 er pl 4 he HP6.out); go_wp2_with fail; refine cm HC7.out ?_; rintro e w7 ⟨⟨v, rfl, q, rfl⟩, ⟨j7, hp7⟩, _, ha7⟩; have HC8 := qh (zvj he hp7); have HP7 := qh hp7
       have HA7 := qh (HA6.out.next ha7); have HK7 := qh (KV.later HK6.out ha7 HLT.out); clear hp7 ha7 HC7; go_wp2_with fail; refine cm HC8.out ?_; rintro e w8 ⟨rfl, rfl⟩; clear HC8; go_wp2_with fail
       go_roundg k
       case measure => omega
       case rel => exact Or.inr ⟨er, pl, HQQ.out, he, ⟨j7, HP7.out⟩, HA7.out, RowZ.of (by have hk := zzq HK7; rw [h8] at hk; exact hk) hle⟩
      ·
       have h8' : ((acc.length : Int) == 8) = false := beq_eq_false_iff_ne.2 (by omega); have HC8 := qh (zvj he HP6.out); go_wp2_with fail; refine cm HC8.out ?_; rintro e w8 ⟨rfl, rfl⟩; clear HC8; go_wp2_with fail
       go_roundg k
       case measure => omega
       case rel => exact Or.inr ⟨er, pl, HQQ.out, he, ⟨j6, HP6.out⟩, HA6.out, RowZ.of HK6.out hle⟩
     | ok x6 j6 =>
      rw [hm] at hp HQ; obtain ⟨⟨v, rfl, rfl⟩, hp6, ha6⟩ := hp; have HQ' : Hid ((if acc.length = 8 then badF c.l 4 j6 else (part j6).bind fun t i2 => zx1 c.l s part k (acc ++ [t]) i2) = r) := zzq HQ; clear HQ
      have HQ := HQ'; clear HQ'; have HP6 := qh hp6; have HA6 := qh (HA3.out.next ha6); have HK6 := qh (KV.later HK3.out ha6 HLT.out); have HKW6 := qh (HPC.out.stays _ _ HKW3.out HP3.out.rlt ha6)
      clear hp6 ha6 hm HC4 HP3 HA3 HK3 HKW3
      by_cases h8 : acc.length = 8
      ·
       have h8' : ((acc.length : Int) == 8) = true := by rw [h8]; rfl
       rw [if_pos h8] at HQ; have HC7 := qh (zwz c w6 j6 4 (by decide) HP6.out); go_wp2_with fail; refine cm HC7.out ?_; rintro e w7 ⟨⟨v, rfl, q, rfl⟩, ⟨j7, hp7⟩, he, ha7⟩; have HC8 := qh (zvj he hp7)
       have HP7 := qh hp7; have HA7 := qh (HA6.out.next ha7); have HK7 := qh (KV.later HK6.out ha7 HLT.out); clear hp7 ha7 HC7; go_wp2_with fail; refine cm HC8.out ?_; rintro e w8 ⟨rfl, rfl⟩; clear HC8
       go_wp2_with fail
       go_roundg k
       case measure => omega
       case rel => exact Or.inr ⟨4, (tkA c.l j6).pl, HQ.out.symm, by decide, ⟨j7, HP7.out⟩, HA7.out, RowZ.of (by have hk := zzq HK7; rw [h8] at hk; exact hk) hle⟩
      ·
       have h8' : ((acc.length : Int) == 8) = false := beq_eq_false_iff_ne.2 (by omega); rw [if_neg h8] at HQ; have HLE8 : Hid (acc.length < 8) := by show _ < _; omega
       have HCo := qh (zk8 HP6.out); go_wp2_with fail; refine cm HCo.out ?_; rintro e wo ⟨rfl, rfl⟩; clear HCo
       cases hr : part j6 with
       | out =>
        rw [hr] at HQ; exact absurd HQ.out.symm HO.out
       | bad er pl =>
        have HRR := qh hr; rw [hr] at HQ; have hq : r = .bad er pl := HQ.out.symm; have HQQ := qh hq; have HC5 := qh (HPC.out.does wo j6 _ HKW6.out HRR.out.symm (by nofun) HP6.out); clear hr hq HQ; go_wp2_with fail
        refine cm HC5.out ?_; rintro e w4 ⟨⟨v, rfl, p4, rfl⟩, hp4, he, ha4⟩; have HP4 := qh hp4; have HA4 := qh (HA6.out.next ha4); have HK4 := qh (KV.later HK6.out ha4 HLT.out); clear hp4 ha4 HC5 HP6 HA6 HK6
        obtain ⟨ps, hown, hk4⟩ := zzq HK4; have hlen := NAts.length _ _ hk4; have hOB := zx6 hown; rw [hlen] at hown; have HOWN := qh hown; have HLEN := qh hlen; have HKK := qh hk4; have hsz := HA4.out.size
        have HOB := qh hOB; clear hown hk4 HK4 hOB hlen
        go_wp2_with (at_builtin; refine wpList_append_lies _ rfl _ _ 46 rfl w.heap.size 22 i0 (.pointer none) 1 8 Tryz.underlying46 hi0 hz0 hz1 hz2 rfl (by decide) _ _ _ rfl (HOWN.out.alloc _) ⟨w4.heap.size, 0, none⟩ 1 1 [nPtr p4] rfl rfl (zq1 w4 p4 _ rfl) (zxv p4) (by decide) (by unfold maxLen; omega) (by omega) (by simp; omega) (w4.heap.size + 1) (by simp) ?_)
        intro g cap w5 hown' hgrow hg _; have HB5 := qh (((Below.refl w.heap.size w4).alloc hsz (.cells #[nPtr p4] 22)).grown hgrow (by simp; omega) (fun k hk => (zzq HOB k hk).2))
        have HA5 := qh ((HA4.out.alloc hsz (.cells #[nPtr p4] 22)).grown hgrow (by simp; omega) (fun k hk => (zzq HOB k hk).2))
        have HP5 : Hid (∃ j, Ps c w5 j er (pl : Int)) := by
         obtain ⟨j2, hp⟩ := zzq HP4; exact ⟨j2, hp.ap HB5.out HLO.out⟩
        have HZ5 : Hid (RowZ w.heap.size w5 (.slice (some ⟨g, 0, none⟩) (acc.length + 1) cap)) := ⟨ps ++ [p4], by have := zzq HLEN; simp; omega, by have hl := zzq HLEN; rw [List.length_append, List.length_singleton, hl, List.map_append]; exact hown'⟩
        clear hown' hgrow hg HKK HOWN; go_wp2_with fail
        go_roundg k
        case measure => omega
        case rel => exact Or.inr ⟨er, pl, HQQ.out, he, HP5.out, HA5.out, HZ5.out⟩
       | ok t j2 =>
        have HRR := qh hr; rw [hr] at HQ; have hq : zx1 c.l s part k (acc ++ [t]) j2 = r := zzq HQ; have HQQ := qh hq; have HC5 := qh (HPC.out.does wo j6 _ HKW6.out HRR.out.symm (by nofun) HP6.out)
        clear hr hq HQ; go_wp2_with fail; refine cm HC5.out ?_; rintro e w4 ⟨⟨v, rfl, p4, rfl, hn4⟩, hp4, ha4⟩; have HP4 := qh hp4; have HA4 := qh (HA6.out.next ha4); have HK4 := qh (KV.later HK6.out ha4 HLT.out)
        have HN4 := qh (zhv HK6.out HA6.out.size hn4); have HKW4 := qh (HPC.out.stays _ _ HKW6.out HP6.out.rlt ha4); clear hn4; clear hp4 ha4 HC5 HP6 HA6 HK6; obtain ⟨ps, hown, hk4⟩ := zzq HK4
        have hlen := NAts.length _ _ hk4; have hOB := zx6 hown; rw [hlen] at hown; have HOWN := qh hown; have HLEN := qh hlen; have HKK := qh hk4; have hsz := HA4.out.size; have HOB := qh hOB
        clear hown hk4 HK4 hOB hlen
        go_wp2_with (at_builtin; refine wpList_append_lies _ rfl _ _ 46 rfl w.heap.size 22 i0 (.pointer none) 1 8 Tryz.underlying46 hi0 hz0 hz1 hz2 rfl (by decide) _ _ _ rfl (HOWN.out.alloc _) ⟨w4.heap.size, 0, none⟩ 1 1 [nPtr p4] rfl rfl (zq1 w4 p4 _ rfl) (zxv p4) (by decide) (by unfold maxLen; omega) (by omega) (by simp; omega) (w4.heap.size + 1) (by simp) ?_)
        intro g cap w5 hown' hgrow hg _; have HB5 := qh (((Below.refl w.heap.size w4).alloc hsz (.cells #[nPtr p4] 22)).grown hgrow (by simp; omega) (fun k hk => (zzq HOB k hk).2))
        have HA5 := qh ((HA4.out.alloc hsz (.cells #[nPtr p4] 22)).grown hgrow (by simp; omega) (fun k hk => (zzq HOB k hk).2))
        have HK5 : Hid (KV w.heap.size w5 (acc ++ [t]) (.slice (some ⟨g, 0, none⟩) (acc.length + 1) cap)) := zfx HKK.out (NAts.cons HN4.out NAts.nil) (by rw [List.map_append]; exact hown') (by simp [HLEN.out]) hgrow hg
        have HP5 := qh (HP4.out.ap HB5.out HLO.out); have HKW5 := qh (HPC.out.kept _ _ _ HKW4.out HB5.out HLB.out); clear hown' hgrow hg HKK HOWN; go_wp2_with fail
        go_roundg k
        case measure => omega
        case rel => exact Or.inl ⟨acc ++ [t], j2, HQQ.out, HK5.out, HP5.out, HA5.out, by have hh := zzq HLE8; simp; omega, HKW5.out⟩
  ·
   obtain ⟨zps, hzl, hzr⟩ := hrz; obtain ⟨za, zc, rfl⟩ := zjj hzr; have HZ := qh hzr; clear hzr; have HC1 := qh (zvj he hps); have HC2 := qh (zx9 c wr j er pl he s hps); have HP1 := qh hps
   have HA1 := qh hap; clear hps hap; subst hq; go_wp2_with fail; refine cm HC1.out ?_; rintro e w2 ⟨rfl, rfl⟩; clear HC1; go_wp2_with fail; refine cm HC2.out ?_; rintro e w3 ⟨rfl, rfl⟩; clear HC2; go_wp2_with fail
   go_ret; exact ⟨⟨_, rfl, zps, hzl, HZ.out⟩, ⟨j, HP1.out⟩, he, HA1.out⟩
theorem zg5 {c : PC} {K : World → Prop} {f : Nat} {caps : Array Value} {part : Nat → PR Tr} {lo : Nat} (hp : PartC c lo K f caps part) (s : ByteArray) (hsn : s ≠ zzx) (n : Nat) (w : World) (i : Nat) (r : PR (List Tr)) (hs : r = zx1 c.l s part n [] i) (ho : r ≠ .out) (hk : K w) (hlo : lo ≤ w.heap.size) (h : Ps c w i 0 (-1)) :
  Calls Tryz.prog 252 #[pPtr c, .string s, .func (.func f) #[] caps] w (zj3 c w (KV w.heap.size) ZL r) := by
 refine cm (rlist_all hp s hsn n w i r hs ho hk hlo h) ?_
 intro e w' hh
 cases r with
 | out => exact trivial
 | ok ts j =>
  obtain ⟨⟨v, rfl, h1, _⟩, h2, h3⟩ := hh; exact ⟨⟨v, rfl, h1⟩, h2, h3⟩
 | bad er pl =>
  obtain ⟨⟨v, rfl, ps, _, h1⟩, h2, he, h3⟩ := hh; obtain ⟨a, k, hv⟩ := zjj h1; exact ⟨⟨v, rfl, a, _, k, hv⟩, h2, he, h3⟩
end Go.Proofs.YtoimgcjbcbhclaaGreatDoor.Old
namespace Go.Proofs.YtoimgcjbcbhclaaGreatDoor.Old
open Go.RowKit
structure BoxP (c : PC) (b : Nat) (W : World) : Prop where
 blk : W.heap[b]? = some (.cells #[pPtr c] 164 (0, 0))
 ne : b ≠ c.P
theorem BoxP.cell {c : PC} {b : Nat} {W : World} (h : BoxP c b W) : W.cell? ⟨b, 0, none⟩ = some (pPtr c) := by rw [zqy h.blk]; rfl
theorem BoxP.lt {c : PC} {b : Nat} {W : World} (h : BoxP c b W) : b < W.heap.size := zzz h.blk
theorem BoxP.ap {c : PC} {b : Nat} {W W' : World} (h : BoxP c b W) (ha : Ap c.P W.heap.size W W') : BoxP c b W' := ⟨by rw [ha.block b h.lt h.ne]; exact h.blk, h.ne⟩
theorem BoxP.below {c : PC} {b B : Nat} {W W' : World} (h : BoxP c b W) (ha : Below B W W') (hb : b < B) : BoxP c b W' := ⟨by rw [ha.block b hb]; exact h.blk, h.ne⟩
structure BoxN (c : PC) (b : Nat) (d : Nat) (W : World) : Prop where
 blk : W.heap[b]? = some (.cells #[.int .i64 (d : Int)] 3 (0, 0))
 ne : b ≠ c.P
theorem BoxN.cell {c : PC} {b d : Nat} {W : World} (h : BoxN c b d W) : W.cell? ⟨b, 0, none⟩ = some (.int .i64 (d : Int)) := by rw [zqy h.blk]; rfl
theorem BoxN.lt {c : PC} {b d : Nat} {W : World} (h : BoxN c b d W) : b < W.heap.size := zzz h.blk
theorem BoxN.ap {c : PC} {b d : Nat} {W W' : World} (h : BoxN c b d W) (ha : Ap c.P W.heap.size W W') : BoxN c b d W' := ⟨by rw [ha.block b h.lt h.ne]; exact h.blk, h.ne⟩
theorem BoxN.below {c : PC} {b d B : Nat} {W W' : World} (h : BoxN c b d W) (ha : Below B W W') (hb : b < B) : BoxN c b d W' := ⟨by rw [ha.block b hb]; exact h.blk, h.ne⟩
theorem en142 : ∀ args W, (callFunc 253 args).run Tryz.prog W = .ok (.enter 253 args) W := fun _ _ => by kernel_rfl
theorem nv_leaf {B : Nat} {w : World} (hB : B ≤ w.heap.size) (kd : Int) (tx : ByteArray) (z : Int) : NV B (w.alloc (zzk kd tx z (.slice none 0 0))) (.mk kd tx z []) (nPtr w.heap.size) := (EV.new (KV.nil B w) hB kd tx z).nv
set_option maxRecDepth 100000 in
set_option maxHeartbeats 1000000 in
theorem rparam_does {c : PC} {b : Nat} (W : World) (i : Nat) (r : PR Tr) (hk : BoxP c b W) (hs : r = zh7 c.l i) (ho : r ≠ .out) (h : Ps c W i 0 (-1)) :
  Calls Tryz.prog 253 #[.pointer (some ⟨b, 0, none⟩)] W (zj3 c W (NV W.heap.size) ZN r) := by
 have k0 := hk.cell
 unfold zh7 at hs
 have HC := qh (zvk c W i h)
 have HS := qh hs
 have HO := qh ho
 clear hk h hs ho
 go_enter Tryz.func253, Tryz.ntmps253
 go_wp2_with fail
 refine cm HC.out ?_
 intro e w1 hp
 cases hr : zjq c.l i with
 | out => rw [hr] at HS; exact absurd HS.out HO.out
 | bad er pl =>
  rw [hr] at hp HS; have hq : r = .bad er pl := zzq HS; subst hq; obtain ⟨⟨v, rfl, s, rfl⟩, ⟨j, hp1⟩, he, ha⟩ := hp; have HP := qh hp1; have HA := qh ha; clear hp1 ha hr HC; go_wp2_with fail; go_ret
  exact ⟨⟨_, rfl, _, rfl⟩, ⟨j, HP.out.alloc _⟩, he, HA.out.alloc HA.out.size _⟩
 | ok x j =>
  rw [hr] at hp HS; have hq : r = .ok (.mk 23 x 0 []) j := zzq HS; subst hq; obtain ⟨⟨v, rfl, rfl⟩, hp1, ha⟩ := hp; have HP := qh hp1; have HA := qh ha; clear hp1 ha hr HC; go_wp2_with fail; go_ret
  exact ⟨⟨_, rfl, nv_leaf HA.out.size 23 x 0⟩, HP.out.alloc _, HA.out.alloc HA.out.size _⟩
theorem param_part (c : PC) (b : Nat) : PartC c (b + 1) (BoxP c b) 253 #[.pointer (some ⟨b, 0, none⟩)] (zh7 c.l) where
 enters := en142
 stays := fun _ _ hk _ ha => hk.ap ha
 does := fun W i r hk hs ho h => rparam_does W i r hk hs ho h
 kept := fun _ _ _ hk ha hB => hk.below ha (by omega)
set_option maxRecDepth 100000 in
set_option maxHeartbeats 1000000 in
theorem rfunction_old (c : PC) (w : World) (i : Nat) (er pl kd D : Int) (s : ByteArray) (he : er ≠ 0) (h : Ps c w i er pl) :
  Calls Tryz.prog 189 #[pPtr c, .int .i64 kd, .string s, .int .i64 D] w (NPost c w er pl ZN) := by
 have HP1 := qh (h.alloc (.cells #[pPtr c] 164))
 have HC1 := qh (zx9 c _ i er pl he zxk HP1.out)
 have hb : (w.alloc (.cells #[pPtr c] 164)).cell? ⟨w.heap.size, 0, none⟩ = some (pPtr c) := by rw [zqy (zqx _ _)]; rfl
 clear h
 go_enter Tryz.func189, Tryz.ntmps189
 go_wp2_with fail
 refine cm HC1.out ?_
 rintro e w1 ⟨rfl, rfl⟩
 clear HC1
 have HC2 := qh (rlist_old c _ i er pl zjy (.func (.func 253) #[] #[.pointer (some ⟨w.heap.size, 0, none⟩)]) he HP1.out)
 go_wp2_with fail
 refine cm HC2.out ?_
 rintro e w2 ⟨rfl, rfl⟩
 clear HC2
 have HC3 := qh (zy6 c _ i er pl D true he (HP1.out.alloc (zzk 40 zzx 0 (.slice none 0 0))))
 go_wp2_with fail
 refine cm HC3.out ?_
 rintro e w3 ⟨⟨v, rfl, q, rfl⟩, ⟨j, hp3⟩, _, ha3⟩
 have HP3 := qh hp3
 have HA3 := qh ((((Ap.refl c.P w.heap.size w).alloc qv (.cells #[pPtr c] 164)).alloc (by simp) (zzk 40 zzx 0 (.slice none 0 0))).trans (ha3.mono (by simp; omega)))
 clear hp3 ha3 HC3
 go_wp2_with fail
 go_ret
 exact ⟨⟨_, rfl, _, rfl⟩, ⟨j, (HP3.out.alloc _).alloc _⟩, he, (HA3.out.alloc HA3.out.size _).alloc (by have := HA3.out.size; simp; omega) _⟩
end Go.Proofs.YtoimgcjbcbhclaaGreatDoor.Old
