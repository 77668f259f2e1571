/-
  Two texts that are programs, one behind the other: one with the statements of both, or too many nodes.
-/
import Derived.Test.YtoimgcjbcbhclaaGreatDoorWh24
import Derived.Test.YtoimgcjbcbhclaaGreatDoorWh38
import Derived.Test.YtoimgcjbcbhclaaGreatDoorWh39
import Derived.Test.YtoimgcjbcbhclaaGreatDoorWh23
import Derived.Test.YtoimgcjbcbhclaaGreatDoorWh0
import Derived.Test.YtoimgcjbcbhclaaGreatDoorWh29
set_option maxRecDepth 100000
set_option maxHeartbeats 16000000
namespace Go.Proofs.YtoimgcjbcbhclaaGreatDoor
open Go.RowKit

/-- Words that begin no statement. -/
def NoHead (s : ByteArray) : Prop := s = tElse ∨ s = tCatch ∨ s = tFinally

theorem NoHead.facts {s : ByteArray} (h : NoHead s) : s ≠ noText ∧ look2 vlKeys s = none ∧ (sgP 0 s).isNone = true ∧ (sgP 1 s).isNone = true ∧ look2 stKeys s = none := by
  rcases h with rfl | rfl | rfl <;> decide

section
variable {l : List Tk} {s : ByteArray} {i : Nat} (hs : NoHead s) (hf : fx l i = s)
include hs hf

theorem fixed_kd : (tkA l i).kd = 2 ∨ (tkA l i).kd = 5 := by
  have h0 := hs.facts.1
  unfold fx at hf
  split at hf
  · rename_i h
    simpa using h
  · exact absurd hf.symm h0

theorem alone_no (F : Fns) (d : Nat) (x : Tr) (j : Nat) : aloneP l F d i ≠ .ok x j := by
  obtain ⟨_, h2, h3, _, _⟩ := hs.facts
  have hk := fixed_kd hs hf
  unfold aloneP
  rw [hf, h2]
  simp only
  rw [Option.isNone_iff_eq_none.1 h3]
  simp only
  rw [if_neg (by omega), if_neg (by omega), if_neg (by omega)]
  nofun

theorem sg_no (k d : Nat) (x : Tr) (j : Nat) : (fns l k).sg d i ≠ .ok x j := by
  cases k with
  | zero => nofun
  | succ k =>
    obtain ⟨_, _, _, h4, _⟩ := hs.facts
    show singleP l (fns l k) d i ≠ .ok x j
    unfold singleP
    rw [hf, Option.isNone_iff_eq_none.1 h4]
    simp only
    unfold askedP
    intro h
    obtain ⟨t, j1, h1, _⟩ := bind_inv h
    exact alone_no hs hf _ _ _ _ h1
theorem pr_no (k : Nat) (b : Int) (d : Nat) (x : Tr) (j : Nat) : (fns l k).pr b d i ≠ .ok x j := by
  cases k with
  | zero => nofun
  | succ k =>
    show pairP l (fns l k) b d i ≠ .ok x j
    unfold pairP
    intro h
    obtain ⟨t, j1, h1, _⟩ := bind_inv h
    exact sg_no hs hf _ _ _ _ h1
theorem vl_no (k d : Nat) (x : Tr) (j : Nat) : (fns l k).vl d i ≠ .ok x j := by
  cases k with
  | zero => nofun
  | succ k =>
    show valueP l (fns l k) d i ≠ .ok x j
    unfold valueP
    intro h
    obtain ⟨t, j1, h1, _⟩ := bind_inv h
    exact pr_no hs hf _ _ _ _ _ h1
theorem st_no (k d : Nat) (x : Tr) (j : Nat) : (fns l k).st d i ≠ .ok x j := by
  cases k with
  | zero => nofun
  | succ k =>
    obtain ⟨_, _, _, _, h5⟩ := hs.facts
    show statementP l (fns l k) d i ≠ .ok x j
    unfold statementP
    rw [hf, h5]
    simp only
    unfold exprP
    intro h
    obtain ⟨t, j1, h1, _⟩ := bind_inv h
    unfold deepP at h1
    split at h1
    · cases h1
    · exact vl_no hs hf _ _ _ _ h1
end

theorem first_no {l : List Tk} {k n : Nat} {acc ts : List Tr} {i j : Nat} {s : ByteArray} (hs : NoHead s) (h : progLoop l (fns l k) n acc i = .ok ts j) : fx l i ≠ s := by
  intro hf
  cases n with
  | zero => cases h
  | succ n =>
    unfold progLoop at h
    have hk := fixed_kd hs hf
    rw [if_neg (by omega)] at h
    obtain ⟨t, j1, h1, _⟩ := bind_inv h
    unfold deepP at h1
    split at h1
    · cases h1
    · exact st_no hs hf _ _ _ _ h1

/-- The first text's statements, read in the joined one. -/
theorem loop_js {l l' : List Tk} {A : Nat} {F F' : Fns} (hE : Ends l) (hA : ∀ i, i < A → tkA l i = tkA l' i) (hL : l.length = A + 1) (hF : FJs l A F F') :
    ∀ n acc i ts j, i < l.length → progLoop l F n acc i = .ok ts j → ∃ k, k ≤ A - i ∧ ∀ e, progLoop l' F' (k + e) acc i = progLoop l' F' e ts A := by
  intro n
  induction n with
  | zero => intro acc i ts j _ h; cases h
  | succ n ih =>
    intro acc i ts j hi h
    unfold progLoop at h
    by_cases hiA : i = A
    · rw [if_pos ((hE i hi).2 (by omega))] at h
      cases h
      subst hiA
      exact ⟨0, Nat.zero_le _, fun e => by rw [Nat.zero_add]⟩
    · have h6 : ¬ (tkA l i).kd = 6 := fun h => by have := (hE i hi).1 h; omega
      rw [if_neg h6] at h
      obtain ⟨t, j1, h1, h⟩ := bind_inv h
      have hj := deepP_js (l' := l') (hF.st (0 + 1) i hi) t j1 h1
      obtain ⟨k, hk, he⟩ := ih _ j1 ts j hj.1.2 h
      refine ⟨k + 1, by omega, fun e => ?_⟩
      rw [show k + 1 + e = (k + e) + 1 by omega]
      conv => lhs; unfold progLoop
      rw [← hA i (by omega), if_neg h6, hj.2 (by omega)]
      exact he e

/-- The second text's, behind them. -/
theorem loop_sh {l l' : List Tk} {A k0 : Nat} {F F' : Fns} (hN : FNx l k0 F) (hA : Shifts l l' A) (hF : FSh A F F') :
    ∀ n acc i ts j, i < l.length → progLoop l F n acc i = .ok ts j → ∃ us, ts = acc ++ us ∧ ∃ k, k ≤ l.length - i ∧ ∀ e acc', progLoop l' F' (k + 1 + e) acc' (A + i) = .ok (acc' ++ us) (A + j) := by
  intro n
  induction n with
  | zero => intro acc i ts j _ h; cases h
  | succ n ih =>
    intro acc i ts j hi h
    unfold progLoop at h
    by_cases h6 : (tkA l i).kd = 6
    · rw [if_pos h6] at h
      cases h
      refine ⟨[], by simp, 0, Nat.zero_le _, fun e acc' => ?_⟩
      rw [show 0 + 1 + e = e + 1 by omega]
      unfold progLoop
      rw [hA.kd, if_pos h6, List.append_nil]
    · rw [if_neg h6] at h
      obtain ⟨t, j1, h1, h⟩ := bind_inv h
      have hj := (deepP_nx (l := l) (d := 0) (hN.st (0 + 1) i hi)).2 t j1 h1
      obtain ⟨us, hu, k, hk, he⟩ := ih _ j1 ts j hj.2 h
      refine ⟨t :: us, by rw [hu]; simp, k + 1, by omega, fun e acc' => ?_⟩
      rw [show k + 1 + 1 + e = (k + 1 + e) + 1 by omega]
      conv => lhs; unfold progLoop
      rw [hA.kd, if_neg h6, deepP_sh (hF.st (0 + 1) i) t j1 h1]
      show progLoop l' F' (k + 1 + e) (acc' ++ [t]) (A + j1) = _
      rw [he]
      simp

theorem codeT_kids (t : Tr) : (codeT t).kids = t.kids := by unfold codeT; split <;> rfl

theorem progP_inv {l : List Tk} {F : Fns} {t : Tr} {j : Nat} (h : progP l F = .ok t j) : ∃ ts, progLoop l F F.fuel [] 0 = .ok ts j ∧ t = codeT (.mk 1 noText 0 ts) := by
  unfold progP at h
  obtain ⟨ts, j1, h1, h⟩ := bind_inv h
  cases h
  exact ⟨ts, h1, rfl⟩

theorem tkA_left {l' : List Tk} {x : Tk} {m : List Tk} {i : Nat} (h : i < l'.length) : tkA (l' ++ [x]) i = tkA (l' ++ m) i := by
  unfold tkA
  rw [List.getD_eq_getElem?_getD, List.getD_eq_getElem?_getD, List.getElem?_append_left h, List.getElem?_append_left h]

theorem tkA_right (l' lb : List Tk) (D i : Nat) : tkA (l' ++ lb.map (shTk D)) (l'.length + i) = ((lb[i]?).map (shTk D)).getD ⟨6, noText, 0, 0⟩ := by
  unfold tkA
  rw [List.getD_eq_getElem?_getD, List.getElem?_append_right (by omega), Nat.add_sub_cancel_left, List.getElem?_map]

theorem shifts_of (l' lb : List Tk) (D : Nat) : Shifts lb (l' ++ lb.map (shTk D)) l'.length := by
  constructor <;> intro i <;> rw [tkA_right] <;> unfold tkA <;> rw [List.getD_eq_getElem?_getD] <;> cases lb[i]? <;> rfl

/-- THE JOIN of two programs. -/
theorem parse_join (ws gs : List ByteArray) (a b : ByteArray) (x y : Tr) (hgs : ∀ g ∈ gs, 1 ≤ g.size) (hg : ∀ g ∈ gs, (10 : UInt8) ∉ g.data.toList)
    (hsz : a.size + b.size ≤ 2500) (ha : parseS ws gs a = .ok x) (hb : parseS ws gs b = .ok y) :
    parseS ws gs (jn a b) = .bare ∨ ∃ n, parseS ws gs (jn a b) = .ok n ∧ n.kids = x.kids ++ y.kids := by
  unfold parseS at ha hb
  rw [if_neg (by omega)] at ha hb
  cases hla : toksR ws gs a (pastN gapB a 0) [] with
  | bad er p => rw [hla] at ha; cases ha
  | ok la =>
    cases hlb : toksR ws gs b (pastN gapB b 0) [] with
    | bad er p => rw [hlb] at hb; cases hb
    | ok lb =>
      rw [hla] at ha
      rw [hlb] at hb
      simp only at ha hb
      obtain ⟨hEa, h0a, hna⟩ := toks_ends hgs hla
      obtain ⟨hEb, h0b, hnb⟩ := toks_ends hgs hlb
      obtain ⟨l', hl', hlj⟩ := toks_join ws gs a b la lb hgs hg hla hlb
      cases hra : progP la (fns la KK) with
      | out => rw [hra] at ha; cases ha
      | bad er p => rw [hra] at ha; cases ha
      | ok ta ja =>
        cases hrb : progP lb (fns lb KK) with
        | out => rw [hrb] at hb; cases hb
        | bad er p => rw [hrb] at hb; cases hb
        | ok tb jb =>
          rw [hra] at ha
          rw [hrb] at hb
          simp only at ha hb
          split at ha
          · cases ha
          split at hb
          · cases hb
          cases ha
          cases hb
          obtain ⟨xs, hxs, rfl⟩ := progP_inv hra
          obtain ⟨ys, hys, rfl⟩ := progP_inv hrb
          have hfa : (fns la KK).fuel = 24099 := (fns_nx hEa KK).fuel
          have hfb : (fns lb KK).fuel = 24099 := (fns_nx hEb KK).fuel
          have hlen : la.length = l'.length + 1 := by rw [hl']; simp
          have hSh := shifts_of l' lb (a.size + 1)
          have hAg : ∀ i, i < l'.length → tkA la i = tkA (l' ++ lb.map (shTk (a.size + 1))) i := fun i hi => by rw [hl']; exact tkA_left hi
          obtain ⟨lj, hj⟩ : ∃ lj, lj = l' ++ lb.map (shTk (a.size + 1)) := ⟨_, rfl⟩
          rw [← hj] at hSh hAg hlj
          have hP : Parts la lj l'.length := by
            intro s hs
            constructor
            · intro hf
              have h1 := fixed_kd (s := s) hs hf
              have h2 := (hEa l'.length (by omega)).2 (by omega)
              omega
            · have h1 := first_no (s := s) hs hys
              have h2 := fx_sh hSh (i := 0)
              rw [Nat.add_zero] at h2
              rw [h2]; exact h1
          have hFj := fns_js hEa hAg hP KK
          have hFs := fns_sh hSh KK
          rw [hfa] at hxs
          rw [hfb] at hys
          obtain ⟨k1, hk1, he1⟩ := loop_js hEa hAg hlen hFj _ _ _ _ _ h0a hxs
          obtain ⟨us, hus, k2, hk2, he2⟩ := loop_sh (fns_nx hEb KK) hSh hFs _ _ _ _ _ h0b hys
          rw [List.nil_append] at hus
          subst hus
          have hfj : (fns lj KK).fuel = 24099 := by rw [← hFj.fuel]; exact hfa
          have hloop : progLoop lj (fns lj KK) (fns lj KK).fuel [] 0 = .ok (xs ++ ys) (l'.length + jb) := by
            rw [hfj, show 24099 = k1 + (k2 + 1 + (24099 - k1 - k2 - 1)) by omega, he1]
            have := he2 (24099 - k1 - k2 - 1) xs
            rw [Nat.add_zero] at this
            exact this
          have hprog : progP lj (fns lj KK) = .ok (codeT (.mk 1 noText 0 (xs ++ ys))) (l'.length + jb) := by
            unfold progP; rw [hloop]; rfl
          have hjs : ¬ 3000 < (jn a b).size := by rw [jn_size]; omega
          unfold parseS
          rw [if_neg hjs, hlj]
          simp only
          rw [hprog]
          simp only
          split
          · exact Or.inl rfl
          · refine Or.inr ⟨_, rfl, ?_⟩
            rw [codeT_kids, codeT_kids, codeT_kids]
            rfl

/-- What one round of Same reads. -/
structure SameAt (p q g h k L c1 c2 a b : Nat) (W : World) : Prop where
  x3 : W.cell? ⟨p, 3, none⟩ = some (.slice (some ⟨g, 0, none⟩) L c1)
  y3 : W.cell? ⟨q, 3, none⟩ = some (.slice (some ⟨h, 0, none⟩) L c2)
  xk : W.cell? ⟨g, k, none⟩ = some (nPtr a)
  yk : W.cell? ⟨h, k, none⟩ = some (nPtr b)

theorem same_any (I J : Nat → Prop) : ∀ (m : Nat) (t : Tr), t.count ≤ m → t.count ≤ 100000 → ∀ (p q : Nat) (w : World), NAt I w t p → NAt J w t q →
    Calls Tryz.prog 16 #[nPtr p, nPtr q] w fun e w' => e = .returned (.bool true) ∧ Below w.heap.size w w' := by
  intro m
  induction m with
  | zero =>
    intro t ht
    cases t with
    | mk kd tx nn ks => rw [count_mk] at ht; omega
  | succ m ih =>
    intro t ht hbd p q w hnp hnq
    obtain ⟨u, ps, hblk, hrow, hri, hks⟩ := hnp.opens2
    obtain ⟨v, qs, hblq, hroq, hrj, hkq⟩ := hnq.opens2
    have hlen := NAts.length _ _ hks
    have hleq := NAts.length _ _ hkq
    have htc : t.count = 1 + Tr.counts t.kids := by cases t with | mk kd tx nn ks => exact count_mk _ _ _ _
    obtain ⟨f0, f1, f2, f3, _⟩ := node_cells hblk
    obtain ⟨g0, g1, g2, g3, _⟩ := node_cells hblq
    obtain ⟨ua, uc, hu⟩ := row_shut hrow
    subst hu
    obtain ⟨va, vc, hv⟩ := row_shut hroq
    subst hv
    rw [hlen] at f3
    rw [hleq] at g3
    have hkb : t.kids.length ≤ 100000 := by have := counts_len t.kids; omega
    obtain ⟨kd, hkd⟩ : ∃ kd, kd = t.kd := ⟨_, rfl⟩
    obtain ⟨tx, htx⟩ : ∃ tx, tx = t.tx := ⟨_, rfl⟩
    obtain ⟨nn, hnn⟩ : ∃ nn, nn = t.n := ⟨_, rfl⟩
    rw [← hkd] at f0 g0
    rw [← htx] at f1 g1
    rw [← hnn] at f2 g2
    have HKS := hide hks
    have HKQ := hide hkq
    have HROW := hide hrow
    have HROQ := hide hroq
    have HIH := hide ih
    have HTC := hide htc
    have HHT := hide ht
    have HBD := hide hbd
    have HLE := hide hlen
    have HLQ := hide hleq
    have HP := hide (lt_of_heap hblk)
    have HQ := hide (lt_of_heap hblq)
    have HF3 := hide f3
    have HG3 := hide g3
    clear hri hrj hks hkq hrow hroq ih htc ht hbd hblk hblq hnp hnq hkd htx hnn hlen hleq
    go_enter Tryz.func16, Tryz.ntmps16
    go_wp2_with fail
    go_region
    go_wp2_with fail
    go_loopw [64] (fun i wr => ∃ k : Nat, k ≤ t.kids.length ∧ i = .int .i64 k ∧ Below w.heap.size w wr) (fun i _ => t.kids.length - (intOf i).toNat)
    case atStart => exact ⟨0, Nat.zero_le _, rfl, (Below.refl _ _).drew⟩
    case round =>
      obtain ⟨k, hk, rfl, hb⟩ := hrel
      have HB := hide hb
      clear hb f0 f1 f2 f3 g0 g1 g2 g3
      by_cases hlt : k < t.kids.length
      · obtain ⟨g, cap, hv, hcell⟩ := row_open (unhide HROW) (by have := unhide HLE; omega)
        simp only [Value.slice.injEq] at hv
        obtain ⟨rfl, _, rfl⟩ := hv
        obtain ⟨h, cbp, hv, hcelq⟩ := row_open (unhide HROQ) (by have := unhide HLQ; omega)
        simp only [Value.slice.injEq] at hv
        obtain ⟨rfl, _, rfl⟩ := hv
        obtain ⟨hkp, hnk⟩ := NAts.get _ _ (unhide HKS) k hlt
        obtain ⟨hkq, hnl⟩ := NAts.get _ _ (unhide HKQ) k hlt
        have hgl : g < w.heap.size := (own_lt (unhide HROW) g rfl).1
        have hhl : h < w.heap.size := (own_lt (unhide HROQ) h rfl).1
        have hbb := unhide HB
        have hnk2 : NAt I wr.drew t.kids[k] ps[k] := NAt.later (fun x _ hl => (hbb.drew).block x hl) _ _ hnk
        have hnl2 : NAt J wr.drew t.kids[k] qs[k] := NAt.later (fun x _ hl => (hbb.drew).block x hl) _ _ hnl
        have hst : SameAt p q g h k t.kids.length uc vc ps[k] qs[k] wr.drew :=
          ⟨by rw [World.cell?_of_block (w := w) ((hbb.drew).block p (unhide HP))]; exact unhide HF3, by rw [World.cell?_of_block (w := w) ((hbb.drew).block q (unhide HQ))]; exact unhide HG3, by rw [World.cell?_of_block (w := w) ((hbb.drew).block g hgl)]; exact hcell k hkp, by rw [World.cell?_of_block (w := w) ((hbb.drew).block h hhl)]; exact hcelq k hkq⟩
        have hle := counts_le t.kids k hlt
        have h1 := unhide HTC
        have h2 := unhide HHT
        have h3 := unhide HBD
        have HC := hide ((unhide HIH) t.kids[k] (by omega) (by omega) ps[k] qs[k] wr.drew hnk2 hnl2)
        obtain ⟨a, ha⟩ : ∃ a, a = ps[k] := ⟨_, rfl⟩
        obtain ⟨b, hb⟩ : ∃ b, b = qs[k] := ⟨_, rfl⟩
        rw [← ha, ← hb] at hst HC
        have HST := hide hst
        have hki : (k : Int) < (t.kids.length : Int) := by omega
        have HX : Hid (∀ w2, Below wr.drew.heap.size wr.drew w2 → SameAt p q g h k t.kids.length uc vc a b w2 ∧ Below w.heap.size w w2) := fun w2 h2 => by
          have h3 : Below w.heap.size w w2 := hbb.drew.trans (h2.mono hbb.drew.size)
          refine ⟨⟨?_, ?_, ?_, ?_⟩, h3⟩
          · rw [World.cell?_of_block (w := w) (h3.block p (unhide HP))]; exact unhide HF3
          · rw [World.cell?_of_block (w := w) (h3.block q (unhide HQ))]; exact unhide HG3
          · rw [World.cell?_of_block (w := w) (h3.block g hgl)]; rw [ha]; exact hcell k hkp
          · rw [World.cell?_of_block (w := w) (h3.block h hhl)]; rw [hb]; exact hcelq k hkq
        clear hcell hcelq hnk hnl hnk2 hnl2 hle h1 h2 h3 ha hb hst hbb
        go_wp2_with fail
        refine wp_region_held (S := SameAt p q g h k t.kids.length uc vc a b) (by kernel_rfl) ?_
        change wpAnyH _ _ _ _ _ _ _ _ (World.drew _)
        refine wpAnyH_take (i := 0) (v := nPtr p) rfl (by kernel_rfl) (by kernel_rfl) (by kernel_rfl) (fun _ _ _ h => h) (Or.inl ⟨by kernel_rfl, fun W _ => by go_simp⟩) (unhide HST) ?_
        refine wpAnyH_take (i := 1) (v := nPtr p) rfl (by kernel_rfl) (by kernel_rfl) (by kernel_rfl) (fun _ _ _ h => h) (Or.inl ⟨by kernel_rfl, fun W _ => by go_simp⟩) (unhide HST) ?_
        refine wpAnyH_take (i := 2) (v := .pointer (some ⟨p, 3, none⟩)) rfl (by kernel_rfl) (by kernel_rfl) (by kernel_rfl) (fun _ _ _ h => h) (Or.inl ⟨by kernel_rfl, fun W _ => by go_simp⟩) (unhide HST) ?_
        refine wpAnyH_take (i := 3) (v := .slice (some ⟨g, 0, none⟩) t.kids.length uc) rfl (by kernel_rfl) (by kernel_rfl) (by kernel_rfl) (fun _ _ _ h => h) (Or.inl ⟨by kernel_rfl, fun W hW => by have hh := SameAt.x3 hW; go_simp⟩) (unhide HST) ?_
        refine wpAnyH_take (i := 4) (v := .int .i64 (k : Int)) rfl (by kernel_rfl) (by kernel_rfl) (by kernel_rfl) (fun _ _ _ h => h) (Or.inl ⟨by kernel_rfl, fun W _ => by go_simp⟩) (unhide HST) ?_
        refine wpAnyH_take (i := 5) (v := .pointer (some ⟨g, k, none⟩)) rfl (by kernel_rfl) (by kernel_rfl) (by kernel_rfl) (fun _ _ _ h => h) (Or.inl ⟨by kernel_rfl, fun W _ => by go_simp⟩) (unhide HST) ?_
        refine wpAnyH_take (i := 6) (v := nPtr a) rfl (by kernel_rfl) (by kernel_rfl) (by kernel_rfl) (fun _ _ _ h => h) (Or.inl ⟨by kernel_rfl, fun W hW => by have hh := SameAt.xk hW; go_simp⟩) (unhide HST) ?_
        refine wpAnyH_take (i := 7) (v := nPtr q) rfl (by kernel_rfl) (by kernel_rfl) (by kernel_rfl) (fun _ _ _ h => h) (Or.inl ⟨by kernel_rfl, fun W _ => by go_simp⟩) (unhide HST) ?_
        refine wpAnyH_take (i := 8) (v := nPtr q) rfl (by kernel_rfl) (by kernel_rfl) (by kernel_rfl) (fun _ _ _ h => h) (Or.inl ⟨by kernel_rfl, fun W _ => by go_simp⟩) (unhide HST) ?_
        refine wpAnyH_take (i := 9) (v := .pointer (some ⟨q, 3, none⟩)) rfl (by kernel_rfl) (by kernel_rfl) (by kernel_rfl) (fun _ _ _ h => h) (Or.inl ⟨by kernel_rfl, fun W _ => by go_simp⟩) (unhide HST) ?_
        refine wpAnyH_take (i := 10) (v := .slice (some ⟨h, 0, none⟩) t.kids.length vc) rfl (by kernel_rfl) (by kernel_rfl) (by kernel_rfl) (fun _ _ _ h => h) (Or.inl ⟨by kernel_rfl, fun W hW => by have hh := SameAt.y3 hW; go_simp⟩) (unhide HST) ?_
        refine wpAnyH_take (i := 11) (v := .int .i64 (k : Int)) rfl (by kernel_rfl) (by kernel_rfl) (by kernel_rfl) (fun _ _ _ h => h) (Or.inl ⟨by kernel_rfl, fun W _ => by go_simp⟩) (unhide HST) ?_
        refine wpAnyH_take (i := 12) (v := .pointer (some ⟨h, k, none⟩)) rfl (by kernel_rfl) (by kernel_rfl) (by kernel_rfl) (fun _ _ _ h => h) (Or.inl ⟨by kernel_rfl, fun W _ => by go_simp⟩) (unhide HST) ?_
        refine wpAnyH_take (i := 13) (v := nPtr b) rfl (by kernel_rfl) (by kernel_rfl) (by kernel_rfl) (fun _ _ _ h => h) (Or.inl ⟨by kernel_rfl, fun W hW => by have hh := SameAt.yk hW; go_simp⟩) (unhide HST) ?_
        refine wpAnyH_ready (rs := [14]) (by kernel_rfl) (by simp) (AllReadyH.cons rfl (fun K hK => ?_) AllReadyH.nil)
        go_simp
        refine Calls.mono HC.out ?_
        rintro e w2 ⟨rfl, hb2⟩
        obtain ⟨hs2, hb3⟩ := (unhide HX) w2 hb2
        have HS2 := hide hs2
        have HB3 := hide hb3
        clear hs2 hb2 hb3 HC
        refine hK.out _ _ (unhide HS2) (fun _ => ?_)
        clear hK K
        refine wpAnyH_take (i := 15) (v := .bool false) rfl (by kernel_rfl) (by kernel_rfl) (by kernel_rfl) (fun _ _ _ h => h) (Or.inl ⟨by kernel_rfl, fun W _ => by go_simp⟩) (unhide HS2) ?_
        refine wpAnyH_done (by kernel_rfl) ?_ _
        go_simp
        go_wp2_with fail
        go_roundw
        case rel => exact ⟨k + 1, by omega, by go_num, unhide HB3⟩
        case measure => simp [intOf]; omega
      · have hk2 : k = t.kids.length := by omega
        subst hk2
        go_wp2_with fail
        go_ret
        exact ⟨rfl, unhide HB⟩

theorem codeT_kd (t : Tr) : (codeT t).kd = t.kd := by unfold codeT; split <;> rfl

/-- A program's kind is the program's. -/
theorem parseS_kd {ws gs : List ByteArray} {s : ByteArray} {t : Tr} (h : parseS ws gs s = .ok t) : t.kd = 1 ∧ t.count ≤ 1500 := by
  unfold parseS at h
  split at h
  · cases h
  · split at h
    · cases h
    · split at h
      · cases h
      · rename_i hr
        split at h
        · cases h
        · cases h
          obtain ⟨ts, _, rfl⟩ := progP_inv hr
          exact ⟨codeT_kd _, by omega⟩
      · cases h

def ReadPost (r : PaR) (w : World) (e : Ending) (w' : World) : Prop :=
  match r with
  | .ok t => ∃ p, e = .returned (.tuple #[nPtr p, .bool true]) ∧ NAt (From w.heap.size) w' t p ∧ Below w.heap.size w w'
  | _ => e = .returned (.tuple #[.pointer none, .bool false]) ∧ Below w.heap.size w w'

theorem read22_any (r : PaR) (s : ByteArray) (w : World) (hk : ∀ t, r = .ok t → t.kd = 1) (hC : Calls Tryz.prog 14 #[.string s] w (PaPost r w)) : Calls Tryz.prog 11 #[.string s] w (ReadPost r w) := by
  have HC := hide hC
  clear hC
  cases r with
  | ok t =>
    have hk1 := hk t rfl
    clear hk
    go_enter Tryz.func11, Tryz.ntmps11
    go_wp2_with fail
    refine Calls.mono HC.out ?_
    rintro e w1 ⟨p, rfl, hn, hb⟩
    obtain ⟨u, ps, hblk, _, _, _⟩ := hn.opens2
    obtain ⟨f0, _, _, _, _⟩ := node_cells hblk
    rw [hk1] at f0
    have HN := hide hn
    have HB := hide hb
    clear hblk hn hb HC hk1
    go_wp2_with fail
    go_region
    go_wp2_with fail
    exact bodyPost_ret (v := .tuple #[nPtr p, .bool true]) (by simp [results, Tryz.results11, go_sem]) rfl ⟨p, rfl, NAt.later (I := From w.heap.size) (w := w1) (w' := w1.drew) (fun b _ _ => rfl) _ _ (unhide HN), (unhide HB).drew⟩
  | «at» er pl =>
    clear hk
    go_enter Tryz.func11, Tryz.ntmps11
    go_wp2_with fail
    refine Calls.mono HC.out ?_
    rintro e w1 ⟨b, rfl, _, _, hb⟩
    have HB := hide hb
    clear hb HC
    go_wp2_with fail
    go_region
    go_wp2_with fail
    exact bodyPost_ret (v := .tuple #[.pointer none, .bool false]) (by simp [results, Tryz.results11, go_sem]) rfl ⟨rfl, (unhide HB).drew⟩
  | bare =>
    clear hk
    go_enter Tryz.func11, Tryz.ntmps11
    go_wp2_with fail
    refine Calls.mono HC.out ?_
    rintro e w1 ⟨rfl, hb⟩
    have HB := hide hb
    clear hb HC
    go_wp2_with fail
    go_region
    go_wp2_with fail
    exact bodyPost_ret (v := .tuple #[.pointer none, .bool false]) (by simp [results, Tryz.results11, go_sem]) rfl ⟨rfl, (unhide HB).drew⟩

/-- READ, of every text. -/
theorem read_any22 (ws gs : List ByteArray) (s : ByteArray) (w : World) (hL : Lists ws gs w) (hgs : ∀ g ∈ gs, 1 ≤ g.size) (hT : Tabs w) : Calls Tryz.prog 11 #[.string s] w (ReadPost (parseS ws gs s) w) :=
  read22_any _ s w (fun _ h => (parseS_kd h).1) (parse_any ws gs s w hL hgs hT)

abbrev sT1 : ByteArray := ⟨#[102, 117, 110, 99, 116, 105, 111, 110, 32, 102, 40, 97, 41, 32, 123, 32, 114, 101, 116, 117, 114, 110, 32, 97, 59, 32, 125]⟩
abbrev tLa : ByteArray := ⟨#[97]⟩
abbrev tLf : ByteArray := ⟨#[102]⟩
def lT1 : List Tk := [⟨2, tFunction, 0, 0⟩, ⟨1, tLf, 0, 9⟩, ⟨5, tOpen, 0, 10⟩, ⟨1, tLa, 0, 11⟩, ⟨5, tShut, 0, 12⟩, ⟨5, tLBrace, 0, 14⟩, ⟨2, tReturn, 0, 16⟩, ⟨1, tLa, 0, 23⟩, ⟨5, tSemi, 0, 24⟩, ⟨5, tRBrace, 0, 26⟩, ⟨6, noText, 0, 27⟩]
def trT1 : Tr := .mk 1 noText 0 [.mk 5 tLf 0 [.mk 40 noText 0 [.mk 23 tLa 0 []], .mk 6 noText 0 [.mk 10 noText 0 [.mk 23 tLa 0 []]]]]

theorem toks_t1 : toksR wordsS signsS sT1 (pastN gapB sT1 0) [] = .ok lT1 := by
  have e0 : pastN gapB sT1 0 = 0 := by decide +kernel
  rw [e0, toksR_go wordsS signsS sT1 0 [] 2 0 tFunction 8 (by decide) (by kernel_rfl) (by decide)]
  have e1 : pastN gapB sT1 8 = 9 := by decide +kernel
  rw [e1, toksR_go wordsS signsS sT1 9 _ 1 0 tLf 10 (by decide) (by kernel_rfl) (by decide)]
  have e2 : pastN gapB sT1 10 = 10 := by decide +kernel
  rw [e2, toksR_go wordsS signsS sT1 10 _ 5 0 tOpen 11 (by decide) (by kernel_rfl) (by decide)]
  have e3 : pastN gapB sT1 11 = 11 := by decide +kernel
  rw [e3, toksR_go wordsS signsS sT1 11 _ 1 0 tLa 12 (by decide) (by kernel_rfl) (by decide)]
  have e4 : pastN gapB sT1 12 = 12 := by decide +kernel
  rw [e4, toksR_go wordsS signsS sT1 12 _ 5 0 tShut 13 (by decide) (by kernel_rfl) (by decide)]
  have e5 : pastN gapB sT1 13 = 14 := by decide +kernel
  rw [e5, toksR_go wordsS signsS sT1 14 _ 5 0 tLBrace 15 (by decide) (by kernel_rfl) (by decide)]
  have e6 : pastN gapB sT1 15 = 16 := by decide +kernel
  rw [e6, toksR_go wordsS signsS sT1 16 _ 2 0 tReturn 22 (by decide) (by kernel_rfl) (by decide)]
  have e7 : pastN gapB sT1 22 = 23 := by decide +kernel
  rw [e7, toksR_go wordsS signsS sT1 23 _ 1 0 tLa 24 (by decide) (by kernel_rfl) (by decide)]
  have e8 : pastN gapB sT1 24 = 24 := by decide +kernel
  rw [e8, toksR_go wordsS signsS sT1 24 _ 5 0 tSemi 25 (by decide) (by kernel_rfl) (by decide)]
  have e9 : pastN gapB sT1 25 = 26 := by decide +kernel
  rw [e9, toksR_go wordsS signsS sT1 26 _ 5 0 tRBrace 27 (by decide) (by kernel_rfl) (by decide)]
  have e10 : pastN gapB sT1 27 = 27 := by decide +kernel
  rw [e10, toksR_end wordsS signsS sT1 27 _ (by decide)]
  rfl
theorem parse_t1 : parseS wordsS signsS sT1 = .ok trT1 := by
  have h1 : progP lT1 (fns lT1 KK) = .ok trT1 10 := by kernel_rfl
  have h2 : trT1.count = 7 := by decide +kernel
  unfold parseS
  rw [if_neg (by decide), toks_t1]
  simp only
  rw [h1]
  simp only
  rw [h2, if_neg (by decide)]
theorem ill_t1 : trT1.ill = 0 := by decide +kernel
theorem tl_t1 : tl 7 trT1 0 [] false = [(6, 1, true)] := by decide +kernel

theorem us_row {w : World} {v : Value} {L : List Us} (h : w.ownsRow 0 56 3 v L.length (usCells L)) (k : Nat) (hk : k < L.length) : ∃ g cap, v = .slice (some ⟨g, 0, none⟩) L.length cap ∧ g < w.heap.size ∧ w.cell? ⟨g, k * 3, none⟩ = some (.int .i64 (L[k]).1) ∧ w.cell? ⟨g, k * 3 + 1, none⟩ = some (.int .i64 (L[k]).2.1) ∧ w.cell? ⟨g, k * 3 + 2, none⟩ = some (.bool (L[k]).2.2) := by
  obtain ⟨g, cap, rfl, _, _⟩ := h.form (by omega)
  have key : ∀ j, j < 3 → w.cell? ⟨g, k * 3 + j, none⟩ = (usC (L[k]))[j]? := by
    intro j hj
    have h1 := h.cellAt (k * 3 + j) (by omega)
    rw [h1]
    have h2 : L = L.take k ++ (L[k] :: L.drop (k + 1)) := by rw [← List.drop_eq_getElem_cons hk, List.take_append_drop]
    have h3 : usCells L = usCells (L.take k) ++ (usC (L[k]) ++ usCells (L.drop (k + 1))) := by
      conv => lhs; rw [h2]
      rw [usCells_app]
      rfl
    have h4 : (usCells (L.take k)).length = k * 3 := by rw [usCells_len, List.length_take]; omega
    rw [h3, List.getElem?_append_right (by omega), h4, Nat.add_sub_cancel_left, List.getElem?_append_left (by simpa [usC] using hj)]
  refine ⟨g, cap, rfl, (own_lt h g rfl).1, ?_, ?_, ?_⟩
  · have := key 0 (by omega); simpa [usC] using this
  · have := key 1 (by omega); simpa [usC] using this
  · have := key 2 (by omega); simpa [usC] using this

theorem us_eq (W : World) : (binOp .eql 56 (.agg #[.int .i64 6, .int .i64 1, .bool true]) (.agg #[.int .i64 6, .int .i64 1, .bool true])).run Tryz.prog W = .ok (.bool true) W := by kernel_rfl

theorem told_any (w : World) (hL : Lists wordsS signsS w) (hgs : ∀ g ∈ signsS, 1 ≤ g.size) (hT : Tabs w) : Calls Tryz.prog 30 #[] w fun e w' => e = .returned (.bool true) ∧ Below w.heap.size w w' := by
  have hr := read_any22 wordsS signsS sT1 w hL hgs hT
  rw [parse_t1] at hr
  have HR := hide hr
  clear hr hL hgs hT
  go_enter Tryz.func30, Tryz.ntmps30
  go_wp2_with fail
  refine Calls.mono HR.out ?_
  rintro e w1 ⟨p, rfl, hn, hb⟩
  obtain ⟨a, ha, rfl, hA, hd, _⟩ := NAt.ad _ _ hn
  have hcn : a.cnt = 7 := by rw [← Ad.cnt_tr, ha]; decide +kernel
  have hc := of_any a w1 hA hd (by rw [ha]; exact ill_t1) (by omega)
  rw [hcn, ha, tl_t1] at hc
  have HC := hide hc
  have HB := hide hb
  generalize a.p = q at HC
  clear HR hn hb hA hd hc hcn ha
  go_wp2_with fail
  refine Calls.mono HC.out ?_
  rintro e w2 ⟨⟨v, rfl, hv⟩, hb2⟩
  obtain ⟨g, cap, rfl, hg, c0, c1, c2⟩ := us_row hv 0 (by decide)
  have HB2 := hide ((unhide HB).trans (hb2.mono (unhide HB).size))
  have hq := us_eq w2
  clear HC hv hb2
  simp only [List.getElem_cons_zero] at c0 c1 c2
  go_wp2_with fail
  go_ret
  exact ⟨rfl, unhide HB2⟩

/-- In order, from a number on, below another one. -/
def Ord (lo hi : Nat) (l : List Us) : Prop := l.Pairwise (fun a b => a.1 < b.1) ∧ ∀ u ∈ l, (lo : Int) ≤ u.1 ∧ u.1 < (hi : Int)
theorem Ord.nil (lo hi : Nat) : Ord lo hi [] := ⟨List.Pairwise.nil, fun _ h => absurd h (by simp)⟩
theorem Ord.wide {lo hi lo' hi' : Nat} {l : List Us} (h : Ord lo hi l) (h1 : lo' ≤ lo) (h2 : hi ≤ hi') : Ord lo' hi' l := ⟨h.1, fun u hu => by have := h.2 u hu; omega⟩
theorem Ord.app {lo mi hi : Nat} {a b : List Us} (ha : Ord lo mi a) (hb : Ord mi hi b) (h1 : lo ≤ mi) (h2 : mi ≤ hi) : Ord lo hi (a ++ b) := by
  refine ⟨List.pairwise_append.2 ⟨ha.1, hb.1, fun x hx y hy => ?_⟩, fun u hu => ?_⟩
  · have e1 := (ha.2 x hx).2
    have e2 := (hb.2 y hy).1
    omega
  · rcases List.mem_append.1 hu with hu | hu
    · have := ha.2 u hu; omega
    · have := hb.2 u hu; omega
theorem tls_ord {f : Tr → Nat → List Sc → Bool → List Us} (hf : ∀ t no ch st, Ord no (no + t.count) (f t no ch st)) : ∀ (ts : List Tr) (no : Nat) (ch : List Sc) (st : Bool), Ord no (no + Tr.counts ts) (tls f ts no ch st)
  | [], no, _, _ => Ord.nil _ _
  | t :: ts, no, ch, st => by
    rw [tls, counts_cons]
    refine Ord.app (hf t no ch st) ((tls_ord hf ts (no + t.count) ch st).wide (Nat.le_refl _) (by omega)) (by omega) (by omega)
theorem tl_ord : ∀ (m : Nat) (t : Tr) (no : Nat) (ch : List Sc) (st : Bool), Ord no (no + t.count) (tl m t no ch st)
  | 0, _, _, _, _ => Ord.nil _ _
  | m + 1, t, no, ch, st => by
    have ih := tls_ord (f := tl m) (tl_ord m)
    have hc := count_kids t
    rw [tl]
    split
    · have h := ih t.kids (no + 1) ch (st || strictT t)
      refine ⟨List.pairwise_cons.2 ⟨fun u hu => ?_, h.1⟩, fun u hu => ?_⟩
      · have := (h.2 u hu).1
        show (no : Int) < u.1
        omega
      · rcases List.mem_cons.1 hu with rfl | hu
        · show (no : Int) ≤ (no : Int) ∧ (no : Int) < ((no + t.count : Nat) : Int)
          omega
        · have := h.2 u hu; omega
    split
    · exact (ih t.kids (no + 1) _ _).wide (by omega) (by omega)
    split
    · exact (ih t.kids (no + 1) _ _).wide (by omega) (by omega)
    split
    · exact (ih t.kids (no + 1) _ _).wide (by omega) (by omega)
    split
    · split
      · rename_i k0 k1 ks hk
        rw [hk, counts_cons, counts_cons] at hc
        exact (Ord.app (tl_ord m k0 (no + 1) ch (st || strictT t)) (tl_ord m k1 (no + 1 + k0.count) (⟨0, [], true⟩ :: ch) (st || strictT t)) (by omega) (by omega)).wide (by omega) (by omega)
      · exact Ord.nil _ _
    split
    · split
      · rename_i pr bl ks hk
        rw [hk, counts_cons, counts_cons] at hc
        have h2 := count_kids bl
        exact (ih bl.kids (no + 1 + pr.count + 1) _ _).wide (by omega) (by omega)
      · exact Ord.nil _ _
    split
    · exact Ord.nil _ _
    · exact (ih t.kids (no + 1) _ _).wide (by omega) (by omega)

theorem find_shut : ∀ (l : List Sc) (s : ByteArray) (b : Bool), (∀ c ∈ l, c.opn = false) → (findS l s b).2 = b
  | [], _, _, _ => rfl
  | c :: l, s, b, h => by
    rw [findS]
    split
    · rfl
    · rw [h c (by simp), find_shut l s _ (fun x hx => h x (by simp [hx]))]
      simp
theorem bad_eq (t : Tr) : badT t = (bd1 t || badTs t.kids) := by
  cases t with
  | mk kd tx n ks => rw [badT]; rfl
theorem ce_bad {t : Tr} (h : ceT t = true) : bd1 t = true := by
  have h1 : (t.kd == 35) = true := by unfold ceT at h; exact (Bool.and_eq_true _ _ ▸ h).1
  unfold bd1 evalsT
  rw [h1, h]
  simp
mutual
theorem evW_bad : ∀ t : Tr, evW t = true → badT t = true
  | .mk kd tx n ks, h => by
    rw [evW, Bool.or_eq_true] at h
    rw [badT, Bool.or_eq_true]
    rcases h with h | h
    · exact Or.inl (ce_bad h)
    · split at h
      · cases h
      · exact Or.inr (evWs_bad ks h)
theorem evWs_bad : ∀ ts : List Tr, evWs ts = true → badTs ts = true
  | [], h => by rw [evWs] at h; cases h
  | t :: ts, h => by
    rw [evWs, Bool.or_eq_true] at h
    rw [badTs, Bool.or_eq_true]
    rcases h with h | h
    · exact Or.inl (evW_bad t h)
    · exact Or.inr (evWs_bad ts h)
end
theorem evals_bad {t : Tr} (h : badT t = false) : evalsT t = false := by
  cases he : evalsT t with
  | false => rfl
  | true =>
    unfold evalsT at he
    rw [Bool.or_eq_true] at he
    rw [bad_eq, Bool.or_eq_false_iff] at h
    rcases he with he | he
    · rw [ce_bad he] at h; cases h.1
    · rw [evWs_bad _ he] at h; cases h.2
theorem bads_mem : ∀ (ts : List Tr), badTs ts = false → ∀ t ∈ ts, badT t = false
  | [], _, _, h => absurd h (by simp)
  | x :: ts, h, t, ht => by
    rw [badTs, Bool.or_eq_false_iff] at h
    rcases List.mem_cons.1 ht with rfl | ht
    · exact h.1
    · exact bads_mem ts h.2 t ht
theorem bad_kids {t : Tr} (h : badT t = false) : ∀ k ∈ t.kids, badT k = false := by
  rw [bad_eq, Bool.or_eq_false_iff] at h
  exact bads_mem _ h.2

def Sure (l : List Us) : Prop := ∀ u ∈ l, u.2.2 = true
def Shutd (ch : List Sc) : Prop := ∀ c ∈ ch, c.opn = false
theorem Shutd.cons {ch : List Sc} (h : Shutd ch) (c : Sc) (hc : c.opn = false) : Shutd (c :: ch) := fun x hx => by
  rcases List.mem_cons.1 hx with rfl | hx
  · exact hc
  · exact h x hx
theorem tls_sure {f : Tr → Nat → List Sc → Bool → List Us} : ∀ (ts : List Tr), (∀ t ∈ ts, ∀ no ch st, Shutd ch → Sure (f t no ch st)) → ∀ (no : Nat) (ch : List Sc) (st : Bool), Shutd ch → Sure (tls f ts no ch st)
  | [], _, _, _, _, _ => fun _ h => absurd h (by simp [tls])
  | t :: ts, hf, no, ch, st, hc => by
    intro u hu
    rw [tls] at hu
    rcases List.mem_append.1 hu with hu | hu
    · exact hf t (by simp) no ch st hc u hu
    · exact tls_sure ts (fun x hx => hf x (by simp [hx])) (no + t.count) ch st hc u hu
theorem tl_sure : ∀ (m : Nat) (t : Tr), badT t = false → ∀ (no : Nat) (ch : List Sc) (st : Bool), Shutd ch → Sure (tl m t no ch st)
  | 0, _, _, _, _, _, _ => fun _ h => absurd h (by simp [tl])
  | m + 1, t, hb, no, ch, st, hc => by
    have ih : ∀ (ts : List Tr), (∀ k ∈ ts, badT k = false) → ∀ no ch st, Shutd ch → Sure (tls (tl m) ts no ch st) := fun ts h no ch st hc => tls_sure ts (fun k hk no ch st hc => tl_sure m k (h k hk) no ch st hc) no ch st hc
    have hk := bad_kids hb
    rw [tl]
    split
    · intro u hu
      rcases List.mem_cons.1 hu with rfl | hu
      · exact find_shut ch t.tx true hc
      · exact ih _ hk _ _ _ hc u hu
    split
    · exact ih _ hk _ _ _ (hc.cons _ rfl)
    split
    · exact ih _ hk _ _ _ (hc.cons _ rfl)
    split
    · exact ih _ hk _ _ _ (hc.cons _ rfl)
    split
    · rename_i h9
      rw [bad_eq, bd1, h9] at hb
      simp at hb
    split
    · split
      · rename_i pr bl ks hks
        have hbl := hk bl (by rw [hks]; simp)
        refine ih _ (bad_kids hbl) _ _ _ ?_
        unfold fnSc
        refine Shutd.cons ?_ _ (by rw [evals_bad hbl]; simp)
        split
        · exact hc.cons _ rfl
        · exact hc
      · exact fun _ h => absurd h (by simp)
    split
    · exact fun _ h => absurd h (by simp)
    · exact ih _ hk _ _ _ hc
end Go.Proofs.YtoimgcjbcbhclaaGreatDoor
