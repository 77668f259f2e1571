/-
  The lexer's tokens: words are among the words, signs among the signs; a fault has a number.
-/
import Derived.Test.YtodmgaikhbmlnaaGreatDoorHn26
import Derived.Test.YtodmgaikhbmlnaaGreatDoorHn17
set_option maxRecDepth 100000
set_option maxHeartbeats 16000000
namespace Go.Proofs.YtodmgaikhbmlnaaGreatDoor
open Go.RowKit
theorem isIn_mem {ws : List ByteArray} {x : ByteArray} (h : isIn ws x = true) : x ∈ ws := by
 unfold isIn at h
 simp only [List.any_eq_true, beq_iff_eq] at h
 obtain ⟨y, hy, he⟩ := h
 have h1 : y = x := Classical.byContradiction fun hne => by
  have h2 := zp2 hne; rw [he] at h2; simp at h2
 exact h1 ▸ hy
theorem rdTok_tx {ws gs : List ByteArray} {s : ByteArray} {k : Nat} {kd n : Int} {tx : ByteArray} {e : Nat} (h : zj9 ws gs s k = .tok kd tx n e) : (kd = 2 → tx ∈ ws) ∧ (kd = 5 → tx ∈ gs) := by
 unfold zj9 at h
 split at h
 ·
  unfold zy0 at h
  split at h
  ·
   rename_i hi
   cases h; exact ⟨fun _ => isIn_mem hi, fun h => absurd h (by decide)⟩
  ·
   split at h
   ·
    cases h
   ·
    cases h; exact ⟨fun h => absurd h (by decide), fun h => absurd h (by decide)⟩
 ·
  split at h
  ·
   unfold zh4 at h
   split at h
   ·
    cases h
   ·
    split at h
    ·
     cases h
    ·
     split at h
     ·
      cases h
     ·
      cases h; exact ⟨fun h => absurd h (by decide), fun h => absurd h (by decide)⟩
  ·
   split at h
   ·
    unfold zd2 at h
    split at h
    ·
     split at h
     ·
      cases h
     ·
      cases h; exact ⟨fun h => absurd h (by decide), fun h => absurd h (by decide)⟩
    ·
     cases h
   ·
    unfold zh9 at h
    split at h
    ·
     rename_i g hg
     cases h; exact ⟨fun h => absurd h (by decide), fun _ => List.mem_of_find?_eq_some hg⟩
    ·
     cases h
theorem rdTok_er {ws gs : List ByteArray} {s : ByteArray} {k : Nat} {er : Int} {p : Nat} (h : zj9 ws gs s k = .bad er p) : er ≠ 0 := by
 unfold zj9 at h
 split at h
 ·
  unfold zy0 at h
  split at h
  ·
   cases h
  ·
   split at h
   ·
    cases h; decide
   ·
    cases h
 ·
  split at h
  ·
   unfold zh4 at h
   split at h
   ·
    cases h; decide
   ·
    split at h
    ·
     cases h; decide
    ·
     split at h
     ·
      cases h; decide
     ·
      cases h
  ·
   split at h
   ·
    unfold zd2 at h
    split at h
    ·
     split at h
     ·
      cases h; decide
     ·
      cases h
    ·
     cases h; decide
   ·
    unfold zh9 at h
    split at h
    ·
     cases h
    ·
     cases h; decide
theorem toks_tx (ws gs : List ByteArray) (s : ByteArray) (hgs : ∀ g ∈ gs, 1 ≤ g.size) : ∀ m i acc l, s.size - i = m → i ≤ s.size → (∀ t ∈ acc, (t.kd = 2 → t.tx ∈ ws) ∧ (t.kd = 5 → t.tx ∈ gs)) → zkz ws gs s i acc = .ok l →
  ∀ t ∈ l, (t.kd = 2 → t.tx ∈ ws) ∧ (t.kd = 5 → t.tx ∈ gs) := by
 intro m
 induction m using Nat.strongRecOn with
 | ind m ih =>
  intro i acc l hm hi ha h
  by_cases hlt : i < s.size
  ·
   cases hr : zj9 ws gs s i with
   | bad er p => rw [zk3 ws gs s i acc er p hlt hr] at h; cases h
   | tok kd tx n e =>
    have hb := zdq ws gs s i kd n tx e hlt hgs hr; rw [zwq ws gs s i acc kd n tx e hlt hr hb.1] at h; have hge := zxz gapB s e; have hle := zwj gapB s e hb.2
    refine ih (s.size - zz3 gapB s e) (by omega) (zz3 gapB s e) _ l rfl hle ?_ h; intro t ht
    rcases List.mem_append.1 ht with h1 | h1
    ·
     exact ha t h1
    ·
     rw [List.mem_singleton.1 h1]; exact rdTok_tx hr
  ·
   rw [zgj ws gs s i acc hlt] at h; cases h; intro t ht
   rcases List.mem_append.1 ht with h1 | h1
   ·
    exact ha t h1
   ·
    rw [List.mem_singleton.1 h1]; exact ⟨fun h => absurd (show (6 : Int) = 2 from h) (by decide), fun h => absurd (show (6 : Int) = 5 from h) (by decide)⟩
theorem toks_er (ws gs : List ByteArray) (s : ByteArray) (hgs : ∀ g ∈ gs, 1 ≤ g.size) : ∀ m i acc er p, s.size - i = m → i ≤ s.size → zkz ws gs s i acc = .bad er p → er ≠ 0 := by
 intro m
 induction m using Nat.strongRecOn with
 | ind m ih =>
  intro i acc er p hm hi h
  by_cases hlt : i < s.size
  ·
   cases hr : zj9 ws gs s i with
   | bad er2 p2 =>
    rw [zk3 ws gs s i acc er2 p2 hlt hr] at h; cases h; exact rdTok_er hr
   | tok kd tx n e =>
    have hb := zdq ws gs s i kd n tx e hlt hgs hr; rw [zwq ws gs s i acc kd n tx e hlt hr hb.1] at h; have hge := zxz gapB s e; have hle := zwj gapB s e hb.2
    exact ih (s.size - zz3 gapB s e) (by omega) (zz3 gapB s e) _ er p rfl hle h
  ·
   rw [zgj ws gs s i acc hlt] at h; cases h
theorem toks_noSg {ws gs : List ByteArray} {s : ByteArray} {l : List Tk} (hgs : ∀ g ∈ gs, 1 ≤ g.size) (hws : ∀ x ∈ ws, sgP 2 x = none) (hpm : ∀ g ∈ gs, g ≠ tPM) (h : zkz ws gs s (zz3 gapB s 0) [] = .ok l) : NoSg l ∧ NoPM l := by
 have ha := toks_tx ws gs s hgs _ _ [] l rfl (zwj gapB s 0 (Nat.zero_le _)) (fun _ h => absurd h (by simp)) h
 have hm : ∀ i, (tkA l i).kd = 6 ∨ tkA l i ∈ l := by
  intro i; unfold tkA; rw [List.getD_eq_getElem?_getD]
  by_cases hi : i < l.length
  ·
   rw [List.getElem?_eq_getElem hi]; exact Or.inr (List.getElem_mem hi)
  ·
   rw [List.getElem?_eq_none (by omega)]; exact Or.inl rfl
 refine ⟨fun i h2 => ?_, fun i h5 => ?_⟩
 ·
  rcases hm i with h6 | hmem
  ·
   rw [h6] at h2; exact absurd h2 (by decide)
  ·
   exact hws _ ((ha _ hmem).1 h2)
 ·
  rcases hm i with h6 | hmem
  ·
   rw [h6] at h5; exact absurd h5 (by decide)
  ·
   exact hpm _ ((ha _ hmem).2 h5)
def zb0 (ws : List ByteArray) (s : ByteArray) : PaR :=
 match zkz ws signsS s (zz3 gapB s 0) [] with
 | .bad er p => .at er p
 | .ok l => match zh5 l (rfns l KK) with
  | .bad er p => .at er p
  | .ok t _ => if 1500 < t.count then .bare else .ok t
  | .out => .bare
theorem rprog_total {l : List Tk} (hE : Ends l) (h0 : 0 < l.length) (hl : l.length ≤ 3001) : zh5 l (rfns l KK) ≠ .out ∧ ∀ t j, zh5 l (rfns l KK) = .ok t j → j < l.length := by
 have hF := rfns_nx hE KK
 have hfu : (rfns l KK).fuel = 24099 := rfl
 have hnx := progLoop_nx hF (by unfold KK; omega) (rfns l KK).fuel [] 0 h0 (by rw [hfu]; omega)
 have hlt := progLoop_lt hF (rfns l KK).fuel [] 0
 unfold zh5
 cases hr : zjv l (rfns l KK) (rfns l KK).fuel [] 0 with
 | out => exact absurd hr hnx
 | bad er p => exact ⟨by nofun, fun t j h => by cases h⟩
 | ok ts j => exact ⟨by nofun, fun t j2 h => by cases h; exact hlt ts j h0 hr⟩
theorem rparse_same {ws gs : List ByteArray} {s : ByteArray} {t : Tr} (hg : gs = signsS) (hs : s.size ≤ 3000) (hgs : ∀ g ∈ gs, 1 ≤ g.size) (hws : ∀ x ∈ ws, sgP 2 x = none) (hpm : ∀ g ∈ gs, g ≠ tPM) (h : zb0 ws s = .ok t) : parseS ws gs s = .ok t := by
 subst hg
 unfold zb0 at h
 unfold parseS
 rw [if_neg (by omega)]
 cases hl : zkz ws signsS s (zz3 gapB s 0) [] with
 | bad er p => rw [hl] at h; cases h
 | ok l =>
  rw [hl] at h; simp only at h ⊢; have hE := toks_ends hgs hl; have hN := toks_noSg hgs hws hpm hl; have hT := zg8 hE.1 hE.2.1 (by omega)
  cases hp : zh5 l (rfns l KK) with
  | out => rw [hp] at h; cases h
  | bad er p => rw [hp] at h; cases h
  | ok t2 j =>
   rw [hp] at h; simp only at h
   rcases rprog_imp hN.1 hN.2 KK KK t2 j hp with h2 | h2
   ·
    rw [h2]; exact h
   ·
    exact absurd h2 hT.1
theorem row_cells0 {B : Nat} {w : World} {g n cap : Nat} {ps : List Nat} (h : w.ownsRow B 22 1 (.slice (some ⟨g, 0, none⟩) n cap) n (ps.map nPtr)) : ∀ j u, (ps.map nPtr)[j]? = some u → w.cell? ((⟨g, 0, none⟩ : Addr).add j) = some u := by
 intro j u hj
 have hl : j < n * 1 := by
  rw [← h.1]; exact (List.getElem?_eq_some_iff.1 hj).1
 have h3 := h.cellAt j hl
 rw [hj] at h3
 have h4 : (⟨g, 0, none⟩ : Addr).add j = ⟨g, j, none⟩ := by simp [Addr.add]; exact Eq.symm
 rw [h4]; exact h3
theorem all_any : ∀ (m : Nat) (t : Tr), t.count ≤ m → ∀ (p : Nat) (w : World), NAt (fun _ => True) w t p → t.count ≤ 100000 →
  Calls Tryz.prog 27 #[nPtr p] w fun e w' => (∃ (v : Value) (qs : List Nat), e = .returned v ∧ w'.ownsRow w.heap.size 22 1 v t.count (qs.map nPtr)) ∧ Below w.heap.size w w' := by
 intro m
 induction m with
 | zero =>
  intro t ht
  cases t with
  | mk kd tx nn ks => rw [zqy] at ht; omega
 | succ m ih =>
  intro t ht p w hnt hbd; obtain ⟨i0, hi0, hz0, hz1, hz2⟩ := info_parts zkw; obtain ⟨u, ps, hblk, hrow, hri, hks⟩ := hnt.opens2; have hlen := NAts.length _ _ hks
  have htc : t.count = 1 + Tr.counts t.kids := by cases t with | mk kd tx nn ks => exact zqy _ _ _ _
  obtain ⟨_, _, _, f3, _⟩ := zzj hblk; obtain ⟨ua, uc, hu⟩ := zj2 hrow; subst hu; rw [hlen] at f3; have hpl := zzq hblk; have HKS := qh hks; have HROW := qh hrow; have HIH := qh ih
  have HTC := qh htc; have HHT := qh ht; have HBD := qh hbd; have HLEN := qh hlen; clear hks hrow hri ih htc ht hbd hblk hnt hlen; go_enter Tryz.func27, Tryz.ntmps27; go_wp2_with fail
  go_loopw [3, 15] (fun o i wr => ∃ (k : Nat) (qs : List Nat), k ≤ t.kids.length ∧ i = .int .i64 k ∧ wr.ownsRow w.heap.size 22 1 o (1 + Tr.counts (t.kids.take k)) (qs.map nPtr) ∧ Below w.heap.size w wr) (fun _ i _ => t.kids.length - (intOf i).toNat)
  case atStart => exact ⟨0, [p], Nat.zero_le _, rfl, by simpa [zq0] using own_one w p qv, qb.alloc qv _⟩
  case round =>
   obtain ⟨k, qs, hk, rfl, hown, hbel⟩ := hrel; have HOWN := qh hown; have HBEL := qh hbel; obtain ⟨oa, oc, rfl⟩ := zj2 hown; clear hown hbel
   by_cases hlt : k < t.kids.length
   ·
    obtain ⟨g, cap, hv, hcell⟩ := zw9 HROW.out (by have := zzz HLEN; omega)
    simp only [Value.slice.injEq] at hv; obtain ⟨rfl, _, rfl⟩ := hv; obtain ⟨hkp, hnk⟩ := NAts.get _ _ HKS.out k hlt; have hgl : g < w.heap.size := (zxj HROW.out g rfl).1
    have hck : wr.cell? ⟨g, k, none⟩ = some (nPtr ps[k]) := by
     rw [HBEL.out.cell (p := ⟨g, k, none⟩) hgl]; exact hcell k hkp
    have hnk2 : NAt (fun _ => True) wr t.kids[k] ps[k] := NAt.later (fun x _ hl => HBEL.out.block x hl) _ _ hnk; have hle := zb4 t.kids k hlt; have htk := zhx t.kids k hlt; have h1 := zzz HTC
    have h2 := zzz HHT; have h3 := zzz HBD; have htot : Tr.counts (t.kids.take k) + (t.kids[k]).count ≤ Tr.counts t.kids := by
     have : Tr.counts t.kids = Tr.counts (t.kids.take (k + 1)) + Tr.counts (t.kids.drop (k + 1)) := by rw [← zk2, List.take_append_drop]
     omega
    have HC := qh (HIH.out t.kids[k] (by omega) ps[k] wr hnk2 (by omega)); have HTK := qh htk; obtain ⟨q, hq⟩ : ∃ q, q = ps[k] := ⟨_, rfl⟩; rw [← hq] at hck HC; have hki : (k : Int) < (t.kids.length : Int) := by omega
    have hkb : t.kids.length ≤ 100000 := by have := zvz t.kids; omega
    have hcp := count_pos t.kids[k]
    generalize hcc : (t.kids[k]).count = cc at HC HTK htot hcp
    generalize hoo : Tr.counts (t.kids.take k) = oo at HOWN HTK htot
    have hmx : oo + cc ≤ 100000 := by omega
    clear hcell hnk hnk2 hle htk h1 h2 h3 htot hq hcc hoo; go_wp2_with fail; refine cm HC.out ?_; rintro e w2 ⟨⟨v, qs2, rfl, hown2⟩, hb2⟩
    have HOWN2 : Hid (w2.ownsRow w.heap.size 22 1 (.slice oa (1 + oo) oc) (1 + oo) (qs.map nPtr)) := zj4 (I := fun _ => True) (fun b _ hl => hb2.block b hl) (fun _ _ => trivial) HOWN.out
    obtain ⟨g2, cap2, rfl, hg2, hg2l⟩ := hown2.form (by omega); have HNEW := qh hown2; have hz2' : w.heap.size ≤ w2.heap.size := Nat.le_trans HBEL.out.size hb2.size
    have HB2 := qh (HBEL.out.trans (hb2.mono HBEL.out.size)); have HOB := qh (zxj HOWN2.out); clear hown2 hb2 HC hck HOWN
    go_wp2_with (at_builtin; refine wpList_append_lies _ rfl _ _ 36 rfl w.heap.size 22 i0 (.pointer none) 1 8 Tryz.underlying36 hi0 hz0 hz1 hz2 rfl (by decide) _ _ _ rfl HOWN2.out ⟨g2, 0, none⟩ cc cap2 (qs2.map nPtr) rfl HNEW.out.1 (row_cells0 HNEW.out) (row_ones qs2) (by omega) (by unfold maxLen; omega) (by omega) hz2' w2.heap.size rfl ?_)
    intro g' cap' w3 hown' hgrow hg' _; have HB3 := qh (HB2.out.grown hgrow hz2' (fun b hb => (zzz HOB b hb).2)); have HO3 := qh hown'; clear hown' hgrow hg' HNEW HOWN2; go_wp2_with fail
    go_roundw
    case measure => simp [intOf]; omega
    case rel => exact ⟨k + 1, qs ++ qs2, by omega, by push_cast; rfl, by rw [HTK.out, List.map_append, ← Nat.add_assoc]; exact HO3.out, HB3.out⟩
   ·
    have hkk : k = t.kids.length := by omega
    subst hkk; have hki : ¬ ((t.kids.length : Int) < (t.kids.length : Int)) := by omega
    have HQ : Hid (wr.ownsRow w.heap.size 22 1 (.slice oa (1 + Tr.counts (t.kids.take t.kids.length)) oc) t.count (qs.map nPtr)) := by
     have h1 := zzz HTC; have h2 := zzz HOWN; rw [List.take_length] at h2 ⊢; rw [h1]; exact h2
    clear HOWN; go_wp2_with fail; go_ret; exact ⟨⟨_, rfl, qs, by have h := zzz HQ; rw [List.take_length] at h; exact h⟩, HBEL.out⟩
end Go.Proofs.YtodmgaikhbmlnaaGreatDoor
