/-
  Joined out of JoinsO, JoinsA, WrB, WrP.
-/
import Derived.Test.YtoliilffjojfcaaGreatDoorTj12
import Derived.Test.YtoliilffjojfcaaGreatDoorTj1
import Derived.Lib.Builder
import Derived.Lib.OthersKept
import Derived.Lib.AppendStr
import Derived.Lib.UnsafeStr
/-
  JoinsO: The law's walk where both are programs, and the two together are one.
-/
namespace Go.Proofs.YtoliilffjojfcaaGreatDoor
open Go.RowKit

/-- What one round of the law's loop reads: the joined program's part, and the other's. -/
structure JoinAt (r p g h k j L M c1 c2 a b : Nat) (W : World) : Prop where
  x3 : W.cell? ⟨r, 3, none⟩ = some (.slice (some ⟨g, 0, none⟩) L c1)
  y3 : W.cell? ⟨p, 3, none⟩ = some (.slice (some ⟨h, 0, none⟩) M c2)
  xk : W.cell? ⟨g, k, none⟩ = some (nPtr a)
  yk : W.cell? ⟨h, j, none⟩ = some (nPtr b)

/-- Two parts of two programs, ready to be held against each other. -/
theorem join_at {w W : World} {n x : Tr} {r p : Nat} {k j : Nat} (I : Nat → Prop) (hn : NAt I w n r) (hx : NAt I w x p) (hb : Below w.heap.size w W) (hk : k < n.kids.length) (hj : j < x.kids.length) (he : n.kids[k] = x.kids[j]) (hc : n.count ≤ 1500) :
    ∃ g h c1 c2 a b, JoinAt r p g h k j n.kids.length x.kids.length c1 c2 a b W ∧ Calls Tryz.prog 13 #[nPtr a, nPtr b] W fun e w' => e = .returned (.bool true) ∧ Below W.heap.size W w' := by
  obtain ⟨u, ps, hblk, hrow, _, hks⟩ := hn.opens2
  obtain ⟨v, qs, hblq, hroq, _, hkq⟩ := hx.opens2
  have hlen := NAts.length _ _ hks
  have hleq := NAts.length _ _ hkq
  obtain ⟨_, _, _, f3, _⟩ := node_cells hblk
  obtain ⟨_, _, _, g3, _⟩ := node_cells hblq
  obtain ⟨g, c1, hu, hcell⟩ := row_open hrow (by omega)
  obtain ⟨h, c2, hv, hcelq⟩ := row_open hroq (by omega)
  subst hu hv
  obtain ⟨hkp, hnk⟩ := NAts.get _ _ hks k hk
  obtain ⟨hjp, hnj⟩ := NAts.get _ _ hkq j hj
  have hgl : g < w.heap.size := (own_lt hrow g rfl).1
  have hhl : h < w.heap.size := (own_lt hroq h rfl).1
  rw [hlen] at f3
  rw [hleq] at g3
  refine ⟨g, h, c1, c2, ps[k], qs[j], ⟨?_, ?_, ?_, ?_⟩, ?_⟩
  · rw [World.cell?_of_block (w := w) (hb.block r (lt_of_heap hblk))]; exact f3
  · rw [World.cell?_of_block (w := w) (hb.block p (lt_of_heap hblq))]; exact g3
  · rw [World.cell?_of_block (w := w) (hb.block g hgl)]; exact hcell k hkp
  · rw [World.cell?_of_block (w := w) (hb.block h hhl)]; exact hcelq j hjp
  · have h1 : NAt I W n.kids[k] ps[k] := NAt.later (fun b _ hl => hb.block b hl) _ _ hnk
    have h2 : NAt I W n.kids[k] qs[j] := by rw [he]; exact NAt.later (fun b _ hl => hb.block b hl) _ _ hnj
    have h3 := counts_le n.kids k hk
    have h4 : n.count = 1 + Tr.counts n.kids := by cases n with | mk kd tx nn ks => exact count_mk _ _ _ _
    exact same_any I I _ n.kids[k] (Nat.le_refl _) (by omega) _ _ W h1 h2

theorem JoinAt.later {r p g h k j L M c1 c2 a b : Nat} {w W : World} (hs : JoinAt r p g h k j L M c1 c2 a b w) (hb : Below w.heap.size w W) : JoinAt r p g h k j L M c1 c2 a b W := by
  have lt : ∀ {b o v}, w.cell? ⟨b, o, none⟩ = some v → b < w.heap.size := fun {b o v} hc => by
    rcases Nat.lt_or_ge b w.heap.size with h' | h'
    · exact h'
    · simp [World.cell?, Array.getElem?_eq_none h'] at hc
  exact ⟨by rw [hb.cell (p := ⟨r, 3, none⟩) (lt hs.x3)]; exact hs.x3, by rw [hb.cell (p := ⟨p, 3, none⟩) (lt hs.y3)]; exact hs.y3, by rw [hb.cell (p := ⟨g, k, none⟩) (lt hs.xk)]; exact hs.xk, by rw [hb.cell (p := ⟨h, j, none⟩) (lt hs.yk)]; exact hs.yk⟩

/-- A node's row of parts, read later. -/
theorem row_later {I : Nat → Prop} {w W : World} {x : Tr} {p : Nat} (hx : NAt I w x p) (hb : Below w.heap.size w W) : ∃ ua uc, W.cell? ⟨p, 3, none⟩ = some (.slice ua x.kids.length uc) := by
  obtain ⟨u, ps, hblk, hrow, _, hks⟩ := hx.opens2
  obtain ⟨_, _, _, f3, _⟩ := node_cells hblk
  obtain ⟨ua, uc, hu⟩ := row_shut hrow
  refine ⟨ua, uc, ?_⟩
  rw [World.cell?_of_block (w := w) (hb.block p (lt_of_heap hblk)), f3, hu, NAts.length _ _ hks]

/-- The last part's kind. -/
theorem last_at {I : Nat → Prop} {w : World} {x : Tr} {p : Nat} (hx : NAt I w x p) (h0 : 0 < x.kids.length) : ∃ g c z kl, w.cell? ⟨p, 3, none⟩ = some (.slice (some ⟨g, 0, none⟩) x.kids.length c) ∧ w.cell? ⟨g, x.kids.length - 1, none⟩ = some (nPtr z) ∧ w.cell? ⟨z, 0, none⟩ = some (.int .i64 kl) := by
  obtain ⟨u, ps, hblk, hrow, _, hks⟩ := hx.opens2
  have hlen := NAts.length _ _ hks
  obtain ⟨_, _, _, f3, _⟩ := node_cells hblk
  obtain ⟨g, c1, hu, hcell⟩ := row_open hrow (by omega)
  obtain ⟨hkp, hnk⟩ := NAts.get _ _ hks (x.kids.length - 1) (by omega)
  obtain ⟨_, _, hblz, _, _, _⟩ := hnk.opens2
  refine ⟨g, c1, ps[x.kids.length - 1], _, ?_, hcell _ hkp, (node_cells hblz).1⟩
  rw [f3, hu, hlen]

set_option maxRecDepth 100000 in
set_option maxHeartbeats 3000000 in
theorem joins_ok (a b : ByteArray) (w : World) (x y n : Tr) (hsz : a.size + b.size ≤ 2500) (hk : n.kids = x.kids ++ y.kids) (hc : n.count ≤ 1500)
    (ha : Calls Tryz.prog 22 #[.string a] w fun e w' => ∃ p, e = .returned (.tuple #[nPtr p, .bool true]) ∧ NAt (From w.heap.size) w' x p ∧ Below w.heap.size w w')
    (hb : ∀ W, Below w.heap.size w W → Calls Tryz.prog 22 #[.string b] W fun e w' => ∃ q, e = .returned (.tuple #[nPtr q, .bool true]) ∧ NAt (From W.heap.size) w' y q ∧ Below W.heap.size W w')
    (hp : ∀ W, Below w.heap.size w W → Calls Tryz.prog 11 #[.string (jn a b)] W fun e w' => ∃ r, e = .returned (.tuple #[nPtr r, .nilIface]) ∧ NAt (From W.heap.size) w' n r ∧ Below W.heap.size W w') (hT : Treed w) :
    Calls Tryz.prog 6 #[.string a, .string b] w fun e w' => e = .returned (.bool true) ∧ Below w.heap.size w w' := by
  have hs1 : ¬ 9223372036854775807 < a.size + 1 := by omega
  have hs2 : ¬ 9223372036854775807 < a.size + 1 + b.size := by omega
  have hz : ¬ (2500 : Int) < (a.size : Int) + (b.size : Int) := by omega
  have HK := hide hk
  have HCN := hide hc
  have HA := hide ha
  have HB := hide hb
  have HT := hide hT
  have HP := hide hp
  clear ha hb hT hp hk hc
  go_enter Tryz.func6, Tryz.ntmps6
  go_wp2_with fail
  refine Calls.mono HA.out ?_
  rintro e w1 ⟨p, rfl, hn1, hb1⟩
  have HB1 := hide hb1
  have HN1 := hide hn1
  clear hb1 hn1 HA
  have HC2 : Hid _ := (unhide HB) w1 (unhide HB1)
  clear HB
  go_wp2_with fail
  refine Calls.mono HC2.out ?_
  rintro e w2 ⟨q, rfl, hn2, hb2⟩
  have HB2 := hide ((unhide HB1).trans (hb2.mono (unhide HB1).size))
  have HM1 : Hid (NAt (From w.heap.size) w2 x p) := NAt.later (I := From w.heap.size) (fun b _ hl => hb2.block b hl) _ _ (unhide HN1)
  have HN2 : Hid (NAt (From w.heap.size) w2 y q) := NAt.mono (fun b hb _ => Nat.le_trans (unhide HB1).size hb) _ _ hn2
  clear hb2 hn2 HC2 HB1 HN1
  have HC3 : Hid _ := (unhide HT) w2 (unhide HB2)
  go_wp2_with fail
  refine Calls.mono HC3.out ?_
  rintro e w3 ⟨rfl, hb3⟩
  have HB3 := hide ((unhide HB2).trans (hb3.mono (unhide HB2).size))
  have HX3 : Hid (NAt (From w.heap.size) w3 x p) := NAt.later (I := From w.heap.size) (fun b _ hl => hb3.block b hl) _ _ (unhide HM1)
  have HY3 : Hid (NAt (From w.heap.size) w3 y q) := NAt.later (I := From w.heap.size) (fun b _ hl => hb3.block b hl) _ _ (unhide HN2)
  clear hb3 HC3 HB2 HM1 HN2
  have HC4 : Hid _ := (unhide HP) w3 (unhide HB3)
  go_wp2_with fail
  rw [cat_jn]
  refine Calls.mono HC4.out ?_
  rintro e w4 ⟨r, rfl, hn4, hb4⟩
  have HB4 := hide ((unhide HB3).trans (hb4.mono (unhide HB3).size))
  have HX4 : Hid (NAt (From w.heap.size) w4 x p) := NAt.later (I := From w.heap.size) (fun b _ hl => hb4.block b hl) _ _ (unhide HX3)
  have HY4 : Hid (NAt (From w.heap.size) w4 y q) := NAt.later (I := From w.heap.size) (fun b _ hl => hb4.block b hl) _ _ (unhide HY3)
  have HN4 : Hid (NAt (From w.heap.size) w4 n r) := NAt.mono (fun b hb _ => Nat.le_trans (unhide HB3).size hb) _ _ hn4
  clear hb4 hn4 HC4 HB3 HX3 HY3 HP HT
  have hlen : n.kids.length = x.kids.length + y.kids.length := by rw [unhide HK, List.length_append]
  have hbn : n.kids.length ≤ 1500 := by
    have h1 := counts_len n.kids
    have h2 : n.count = 1 + Tr.counts n.kids := by cases n with | mk kd tx nn ks => exact count_mk _ _ _ _
    have h3 := unhide HCN
    omega
  obtain ⟨na, nc, cn⟩ := row_later (unhide HN4) (Below.refl w4.heap.size w4)
  obtain ⟨ya, yc, cy⟩ := row_later (unhide HY4) (Below.refl w4.heap.size w4)
  have hli : (n.kids.length : Int) = (x.kids.length : Int) + (y.kids.length : Int) := by omega
  have hne : ((n.kids.length : Int) != (x.kids.length : Int) + (y.kids.length : Int)) = false := by rw [hli]; simp
  clear hsz hs1 hs2 hz
  by_cases h0 : x.kids.length = 0
  · obtain ⟨xa, xc, cx⟩ := row_later (unhide HX4) (Below.refl w4.heap.size w4)
    have h0j : ¬ 0 < x.kids.length := by omega
    go_wp2_with fail
    go_region
    clear h0 h0j
    go_wp2_with fail
    go_region
    go_wp2_with fail
    go_loopw [11] (fun i wr => ∃ k : Nat, k ≤ n.kids.length ∧ i = .int .i64 k ∧ Below w4.heap.size w4 wr) (fun i _ => n.kids.length - (intOf i).toNat)
    case atStart => exact ⟨0, Nat.zero_le _, rfl, ((Below.refl _ _).drew).drew⟩
    case round =>
      obtain ⟨k, hk, rfl, hb⟩ := hrel
      obtain ⟨na2, nc2, cn⟩ := row_later (unhide HN4) hb
      obtain ⟨xa2, xc2, cx⟩ := row_later (unhide HX4) hb
      have HBW0 := hide hb
      clear hb
      by_cases hlt : k < n.kids.length
      · have hki : (k : Int) < (n.kids.length : Int) := by omega
        have HBW : Hid (Below w4.heap.size w4 wr.drew) := (unhide HBW0).drew
        by_cases hx : k < x.kids.length
        · have hkx : (k : Int) - (x.kids.length : Int) < 0 := by omega
          have hkx2 : ¬ (0 : Int) ≤ (k : Int) - (x.kids.length : Int) := by omega
          go_wp2_with fail
          obtain ⟨g, h, c1, c2, a1, b1, hst, hcl⟩ := join_at _ (unhide HN4) (unhide HX4) (k := k) (j := k) (unhide HBW) (by omega) (by omega) (by rw [List.getElem_of_eq (unhide HK), List.getElem_append_left]) (unhide HCN)
          have HST := hide hst
          have HC := hide hcl
          clear hst hcl
          refine wp_region_held (S := JoinAt r p g h k k n.kids.length x.kids.length c1 c2 a1 b1) (by kernel_rfl) ?_
          change wpAnyH _ _ _ _ _ _ _ _ (World.drew _)
          refine wpAnyH_take (i := 0) (v := .int .i64 ((k : Int) - (x.kids.length : Int))) rfl (by kernel_rfl) (by kernel_rfl) (by kernel_rfl) (fun _ _ _ h => h) (Or.inl ⟨by kernel_rfl, fun W _ => by go_simp⟩) (unhide HST) ?_
          refine wpAnyH_take (i := 1) (v := .bool true) rfl (by kernel_rfl) (by kernel_rfl) (by kernel_rfl) (fun _ _ _ h => h) (Or.inl ⟨by kernel_rfl, fun W _ => by go_simp⟩) (unhide HST) ?_
          refine wpAnyH_take (i := 2) (v := .bool true) rfl (by kernel_rfl) (by kernel_rfl) (by kernel_rfl) (fun _ _ _ h => h) (Or.inl ⟨by kernel_rfl, fun W _ => by go_simp⟩) (unhide HST) ?_
          refine wpAnyH_take (i := 3) (v := nPtr r) rfl (by kernel_rfl) (by kernel_rfl) (by kernel_rfl) (fun _ _ _ h => h) (Or.inl ⟨by kernel_rfl, fun W _ => by go_simp⟩) (unhide HST) ?_
          refine wpAnyH_take (i := 4) (v := nPtr r) rfl (by kernel_rfl) (by kernel_rfl) (by kernel_rfl) (fun _ _ _ h => h) (Or.inl ⟨by kernel_rfl, fun W _ => by go_simp⟩) (unhide HST) ?_
          refine wpAnyH_take (i := 5) (v := .pointer (some ⟨r, 3, none⟩)) rfl (by kernel_rfl) (by kernel_rfl) (by kernel_rfl) (fun _ _ _ h => h) (Or.inl ⟨by kernel_rfl, fun W _ => by go_simp⟩) (unhide HST) ?_
          refine wpAnyH_take (i := 6) (v := .slice (some ⟨g, 0, none⟩) n.kids.length c1) rfl (by kernel_rfl) (by kernel_rfl) (by kernel_rfl) (fun _ _ _ h => h) (Or.inl ⟨by kernel_rfl, fun W hW => by have hh := JoinAt.x3 hW; go_simp⟩) (unhide HST) ?_
          refine wpAnyH_take (i := 7) (v := .int .i64 (k : Int)) rfl (by kernel_rfl) (by kernel_rfl) (by kernel_rfl) (fun _ _ _ h => h) (Or.inl ⟨by kernel_rfl, fun W _ => by go_simp⟩) (unhide HST) ?_
          refine wpAnyH_take (i := 8) (v := .pointer (some ⟨g, k, none⟩)) rfl (by kernel_rfl) (by kernel_rfl) (by kernel_rfl) (fun _ _ _ h => h) (Or.inl ⟨by kernel_rfl, fun W _ => by go_simp⟩) (unhide HST) ?_
          refine wpAnyH_take (i := 9) (v := nPtr a1) rfl (by kernel_rfl) (by kernel_rfl) (by kernel_rfl) (fun _ _ _ h => h) (Or.inl ⟨by kernel_rfl, fun W hW => by have hh := JoinAt.xk hW; go_simp⟩) (unhide HST) ?_
          refine wpAnyH_take (i := 10) (v := nPtr p) rfl (by kernel_rfl) (by kernel_rfl) (by kernel_rfl) (fun _ _ _ h => h) (Or.inl ⟨by kernel_rfl, fun W _ => by go_simp⟩) (unhide HST) ?_
          refine wpAnyH_take (i := 11) (v := nPtr p) rfl (by kernel_rfl) (by kernel_rfl) (by kernel_rfl) (fun _ _ _ h => h) (Or.inl ⟨by kernel_rfl, fun W _ => by go_simp⟩) (unhide HST) ?_
          refine wpAnyH_take (i := 12) (v := .pointer (some ⟨p, 3, none⟩)) rfl (by kernel_rfl) (by kernel_rfl) (by kernel_rfl) (fun _ _ _ h => h) (Or.inl ⟨by kernel_rfl, fun W _ => by go_simp⟩) (unhide HST) ?_
          refine wpAnyH_take (i := 13) (v := .slice (some ⟨h, 0, none⟩) x.kids.length c2) rfl (by kernel_rfl) (by kernel_rfl) (by kernel_rfl) (fun _ _ _ h => h) (Or.inl ⟨by kernel_rfl, fun W hW => by have hh := JoinAt.y3 hW; go_simp⟩) (unhide HST) ?_
          refine wpAnyH_take (i := 14) (v := .int .i64 (k : Int)) rfl (by kernel_rfl) (by kernel_rfl) (by kernel_rfl) (fun _ _ _ h => h) (Or.inl ⟨by kernel_rfl, fun W _ => by go_simp⟩) (unhide HST) ?_
          refine wpAnyH_take (i := 15) (v := .pointer (some ⟨h, k, none⟩)) rfl (by kernel_rfl) (by kernel_rfl) (by kernel_rfl) (fun _ _ _ h => h) (Or.inl ⟨by kernel_rfl, fun W _ => by go_simp⟩) (unhide HST) ?_
          refine wpAnyH_take (i := 16) (v := nPtr b1) rfl (by kernel_rfl) (by kernel_rfl) (by kernel_rfl) (fun _ _ _ h => h) (Or.inl ⟨by kernel_rfl, fun W hW => by have hh := JoinAt.yk hW; go_simp⟩) (unhide HST) ?_
          refine wpAnyH_ready (rs := [17]) (by kernel_rfl) (by simp) (AllReadyH.cons rfl (fun K hK => ?_) AllReadyH.nil)
          go_simp
          refine Calls.mono HC.out ?_
          rintro e w6 ⟨rfl, hb6⟩
          have HS6 := hide ((unhide HST).later hb6)
          have HB6 := hide ((unhide HBW).trans (hb6.mono (unhide HBW).size))
          clear hb6 HC
          refine hK.out _ _ (unhide HS6) (fun _ => ?_)
          clear hK K
          refine wpAnyH_take (i := 18) (v := .bool false) rfl (by kernel_rfl) (by kernel_rfl) (by kernel_rfl) (fun _ _ _ h => h) (Or.inl ⟨by kernel_rfl, fun W _ => by go_simp⟩) (unhide HS6) ?_
          refine wpAnyH_take (i := 19) (v := .bool false) rfl (by kernel_rfl) (by kernel_rfl) (by kernel_rfl) (fun _ _ _ h => h) (Or.inl ⟨by kernel_rfl, fun W _ => by go_simp⟩) (unhide HS6) ?_
          refine wpAnyH_take (i := 20) (v := .bool false) rfl (by kernel_rfl) (by kernel_rfl) (by kernel_rfl) (fun _ _ _ h => h) (Or.inl ⟨by kernel_rfl, fun W _ => by go_simp⟩) (unhide HS6) ?_
          refine wpAnyH_take (i := 21) (v := .int .i64 ((k : Int) - (x.kids.length : Int))) rfl (by kernel_rfl) (by kernel_rfl) (by kernel_rfl) (fun _ _ _ h => h) (Or.inl ⟨by kernel_rfl, fun W _ => by go_simp⟩) (unhide HS6) ?_
          refine wpAnyH_take (i := 22) (v := .bool false) rfl (by kernel_rfl) (by kernel_rfl) (by kernel_rfl) (fun _ _ _ h => h) (Or.inl ⟨by kernel_rfl, fun W _ => by go_simp⟩) (unhide HS6) ?_
          refine wpAnyH_take (i := 23) (v := .bool false) rfl (by kernel_rfl) (by kernel_rfl) (by kernel_rfl) (fun _ _ _ h => h) (Or.inl ⟨by kernel_rfl, fun W _ => by go_simp⟩) (unhide HS6) ?_
          refine wpAnyH_take (i := 24) (v := undef) rfl (by kernel_rfl) (by kernel_rfl) (by kernel_rfl) (fun _ _ _ h => h) (Or.inr ⟨by kernel_rfl, rfl⟩) (unhide HS6) ?_
          refine wpAnyH_take (i := 25) (v := undef) rfl (by kernel_rfl) (by kernel_rfl) (by kernel_rfl) (fun _ _ _ h => h) (Or.inr ⟨by kernel_rfl, rfl⟩) (unhide HS6) ?_
          refine wpAnyH_take (i := 26) (v := undef) rfl (by kernel_rfl) (by kernel_rfl) (by kernel_rfl) (fun _ _ _ h => h) (Or.inr ⟨by kernel_rfl, rfl⟩) (unhide HS6) ?_
          refine wpAnyH_take (i := 27) (v := undef) rfl (by kernel_rfl) (by kernel_rfl) (by kernel_rfl) (fun _ _ _ h => h) (Or.inr ⟨by kernel_rfl, rfl⟩) (unhide HS6) ?_
          refine wpAnyH_take (i := 28) (v := undef) rfl (by kernel_rfl) (by kernel_rfl) (by kernel_rfl) (fun _ _ _ h => h) (Or.inr ⟨by kernel_rfl, rfl⟩) (unhide HS6) ?_
          refine wpAnyH_take (i := 29) (v := undef) rfl (by kernel_rfl) (by kernel_rfl) (by kernel_rfl) (fun _ _ _ h => h) (Or.inr ⟨by kernel_rfl, rfl⟩) (unhide HS6) ?_
          refine wpAnyH_take (i := 30) (v := undef) rfl (by kernel_rfl) (by kernel_rfl) (by kernel_rfl) (fun _ _ _ h => h) (Or.inr ⟨by kernel_rfl, rfl⟩) (unhide HS6) ?_
          refine wpAnyH_take (i := 31) (v := undef) rfl (by kernel_rfl) (by kernel_rfl) (by kernel_rfl) (fun _ _ _ h => h) (Or.inr ⟨by kernel_rfl, rfl⟩) (unhide HS6) ?_
          refine wpAnyH_take (i := 32) (v := undef) rfl (by kernel_rfl) (by kernel_rfl) (by kernel_rfl) (fun _ _ _ h => h) (Or.inr ⟨by kernel_rfl, rfl⟩) (unhide HS6) ?_
          refine wpAnyH_take (i := 33) (v := undef) rfl (by kernel_rfl) (by kernel_rfl) (by kernel_rfl) (fun _ _ _ h => h) (Or.inr ⟨by kernel_rfl, rfl⟩) (unhide HS6) ?_
          refine wpAnyH_take (i := 34) (v := undef) rfl (by kernel_rfl) (by kernel_rfl) (by kernel_rfl) (fun _ _ _ h => h) (Or.inr ⟨by kernel_rfl, rfl⟩) (unhide HS6) ?_
          refine wpAnyH_take (i := 35) (v := undef) rfl (by kernel_rfl) (by kernel_rfl) (by kernel_rfl) (fun _ _ _ h => h) (Or.inr ⟨by kernel_rfl, rfl⟩) (unhide HS6) ?_
          refine wpAnyH_take (i := 36) (v := undef) rfl (by kernel_rfl) (by kernel_rfl) (by kernel_rfl) (fun _ _ _ h => h) (Or.inr ⟨by kernel_rfl, rfl⟩) (unhide HS6) ?_
          refine wpAnyH_take (i := 37) (v := undef) rfl (by kernel_rfl) (by kernel_rfl) (by kernel_rfl) (fun _ _ _ h => h) (Or.inr ⟨by kernel_rfl, rfl⟩) (unhide HS6) ?_
          refine wpAnyH_ready (rs := [38]) (by kernel_rfl) (by simp) (AllReadyH.cons rfl (fun K hK => ?_) AllReadyH.nil)
          go_simp
          refine hK.out _ _ (unhide HS6) (fun _ => ?_)
          clear hK K
          refine wpAnyH_take (i := 39) (v := undef) rfl (by kernel_rfl) (by kernel_rfl) (by kernel_rfl) (fun _ _ _ h => h) (Or.inr ⟨by kernel_rfl, rfl⟩) (unhide HS6) ?_
          refine wpAnyH_take (i := 40) (v := .bool false) rfl (by kernel_rfl) (by kernel_rfl) (by kernel_rfl) (fun _ _ _ h => h) (Or.inl ⟨by kernel_rfl, fun W _ => by go_simp⟩) (unhide HS6) ?_
          refine wpAnyH_take (i := 41) (v := .bool false) rfl (by kernel_rfl) (by kernel_rfl) (by kernel_rfl) (fun _ _ _ h => h) (Or.inl ⟨by kernel_rfl, fun W _ => by go_simp⟩) (unhide HS6) ?_
          refine wpAnyH_done (by kernel_rfl) ?_ _
          go_simp
          go_wp2_with fail
          go_roundw
          case rel => exact ⟨k + 1, by omega, by go_num, unhide HB6⟩
          case measure => simp [intOf]; omega
        · have hkx : ¬ (k : Int) - (x.kids.length : Int) < 0 := by omega
          have hkx2 : (0 : Int) ≤ (k : Int) - (x.kids.length : Int) := by omega
          have hxk : x.kids.length ≤ k := by omega
          have hky : (k : Int) - (x.kids.length : Int) < (y.kids.length : Int) := by omega
          have hkn : ((k : Int) - (x.kids.length : Int)).toNat = k - x.kids.length := by omega
          go_wp2_with fail
          obtain ⟨g, h, c1, c2, a1, b1, hst, hcl⟩ := join_at _ (unhide HN4) (unhide HY4) (k := k) (j := (k - x.kids.length)) (unhide HBW) (by omega) (by omega) (by rw [List.getElem_of_eq (unhide HK), List.getElem_append_right (by omega)]) (unhide HCN)
          have HST := hide hst
          have HC := hide hcl
          clear hst hcl
          refine wp_region_held (S := JoinAt r q g h k (k - x.kids.length) n.kids.length y.kids.length c1 c2 a1 b1) (by kernel_rfl) ?_
          change wpAnyH _ _ _ _ _ _ _ _ (World.drew _)
          refine wpAnyH_take (i := 0) (v := .int .i64 ((k : Int) - (x.kids.length : Int))) rfl (by kernel_rfl) (by kernel_rfl) (by kernel_rfl) (fun _ _ _ h => h) (Or.inl ⟨by kernel_rfl, fun W _ => by go_simp⟩) (unhide HST) ?_
          refine wpAnyH_take (i := 1) (v := .bool false) rfl (by kernel_rfl) (by kernel_rfl) (by kernel_rfl) (fun _ _ _ h => h) (Or.inl ⟨by kernel_rfl, fun W _ => by go_simp⟩) (unhide HST) ?_
          refine wpAnyH_take (i := 2) (v := .bool false) rfl (by kernel_rfl) (by kernel_rfl) (by kernel_rfl) (fun _ _ _ h => h) (Or.inl ⟨by kernel_rfl, fun W _ => by go_simp⟩) (unhide HST) ?_
          refine wpAnyH_take (i := 3) (v := undef) rfl (by kernel_rfl) (by kernel_rfl) (by kernel_rfl) (fun _ _ _ h => h) (Or.inr ⟨by kernel_rfl, rfl⟩) (unhide HST) ?_
          refine wpAnyH_take (i := 4) (v := undef) rfl (by kernel_rfl) (by kernel_rfl) (by kernel_rfl) (fun _ _ _ h => h) (Or.inr ⟨by kernel_rfl, rfl⟩) (unhide HST) ?_
          refine wpAnyH_take (i := 5) (v := undef) rfl (by kernel_rfl) (by kernel_rfl) (by kernel_rfl) (fun _ _ _ h => h) (Or.inr ⟨by kernel_rfl, rfl⟩) (unhide HST) ?_
          refine wpAnyH_take (i := 6) (v := undef) rfl (by kernel_rfl) (by kernel_rfl) (by kernel_rfl) (fun _ _ _ h => h) (Or.inr ⟨by kernel_rfl, rfl⟩) (unhide HST) ?_
          refine wpAnyH_take (i := 7) (v := undef) rfl (by kernel_rfl) (by kernel_rfl) (by kernel_rfl) (fun _ _ _ h => h) (Or.inr ⟨by kernel_rfl, rfl⟩) (unhide HST) ?_
          refine wpAnyH_take (i := 8) (v := undef) rfl (by kernel_rfl) (by kernel_rfl) (by kernel_rfl) (fun _ _ _ h => h) (Or.inr ⟨by kernel_rfl, rfl⟩) (unhide HST) ?_
          refine wpAnyH_take (i := 9) (v := undef) rfl (by kernel_rfl) (by kernel_rfl) (by kernel_rfl) (fun _ _ _ h => h) (Or.inr ⟨by kernel_rfl, rfl⟩) (unhide HST) ?_
          refine wpAnyH_take (i := 10) (v := undef) rfl (by kernel_rfl) (by kernel_rfl) (by kernel_rfl) (fun _ _ _ h => h) (Or.inr ⟨by kernel_rfl, rfl⟩) (unhide HST) ?_
          refine wpAnyH_take (i := 11) (v := undef) rfl (by kernel_rfl) (by kernel_rfl) (by kernel_rfl) (fun _ _ _ h => h) (Or.inr ⟨by kernel_rfl, rfl⟩) (unhide HST) ?_
          refine wpAnyH_take (i := 12) (v := undef) rfl (by kernel_rfl) (by kernel_rfl) (by kernel_rfl) (fun _ _ _ h => h) (Or.inr ⟨by kernel_rfl, rfl⟩) (unhide HST) ?_
          refine wpAnyH_take (i := 13) (v := undef) rfl (by kernel_rfl) (by kernel_rfl) (by kernel_rfl) (fun _ _ _ h => h) (Or.inr ⟨by kernel_rfl, rfl⟩) (unhide HST) ?_
          refine wpAnyH_take (i := 14) (v := undef) rfl (by kernel_rfl) (by kernel_rfl) (by kernel_rfl) (fun _ _ _ h => h) (Or.inr ⟨by kernel_rfl, rfl⟩) (unhide HST) ?_
          refine wpAnyH_take (i := 15) (v := undef) rfl (by kernel_rfl) (by kernel_rfl) (by kernel_rfl) (fun _ _ _ h => h) (Or.inr ⟨by kernel_rfl, rfl⟩) (unhide HST) ?_
          refine wpAnyH_take (i := 16) (v := undef) rfl (by kernel_rfl) (by kernel_rfl) (by kernel_rfl) (fun _ _ _ h => h) (Or.inr ⟨by kernel_rfl, rfl⟩) (unhide HST) ?_
          refine wpAnyH_ready (rs := [17]) (by kernel_rfl) (by simp) (AllReadyH.cons rfl (fun K hK => ?_) AllReadyH.nil)
          go_simp
          refine hK.out _ _ (unhide HST) (fun _ => ?_)
          clear hK K
          refine wpAnyH_take (i := 18) (v := undef) rfl (by kernel_rfl) (by kernel_rfl) (by kernel_rfl) (fun _ _ _ h => h) (Or.inr ⟨by kernel_rfl, rfl⟩) (unhide HST) ?_
          refine wpAnyH_take (i := 19) (v := .bool false) rfl (by kernel_rfl) (by kernel_rfl) (by kernel_rfl) (fun _ _ _ h => h) (Or.inl ⟨by kernel_rfl, fun W _ => by go_simp⟩) (unhide HST) ?_
          refine wpAnyH_take (i := 20) (v := .bool false) rfl (by kernel_rfl) (by kernel_rfl) (by kernel_rfl) (fun _ _ _ h => h) (Or.inl ⟨by kernel_rfl, fun W _ => by go_simp⟩) (unhide HST) ?_
          refine wpAnyH_take (i := 21) (v := .int .i64 ((k : Int) - (x.kids.length : Int))) rfl (by kernel_rfl) (by kernel_rfl) (by kernel_rfl) (fun _ _ _ h => h) (Or.inl ⟨by kernel_rfl, fun W _ => by go_simp⟩) (unhide HST) ?_
          refine wpAnyH_take (i := 22) (v := .bool true) rfl (by kernel_rfl) (by kernel_rfl) (by kernel_rfl) (fun _ _ _ h => h) (Or.inl ⟨by kernel_rfl, fun W _ => by go_simp⟩) (unhide HST) ?_
          refine wpAnyH_take (i := 23) (v := .bool true) rfl (by kernel_rfl) (by kernel_rfl) (by kernel_rfl) (fun _ _ _ h => h) (Or.inl ⟨by kernel_rfl, fun W _ => by go_simp⟩) (unhide HST) ?_
          refine wpAnyH_take (i := 24) (v := nPtr r) rfl (by kernel_rfl) (by kernel_rfl) (by kernel_rfl) (fun _ _ _ h => h) (Or.inl ⟨by kernel_rfl, fun W _ => by go_simp⟩) (unhide HST) ?_
          refine wpAnyH_take (i := 25) (v := nPtr r) rfl (by kernel_rfl) (by kernel_rfl) (by kernel_rfl) (fun _ _ _ h => h) (Or.inl ⟨by kernel_rfl, fun W _ => by go_simp⟩) (unhide HST) ?_
          refine wpAnyH_take (i := 26) (v := .pointer (some ⟨r, 3, none⟩)) rfl (by kernel_rfl) (by kernel_rfl) (by kernel_rfl) (fun _ _ _ h => h) (Or.inl ⟨by kernel_rfl, fun W _ => by go_simp⟩) (unhide HST) ?_
          refine wpAnyH_take (i := 27) (v := .slice (some ⟨g, 0, none⟩) n.kids.length c1) rfl (by kernel_rfl) (by kernel_rfl) (by kernel_rfl) (fun _ _ _ h => h) (Or.inl ⟨by kernel_rfl, fun W hW => by have hh := JoinAt.x3 hW; go_simp⟩) (unhide HST) ?_
          refine wpAnyH_take (i := 28) (v := .int .i64 (k : Int)) rfl (by kernel_rfl) (by kernel_rfl) (by kernel_rfl) (fun _ _ _ h => h) (Or.inl ⟨by kernel_rfl, fun W _ => by go_simp⟩) (unhide HST) ?_
          refine wpAnyH_take (i := 29) (v := .pointer (some ⟨g, k, none⟩)) rfl (by kernel_rfl) (by kernel_rfl) (by kernel_rfl) (fun _ _ _ h => h) (Or.inl ⟨by kernel_rfl, fun W _ => by go_simp⟩) (unhide HST) ?_
          refine wpAnyH_take (i := 30) (v := nPtr a1) rfl (by kernel_rfl) (by kernel_rfl) (by kernel_rfl) (fun _ _ _ h => h) (Or.inl ⟨by kernel_rfl, fun W hW => by have hh := JoinAt.xk hW; go_simp⟩) (unhide HST) ?_
          refine wpAnyH_take (i := 31) (v := nPtr q) rfl (by kernel_rfl) (by kernel_rfl) (by kernel_rfl) (fun _ _ _ h => h) (Or.inl ⟨by kernel_rfl, fun W _ => by go_simp⟩) (unhide HST) ?_
          refine wpAnyH_take (i := 32) (v := nPtr q) rfl (by kernel_rfl) (by kernel_rfl) (by kernel_rfl) (fun _ _ _ h => h) (Or.inl ⟨by kernel_rfl, fun W _ => by go_simp⟩) (unhide HST) ?_
          refine wpAnyH_take (i := 33) (v := .pointer (some ⟨q, 3, none⟩)) rfl (by kernel_rfl) (by kernel_rfl) (by kernel_rfl) (fun _ _ _ h => h) (Or.inl ⟨by kernel_rfl, fun W _ => by go_simp⟩) (unhide HST) ?_
          refine wpAnyH_take (i := 34) (v := .slice (some ⟨h, 0, none⟩) y.kids.length c2) rfl (by kernel_rfl) (by kernel_rfl) (by kernel_rfl) (fun _ _ _ h => h) (Or.inl ⟨by kernel_rfl, fun W hW => by have hh := JoinAt.y3 hW; go_simp⟩) (unhide HST) ?_
          refine wpAnyH_take (i := 35) (v := .int .i64 ((k : Int) - (x.kids.length : Int))) rfl (by kernel_rfl) (by kernel_rfl) (by kernel_rfl) (fun _ _ _ h => h) (Or.inl ⟨by kernel_rfl, fun W _ => by go_simp⟩) (unhide HST) ?_
          refine wpAnyH_take (i := 36) (v := .pointer (some ⟨h, (k - x.kids.length), none⟩)) rfl (by kernel_rfl) (by kernel_rfl) (by kernel_rfl) (fun _ _ _ h => h) (Or.inl ⟨by kernel_rfl, fun W _ => by go_simp⟩) (unhide HST) ?_
          refine wpAnyH_take (i := 37) (v := nPtr b1) rfl (by kernel_rfl) (by kernel_rfl) (by kernel_rfl) (fun _ _ _ h => h) (Or.inl ⟨by kernel_rfl, fun W hW => by have hh := JoinAt.yk hW; go_simp⟩) (unhide HST) ?_
          refine wpAnyH_ready (rs := [38]) (by kernel_rfl) (by simp) (AllReadyH.cons rfl (fun K hK => ?_) AllReadyH.nil)
          go_simp
          refine Calls.mono HC.out ?_
          rintro e w6 ⟨rfl, hb6⟩
          have HS6 := hide ((unhide HST).later hb6)
          have HB6 := hide ((unhide HBW).trans (hb6.mono (unhide HBW).size))
          clear hb6 HC
          refine hK.out _ _ (unhide HS6) (fun _ => ?_)
          clear hK K
          refine wpAnyH_take (i := 39) (v := .bool false) rfl (by kernel_rfl) (by kernel_rfl) (by kernel_rfl) (fun _ _ _ h => h) (Or.inl ⟨by kernel_rfl, fun W _ => by go_simp⟩) (unhide HS6) ?_
          refine wpAnyH_take (i := 40) (v := .bool false) rfl (by kernel_rfl) (by kernel_rfl) (by kernel_rfl) (fun _ _ _ h => h) (Or.inl ⟨by kernel_rfl, fun W _ => by go_simp⟩) (unhide HS6) ?_
          refine wpAnyH_take (i := 41) (v := .bool false) rfl (by kernel_rfl) (by kernel_rfl) (by kernel_rfl) (fun _ _ _ h => h) (Or.inl ⟨by kernel_rfl, fun W _ => by go_simp⟩) (unhide HS6) ?_
          refine wpAnyH_done (by kernel_rfl) ?_ _
          go_simp
          go_wp2_with fail
          go_roundw
          case rel => exact ⟨k + 1, by omega, by go_num, unhide HB6⟩
          case measure => simp [intOf]; omega
      · have hk2 : k = n.kids.length := by omega
        subst hk2
        go_wp2_with fail
        go_ret
        exact ⟨rfl, (unhide HB4).trans ((unhide HBW0).mono (unhide HB4).size)⟩

  · obtain ⟨xg, xc, z, kl, cx, cz, ck⟩ := last_at (unhide HX4) (by omega)
    have h0n : 0 < x.kids.length := by omega
    have h0m : ((x.kids.length : Int) - 1).toNat = x.kids.length - 1 := by omega
    have h0k : (0 : Int) ≤ (x.kids.length : Int) - 1 := by omega
    have h0l : (x.kids.length : Int) - 1 < (x.kids.length : Int) := by omega
    by_cases h7 : kl = 7
    · subst h7
      go_wp2_with fail
      go_region
      go_wp2_with fail
      go_ret
      exact ⟨rfl, (unhide HB4).drew⟩
    · have hk7 : (kl == 7) = false := by simpa using h7
      have hk8 : decide (kl = 7) = false := by simpa using h7
      go_wp2_with fail
      go_region
      clear h0 h0m h0k h0l cz ck
      go_wp2_with fail
      go_region
      go_wp2_with fail
      go_loopw [11] (fun i wr => ∃ k : Nat, k ≤ n.kids.length ∧ i = .int .i64 k ∧ Below w4.heap.size w4 wr) (fun i _ => n.kids.length - (intOf i).toNat)
      case atStart => exact ⟨0, Nat.zero_le _, rfl, ((Below.refl _ _).drew).drew⟩
      case round =>
        obtain ⟨k, hk, rfl, hb⟩ := hrel
        obtain ⟨na2, nc2, cn⟩ := row_later (unhide HN4) hb
        obtain ⟨xa2, xc2, cx⟩ := row_later (unhide HX4) hb
        have HBW0 := hide hb
        clear hb
        by_cases hlt : k < n.kids.length
        · have hki : (k : Int) < (n.kids.length : Int) := by omega
          have HBW : Hid (Below w4.heap.size w4 wr.drew) := (unhide HBW0).drew
          by_cases hx : k < x.kids.length
          · have hkx : (k : Int) - (x.kids.length : Int) < 0 := by omega
            have hkx2 : ¬ (0 : Int) ≤ (k : Int) - (x.kids.length : Int) := by omega
            go_wp2_with fail
            obtain ⟨g, h, c1, c2, a1, b1, hst, hcl⟩ := join_at _ (unhide HN4) (unhide HX4) (k := k) (j := k) (unhide HBW) (by omega) (by omega) (by rw [List.getElem_of_eq (unhide HK), List.getElem_append_left]) (unhide HCN)
            have HST := hide hst
            have HC := hide hcl
            clear hst hcl
            refine wp_region_held (S := JoinAt r p g h k k n.kids.length x.kids.length c1 c2 a1 b1) (by kernel_rfl) ?_
            change wpAnyH _ _ _ _ _ _ _ _ (World.drew _)
            refine wpAnyH_take (i := 0) (v := .int .i64 ((k : Int) - (x.kids.length : Int))) rfl (by kernel_rfl) (by kernel_rfl) (by kernel_rfl) (fun _ _ _ h => h) (Or.inl ⟨by kernel_rfl, fun W _ => by go_simp⟩) (unhide HST) ?_
            refine wpAnyH_take (i := 1) (v := .bool true) rfl (by kernel_rfl) (by kernel_rfl) (by kernel_rfl) (fun _ _ _ h => h) (Or.inl ⟨by kernel_rfl, fun W _ => by go_simp⟩) (unhide HST) ?_
            refine wpAnyH_take (i := 2) (v := .bool true) rfl (by kernel_rfl) (by kernel_rfl) (by kernel_rfl) (fun _ _ _ h => h) (Or.inl ⟨by kernel_rfl, fun W _ => by go_simp⟩) (unhide HST) ?_
            refine wpAnyH_take (i := 3) (v := nPtr r) rfl (by kernel_rfl) (by kernel_rfl) (by kernel_rfl) (fun _ _ _ h => h) (Or.inl ⟨by kernel_rfl, fun W _ => by go_simp⟩) (unhide HST) ?_
            refine wpAnyH_take (i := 4) (v := nPtr r) rfl (by kernel_rfl) (by kernel_rfl) (by kernel_rfl) (fun _ _ _ h => h) (Or.inl ⟨by kernel_rfl, fun W _ => by go_simp⟩) (unhide HST) ?_
            refine wpAnyH_take (i := 5) (v := .pointer (some ⟨r, 3, none⟩)) rfl (by kernel_rfl) (by kernel_rfl) (by kernel_rfl) (fun _ _ _ h => h) (Or.inl ⟨by kernel_rfl, fun W _ => by go_simp⟩) (unhide HST) ?_
            refine wpAnyH_take (i := 6) (v := .slice (some ⟨g, 0, none⟩) n.kids.length c1) rfl (by kernel_rfl) (by kernel_rfl) (by kernel_rfl) (fun _ _ _ h => h) (Or.inl ⟨by kernel_rfl, fun W hW => by have hh := JoinAt.x3 hW; go_simp⟩) (unhide HST) ?_
            refine wpAnyH_take (i := 7) (v := .int .i64 (k : Int)) rfl (by kernel_rfl) (by kernel_rfl) (by kernel_rfl) (fun _ _ _ h => h) (Or.inl ⟨by kernel_rfl, fun W _ => by go_simp⟩) (unhide HST) ?_
            refine wpAnyH_take (i := 8) (v := .pointer (some ⟨g, k, none⟩)) rfl (by kernel_rfl) (by kernel_rfl) (by kernel_rfl) (fun _ _ _ h => h) (Or.inl ⟨by kernel_rfl, fun W _ => by go_simp⟩) (unhide HST) ?_
            refine wpAnyH_take (i := 9) (v := nPtr a1) rfl (by kernel_rfl) (by kernel_rfl) (by kernel_rfl) (fun _ _ _ h => h) (Or.inl ⟨by kernel_rfl, fun W hW => by have hh := JoinAt.xk hW; go_simp⟩) (unhide HST) ?_
            refine wpAnyH_take (i := 10) (v := nPtr p) rfl (by kernel_rfl) (by kernel_rfl) (by kernel_rfl) (fun _ _ _ h => h) (Or.inl ⟨by kernel_rfl, fun W _ => by go_simp⟩) (unhide HST) ?_
            refine wpAnyH_take (i := 11) (v := nPtr p) rfl (by kernel_rfl) (by kernel_rfl) (by kernel_rfl) (fun _ _ _ h => h) (Or.inl ⟨by kernel_rfl, fun W _ => by go_simp⟩) (unhide HST) ?_
            refine wpAnyH_take (i := 12) (v := .pointer (some ⟨p, 3, none⟩)) rfl (by kernel_rfl) (by kernel_rfl) (by kernel_rfl) (fun _ _ _ h => h) (Or.inl ⟨by kernel_rfl, fun W _ => by go_simp⟩) (unhide HST) ?_
            refine wpAnyH_take (i := 13) (v := .slice (some ⟨h, 0, none⟩) x.kids.length c2) rfl (by kernel_rfl) (by kernel_rfl) (by kernel_rfl) (fun _ _ _ h => h) (Or.inl ⟨by kernel_rfl, fun W hW => by have hh := JoinAt.y3 hW; go_simp⟩) (unhide HST) ?_
            refine wpAnyH_take (i := 14) (v := .int .i64 (k : Int)) rfl (by kernel_rfl) (by kernel_rfl) (by kernel_rfl) (fun _ _ _ h => h) (Or.inl ⟨by kernel_rfl, fun W _ => by go_simp⟩) (unhide HST) ?_
            refine wpAnyH_take (i := 15) (v := .pointer (some ⟨h, k, none⟩)) rfl (by kernel_rfl) (by kernel_rfl) (by kernel_rfl) (fun _ _ _ h => h) (Or.inl ⟨by kernel_rfl, fun W _ => by go_simp⟩) (unhide HST) ?_
            refine wpAnyH_take (i := 16) (v := nPtr b1) rfl (by kernel_rfl) (by kernel_rfl) (by kernel_rfl) (fun _ _ _ h => h) (Or.inl ⟨by kernel_rfl, fun W hW => by have hh := JoinAt.yk hW; go_simp⟩) (unhide HST) ?_
            refine wpAnyH_ready (rs := [17]) (by kernel_rfl) (by simp) (AllReadyH.cons rfl (fun K hK => ?_) AllReadyH.nil)
            go_simp
            refine Calls.mono HC.out ?_
            rintro e w6 ⟨rfl, hb6⟩
            have HS6 := hide ((unhide HST).later hb6)
            have HB6 := hide ((unhide HBW).trans (hb6.mono (unhide HBW).size))
            clear hb6 HC
            refine hK.out _ _ (unhide HS6) (fun _ => ?_)
            clear hK K
            refine wpAnyH_take (i := 18) (v := .bool false) rfl (by kernel_rfl) (by kernel_rfl) (by kernel_rfl) (fun _ _ _ h => h) (Or.inl ⟨by kernel_rfl, fun W _ => by go_simp⟩) (unhide HS6) ?_
            refine wpAnyH_take (i := 19) (v := .bool false) rfl (by kernel_rfl) (by kernel_rfl) (by kernel_rfl) (fun _ _ _ h => h) (Or.inl ⟨by kernel_rfl, fun W _ => by go_simp⟩) (unhide HS6) ?_
            refine wpAnyH_take (i := 20) (v := .bool false) rfl (by kernel_rfl) (by kernel_rfl) (by kernel_rfl) (fun _ _ _ h => h) (Or.inl ⟨by kernel_rfl, fun W _ => by go_simp⟩) (unhide HS6) ?_
            refine wpAnyH_take (i := 21) (v := .int .i64 ((k : Int) - (x.kids.length : Int))) rfl (by kernel_rfl) (by kernel_rfl) (by kernel_rfl) (fun _ _ _ h => h) (Or.inl ⟨by kernel_rfl, fun W _ => by go_simp⟩) (unhide HS6) ?_
            refine wpAnyH_take (i := 22) (v := .bool false) rfl (by kernel_rfl) (by kernel_rfl) (by kernel_rfl) (fun _ _ _ h => h) (Or.inl ⟨by kernel_rfl, fun W _ => by go_simp⟩) (unhide HS6) ?_
            refine wpAnyH_take (i := 23) (v := .bool false) rfl (by kernel_rfl) (by kernel_rfl) (by kernel_rfl) (fun _ _ _ h => h) (Or.inl ⟨by kernel_rfl, fun W _ => by go_simp⟩) (unhide HS6) ?_
            refine wpAnyH_take (i := 24) (v := undef) rfl (by kernel_rfl) (by kernel_rfl) (by kernel_rfl) (fun _ _ _ h => h) (Or.inr ⟨by kernel_rfl, rfl⟩) (unhide HS6) ?_
            refine wpAnyH_take (i := 25) (v := undef) rfl (by kernel_rfl) (by kernel_rfl) (by kernel_rfl) (fun _ _ _ h => h) (Or.inr ⟨by kernel_rfl, rfl⟩) (unhide HS6) ?_
            refine wpAnyH_take (i := 26) (v := undef) rfl (by kernel_rfl) (by kernel_rfl) (by kernel_rfl) (fun _ _ _ h => h) (Or.inr ⟨by kernel_rfl, rfl⟩) (unhide HS6) ?_
            refine wpAnyH_take (i := 27) (v := undef) rfl (by kernel_rfl) (by kernel_rfl) (by kernel_rfl) (fun _ _ _ h => h) (Or.inr ⟨by kernel_rfl, rfl⟩) (unhide HS6) ?_
            refine wpAnyH_take (i := 28) (v := undef) rfl (by kernel_rfl) (by kernel_rfl) (by kernel_rfl) (fun _ _ _ h => h) (Or.inr ⟨by kernel_rfl, rfl⟩) (unhide HS6) ?_
            refine wpAnyH_take (i := 29) (v := undef) rfl (by kernel_rfl) (by kernel_rfl) (by kernel_rfl) (fun _ _ _ h => h) (Or.inr ⟨by kernel_rfl, rfl⟩) (unhide HS6) ?_
            refine wpAnyH_take (i := 30) (v := undef) rfl (by kernel_rfl) (by kernel_rfl) (by kernel_rfl) (fun _ _ _ h => h) (Or.inr ⟨by kernel_rfl, rfl⟩) (unhide HS6) ?_
            refine wpAnyH_take (i := 31) (v := undef) rfl (by kernel_rfl) (by kernel_rfl) (by kernel_rfl) (fun _ _ _ h => h) (Or.inr ⟨by kernel_rfl, rfl⟩) (unhide HS6) ?_
            refine wpAnyH_take (i := 32) (v := undef) rfl (by kernel_rfl) (by kernel_rfl) (by kernel_rfl) (fun _ _ _ h => h) (Or.inr ⟨by kernel_rfl, rfl⟩) (unhide HS6) ?_
            refine wpAnyH_take (i := 33) (v := undef) rfl (by kernel_rfl) (by kernel_rfl) (by kernel_rfl) (fun _ _ _ h => h) (Or.inr ⟨by kernel_rfl, rfl⟩) (unhide HS6) ?_
            refine wpAnyH_take (i := 34) (v := undef) rfl (by kernel_rfl) (by kernel_rfl) (by kernel_rfl) (fun _ _ _ h => h) (Or.inr ⟨by kernel_rfl, rfl⟩) (unhide HS6) ?_
            refine wpAnyH_take (i := 35) (v := undef) rfl (by kernel_rfl) (by kernel_rfl) (by kernel_rfl) (fun _ _ _ h => h) (Or.inr ⟨by kernel_rfl, rfl⟩) (unhide HS6) ?_
            refine wpAnyH_take (i := 36) (v := undef) rfl (by kernel_rfl) (by kernel_rfl) (by kernel_rfl) (fun _ _ _ h => h) (Or.inr ⟨by kernel_rfl, rfl⟩) (unhide HS6) ?_
            refine wpAnyH_take (i := 37) (v := undef) rfl (by kernel_rfl) (by kernel_rfl) (by kernel_rfl) (fun _ _ _ h => h) (Or.inr ⟨by kernel_rfl, rfl⟩) (unhide HS6) ?_
            refine wpAnyH_ready (rs := [38]) (by kernel_rfl) (by simp) (AllReadyH.cons rfl (fun K hK => ?_) AllReadyH.nil)
            go_simp
            refine hK.out _ _ (unhide HS6) (fun _ => ?_)
            clear hK K
            refine wpAnyH_take (i := 39) (v := undef) rfl (by kernel_rfl) (by kernel_rfl) (by kernel_rfl) (fun _ _ _ h => h) (Or.inr ⟨by kernel_rfl, rfl⟩) (unhide HS6) ?_
            refine wpAnyH_take (i := 40) (v := .bool false) rfl (by kernel_rfl) (by kernel_rfl) (by kernel_rfl) (fun _ _ _ h => h) (Or.inl ⟨by kernel_rfl, fun W _ => by go_simp⟩) (unhide HS6) ?_
            refine wpAnyH_take (i := 41) (v := .bool false) rfl (by kernel_rfl) (by kernel_rfl) (by kernel_rfl) (fun _ _ _ h => h) (Or.inl ⟨by kernel_rfl, fun W _ => by go_simp⟩) (unhide HS6) ?_
            refine wpAnyH_done (by kernel_rfl) ?_ _
            go_simp
            go_wp2_with fail
            go_roundw
            case rel => exact ⟨k + 1, by omega, by go_num, unhide HB6⟩
            case measure => simp [intOf]; omega
          · have hkx : ¬ (k : Int) - (x.kids.length : Int) < 0 := by omega
            have hkx2 : (0 : Int) ≤ (k : Int) - (x.kids.length : Int) := by omega
            have hxk : x.kids.length ≤ k := by omega
            have hky : (k : Int) - (x.kids.length : Int) < (y.kids.length : Int) := by omega
            have hkn : ((k : Int) - (x.kids.length : Int)).toNat = k - x.kids.length := by omega
            go_wp2_with fail
            obtain ⟨g, h, c1, c2, a1, b1, hst, hcl⟩ := join_at _ (unhide HN4) (unhide HY4) (k := k) (j := (k - x.kids.length)) (unhide HBW) (by omega) (by omega) (by rw [List.getElem_of_eq (unhide HK), List.getElem_append_right (by omega)]) (unhide HCN)
            have HST := hide hst
            have HC := hide hcl
            clear hst hcl
            refine wp_region_held (S := JoinAt r q g h k (k - x.kids.length) n.kids.length y.kids.length c1 c2 a1 b1) (by kernel_rfl) ?_
            change wpAnyH _ _ _ _ _ _ _ _ (World.drew _)
            refine wpAnyH_take (i := 0) (v := .int .i64 ((k : Int) - (x.kids.length : Int))) rfl (by kernel_rfl) (by kernel_rfl) (by kernel_rfl) (fun _ _ _ h => h) (Or.inl ⟨by kernel_rfl, fun W _ => by go_simp⟩) (unhide HST) ?_
            refine wpAnyH_take (i := 1) (v := .bool false) rfl (by kernel_rfl) (by kernel_rfl) (by kernel_rfl) (fun _ _ _ h => h) (Or.inl ⟨by kernel_rfl, fun W _ => by go_simp⟩) (unhide HST) ?_
            refine wpAnyH_take (i := 2) (v := .bool false) rfl (by kernel_rfl) (by kernel_rfl) (by kernel_rfl) (fun _ _ _ h => h) (Or.inl ⟨by kernel_rfl, fun W _ => by go_simp⟩) (unhide HST) ?_
            refine wpAnyH_take (i := 3) (v := undef) rfl (by kernel_rfl) (by kernel_rfl) (by kernel_rfl) (fun _ _ _ h => h) (Or.inr ⟨by kernel_rfl, rfl⟩) (unhide HST) ?_
            refine wpAnyH_take (i := 4) (v := undef) rfl (by kernel_rfl) (by kernel_rfl) (by kernel_rfl) (fun _ _ _ h => h) (Or.inr ⟨by kernel_rfl, rfl⟩) (unhide HST) ?_
            refine wpAnyH_take (i := 5) (v := undef) rfl (by kernel_rfl) (by kernel_rfl) (by kernel_rfl) (fun _ _ _ h => h) (Or.inr ⟨by kernel_rfl, rfl⟩) (unhide HST) ?_
            refine wpAnyH_take (i := 6) (v := undef) rfl (by kernel_rfl) (by kernel_rfl) (by kernel_rfl) (fun _ _ _ h => h) (Or.inr ⟨by kernel_rfl, rfl⟩) (unhide HST) ?_
            refine wpAnyH_take (i := 7) (v := undef) rfl (by kernel_rfl) (by kernel_rfl) (by kernel_rfl) (fun _ _ _ h => h) (Or.inr ⟨by kernel_rfl, rfl⟩) (unhide HST) ?_
            refine wpAnyH_take (i := 8) (v := undef) rfl (by kernel_rfl) (by kernel_rfl) (by kernel_rfl) (fun _ _ _ h => h) (Or.inr ⟨by kernel_rfl, rfl⟩) (unhide HST) ?_
            refine wpAnyH_take (i := 9) (v := undef) rfl (by kernel_rfl) (by kernel_rfl) (by kernel_rfl) (fun _ _ _ h => h) (Or.inr ⟨by kernel_rfl, rfl⟩) (unhide HST) ?_
            refine wpAnyH_take (i := 10) (v := undef) rfl (by kernel_rfl) (by kernel_rfl) (by kernel_rfl) (fun _ _ _ h => h) (Or.inr ⟨by kernel_rfl, rfl⟩) (unhide HST) ?_
            refine wpAnyH_take (i := 11) (v := undef) rfl (by kernel_rfl) (by kernel_rfl) (by kernel_rfl) (fun _ _ _ h => h) (Or.inr ⟨by kernel_rfl, rfl⟩) (unhide HST) ?_
            refine wpAnyH_take (i := 12) (v := undef) rfl (by kernel_rfl) (by kernel_rfl) (by kernel_rfl) (fun _ _ _ h => h) (Or.inr ⟨by kernel_rfl, rfl⟩) (unhide HST) ?_
            refine wpAnyH_take (i := 13) (v := undef) rfl (by kernel_rfl) (by kernel_rfl) (by kernel_rfl) (fun _ _ _ h => h) (Or.inr ⟨by kernel_rfl, rfl⟩) (unhide HST) ?_
            refine wpAnyH_take (i := 14) (v := undef) rfl (by kernel_rfl) (by kernel_rfl) (by kernel_rfl) (fun _ _ _ h => h) (Or.inr ⟨by kernel_rfl, rfl⟩) (unhide HST) ?_
            refine wpAnyH_take (i := 15) (v := undef) rfl (by kernel_rfl) (by kernel_rfl) (by kernel_rfl) (fun _ _ _ h => h) (Or.inr ⟨by kernel_rfl, rfl⟩) (unhide HST) ?_
            refine wpAnyH_take (i := 16) (v := undef) rfl (by kernel_rfl) (by kernel_rfl) (by kernel_rfl) (fun _ _ _ h => h) (Or.inr ⟨by kernel_rfl, rfl⟩) (unhide HST) ?_
            refine wpAnyH_ready (rs := [17]) (by kernel_rfl) (by simp) (AllReadyH.cons rfl (fun K hK => ?_) AllReadyH.nil)
            go_simp
            refine hK.out _ _ (unhide HST) (fun _ => ?_)
            clear hK K
            refine wpAnyH_take (i := 18) (v := undef) rfl (by kernel_rfl) (by kernel_rfl) (by kernel_rfl) (fun _ _ _ h => h) (Or.inr ⟨by kernel_rfl, rfl⟩) (unhide HST) ?_
            refine wpAnyH_take (i := 19) (v := .bool false) rfl (by kernel_rfl) (by kernel_rfl) (by kernel_rfl) (fun _ _ _ h => h) (Or.inl ⟨by kernel_rfl, fun W _ => by go_simp⟩) (unhide HST) ?_
            refine wpAnyH_take (i := 20) (v := .bool false) rfl (by kernel_rfl) (by kernel_rfl) (by kernel_rfl) (fun _ _ _ h => h) (Or.inl ⟨by kernel_rfl, fun W _ => by go_simp⟩) (unhide HST) ?_
            refine wpAnyH_take (i := 21) (v := .int .i64 ((k : Int) - (x.kids.length : Int))) rfl (by kernel_rfl) (by kernel_rfl) (by kernel_rfl) (fun _ _ _ h => h) (Or.inl ⟨by kernel_rfl, fun W _ => by go_simp⟩) (unhide HST) ?_
            refine wpAnyH_take (i := 22) (v := .bool true) rfl (by kernel_rfl) (by kernel_rfl) (by kernel_rfl) (fun _ _ _ h => h) (Or.inl ⟨by kernel_rfl, fun W _ => by go_simp⟩) (unhide HST) ?_
            refine wpAnyH_take (i := 23) (v := .bool true) rfl (by kernel_rfl) (by kernel_rfl) (by kernel_rfl) (fun _ _ _ h => h) (Or.inl ⟨by kernel_rfl, fun W _ => by go_simp⟩) (unhide HST) ?_
            refine wpAnyH_take (i := 24) (v := nPtr r) rfl (by kernel_rfl) (by kernel_rfl) (by kernel_rfl) (fun _ _ _ h => h) (Or.inl ⟨by kernel_rfl, fun W _ => by go_simp⟩) (unhide HST) ?_
            refine wpAnyH_take (i := 25) (v := nPtr r) rfl (by kernel_rfl) (by kernel_rfl) (by kernel_rfl) (fun _ _ _ h => h) (Or.inl ⟨by kernel_rfl, fun W _ => by go_simp⟩) (unhide HST) ?_
            refine wpAnyH_take (i := 26) (v := .pointer (some ⟨r, 3, none⟩)) rfl (by kernel_rfl) (by kernel_rfl) (by kernel_rfl) (fun _ _ _ h => h) (Or.inl ⟨by kernel_rfl, fun W _ => by go_simp⟩) (unhide HST) ?_
            refine wpAnyH_take (i := 27) (v := .slice (some ⟨g, 0, none⟩) n.kids.length c1) rfl (by kernel_rfl) (by kernel_rfl) (by kernel_rfl) (fun _ _ _ h => h) (Or.inl ⟨by kernel_rfl, fun W hW => by have hh := JoinAt.x3 hW; go_simp⟩) (unhide HST) ?_
            refine wpAnyH_take (i := 28) (v := .int .i64 (k : Int)) rfl (by kernel_rfl) (by kernel_rfl) (by kernel_rfl) (fun _ _ _ h => h) (Or.inl ⟨by kernel_rfl, fun W _ => by go_simp⟩) (unhide HST) ?_
            refine wpAnyH_take (i := 29) (v := .pointer (some ⟨g, k, none⟩)) rfl (by kernel_rfl) (by kernel_rfl) (by kernel_rfl) (fun _ _ _ h => h) (Or.inl ⟨by kernel_rfl, fun W _ => by go_simp⟩) (unhide HST) ?_
            refine wpAnyH_take (i := 30) (v := nPtr a1) rfl (by kernel_rfl) (by kernel_rfl) (by kernel_rfl) (fun _ _ _ h => h) (Or.inl ⟨by kernel_rfl, fun W hW => by have hh := JoinAt.xk hW; go_simp⟩) (unhide HST) ?_
            refine wpAnyH_take (i := 31) (v := nPtr q) rfl (by kernel_rfl) (by kernel_rfl) (by kernel_rfl) (fun _ _ _ h => h) (Or.inl ⟨by kernel_rfl, fun W _ => by go_simp⟩) (unhide HST) ?_
            refine wpAnyH_take (i := 32) (v := nPtr q) rfl (by kernel_rfl) (by kernel_rfl) (by kernel_rfl) (fun _ _ _ h => h) (Or.inl ⟨by kernel_rfl, fun W _ => by go_simp⟩) (unhide HST) ?_
            refine wpAnyH_take (i := 33) (v := .pointer (some ⟨q, 3, none⟩)) rfl (by kernel_rfl) (by kernel_rfl) (by kernel_rfl) (fun _ _ _ h => h) (Or.inl ⟨by kernel_rfl, fun W _ => by go_simp⟩) (unhide HST) ?_
            refine wpAnyH_take (i := 34) (v := .slice (some ⟨h, 0, none⟩) y.kids.length c2) rfl (by kernel_rfl) (by kernel_rfl) (by kernel_rfl) (fun _ _ _ h => h) (Or.inl ⟨by kernel_rfl, fun W hW => by have hh := JoinAt.y3 hW; go_simp⟩) (unhide HST) ?_
            refine wpAnyH_take (i := 35) (v := .int .i64 ((k : Int) - (x.kids.length : Int))) rfl (by kernel_rfl) (by kernel_rfl) (by kernel_rfl) (fun _ _ _ h => h) (Or.inl ⟨by kernel_rfl, fun W _ => by go_simp⟩) (unhide HST) ?_
            refine wpAnyH_take (i := 36) (v := .pointer (some ⟨h, (k - x.kids.length), none⟩)) rfl (by kernel_rfl) (by kernel_rfl) (by kernel_rfl) (fun _ _ _ h => h) (Or.inl ⟨by kernel_rfl, fun W _ => by go_simp⟩) (unhide HST) ?_
            refine wpAnyH_take (i := 37) (v := nPtr b1) rfl (by kernel_rfl) (by kernel_rfl) (by kernel_rfl) (fun _ _ _ h => h) (Or.inl ⟨by kernel_rfl, fun W hW => by have hh := JoinAt.yk hW; go_simp⟩) (unhide HST) ?_
            refine wpAnyH_ready (rs := [38]) (by kernel_rfl) (by simp) (AllReadyH.cons rfl (fun K hK => ?_) AllReadyH.nil)
            go_simp
            refine Calls.mono HC.out ?_
            rintro e w6 ⟨rfl, hb6⟩
            have HS6 := hide ((unhide HST).later hb6)
            have HB6 := hide ((unhide HBW).trans (hb6.mono (unhide HBW).size))
            clear hb6 HC
            refine hK.out _ _ (unhide HS6) (fun _ => ?_)
            clear hK K
            refine wpAnyH_take (i := 39) (v := .bool false) rfl (by kernel_rfl) (by kernel_rfl) (by kernel_rfl) (fun _ _ _ h => h) (Or.inl ⟨by kernel_rfl, fun W _ => by go_simp⟩) (unhide HS6) ?_
            refine wpAnyH_take (i := 40) (v := .bool false) rfl (by kernel_rfl) (by kernel_rfl) (by kernel_rfl) (fun _ _ _ h => h) (Or.inl ⟨by kernel_rfl, fun W _ => by go_simp⟩) (unhide HS6) ?_
            refine wpAnyH_take (i := 41) (v := .bool false) rfl (by kernel_rfl) (by kernel_rfl) (by kernel_rfl) (fun _ _ _ h => h) (Or.inl ⟨by kernel_rfl, fun W _ => by go_simp⟩) (unhide HS6) ?_
            refine wpAnyH_done (by kernel_rfl) ?_ _
            go_simp
            go_wp2_with fail
            go_roundw
            case rel => exact ⟨k + 1, by omega, by go_num, unhide HB6⟩
            case measure => simp [intOf]; omega
        · have hk2 : k = n.kids.length := by omega
          subst hk2
          go_wp2_with fail
          go_ret
          exact ⟨rfl, (unhide HB4).trans ((unhide HBW0).mono (unhide HB4).size)⟩


end Go.Proofs.YtoliilffjojfcaaGreatDoor

/-
  JoinsA: The law, of every two texts: what is left is the fact 'treed' and what Tell says of one error.
-/
namespace Go.Proofs.YtoliilffjojfcaaGreatDoor
open Go.RowKit

theorem parseS_size {ws gs : List ByteArray} {s : ByteArray} {t : Tr} (h : parseS ws gs s = .ok t) : s.size ≤ 3000 := by
  unfold parseS at h
  split at h
  · cases h
  · omega

theorem read_no {r : PaR} (hr : ∀ t, r ≠ .ok t) {s : ByteArray} {w : World} (h : Calls Tryz.prog 22 #[.string s] w (ReadPost r w)) : Calls Tryz.prog 22 #[.string s] w fun e w' => ∃ v, e = .returned (.tuple #[v, .bool false]) ∧ Below w.heap.size w w' := by
  refine Calls.mono h ?_
  intro e w' hp
  cases r with
  | ok t => exact absurd rfl (hr t)
  | «at» er pl => exact ⟨_, hp.1, hp.2⟩
  | bare => exact ⟨_, hp.1, hp.2⟩
theorem read_yes {t : Tr} {s : ByteArray} {w : World} (h : Calls Tryz.prog 22 #[.string s] w (ReadPost (.ok t) w)) : Calls Tryz.prog 22 #[.string s] w fun e w' => ∃ v, e = .returned (.tuple #[v, .bool true]) ∧ Below w.heap.size w w' := by
  refine Calls.mono h ?_
  rintro e w' ⟨p, h1, _, h3⟩
  exact ⟨_, h1, h3⟩
theorem read_at {t : Tr} {s : ByteArray} {w : World} (h : Calls Tryz.prog 22 #[.string s] w (ReadPost (.ok t) w)) : Calls Tryz.prog 22 #[.string s] w fun e w' => ∃ p, e = .returned (.tuple #[nPtr p, .bool true]) ∧ Below w.heap.size w w' := by
  refine Calls.mono h ?_
  rintro e w' ⟨p, h1, _, h3⟩
  exact ⟨p, h1, h3⟩

theorem joins_any (ws gs : List ByteArray) (a b : ByteArray) (w : World) (hL : Lists ws gs w) (hgs : ∀ g ∈ gs, 1 ≤ g.size) (hg : ∀ g ∈ gs, (10 : UInt8) ∉ g.data.toList) (hT : Tabs w) (hTr : Treed w)
    (hTl : ∀ W, Below w.heap.size w W → Calls Tryz.prog 24 #[.iface 23 (.int .i64 4)] W fun e w' => e = .returned (.int .i64 4) ∧ Below W.heap.size W w') :
    Calls Tryz.prog 6 #[.string a, .string b] w fun e w' => e = .returned (.bool true) ∧ Below w.heap.size w w' := by
  by_cases hz : (2500 : Int) < wrap64 ((a.size : Int) + (b.size : Int))
  · exact joins_long a b w hz
  · have ra := read_any22 ws gs a w hL hgs hT
    have rb := fun (W : World) (hW : Below w.heap.size w W) => read_any22 ws gs b W (hL.later hW) hgs (hT.later hW)
    have rp := fun (W : World) (hW : Below w.heap.size w W) => parse_any ws gs (jn a b) W (hL.later hW) hgs (hT.later hW)
    by_cases ha : ∃ x, parseS ws gs a = .ok x
    · obtain ⟨x, ha⟩ := ha
      by_cases hb : ∃ y, parseS ws gs b = .ok y
      · obtain ⟨y, hb⟩ := hb
        have h1 := parseS_size ha
        have h2 := parseS_size hb
        rw [ha] at ra
        rw [hb] at rb
        have hsz : a.size + b.size ≤ 2500 := by
          have h3 : wrap64 ((a.size : Int) + (b.size : Int)) = (a.size : Int) + (b.size : Int) := by unfold wrap64; omega
          rw [h3] at hz
          omega
        rcases parse_join ws gs a b x y hgs hg hsz ha hb with hj | ⟨n, hj, hk⟩
        · rw [hj] at rp
          exact joins_many a b w hsz (read_at ra) (fun W hW => read_at (rb W hW)) rp hTl hTr
        · have hc := (parseS_kd hj).2
          rw [hj] at rp
          exact joins_ok a b w x y n hsz hk hc ra rb rp hTr
      · exact joins_none a b w true false (Or.inr rfl) hz (by rw [ha] at ra; exact read_yes ra) (fun W hW => read_no (fun t h => hb ⟨t, h⟩) (rb W hW)) hTr
    · by_cases hb : ∃ y, parseS ws gs b = .ok y
      · obtain ⟨y, hb⟩ := hb
        rw [hb] at rb
        exact joins_none a b w false true (Or.inl rfl) hz (read_no (fun t h => ha ⟨t, h⟩) ra) (fun W hW => read_yes (rb W hW)) hTr
      · exact joins_none a b w false false (Or.inl rfl) hz (read_no (fun t h => ha ⟨t, h⟩) ra) (fun W hW => read_no (fun t h => hb ⟨t, h⟩) (rb W hW)) hTr
end Go.Proofs.YtoliilffjojfcaaGreatDoor

/-
  WrB: The writer's builder: a strings.Builder that lies in the writer's block; what WriteByte, WriteString and String do to it.
-/
namespace Go.Proofs.YtoliilffjojfcaaGreatDoor
open Go.RowKit

/-- The writer's block: the builder (its own address, once used; its bytes' row), the token that was put last, the signs. -/
abbrev wrObj (a v : Value) (last : ByteArray) (m : Nat) : Obj := .cells #[a, v, .string last, .map (some m)] 87 (0, 0)
abbrev wPtr (b : Nat) : Value := .pointer (some ⟨b, 0, none⟩)

/-- The builder's row, and the writer's block around it. -/
def WrAt (B b m : Nat) (out : List UInt8) (last : ByteArray) (a : Value) (w : World) : Prop :=
  B ≤ b ∧ ∃ v, w.heap[b]? = some (wrObj a v last m) ∧ w.ownsRow B 5 1 v out.length (Lib.byteCells out) ∧ v.ownBlock ≠ some b
/-- A writer: fresh or used. -/
def Wrt (B b m : Nat) (out : List UInt8) (last : ByteArray) (w : World) : Prop := WrAt B b m out last (.pointer none) w ∨ WrAt B b m out last (wPtr b) w

/-- What a writer's call leaves as it was. -/
structure Kp (B b : Nat) (w w' : World) : Prop where
  below : Below B w w'
  kept : Lib.OthersKept 5 (some b) w w'
theorem Kp.refl (B b : Nat) (w : World) : Kp B b w w := ⟨Below.refl _ _, Lib.OthersKept.refl _ _ _⟩
theorem Kp.trans {B b : Nat} {x y z : World} (h : Kp B b x y) (k : Kp B b y z) : Kp B b x z := ⟨h.below.trans k.below, h.kept.trans k.kept⟩
theorem Kp.drew {B b : Nat} {x y : World} (h : Kp B b x y) : Kp B b x y.drew := ⟨h.below.drew, h.kept.drew⟩
theorem Kp.alloc {B b : Nat} {x y : World} (h : Kp B b x y) (hB : B ≤ y.heap.size) (o : Obj) : Kp B b x (y.alloc o) := ⟨h.below.alloc hB o, h.kept.alloc o⟩
theorem Kp.setCell {B b : Nat} {x y : World} (h : Kp B b x y) (hB : B ≤ b) (j : Nat) (v : Value) : Kp B b x (y.setCell ⟨b, j, none⟩ v) := ⟨h.below.setCell (p := ⟨b, j, none⟩) hB v, h.kept.setCell ⟨b, j, none⟩ rfl v⟩

theorem WrAt.lt {B b m : Nat} {out : List UInt8} {last : ByteArray} {a : Value} {w : World} (h : WrAt B b m out last a w) : b < w.heap.size := by
  obtain ⟨_, v, hb, _⟩ := h
  exact lt_of_heap hb
theorem Wrt.lt {B b m : Nat} {out : List UInt8} {last : ByteArray} {w : World} (h : Wrt B b m out last w) : b < w.heap.size := by
  rcases h with h | h <;> exact h.lt
theorem Wrt.lo {B b m : Nat} {out : List UInt8} {last : ByteArray} {w : World} (h : Wrt B b m out last w) : B ≤ b := by
  rcases h with h | h <;> exact h.1
theorem Wrt.cells {B b m : Nat} {out : List UInt8} {last : ByteArray} {w : World} (h : Wrt B b m out last w) : w.cell? ⟨b, 2, none⟩ = some (.string last) ∧ w.cell? ⟨b, 3, none⟩ = some (.map (some m)) ∧ ∀ j, w.frozen? ⟨b, j, none⟩ = false := by
  rcases h with h | h <;>
  · obtain ⟨_, v, hb, _⟩ := h
    refine ⟨?_, ?_, fun j => Lib.frozen_of_heap hb j⟩
    · rw [Lib.cell_of_heap hb]; rfl
    · rw [Lib.cell_of_heap hb]; rfl

theorem owns_set {w : World} {B b j : Nat} {v u : Value} {n : Nat} {xs : List Value} (h : w.ownsRow B 5 1 v n xs) (hne : v.ownBlock ≠ some b) : (w.setCell ⟨b, j, none⟩ u).ownsRow B 5 1 v n xs :=
  h.kept (row := some b) ⟨rfl, rfl, rfl, by simp [World.setCell], fun k _ hk => Below.heap_setCell _ _ _ _ (fun e => hk (by simp [e]))⟩ (Or.inr hne)

theorem WrAt.used {B b m : Nat} {out : List UInt8} {last : ByteArray} {a : Value} {w : World} (h : WrAt B b m out last a w) (q : Value) : WrAt B b m out last q (w.setCell ⟨b, 0, none⟩ q) := by
  obtain ⟨hB, v, hb, hown, hne⟩ := h
  exact ⟨hB, v, by simp [World.setCell, Array.getElem?_modify, hb], owns_set hown hne, hne⟩
theorem WrAt.last {B b m : Nat} {out : List UInt8} {last : ByteArray} {a : Value} {w : World} (h : WrAt B b m out last a w) (t : ByteArray) : WrAt B b m out t a (w.setCell ⟨b, 2, none⟩ (.string t)) := by
  obtain ⟨hB, v, hb, hown, hne⟩ := h
  exact ⟨hB, v, by simp [World.setCell, Array.getElem?_modify, hb], owns_set hown hne, hne⟩
theorem Wrt.last {B b m : Nat} {out : List UInt8} {last : ByteArray} {w : World} (h : Wrt B b m out last w) (t : ByteArray) : Wrt B b m out t (w.setCell ⟨b, 2, none⟩ (.string t)) := by
  rcases h with h | h
  · exact Or.inl (h.last t)
  · exact Or.inr (h.last t)
/-- A new block, or a draw, leaves a writer as it is. -/
theorem WrAt.stay {B b m : Nat} {out : List UInt8} {last : ByteArray} {a : Value} {w w' : World} (h : WrAt B b m out last a w) (hs : ∀ k, k < w.heap.size → w'.heap[k]? = w.heap[k]?) : WrAt B b m out last a w' := by
  obtain ⟨hB, v, hb, hown, hne⟩ := h
  exact ⟨hB, v, by rw [hs b (lt_of_heap hb)]; exact hb, owns_stay (I := fun _ => True) (fun k _ hk => hs k hk) (fun _ _ => trivial) hown, hne⟩
theorem Wrt.stay {B b m : Nat} {out : List UInt8} {last : ByteArray} {w w' : World} (h : Wrt B b m out last w) (hs : ∀ k, k < w.heap.size → w'.heap[k]? = w.heap[k]?) : Wrt B b m out last w' := by
  rcases h with h | h
  · exact Or.inl (h.stay hs)
  · exact Or.inr (h.stay hs)
theorem Wrt.alloc {B b m : Nat} {out : List UInt8} {last : ByteArray} {w : World} (h : Wrt B b m out last w) (o : Obj) : Wrt B b m out last (w.alloc o) := h.stay fun k hk => Below.heap_alloc w o k hk
theorem Wrt.drew {B b m : Nat} {out : List UInt8} {last : ByteArray} {w : World} (h : Wrt B b m out last w) : Wrt B b m out last w.drew := h.stay fun _ _ => rfl
theorem Wrt.below {B b m : Nat} {out : List UInt8} {last : ByteArray} {w w' : World} (h : Wrt B b m out last w) (hb : Below w.heap.size w w') : Wrt B b m out last w' := h.stay fun k hk => hb.block k hk

theorem size84 : (Tryz.prog.info? 84).map (·.size) = some 2 := by kernel_rfl
theorem lies84 : liesAt Tryz.prog Tryz.prog.depth 87 (4 / Tryz.prog.cellsOf 87) 0 84 1 = true := by kernel_rfl

set_option maxHeartbeats 1000000 in
set_option maxRecDepth 100000 in
theorem copyCheck_used (b : Nat) (w : World) (h0 : w.cell? ⟨b, 0, none⟩ = some (wPtr b)) :
    Calls Tryz.prog 150 #[wPtr b] w fun e w' => e = .returned (.tuple #[]) ∧ w' = w := by
  obtain ⟨j, hj, _⟩ := Option.map_eq_some_iff.1 size84
  go_enter Tryz.func150, Tryz.ntmps150
  go_wp2
  rw [Lib.run_neq_ptr_same w _ Tryz.underlying81 hj]
  go_wp2
  go_end0
  exact ⟨rfl, rfl⟩

set_option maxHeartbeats 1000000 in
set_option maxRecDepth 100000 in
theorem copyCheck_fresh (b : Nat) (w : World) (h0 : w.cell? ⟨b, 0, none⟩ = some (.pointer none)) (hsh : w.shape? b = some (87, 4)) (hfz : w.frozen? ⟨b, 0, none⟩ = false) :
    Calls Tryz.prog 150 #[wPtr b] w fun e w' => e = .returned (.tuple #[]) ∧ w' = w.setCell ⟨b, 0, none⟩ (wPtr b) := by
  obtain ⟨j, hj, hjs⟩ := Option.map_eq_some_iff.1 size84
  go_enter Tryz.func150, Tryz.ntmps150
  go_wp2
  rw [Lib.run_to_unsafe w ⟨b, 0, none⟩ Tryz.underlying81 Tryz.underlying133 hj (by rw [hjs]; decide) hsh (Nat.zero_lt_succ 3)]
  simp only [Result.andThen]
  rw [Oper.upon_value]
  go_wp2
  rw [run_callFunc_extern Tryz.func190 (by kernel_rfl) (by kernel_rfl) (by kernel_rfl) (e := Extern.AbiNoEscape.same) (by kernel_rfl)]
  rw [Lib.run_noEscape]
  simp only [Result.andThen]
  rw [Oper.upon_value]
  go_wp2
  rw [Lib.run_from_unsafe w ⟨b, 0, none⟩ Tryz.underlying133 Tryz.underlying81 hj hsh lies84]
  simp only [Result.andThen]
  rw [Oper.upon_value]
  go_wp2
  go_end0
  exact ⟨rfl, rfl⟩

theorem copyCheck_any {B b m : Nat} {out : List UInt8} {last : ByteArray} {w : World} (h : Wrt B b m out last w) :
    Calls Tryz.prog 150 #[wPtr b] w fun e w' => e = .returned (.tuple #[]) ∧ WrAt B b m out last (wPtr b) w' ∧ Kp B b w w' := by
  rcases h with h | h
  · obtain ⟨hB, v, hb, hown, hne⟩ := h
    refine (copyCheck_fresh b w (by rw [Lib.cell_of_heap hb]; rfl) (by simp [World.shape?, hb]) (Lib.frozen_of_heap hb 0)).mono ?_
    rintro e w' ⟨rfl, rfl⟩
    exact ⟨rfl, WrAt.used ⟨hB, v, hb, hown, hne⟩ _, (Kp.refl B b w).setCell hB 0 _⟩
  · obtain ⟨hB, v, hb, hown, hne⟩ := h
    refine (copyCheck_used b w (by rw [Lib.cell_of_heap hb]; rfl)).mono ?_
    rintro e w' ⟨rfl, rfl⟩
    exact ⟨rfl, ⟨hB, v, hb, hown, hne⟩, Kp.refl _ _ _⟩

theorem slice_of {w : World} {B e sz : Nat} {v : Value} {n : Nat} {xs : List Value} (h : w.ownsRow B e sz v n xs) : ∃ ao n' cap, v = .slice ao n' cap := by
  rcases h.2 with ⟨hv, _⟩ | ⟨g, cap, cur, hv, _⟩
  · exact ⟨_, _, _, hv⟩
  · exact ⟨_, _, _, hv⟩

theorem own_kind {w : World} {B : Nat} {v : Value} {n : Nat} {xs : List Value} (h : w.ownsRow B 5 1 v n xs) : ∀ g, v.ownBlock = some g → ∃ c fz, w.heap[g]? = some (.cells c 5 fz) := by
  intro g hg
  rcases h.2 with ⟨rfl, _⟩ | ⟨g', cap, cur, rfl, _, hgg, _⟩
  · simp [Value.ownBlock] at hg
  · simp [Value.ownBlock] at hg
    subst hg
    exact ⟨cur, _, hgg⟩

theorem WrAt.put {B b m : Nat} {out : List UInt8} {last : ByteArray} {a v v' : Value} {w : World} (hB : B ≤ b) (hb : w.heap[b]? = some (wrObj a v last m)) (hown : w.ownsRow B 5 1 v' out.length (Lib.byteCells out)) : WrAt B b m out last a (w.setCell ⟨b, 1, none⟩ v') := by
  have hne := Lib.ownBlock_ne hown hb (by decide)
  exact ⟨hB, v', by simp [World.setCell, Array.getElem?_modify, hb], owns_set hown hne, hne⟩

set_option maxHeartbeats 1000000 in
set_option maxRecDepth 100000 in
theorem writeByte_any {B b m : Nat} {out : List UInt8} {last : ByteArray} {w : World} (c : UInt8) (h : Wrt B b m out last w) (hlen : out.length + 1 ≤ 100000000) :
    Calls Tryz.prog 101 #[wPtr b, .int .u8 (c.toNat : Int)] w fun e w' => e = .returned .nilIface ∧ Wrt B b m (out ++ [c]) last w' ∧ Kp B b w w' := by
  obtain ⟨i0, hi, hz0, hz1, hz2⟩ := info_parts info5
  have HLT := hide h.lt
  have HLO := hide h.lo
  have HC := hide (copyCheck_any h)
  clear h
  go_enter Tryz.func101, Tryz.ntmps101
  go_wp2_with fail
  refine Calls.mono HC.out ?_
  rintro e w1 ⟨rfl, h1, hk1⟩
  obtain ⟨hB, v, hbk, hown, hne⟩ := h1
  have hsz : B ≤ w1.heap.size := by have := lt_of_heap hbk; omega
  have c0 : w1.cell? ⟨b, 0, none⟩ = some (wPtr b) := by rw [Lib.cell_of_heap hbk]; rfl
  have c1 : w1.cell? ⟨b, 1, none⟩ = some v := by rw [Lib.cell_of_heap hbk]; rfl
  have HOWN := hide hown
  have HK1 := hide hk1
  have HBK := hide hbk
  have HNE := hide hne
  clear hown hk1 hbk hne HC
  go_wp2_with (at_builtin; refine wpList_append_own _ rfl _ _ 82 rfl B 5 i0 (.int .u8 0) 1 1 Tryz.underlying82 hi hz0 hz1 hz2 rfl (by decide) _ _ _ rfl ((unhide HOWN).alloc _) ⟨w1.heap.size, 0, none⟩ 1 1 [.int .u8 (c.toNat : Int)] rfl rfl ?c1 ?c2 ?c3 ?c4 ?c5 ?_)
  case c1 =>
    intro j u hj
    match j, hj with
    | 0, hj => simp at hj; subst hj; simp [Addr.add]
  case c2 => intro u hu; simp at hu; subst hu; rfl
  case c3 => unfold maxLen; omega
  case c4 => omega
  case c5 => simp; omega
  intro v' w2 hown' hgrow _
  have hlt : b < w1.heap.size := lt_of_heap (unhide HBK)
  have hb2 : w2.heap[b]? = some (wrObj (wPtr b) v last m) := by
    rw [hgrow.block b (by simp; omega) (fun e => (unhide HNE) e.symm), Below.heap_alloc w1 _ b hlt]
    exact unhide HBK
  have d0 : w2.cell? ⟨b, 0, none⟩ = some (wPtr b) := by rw [Lib.cell_of_heap hb2]; rfl
  have d1 : w2.cell? ⟨b, 1, none⟩ = some v := by rw [Lib.cell_of_heap hb2]; rfl
  have f1 : w2.frozen? ⟨b, 1, none⟩ = false := Lib.frozen_of_heap hb2 1
  obtain ⟨ao, n', cap, rfl⟩ := slice_of hown'
  have hown2 : w2.ownsRow B 5 1 (.slice ao n' cap) (out ++ [c]).length (Lib.byteCells (out ++ [c])) := by
    rw [Lib.byteCells_append]
    simpa [Lib.byteCells] using hown'
  have HW := hide (WrAt.put hB hb2 hown2)
  have HK2 : Hid (Kp B b w (w2.setCell ⟨b, 1, none⟩ (.slice ao n' cap))) := by
    have hk := (unhide HK1).alloc (by omega) (.cells #[.int .u8 (c.toNat : Int)] 5)
    refine Kp.setCell ⟨hk.below.grown hgrow (by simp; omega) (fun k hk => ((unhide HOWN).lt k hk).1), hk.kept.grown hgrow (own_kind ((unhide HOWN).alloc _))⟩ hB 1 _
  clear hown' hgrow hown2 hb2
  go_wp2_with fail
  go_ret
  exact ⟨rfl, Or.inr (unhide HW), unhide HK2⟩

set_option maxHeartbeats 1000000 in
set_option maxRecDepth 100000 in
theorem writeString_any {B b m : Nat} {out : List UInt8} {last : ByteArray} {w : World} (s : ByteArray) (h : Wrt B b m out last w) (hlen : out.length + s.size ≤ 100000000) :
    Calls Tryz.prog 106 #[wPtr b, .string s] w fun e w' => e = .returned (.tuple #[.int .i64 (s.size : Int), .nilIface]) ∧ Wrt B b m (out ++ s.data.toList) last w' ∧ Kp B b w w' := by
  obtain ⟨i0, hi, hz0, hz1, hz2⟩ := info_parts info5
  have HLT := hide h.lt
  have HLO := hide h.lo
  have HC := hide (copyCheck_any h)
  clear h
  go_enter Tryz.func106, Tryz.ntmps106
  go_wp2_with fail
  refine Calls.mono HC.out ?_
  rintro e w1 ⟨rfl, h1, hk1⟩
  obtain ⟨hB, v, hbk, hown, hne⟩ := h1
  have hsz : B ≤ w1.heap.size := by have := lt_of_heap hbk; omega
  have c0 : w1.cell? ⟨b, 0, none⟩ = some (wPtr b) := by rw [Lib.cell_of_heap hbk]; rfl
  have c1 : w1.cell? ⟨b, 1, none⟩ = some v := by rw [Lib.cell_of_heap hbk]; rfl
  have HOWN := hide hown
  have HK1 := hide hk1
  have HBK := hide hbk
  have HNE := hide hne
  clear hown hk1 hbk hne HC
  go_wp2_with (at_builtin; refine Lib.wpList_append_own_string _ rfl _ _ 82 9 rfl B 5 i0 Tryz.underlying82 Tryz.underlying9 hi hz0 hz1 hz2 _ _ _ rfl (unhide HOWN) s rfl ?c3 ?c4 ?c5 ?_)
  case c3 => unfold maxLen; omega
  case c4 => omega
  case c5 => omega
  intro v' w2 hown' hgrow _
  have hlt : b < w1.heap.size := lt_of_heap (unhide HBK)
  have hb2 : w2.heap[b]? = some (wrObj (wPtr b) v last m) := by
    rw [hgrow.block b hlt (fun e => (unhide HNE) e.symm)]
    exact unhide HBK
  have d0 : w2.cell? ⟨b, 0, none⟩ = some (wPtr b) := by rw [Lib.cell_of_heap hb2]; rfl
  have d1 : w2.cell? ⟨b, 1, none⟩ = some v := by rw [Lib.cell_of_heap hb2]; rfl
  have f1 : w2.frozen? ⟨b, 1, none⟩ = false := Lib.frozen_of_heap hb2 1
  obtain ⟨ao, n', cap, rfl⟩ := slice_of hown'
  have hown2 : w2.ownsRow B 5 1 (.slice ao n' cap) (out ++ s.data.toList).length (Lib.byteCells (out ++ s.data.toList)) := by
    rw [Lib.byteCells_append]
    simpa [Lib.byteCells, Lib.strCells] using hown'
  have HW := hide (WrAt.put hB hb2 hown2)
  have HK2 : Hid (Kp B b w (w2.setCell ⟨b, 1, none⟩ (.slice ao n' cap))) :=
    Kp.setCell ⟨(unhide HK1).below.grown hgrow hsz (fun k hk => ((unhide HOWN).lt k hk).1), (unhide HK1).kept.grown hgrow (own_kind (unhide HOWN))⟩ hB 1 _
  clear hown' hgrow hown2 hb2
  go_wp2_with fail
  go_ret2
  exact ⟨rfl, Or.inr (unhide HW), unhide HK2⟩

set_option maxHeartbeats 1000000 in
set_option maxRecDepth 100000 in
theorem string_any {B b m : Nat} {l : List UInt8} {last : ByteArray} {w : World} (h : Wrt B b m l last w) (h0 : l ≠ []) (hlen : l.length ≤ 100000000) :
    Calls Tryz.prog 52 #[wPtr b] w fun e w' => e = .returned (.string ⟨l.toArray⟩) ∧ Below B w w' := by
  obtain ⟨p, hB, v, hbk, hown, hne⟩ : ∃ p, WrAt B b m l last p w := by
    rcases h with h | h
    · exact ⟨_, h⟩
    · exact ⟨_, h⟩
  have hl0 : l.length ≠ 0 := by simpa using h0
  obtain ⟨g, cap, cur, rfl, hbg, hg, hnc, hcm, hcs, htake⟩ : ∃ g cap cur, v = .slice (some ⟨g, 0, none⟩) l.length cap ∧ B ≤ g ∧ w.heap[g]? = some (.cells cur 5 (0, 0)) ∧ l.length ≤ cap ∧ cap ≤ maxLen ∧ cur.size = cap * 1 ∧ cur.toList.take (l.length * 1) = Lib.byteCells l := by
    rcases hown.2 with ⟨_, hz⟩ | ⟨g, cap, cur, hv, r⟩
    · exact absurd hz hl0
    · exact ⟨g, cap, cur, hv, r⟩
  have c1 : w.drew.cell? ⟨b, 1, none⟩ = some (.slice (some ⟨g, 0, none⟩) l.length cap) := by
    have : w.drew.heap[b]? = some (wrObj p (.slice (some ⟨g, 0, none⟩) l.length cap) last m) := hbk
    rw [Lib.cell_of_heap this]; rfl
  have hSD : (Builtin.unsafeSliceData_ #[82] 131 #[.slice (some ⟨g, 0, none⟩) l.length cap]).run Tryz.prog w.drew = .ok (.pointer (some ⟨g, 0, none⟩)) w.drew :=
    Lib.run_unsafeSliceData_row _ _ _ _ _ _ (by omega)
  have hUS : (Builtin.unsafeString_ #[131, 3] 9 #[.pointer (some ⟨g, 0, none⟩), .int .i64 l.length]).run Tryz.prog w.drew = .ok (.string ⟨l.toArray⟩) (w.drew.freeze ⟨g, 0, none⟩ l.length) := by
    refine Lib.run_unsafeString_row w.drew 131 3 9 5 Tryz.underlying131 (by kernel_rfl) g cur.size (by have hg' : w.drew.heap[g]? = some (.cells cur 5 (0, 0)) := hg; simp [World.shape?, hg']) l h0 (by omega) (by unfold maxLen at hcm; omega) ?_
    intro j x hx
    have := hown.cells (g := g) rfl j (.int .u8 x.toNat) (by simp [Lib.byteCells, hx])
    exact this
  clear hown hbk hne hg htake h
  go_enter Tryz.func52, Tryz.ntmps52
  go_wp2
  go_region
  all_goals (go_wp2; go_ret; exact ⟨rfl, Lib.below_freeze (Below.drew (Below.refl B w)) (p := ⟨g, 0, none⟩) hbg _⟩)
end Go.Proofs.YtoliilffjojfcaaGreatDoor

/-
  WrP: Tokens that the writer puts: close, endLine, opened, closes, put.
-/
namespace Go.Proofs.YtoliilffjojfcaaGreatDoor
open Go.RowKit

def openedB (t : ByteArray) : Bool := t.data.toList == [] || t.data.toList == [40] || t.data.toList == [33] || t.data.toList == [46] || t.data.toList == [123]
def closesB (t : ByteArray) : Bool := t.data.toList == [59] || t.data.toList == [44] || t.data.toList == [41] || t.data.toList == [58] || t.data.toList == [46] || t.data.toList == [125]

set_option maxHeartbeats 1000000 in
set_option maxRecDepth 100000 in
theorem opened_any {B b m : Nat} {out : List UInt8} {last : ByteArray} {w : World} (h : Wrt B b m out last w) :
    Calls Tryz.prog 143 #[wPtr b] w fun e w' => e = .returned (.bool (openedB last)) ∧ w' = w := by
  obtain ⟨c2, _, _⟩ := h.cells
  clear h
  go_enter Tryz.func143, Tryz.ntmps143
  go_wp2
  all_goals (go_ret; refine ⟨?_, rfl⟩; simp_all [openedB, ByteArray.toList_eq])

set_option maxHeartbeats 1000000 in
set_option maxRecDepth 100000 in
theorem closes_any (t : ByteArray) (w : World) :
    Calls Tryz.prog 144 #[.string t] w fun e w' => e = .returned (.bool (closesB t)) ∧ w' = w := by
  go_enter Tryz.func144, Tryz.ntmps144
  go_wp2
  all_goals (go_ret; refine ⟨?_, rfl⟩; simp_all [closesB, ByteArray.toList_eq])

set_option maxHeartbeats 1000000 in
set_option maxRecDepth 100000 in
theorem close_any {B b m : Nat} {out : List UInt8} {last : ByteArray} {w : World} (t : ByteArray) (h : Wrt B b m out last w) (hlen : out.length + t.size ≤ 100000000) :
    Calls Tryz.prog 145 #[wPtr b, .string t] w fun e w' => e = .returned (.tuple #[]) ∧ Wrt B b m (out ++ t.data.toList) t w' ∧ Kp B b w w' := by
  have HLO := hide h.lo
  have HC := hide (writeString_any t h hlen)
  clear h hlen
  go_enter Tryz.func145, Tryz.ntmps145
  go_wp2_with fail
  refine Calls.mono HC.out ?_
  rintro e w1 ⟨rfl, h1, hk1⟩
  obtain ⟨c2, _, cf⟩ := h1.cells
  have cf2 := cf 2
  have HW := hide (h1.last t)
  have HK := hide (hk1.setCell (unhide HLO) 2 (.string t))
  clear h1 hk1 HC cf
  go_wp2_with fail
  go_end0
  exact ⟨rfl, unhide HW, unhide HK⟩

set_option maxHeartbeats 1000000 in
set_option maxRecDepth 100000 in
theorem endLine_any {B b m : Nat} {out : List UInt8} {last : ByteArray} {w : World} (h : Wrt B b m out last w) (hlen : out.length + 1 ≤ 100000000) :
    Calls Tryz.prog 51 #[wPtr b] w fun e w' => e = .returned (.tuple #[]) ∧ Wrt B b m (out ++ [10]) ⟨#[]⟩ w' ∧ Kp B b w w' := by
  have HLO := hide h.lo
  have HC := hide (writeByte_any 10 h hlen)
  clear h hlen
  go_enter Tryz.func51, Tryz.ntmps51
  go_wp2_with fail
  refine Calls.mono HC.out ?_
  rintro e w1 ⟨rfl, h1, hk1⟩
  obtain ⟨c2, _, cf⟩ := h1.cells
  have cf2 := cf 2
  have HW := hide (h1.last ⟨#[]⟩)
  have HK := hide (hk1.setCell (unhide HLO) 2 (.string ⟨#[]⟩))
  clear h1 hk1 HC cf
  go_wp2_with fail
  go_end0
  exact ⟨rfl, unhide HW, unhide HK⟩

/-- What a writer has written: its bytes, and the token that was put last. -/
abbrev WS := List UInt8 × ByteArray
def closeS (t : ByteArray) (s : WS) : WS := (s.1 ++ t.data.toList, t)
def blankS (s : WS) : WS := (s.1 ++ [32], s.2)
def putS (t : ByteArray) (s : WS) : WS := closeS t (if (!openedB s.2) && (!closesB t) then blankS s else s)
def putsS (ts : List ByteArray) (s : WS) : WS := ts.foldl (fun s t => putS t s) s
def endS (s : WS) : WS := (s.1 ++ [10], ⟨#[]⟩)
def sumT (ts : List ByteArray) : Nat := (ts.map fun t => t.size + 1).sum

theorem putS_len (t : ByteArray) (s : WS) : (putS t s).1.length ≤ s.1.length + (t.size + 1) := by
  have : t.data.toList.length = t.size := rfl
  unfold putS closeS blankS
  split <;> simp [this] <;> omega

theorem sumT_take {ts : List ByteArray} {k : Nat} (hk : k < ts.length) : sumT (ts.take k) + (ts[k].size + 1) + sumT (ts.drop (k + 1)) = sumT ts := by
  have h := congrArg sumT (List.take_append_drop k ts)
  rw [List.drop_eq_getElem_cons hk] at h
  simp only [sumT, List.map_append, List.sum_append, List.map_cons, List.sum_cons] at h ⊢
  omega

theorem sumT_len (ts : List ByteArray) : ts.length ≤ sumT ts := by
  induction ts with
  | nil => simp
  | cons t ts ih => simp [sumT] at ih ⊢; omega

theorem putsS_len (ts : List ByteArray) : ∀ s : WS, (putsS ts s).1.length ≤ s.1.length + sumT ts := by
  induction ts with
  | nil => intro s; simp [putsS, sumT]
  | cons t ts ih =>
    intro s
    have h1 := putS_len t s
    have h2 := ih (putS t s)
    have h3 : sumT (t :: ts) = (t.size + 1) + sumT ts := by simp [sumT]
    have h4 : putsS (t :: ts) s = putsS ts (putS t s) := rfl
    rw [h4, h3]
    omega

theorem putsS_take {ts : List ByteArray} {k : Nat} (hk : k < ts.length) (s : WS) : putsS (ts.take (k + 1)) s = putS ts[k] (putsS (ts.take k) s) := by
  rw [List.take_succ_eq_append_getElem hk]
  simp only [putsS, List.foldl_append, List.foldl_cons, List.foldl_nil]

set_option maxHeartbeats 1000000 in
set_option maxRecDepth 100000 in
theorem put_any {B b m : Nat} {s : WS} {w : World} (ts : List ByteArray) (g : Nat) (n : Nat) (hn : n = ts.length) (cs : Array Value) (hcs : cs.toList = ts.map Value.string) (hg : w.heap[g]? = some (.cells cs 9 (0, 0))) (hgb : g ≠ b) (h : Wrt B b m s.1 s.2 w) (hlen : s.1.length + sumT ts ≤ 100000000) :
    Calls Tryz.prog 92 #[wPtr b, .slice (some ⟨g, 0, none⟩) n n] w fun e w' => e = .returned (.tuple #[]) ∧ Wrt B b m (putsS ts s).1 (putsS ts s).2 w' ∧ Kp B b w w' := by
  subst hn
  have hl8 : ts.length ≤ 100000000 := by have := sumT_len ts; omega
  have HG := hide hg
  have HH := hide h
  clear hg h
  have hcell : ∀ k (hk : k < ts.length), cs[k]? = some (.string ts[k]) := by
    intro k hk
    rw [← Array.getElem?_toList, hcs]
    simp [hk]
  have HCELL := hide hcell
  clear hcell hcs
  go_enter Tryz.func92, Tryz.ntmps92
  go_wp2_with fail
  go_loopw [8] (fun i wr => ∃ k : Nat, k ≤ ts.length ∧ i = .int .i64 k ∧ Wrt B b m (putsS (ts.take k) s).1 (putsS (ts.take k) s).2 wr ∧ Kp B b w wr) (fun i _ => ts.length - (intOf i).toNat)
  case atStart => exact ⟨0, Nat.zero_le _, rfl, unhide HH, Kp.refl _ _ _⟩
  case round =>
    obtain ⟨k, hk, rfl, hw, hkp⟩ := hrel
    have HW := hide hw
    have HK := hide hkp
    clear hw hkp
    by_cases hlt : k < ts.length
    · have hst := sumT_take hlt
      have hpl := putsS_len (ts.take k) s
      have hgr : wr.heap[g]? = some (.cells cs 9 (0, 0)) := (unhide HK).kept g _ (unhide HG) (by simpa using hgb) (by intro c fz e; cases e)
      have hck : wr.cell? ⟨g, k, none⟩ = some (.string ts[k]) := by rw [Lib.cell_of_heap hgr]; exact unhide HCELL k hlt
      have HPT := hide (putsS_take hlt s)
      generalize hS : putsS (ts.take k) s = S at HW HPT hpl
      clear hS
      have HC1 := hide (opened_any (unhide HW))
      obtain ⟨t, ht⟩ : ∃ t, t = ts[k] := ⟨_, rfl⟩
      rw [← ht] at hck HPT hst
      clear ht hgr
      go_wp2_with fail
      refine Calls.mono HC1.out ?_
      rintro e w1 ⟨rfl, rfl⟩
      clear HC1
      have hsz : t.data.toList.length = t.size := rfl
      cases hop : openedB S.2 with
      | true =>
        have HC2 := hide (close_any t (unhide HW) (by omega))
        have HP : Hid (putS t S = closeS t S) := by unfold putS; rw [hop]; rfl
        clear hop
        go_wp2_with fail
        refine Calls.mono HC2.out ?_
        rintro e w2 ⟨rfl, h2, hk2⟩
        have HW2 := hide h2
        have HK2 := hide ((unhide HK).trans hk2)
        clear h2 hk2 HC2
        go_wp2_with fail
        go_roundw
        case rel => exact ⟨k + 1, by omega, by go_num, by rw [unhide HPT, unhide HP]; exact unhide HW2, unhide HK2⟩
        case measure => simp [intOf]; omega
      | false =>
        have HC2 := hide (closes_any t w1)
        go_wp2_with fail
        refine Calls.mono HC2.out ?_
        rintro e w2 ⟨rfl, rfl⟩
        clear HC2
        cases hcl : closesB t with
        | true =>
          have HC2 := hide (close_any t (unhide HW) (by omega))
          have HP : Hid (putS t S = closeS t S) := by unfold putS; rw [hop, hcl]; rfl
          clear hop hcl
          go_wp2_with fail
          refine Calls.mono HC2.out ?_
          rintro e w3 ⟨rfl, h2, hk2⟩
          have HW2 := hide h2
          have HK2 := hide ((unhide HK).trans hk2)
          clear h2 hk2 HC2
          go_wp2_with fail
          go_roundw
          case rel => exact ⟨k + 1, by omega, by go_num, by rw [unhide HPT, unhide HP]; exact unhide HW2, unhide HK2⟩
          case measure => simp [intOf]; omega
        | false =>
          have HC2 := hide (writeByte_any 32 (unhide HW) (by omega))
          have HP : Hid (putS t S = closeS t (blankS S)) := by unfold putS; rw [hop, hcl]; rfl
          clear hop hcl
          go_wp2_with fail
          refine Calls.mono HC2.out ?_
          rintro e w3 ⟨rfl, h2, hk2⟩
          have HW2 := hide h2
          have HK2 := hide ((unhide HK).trans hk2)
          clear h2 hk2 HC2
          have HC3 := hide (close_any t (unhide HW2) (by simp; omega))
          go_wp2_with fail
          refine Calls.mono HC3.out ?_
          rintro e w4 ⟨rfl, h3, hk3⟩
          have HW3 := hide h3
          have HK3 := hide ((unhide HK2).trans hk3)
          clear h3 hk3 HC3
          go_wp2_with fail
          go_roundw
          case rel => exact ⟨k + 1, by omega, by go_num, by rw [unhide HPT, unhide HP]; exact unhide HW3, unhide HK3⟩
          case measure => simp [intOf]; omega
    · have hk2 : k = ts.length := by omega
      subst hk2
      rw [List.take_length] at HW
      go_wp2_with fail
      go_end0
      exact ⟨rfl, unhide HW, unhide HK⟩

/-- Tokens put in a call that is written out. -/
theorem put_new {B b m : Nat} {s : WS} {w : World} (ts : List ByteArray) (n : Nat) (hn : n = ts.length) (cs : Array Value) (hcs : cs.toList = ts.map Value.string) (h : Wrt B b m s.1 s.2 w) (hlen : s.1.length + sumT ts ≤ 100000000) :
    Calls Tryz.prog 92 #[wPtr b, .slice (some ⟨w.heap.size, 0, none⟩) n n] (w.alloc (.cells cs 9)) fun e w' => e = .returned (.tuple #[]) ∧ Wrt B b m (putsS ts s).1 (putsS ts s).2 w' ∧ Kp B b w w' := by
  have hlt := h.lt
  have hlo := h.lo
  refine (put_any ts w.heap.size n hn cs hcs (heap_new _ _) (by omega) (h.alloc _) hlen).mono ?_
  rintro e w' ⟨rfl, h1, h2⟩
  exact ⟨rfl, h1, ((Kp.refl B b w).alloc (by omega) _).trans h2⟩
end Go.Proofs.YtoliilffjojfcaaGreatDoor
