/-
  The walk of Parse.
-/
import Derived.Test.YtodmgaikhbmlnaaGreatDoorEc23
import Derived.Maps.RangeRun
import Derived.Laws.IdiomRangeMap
set_option maxRecDepth 100000
set_option maxHeartbeats 16000000
namespace Go.Proofs.YtodmgaikhbmlnaaGreatDoor
open Go.RowKit
structure Tabs (w : World) : Prop where
 heads : ∃ t fr, w.heap[5]? = some (.cells hdCells t fr)
 signs : ∃ t fr, w.heap[4]? = some (.cells sgCells t fr)
theorem Tabs.later {w w' : World} (h : Tabs w) (hb : Below w.heap.size w w') : Tabs w' := by
 obtain ⟨⟨t, fr, h1⟩, ⟨t2, fr2, h2⟩⟩ := h
 exact ⟨⟨t, fr, by rw [hb.block _ (lt_of_heap h1)]; exact h1⟩, ⟨t2, fr2, by rw [hb.block _ (lt_of_heap h2)]; exact h2⟩⟩
theorem rw_below (w : World) : Below w.heap.size w (RW w) := ((Below.refl _ _).alloc (Nat.le_refl _) _).alloc (by simp) _
theorem readToks_any (w : World) (l : List Tk) (g cap : Nat) (cur : Array Value) (hE : Ends l) (h0 : 0 < l.length) (hl : l.length ≤ 3001) (ht : w.heap[g]? = some (.cells cur 123 (0, 0))) (hcap : l.length ≤ cap ∧ cap ≤ maxLen ∧ cur.size = cap * 4 ∧ cur.toList.take (l.length * 4) = tksCells l) (hT : Tabs w) :
  Calls Tryz.prog 51 #[.slice (some ⟨g, 0, none⟩) l.length cap] w (RdPost (progP l (fns l KK)) w) := by
 have hb := rw_below w
 have hT2 := hT.later hb
 have HN := newReader_any (RW w) l g cap cur hE h0 hl (by rw [hb.block _ (lt_of_heap ht)]; exact ht) hcap hT2.heads hT2.signs
 have hF : ∀ c : Ctx, c.l = l → FC c (fns c.l KK) := fun c hc => fns_does c (by rw [hc]; exact hE) KK
 have hp := (prog_total hE h0 hl).1
 cases hr : progP l (fns l KK) with
 | out => exact absurd hr hp
 | bad er pl =>
  refine read_bad w l g cap er pl HN fun c W hc hrd => ?_; exact zbfs
 | ok t j =>
  refine read_ok w l g cap t j HN fun c W hc hrd => ?_; exact zbfs
section
variable (s : ByteArray) (w : World)
include s w
theorem parse_long (hs : 3000 < s.size) : Calls Tryz.prog 13 #[.string s] w (PaPost .bare w) := by
 have HC := hide (tokens_long s w hs)
 clear hs
 go_enter Tryz.func13, Tryz.ntmps13
 go_wp2_with fail
 refine cm HC.out ?_
 rintro e w1 ⟨rfl, rfl⟩
 go_wp2_with fail
 exact bodyPost_ret (v := .tuple #[.pointer none, .iface 23 (.int .i64 4)]) (by simp [results, Tryz.results13, go_sem]) rfl ⟨rfl, Below.refl _ _⟩
theorem parse_toks (er : Int) (p : Nat) (h : Calls Tryz.prog 50 #[.string s] w (TPost (.bad er p) w)) : Calls Tryz.prog 13 #[.string s] w (PaPost (.at er p) w) := by
 have HC := hide h
 clear h
 go_enter Tryz.func13, Tryz.ntmps13
 go_wp2_with fail
 refine cm HC.out ?_
 rintro e w1 ⟨b, rfl, hb1, hb2, hb3⟩
 have H1 := hide hb1
 have H3 := hide hb3
 have H2 := hide hb2
 clear hb1 hb2 hb3 HC
 exact zbfd
theorem parse_bad (l : List Tk) (er : Int) (p : Nat) (h : Calls Tryz.prog 50 #[.string s] w (TPost (.ok l) w)) (h0 : 0 < l.length) (hr : ∀ (W : World) (g cap : Nat) (cur : Array Value), Below w.heap.size w W → W.heap[g]? = some (.cells cur 123 (0, 0)) → (l.length ≤ cap ∧ cap ≤ maxLen ∧ cur.size = cap * 4 ∧ cur.toList.take (l.length * 4) = tksCells l) → Calls Tryz.prog 51 #[.slice (some ⟨g, 0, none⟩) l.length cap] W (RdPost (.bad er p) W)) :
  Calls Tryz.prog 13 #[.string s] w (PaPost (.at er p) w) := by
 have HC := hide h
 have HR := hide hr
 clear h hr
 go_enter Tryz.func13, Tryz.ntmps13
 go_wp2_with fail
 refine cm HC.out ?_
 rintro e w1 ⟨v, rfl, hown, hb1⟩
 rcases hown.2 with hn | ⟨g, cap, cur, rfl, hg, hh, h1, h2, h3, h4⟩
 ·
  omega
 ·
  have HC2 := hide (HR.out w1 g cap cur hb1 hh ⟨h1, h2, h3, h4⟩); have HB1 := hide hb1; clear hown hb1 hg hh h1 h2 h3 h4 HC; go_wp2_with fail; refine cm HC2.out ?_; rintro e w2 ⟨b, rfl, hb1, hb2, hb3⟩; have H1 := hide hb1
  have H3 := hide (HB1.out.trans (hb3.mono HB1.out.size)); have H2 := hide (Nat.le_trans HB1.out.size hb2); clear hb1 hb2 hb3 HC2; exact zbfd
theorem parse_ok (l : List Tk) (t : Tr) (j : Nat) (h : Calls Tryz.prog 50 #[.string s] w (TPost (.ok l) w)) (h0 : 0 < l.length) (hc : t.count ≤ 90000) (hr : ∀ (W : World) (g cap : Nat) (cur : Array Value), Below w.heap.size w W → W.heap[g]? = some (.cells cur 123 (0, 0)) → (l.length ≤ cap ∧ cap ≤ maxLen ∧ cur.size = cap * 4 ∧ cur.toList.take (l.length * 4) = tksCells l) → Calls Tryz.prog 51 #[.slice (some ⟨g, 0, none⟩) l.length cap] W (RdPost (.ok t j) W)) :
  Calls Tryz.prog 13 #[.string s] w (PaPost (if 1500 < t.count then .bare else .ok t) w) := by
 have HC := hide h
 have HR := hide hr
 have HCC := hide hc
 obtain ⟨r, hrr⟩ : ∃ r, r = (if 1500 < t.count then PaR.bare else .ok t) := ⟨_, rfl⟩
 rw [← hrr]
 have HRR := hide hrr
 clear h hr hc hrr
 go_enter Tryz.func13, Tryz.ntmps13
 go_wp2_with fail
 refine cm HC.out ?_
 rintro e w1 ⟨v, rfl, hown, hb1⟩
 rcases hown.2 with hn | ⟨g, cap, cur, rfl, hg, hh, h1, h2, h3, h4⟩
 ·
  omega
 ·
  have HC2 := hide (HR.out w1 g cap cur hb1 hh ⟨h1, h2, h3, h4⟩); have HB1 := hide hb1; clear hown hb1 hg hh h1 h2 h3 h4 HC; go_wp2_with fail; refine cm HC2.out ?_; rintro e w2 ⟨p, rfl, hn, hb⟩; have HN := hide hn
  have HB2 := hide (HB1.out.trans (hb.mono HB1.out.size)); have HC3 := hide (many_any w1.heap.size t p w2 hn HCC.out); have HS1 := hide HB1.out.size; clear hn hb HC2; go_wp2_with fail; refine cm HC3.out ?_
  rintro e w3 ⟨rfl, hb3⟩; have HB3 := hide (HB2.out.trans (hb3.mono HB2.out.size))
  have HN3 : Hid (NAt (From w.heap.size) w3 t p) := NAt.mono (fun b hb _ => Nat.le_trans HS1.out hb) _ _ (NAt.later (I := From w1.heap.size) (fun b _ hl => hb3.block b hl) _ _ HN.out); clear hb3 HC3
  by_cases h15 : 1500 < t.count
  ·
   have hq : r = .bare := by rw [HRR.out, if_pos h15]
   have HQ := hide hq; clear hq; have hi : (1500 : Int) < (t.count : Int) := by omega
   clear h15; go_wp2_with fail; exact bodyPost_ret (v := .tuple #[.pointer none, .iface 23 (.int .i64 4)]) (by simp [results, Tryz.results13, go_sem]) rfl (by rw [HQ.out]; exact ⟨rfl, HB3.out⟩)
  ·
   have hq : r = .ok t := by rw [HRR.out, if_neg h15]
   have HQ := hide hq; clear hq; have hi : ¬ (1500 : Int) < (t.count : Int) := by omega
   clear h15; go_wp2_with fail; exact bodyPost_ret (v := .tuple #[nPtr p, .nilIface]) (by simp [results, Tryz.results13, go_sem]) rfl (by rw [HQ.out]; exact ⟨p, rfl, HN3.out, HB3.out⟩)
end
theorem parse_any (ws gs : List ByteArray) (s : ByteArray) (w : World) (hL : Lists ws gs w) (hgs : ∀ g ∈ gs, 1 ≤ g.size) (hT : Tabs w) : Calls Tryz.prog 13 #[.string s] w (PaPost (parseS ws gs s) w) := by
 unfold parseS
 by_cases hs : 3000 < s.size
 ·
  rw [if_pos hs]; exact parse_long s w hs
 ·
  rw [if_neg hs]; have hk := tokens_any ws gs s w (by omega) hL hgs
  cases ht : toksR ws gs s (pastN gapB s 0) [] with
  | bad er p => rw [ht] at hk; exact parse_toks s w er p hk
  | ok l =>
   rw [ht] at hk; obtain ⟨hE, h0, hl⟩ := toks_ends hgs ht; have hl2 : l.length ≤ 3001 := by omega
   obtain ⟨hp1, hp2⟩ := prog_total hE h0 hl2; have hrd := fun (W : World) (g cap : Nat) (cur : Array Value) (hb : Below w.heap.size w W) hh hcap => readToks_any W l g cap cur hE h0 hl2 hh hcap (hT.later hb); simp only
   cases hr : progP l (fns l KK) with
   | out => exact absurd hr hp1
   | bad er p => rw [hr] at hrd; exact parse_bad s w l er p hk h0 hrd
   | ok t j =>
    rw [hr] at hrd; have hj := hp2 t j hr; have hcb := prog_cb (fns_cb KK) hr; exact parse_ok s w l t j hk h0 (by omega) hrd
end Go.Proofs.YtodmgaikhbmlnaaGreatDoor
namespace Go.Proofs.YtodmgaikhbmlnaaGreatDoor
open Go.ChangeShapes Go.WideShapes Go.ChangeAt Go.WideMaps Go.WideElems Go.RowKit
theorem gTSigns : Tryz.prog.globalNamed "sloppyscope/tree.signs" = some 4 := by kernel_rfl
theorem gTHeads : Tryz.prog.globalNamed "sloppyscope/tree.heads" = some 5 := by kernel_rfl
theorem tTSigns : (Tryz.prog.globals[4]?).map (·.type) = some 176 := by kernel_rfl
theorem tTHeads : (Tryz.prog.globals[5]?).map (·.type) = some 179 := by kernel_rfl
theorem cells160 : Tryz.prog.cellsOf 175 = 4 := by kernel_rfl
theorem cells3 : Tryz.prog.cellsOf 3 = 1 := by kernel_rfl
theorem cells161 : Tryz.prog.cellsOf 176 = 56 := by kernel_rfl
theorem cellsHd : Tryz.prog.cellsOf 178 = 2 := by kernel_rfl
theorem cellsHds : Tryz.prog.cellsOf 179 = 16 := by kernel_rfl
theorem of_pieces (k : Nat) (hk : 0 < k) : ∀ (L : List (List Value)) (cs : List Value), (∀ l ∈ L, l.length = k) → cs.length = L.length * k → (∀ i (hi : i < L.length), (cs.drop (i * k)).take k = L[i]) → cs = L.flatten
 | [], cs, _, hl, _ => by
  have : cs.length = 0 := by simpa using hl
  simpa using this
 | l :: L, cs, h, hl, hp => by
  have h0 := hp 0 (by simp); simp only [Nat.zero_mul, List.drop_zero, List.getElem_cons_zero] at h0
  have h1 := of_pieces k hk L (cs.drop k) (fun x hx => h x (List.mem_cons_of_mem _ hx)) (by rw [List.length_drop, hl, List.length_cons, Nat.add_mul]; omega) (fun i hi => by
   have := hp (i + 1) (by simpa using hi); rw [List.getElem_cons_succ] at this; rw [List.drop_drop, show k + i * k = (i + 1) * k by rw [Nat.add_mul]; omega]
   exact this)
  rw [List.flatten_cons, ← h0, ← h1, List.take_append_drop]
section
variable {W : World} {fuel : Nat} {cs : List Value}
include W fuel cs
theorem int_of {z : Int} {q : List MemPlace} (h : DataW.trod (fun _ => ()) Tryz.prog W 0 (fun _ => true) false fuel 3 cs = some (.lit (.int .i64 z), q)) : cs = [.int .i64 z] := by
 obtain ⟨k, e, f, _⟩ := DataW.trod_int Tryz.underlying3 h
 simp only [Prod.mk.injEq, DataW.lit.injEq, Lit.int.injEq, true_and] at f
 rw [e, ← f.1]
theorem text_of {l : List UInt8} {q : List MemPlace} (h : DataW.trod (fun _ => ()) Tryz.prog W 0 (fun _ => true) false fuel 9 cs = some (.lit (.string l), q)) : cs = [.string (ofBytes l)] := by
 obtain ⟨s, e1, e2, _⟩ := DataW.trod_string Tryz.underlying9 h
 simp only [Prod.mk.injEq, DataW.lit.injEq, Lit.string.injEq] at e2
 rw [e1, ofBytes_eq e2.1.symm]
end
theorem fields4 {cs : List Value} (hl : cs.length = 4) {a b c d : Value} (h0 : (cs.drop 0).take 1 = [a]) (h1 : (cs.drop 1).take 1 = [b]) (h2 : (cs.drop 2).take 1 = [c]) (h3 : (cs.drop 3).take 1 = [d]) : cs = [a, b, c, d] := by
 match cs, hl with
 | [x, y, z, u], _ => simp at h0 h1 h2 h3; rw [h0, h1, h2, h3]
theorem fields2 {cs : List Value} (hl : cs.length = 2) {a b : Value} (h0 : (cs.drop 0).take 1 = [a]) (h1 : (cs.drop 1).take 1 = [b]) : cs = [a, b] := by
 match cs, hl with
 | [x, y], _ => simp at h0 h1; rw [h0, h1]
def sgD (l : List UInt8) (a b c : Int) : DataW Unit := .agg [.lit (.string l), .lit (.int .i64 a), .lit (.int .i64 b), .lit (.int .i64 c)]
def hdD (l : List UInt8) (a : Int) : DataW Unit := .agg [.lit (.string l), .lit (.int .i64 a)]
theorem fst_at {H : Type} {xs : List (DataW H × List MemPlace)} {ds : List (DataW H)} (h : ds = xs.map (·.1)) (i : Nat) (d : DataW H) (hd : ds[i]? = some d) : ∃ q, xs[i]? = some (d, q) := by
 subst h
 rw [List.getElem?_map] at hd
 cases hx : xs[i]? with
 | none => rw [hx] at hd; cases hd
 | some x =>
  rw [hx] at hd; exact ⟨x.2, by rw [← Option.some.inj hd]⟩
section
variable {W : World} {fuel : Nat} {cs : List Value} {l : List UInt8}
include W fuel cs l
theorem sg_of {a b c : Int} {q : List MemPlace} (h : DataW.trod (fun _ => ()) Tryz.prog W 0 (fun _ => true) false fuel 175 cs = some (sgD l a b c, q)) :
  cs = [.string (ofBytes l), .int .i64 a, .int .i64 b, .int .i64 c] := by
 obtain ⟨xs, n, _, hx, hl, hn, hel⟩ := DataW.trod_struct Tryz.underlying175 h
 simp only [Prod.mk.injEq, sgD, DataW.agg.injEq] at hx
 rw [cells160] at hl
 obtain ⟨q0, x0⟩ := fst_at hx.1 0 _ rfl
 obtain ⟨q1, x1⟩ := fst_at hx.1 1 _ rfl
 obtain ⟨q2, x2⟩ := fst_at hx.1 2 _ rfl
 obtain ⟨q3, x3⟩ := fst_at hx.1 3 _ rfl
 have f0 := hel 0 _ rfl
 have f1 := hel 1 _ rfl
 have f2 := hel 2 _ rfl
 have f3 := hel 3 _ rfl
 rw [x0] at f0
 rw [x1] at f1
 rw [x2] at f2
 rw [x3] at f3
 have g0 : (cs.drop 0).take (Tryz.prog.cellsOf 9) = _ := text_of f0
 have g1 : (cs.drop 1).take (Tryz.prog.cellsOf 3) = _ := int_of f1
 have g2 : (cs.drop 2).take (Tryz.prog.cellsOf 3) = _ := int_of f2
 have g3 : (cs.drop 3).take (Tryz.prog.cellsOf 3) = _ := int_of f3
 rw [cells9] at g0
 rw [cells3] at g1 g2 g3
 exact fields4 hl g0 g1 g2 g3
theorem hd_of {a : Int} {q : List MemPlace} (h : DataW.trod (fun _ => ()) Tryz.prog W 0 (fun _ => true) false fuel 178 cs = some (hdD l a, q)) :
  cs = [.string (ofBytes l), .int .i64 a] := by
 obtain ⟨xs, n, _, hx, hl, hn, hel⟩ := DataW.trod_struct Tryz.underlying178 h
 simp only [Prod.mk.injEq, hdD, DataW.agg.injEq] at hx
 rw [cellsHd] at hl
 obtain ⟨q0, x0⟩ := fst_at hx.1 0 _ rfl
 obtain ⟨q1, x1⟩ := fst_at hx.1 1 _ rfl
 have f0 := hel 0 _ rfl
 have f1 := hel 1 _ rfl
 rw [x0] at f0
 rw [x1] at f1
 have g0 : (cs.drop 0).take (Tryz.prog.cellsOf 9) = _ := text_of f0
 have g1 : (cs.drop 1).take (Tryz.prog.cellsOf 3) = _ := int_of f1
 rw [cells9] at g0
 rw [cells3] at g1
 exact fields2 hl g0 g1
end
def sgL4 : List (List UInt8 × Int × Int × Int) := sgs.map fun e => (e.tx.data.toList, e.kd, e.parts, e.str)
def hdL2 : List (List UInt8 × Int) := hds.map fun e => (e.1.data.toList, e.2)
section
variable {W : World} {fuel : Nat} {cs : List Value} {p : List MemPlace}
include W fuel cs p
theorem tsigns_of (h : DataW.trod (fun _ => ()) Tryz.prog W 0 (fun _ => true) false fuel 176 cs = some (.agg (sgL4.map fun e => sgD e.1 e.2.1 e.2.2.1 e.2.2.2), p)) : cs = sgCells.toList := by
 obtain ⟨xs, m, _, hx, hlen, hn, hel⟩ := DataW.trod_array Tryz.underlying176 h
 simp only [Prod.mk.injEq, DataW.agg.injEq] at hx
 rw [cells161] at hlen
 have key : cs = (sgL4.map fun e => [Value.string (ofBytes e.1), .int .i64 e.2.1, .int .i64 e.2.2.1, .int .i64 e.2.2.2]).flatten := by
  refine of_pieces 4 (by decide) _ cs ?_ (by rw [hlen]; rfl) ?_
  ·
   intro l hl; obtain ⟨e, _, rfl⟩ := List.mem_map.1 hl; rfl
  ·
   intro i hi; rw [List.length_map] at hi; have hi14 : i < 14 := hi; have he := hel i hi14; rw [cells160] at he; obtain ⟨q, hq⟩ := fst_at hx.1 i _ (by rw [List.getElem?_map, List.getElem?_eq_getElem hi]; rfl)
   rw [hq] at he; rw [sg_of he, List.getElem_map]
 rw [key]
 rfl
theorem theads_of (h : DataW.trod (fun _ => ()) Tryz.prog W 0 (fun _ => true) false fuel 179 cs = some (.agg (hdL2.map fun e => hdD e.1 e.2), p)) : cs = hdCells.toList := by
 obtain ⟨xs, m, _, hx, hlen, hn, hel⟩ := DataW.trod_array Tryz.underlying179 h
 simp only [Prod.mk.injEq, DataW.agg.injEq] at hx
 rw [cellsHds] at hlen
 have key : cs = (hdL2.map fun e => [Value.string (ofBytes e.1), .int .i64 e.2]).flatten := by
  refine of_pieces 2 (by decide) _ cs ?_ (by rw [hlen]; rfl) ?_
  ·
   intro l hl; obtain ⟨e, _, rfl⟩ := List.mem_map.1 hl; rfl
  ·
   intro i hi; rw [List.length_map] at hi; have hi14 : i < 8 := hi; have he := hel i hi14; rw [cellsHd] at he; obtain ⟨q, hq⟩ := fst_at hx.1 i _ (by rw [List.getElem?_map, List.getElem?_eq_getElem hi]; rfl)
   rw [hq] at he; rw [hd_of he, List.getElem_map]
 rw [key]
 rfl
end
end Go.Proofs.YtodmgaikhbmlnaaGreatDoor
namespace Go.Proofs.YtodmgaikhbmlnaaGreatDoor
open Go.RowKit
theorem lookup_one (T E : TypeId) (m k : Nat) (l : List (ByteArray × Value)) (s : ByteArray) (z : Value) (W : World) (hT : Tryz.prog.underlying T = some (.map 9 E)) (hm : W.heap[m]? = some (.map (mapOf l) k)) (hz : (zeroValue E).run Tryz.prog W = .ok z W) :
  (Instr.lookup T (.map (some m)) (.string s) false).run Tryz.prog W = .ok (((l.find? (fun e => decide (s = e.1))).map (·.2)).getD z) W := by
 exact zbbc
def setL (s : ByteArray) (v : Value) : List (ByteArray × Value) → List (ByteArray × Value)
 | [] => []
 | e :: l => if s = e.1 then (s, v) :: l else e :: setL s v l
theorem find_mod (s : ByteArray) (v : Value) : ∀ (l : List (ByteArray × Value)) (n i : Nat) (x : ByteArray × Value), l.find? (fun e => decide (s = e.1)) = some x →
  ∃ j y, Instr.findNow .string (.string s) ((l.zipIdx n).map mkE) i = some (some (i + j, y)) ∧ (((l.zipIdx n).map mkE).getD j ⟨.string s, v, 0⟩).key = .string s ∧ j < l.length ∧ ((l.zipIdx n).map mkE).modify j (fun e => { e with key := .string s, val := v }) = ((setL s v l).zipIdx n).map mkE
 | [], _, _, x, h => by cases h
 | e :: l, n, i, x, h => by
  simp only [List.zipIdx_cons, List.map_cons, Instr.findNow, mkE, Instr.sameNow, beq_bytes]
  by_cases hs : s = e.1
  ·
   rw [decide_eq_true hs]; refine ⟨0, e.2, rfl, by simp [hs], by simp, ?_⟩; simp only [setL, if_pos hs, List.zipIdx_cons, List.map_cons, mkE]; rfl
  ·
   rw [decide_eq_false hs]; rw [List.find?_cons, decide_eq_false hs] at h; obtain ⟨j, y, h1, h2, h3, h4⟩ := find_mod s v l (n + 1) (i + 1) x h; refine ⟨j + 1, y, ?_, ?_, by simp; omega, ?_⟩
   ·
    simp only; rw [h1, show i + 1 + j = i + (j + 1) by omega]
   ·
    simpa using h2
   ·
    simp only [setL, if_neg hs, List.zipIdx_cons, List.map_cons, List.modify_succ_cons, mkE]; rw [← h4]
theorem setL_len (s : ByteArray) (v : Value) : ∀ l : List (ByteArray × Value), (setL s v l).length = l.length
 | [] => rfl
 | e :: l => by
  rw [setL]
  split
  ·
   simp
  ·
   simp [setL_len s v l]
theorem find_setL (s x : ByteArray) (v : Value) : ∀ l : List (ByteArray × Value), (l.find? (fun e => decide (s = e.1))).isSome = true → ((setL s v l).find? (fun e => decide (x = e.1))).map (·.2) = if x = s then some v else (l.find? (fun e => decide (x = e.1))).map (·.2)
 | [], h => by cases h
 | e :: l, h => by
  rw [setL]
  by_cases hs : s = e.1
  ·
   rw [if_pos hs]; simp only [List.find?_cons]
   by_cases hx : x = s
   ·
    rw [decide_eq_true hx, if_pos hx]; rfl
   ·
    have hx2 : ¬ x = e.1 := fun e' => hx (e'.trans hs.symm); rw [decide_eq_false hx, if_neg hx, decide_eq_false hx2]
  ·
   rw [if_neg hs]; rw [List.find?_cons, decide_eq_false hs] at h; simp only [List.find?_cons]
   by_cases hx : x = e.1
   ·
    have hx2 : ¬ x = s := fun e' => hs (e'.symm.trans hx); rw [decide_eq_true hx, if_neg hx2]
   ·
    rw [decide_eq_false hx]; exact find_setL s x v l h
theorem update_old (T E : TypeId) (m k : Nat) (l : List (ByteArray × Value)) (s : ByteArray) (v : Value) (W : World) (hT : Tryz.prog.underlying T = some (.map 9 E)) (hm : W.heap[m]? = some (.map (mapOf l) k)) (x : ByteArray × Value) (hn : l.find? (fun e => decide (s = e.1)) = some x) :
  (Instr.mapUpdate T (.map (some m)) (.string s) v).run Tryz.prog W = .ok () (setMap W m (.map (mapOf (setL s v l)) k)) := by
 obtain ⟨j, y, h1, hkey, hj, h4⟩ := find_mod s v l 0 0 x hn
 have h9 := Tryz.underlying9
 have h3 : (Instr.findKey 9 (.string s) (mapOf l).toList).run Tryz.prog W = .ok (some (j, y)) W := by
  unfold Instr.findKey; rw [Sem.run_bind, run_underlying h9 W]; simp only [Result.andThen_ok, mapOf]; rw [h1, Nat.zero_add]; rfl
 have hck : ∀ b, (Instr.checkKey b 10000 9 (.string s)).run Tryz.prog W = .ok () W := by
  exact zccl
 have hg : (getObj m).run Tryz.prog W = .ok (.map (mapOf l) k) W := by simp [getObj, Sem.run, hm]
 have hlen : j < (mapOf l).size := by simp [mapOf]; exact hj
 have hk : ((((mapOf l)[j]?).map (·.key)).getD (.string s)) = .string s := by
  have h5 : (mapOf l)[j]? = some ((mapOf l)[j]) := Array.getElem?_eq_getElem hlen; rw [h5]; simp only [Option.map_some, Option.getD_some]; have h6 : ((l.zipIdx 0).map mkE).getD j ⟨.string s, v, 0⟩ = (mapOf l)[j] := by
   simp [mapOf, List.getD, hj]
  rw [← h6]; exact hkey
 have hst : (Instr.keyThatStays (.string s) (.string s)).run Tryz.prog W = .ok (.string s) W := by
  unfold Instr.keyThatStays; have : Instr.sameBits 10000 (.string s) (.string s) = true := by
   show (s == s) = true
   rw [beq_bytes]; exact decide_eq_true rfl
  rw [if_pos this]; rfl
 unfold Instr.mapUpdate
 rw [Sem.run_bind, run_underlying hT W]
 simp only [Result.andThen_ok, Sem.run_bind, hg, hck, h3, hk, hst]
 have h7 : (mapOf l).modify j (fun e => { e with key := .string s, val := v }) = mapOf (setL s v l) := by
  unfold mapOf; rw [← h4]; simp
 rw [h7]
 simp [setObj, Sem.run, hm, setMap]
def CMap (m : Nat) (c : ByteArray → Int) (W : World) : Prop := ∃ l : List (ByteArray × Value), W.heap[m]? = some (.map (mapOf l) l.length) ∧ l.length ≤ 60000 ∧ ∀ s, ((l.find? (fun e => decide (s = e.1))).map (·.2)).getD (.int .i64 0) = .int .i64 (c s)
theorem CMap.look {m : Nat} {c : ByteArray → Int} {W : World} (h : CMap m c W) (T : TypeId) (hT : Tryz.prog.underlying T = some (.map 9 3)) (s : ByteArray) : (Instr.lookup T (.map (some m)) (.string s) false).run Tryz.prog W = .ok (.int .i64 (c s)) W := by
 obtain ⟨l, h1, _, h2⟩ := h
 rw [lookup_one T 3 m l.length l s (.int .i64 0) W hT h1 (by kernel_rfl), h2]
end Go.Proofs.YtodmgaikhbmlnaaGreatDoor
namespace Go.Proofs.YtodmgaikhbmlnaaGreatDoor
open Go.RowKit
open Go.ChangeMaps (setBlock)
abbrev TL := List (ByteArray × Value)
def TMap (m : Nat) (l : TL) (W : World) : Prop := W.heap[m]? = some (.map (mapOf l) l.length) ∧ (l.map (·.1)).Nodup
def gets (l : TL) (z : Value) (s : ByteArray) : Value := ((l.find? (fun e => decide (s = e.1))).map (·.2)).getD z
def puts (l : TL) (s : ByteArray) (v : Value) : TL := if (l.find? (fun e => decide (s = e.1))).isSome then setL s v l else l ++ [(s, v)]
theorem setL_keys (s : ByteArray) (v : Value) : ∀ l : TL, (setL s v l).map (·.1) = l.map (·.1)
 | [] => rfl
 | e :: l => by
  rw [setL]
  split
  ·
   rename_i h; simp [h]
  ·
   simp [setL_keys s v l]
theorem gets_puts (l : TL) (z v : Value) (s x : ByteArray) : gets (puts l s v) z x = if x = s then v else gets l z x := by
 unfold gets puts
 split
 ·
  rename_i h
  rw [find_setL s x v l h]
  split <;> rfl
 ·
  rename_i h
  have hn := Option.not_isSome_iff_eq_none.1 h; rw [List.find?_append]
  by_cases hx : x = s
  ·
   subst hx; rw [hn, if_pos rfl]; simp
  ·
   rw [if_neg hx]
   cases l.find? (fun e => decide (x = e.1)) with
   | some y => rfl
   | none => simp [hx]
theorem puts_nodup {l : TL} (s : ByteArray) (v : Value) (h : (l.map (·.1)).Nodup) : ((puts l s v).map (·.1)).Nodup := by
 unfold puts
 split
 ·
  rw [setL_keys]; exact h
 ·
  rename_i hn
  have hn := Option.not_isSome_iff_eq_none.1 hn; rw [List.map_append, List.nodup_append]; refine ⟨h, by simp, fun a ha b hb e => ?_⟩; obtain ⟨y, hy, rfl⟩ := List.mem_map.1 ha; have := List.find?_eq_none.1 hn y hy
  simp at hb; exact this (decide_eq_true (by rw [e, hb]))
theorem gets_mem {l : TL} (z : Value) (h : (l.map (·.1)).Nodup) : ∀ e ∈ l, gets l z e.1 = e.2 := by
 induction l with
 | nil => intro e he; cases he
 | cons a l ih =>
  intro e he; rw [List.map_cons, List.nodup_cons] at h; unfold gets; rw [List.find?_cons]
  rcases List.mem_cons.1 he with rfl | he
  ·
   simp
  ·
   have : ¬ e.1 = a.1 := fun x => h.1 (by rw [← x]; exact List.mem_map_of_mem he)
   rw [decide_eq_false this]; exact ih h.2 e he
theorem gets_none {l : TL} {z : Value} {s : ByteArray} (h : s ∉ l.map (·.1)) : gets l z s = z := by
 unfold gets
 rw [List.find?_eq_none.2 (fun e he => by
  intro hd; exact h (by rw [of_decide_eq_true hd]; exact List.mem_map_of_mem he))]
 rfl
section
variable {m : Nat} {l : TL}
include m l
theorem TMap.lt {W : World} (h : TMap m l W) : m < W.heap.size := lt_of_heap h.1
theorem TMap.later {W X : World} (h : TMap m l W) (hb : X.heap[m]? = W.heap[m]?) : TMap m l X := ⟨hb.trans h.1, h.2⟩
theorem TMap.look {W : World} (h : TMap m l W) (T E : TypeId) (z : Value) (hT : Tryz.prog.underlying T = some (.map 9 E)) (hz : (zeroValue E).run Tryz.prog W = .ok z W) (s : ByteArray) :
  (Instr.lookup T (.map (some m)) (.string s) false).run Tryz.prog W = .ok (gets l z s) W := lookup_one T E m l.length l s z W hT h.1 hz
theorem TMap.put {W : World} (h : TMap m l W) (T E : TypeId) (hT : Tryz.prog.underlying T = some (.map 9 E)) (s : ByteArray) (v : Value) :
  ∃ W2, (Instr.mapUpdate T (.map (some m)) (.string s) v).run Tryz.prog W = .ok () W2 ∧ TMap m (puts l s v) W2 ∧ W2.heap.size = W.heap.size ∧ (∀ k, k ≠ m → W2.heap[k]? = W.heap[k]?) ∧ W2.os = W.os ∧ W2.tape = W.tape ∧ W2.output = W.output := by
 have hlt := h.lt
 cases hf : l.find? (fun e => decide (s = e.1)) with
 | none =>
  have hp : puts l s v = l ++ [(s, v)] := by unfold puts; rw [hf]; rfl
  refine ⟨_, update_new T E m l s v W hT h.1 hf, ⟨?_, puts_nodup s v h.2⟩, setMap_size _ _ _, fun k hk => setMap_other hk, rfl, rfl, rfl⟩; rw [setMap_at hlt, hp]; simp
 | some y =>
  have hp : puts l s v = setL s v l := by unfold puts; rw [hf]; rfl
  refine ⟨_, update_old T E m l.length l s v W hT h.1 y hf, ⟨?_, puts_nodup s v h.2⟩, setMap_size _ _ _, fun k hk => setMap_other hk, rfl, rfl, rfl⟩; rw [setMap_at hlt, hp, setL_len]
end
def keyM (e : MapEntry) : ByteArray × Value := (match e.key with | .string s => s | _ => ByteArray.empty, e.val)
def leftM (l : TL) (seen : Array Nat) : TL := (leftOf (mapOf l) seen).toList.map keyM
section
variable (l : TL)
include l
theorem mapOf_list : (mapOf l).toList = (l.zipIdx).map mkE := by simp [mapOf]
theorem mapOf_born : (mapOf l).toList.map (·.born) = List.range' 0 l.length := by
 rw [mapOf_list, List.map_map, show ((fun x : MapEntry => x.born) ∘ mkE) = Prod.snd from rfl, List.zipIdx_map_snd]
theorem mapOf_keys : (mapOf l).toList.map keyM = l := by
 rw [mapOf_list, List.map_map, show (keyM ∘ mkE) = Prod.fst from rfl, List.zipIdx_map_fst]
theorem mapOf_nodup : ((mapOf l).toList.map (·.born)).Nodup := by rw [mapOf_born]; exact List.nodup_range' _
theorem mapOf_old : ∀ x ∈ (mapOf l).toList, x.born < l.length := fun x hx => by
 have h : x.born ∈ (mapOf l).toList.map (·.born) := List.mem_map_of_mem hx
 rw [mapOf_born, List.mem_range'] at h
 obtain ⟨i, hi, he⟩ := h
 omega
theorem mapOf_form : ∀ x ∈ (mapOf l).toList, x.key = .string (keyM x).1 ∧ x.val = (keyM x).2 := fun x hx => by
 rw [mapOf_list, List.mem_map] at hx
 obtain ⟨⟨⟨k, v⟩, i⟩, hm, rfl⟩ := hx
 exact ⟨rfl, rfl⟩
end
theorem perm_bornM {e : MapEntry} : ∀ {L : List MapEntry}, (L.map (·.born)).Nodup → e ∈ L → L.Perm (e :: L.filter fun x => !(x.born == e.born))
 | [], _, h => by cases h
 | a :: L, hn, h => by
  rw [List.map_cons, List.nodup_cons] at hn
  rcases List.mem_cons.1 h with rfl | h
  ·
   have hf : (e :: L).filter (fun x => !(x.born == e.born)) = L := by
    rw [List.filter_cons, if_neg (by simp)]; rw [List.filter_eq_self]; intro x hx; have : x.born ≠ e.born := fun he => hn.1 (by rw [← he]; exact List.mem_map_of_mem hx)
    simpa using this
   rw [hf]
  ·
   have hne : a.born ≠ e.born := fun he => hn.1 (by rw [he]; exact List.mem_map_of_mem h)
   rw [List.filter_cons, if_pos (by simpa using hne)]; exact ((perm_bornM hn.2 h).cons a).trans (List.Perm.swap _ _ _)
theorem leftM_push (l : TL) (seen : Array Nat) (e : MapEntry) : (leftOf (mapOf l) (seen.push e.born)).toList = (leftOf (mapOf l) seen).toList.filter fun x => !(x.born == e.born) := by
 have h1 : leftOf (mapOf l) (seen.push e.born) = (leftOf (mapOf l) seen).filter (fun x => !(x.born == e.born)) := by
  exact zbfy
 rw [h1, Array.toList_filter]
theorem mst_step {r m : Nat} {l : TL} {seen : Array Nat} {W : World} (hit : W.heap[r]? = some (.mapIter (some m) l.length seen l.length)) (hmp : TMap m l W) (ty : TypeId) :
  (leftM l seen = [] ∧ (Instr.next (.pointer (some ⟨r, 0, none⟩)) false ty).run Tryz.prog W = .ok (.tuple #[.bool false]) W) ∨
  ∃ s v seen' X, (Instr.next (.pointer (some ⟨r, 0, none⟩)) false ty).run Tryz.prog W = .ok (.tuple #[.bool true, .string s, v]) X
   ∧ (Instr.entry (.pointer (some ⟨r, 0, none⟩))).run Tryz.prog X = .ok (.tuple #[.string s, v]) X ∧ X.heap[r]? = some (.mapIter (some m) l.length seen' l.length) ∧ TMap m l X ∧ (leftM l seen).Perm ((s, v) :: leftM l seen') ∧ (∀ k, k ≠ r → X.heap[k]? = W.heap[k]?) ∧ X.os = W.os ∧ X.tape = W.tape ∧ X.output = W.output ∧ X.heap.size = W.heap.size := by
 have hrm : m ≠ r := fun e => by
  have h1 := hmp.1; rw [e, hit] at h1; cases h1
 rcases run_next_at (P := Tryz.prog) W ty r m l.length l.length seen (mapOf l) l.length hit hmp.1 (mapOf_old l) (Nat.le_refl _) with ⟨h0, hh⟩ | ⟨e, he, w1, hw, hr⟩
 ·
  refine Or.inl ⟨?_, hh⟩; have : leftOf (mapOf l) seen = #[] := Array.eq_empty_of_size_eq_zero h0; unfold leftM; rw [this]; rfl
 ·
  have hem : e ∈ (mapOf l).toList := by
   unfold leftOf at he; rw [Array.toList_filter, List.mem_filter] at he; exact he.1
  obtain ⟨f1, f2⟩ := mapOf_form l e hem; have hl : r < W.heap.size := lt_of_heap hit
  have k1 : ∀ k, (setBlock w1 r (.mapIter (some m) l.length (seen.push e.born) l.length)).heap[k]? = if k = r then some (.mapIter (some m) l.length (seen.push e.born) l.length) else W.heap[k]? := by
   intro k
   rcases hw with rfl | rfl <;>
   ·
    unfold setBlock
    by_cases hk : k = r
    ·
     subst hk; simp [hl]
    ·
     rw [if_neg hk]; simp [Ne.symm hk] <;> rfl
  have hI : (setBlock w1 r (.mapIter (some m) l.length (seen.push e.born) l.length)).heap[r]? = some (.mapIter (some m) l.length (seen.push e.born) l.length) := by rw [k1, if_pos rfl]
  have hM : TMap m l (setBlock w1 r (.mapIter (some m) l.length (seen.push e.born) l.length)) := ⟨by rw [k1, if_neg hrm]; exact hmp.1, hmp.2⟩
  have hen := run_entry_at (P := Tryz.prog) _ r m l.length seen (mapOf l) l.length e hI hM.1 hem (mapOf_nodup l); rw [f1, f2] at hr hen
  refine Or.inr ⟨_, _, seen.push e.born, _, hr, hen, hI, hM, ?_, fun k hk => by rw [k1, if_neg hk], ?_, ?_, ?_, ?_⟩
  ·
   unfold leftM; rw [leftM_push]
   show List.Perm _ (keyM e :: _)
   rw [← List.map_cons]; have hnd : ((leftOf (mapOf l) seen).toList.map (·.born)).Nodup := by
    unfold leftOf; rw [Array.toList_filter]; exact (List.filter_sublist.map _).nodup (mapOf_nodup l)
   exact (perm_bornM hnd he).map keyM
  ·
   rcases hw with rfl | rfl <;> rfl
  ·
   rcases hw with rfl | rfl <;> rfl
  ·
   rcases hw with rfl | rfl <;> rfl
  ·
   rcases hw with rfl | rfl <;> simp [setBlock]
theorem leftM_start (l : TL) : leftM l #[] = l := by
 unfold leftM leftOf
 rw [Array.toList_filter, List.filter_eq_self.2 (fun x _ => by simp), mapOf_keys]
end Go.Proofs.YtodmgaikhbmlnaaGreatDoor
namespace Go.Proofs.YtodmgaikhbmlnaaGreatDoor
open Go.RowKit
abbrev SRow (B : Nat) (w : World) (v : Value) (l : List ByteArray) : Prop := w.ownsRow B 9 1 v l.length (l.map Value.string)
theorem info9 : (Tryz.prog.info? 9).map (fun i => (i.zero, i.size, i.bytes)) = some (some (.string ByteArray.empty), 1, 16) := by kernel_rfl
theorem srow_form {w : World} {B e sz n : Nat} {v : Value} {xs : List Value} (h : w.ownsRow B e sz v n xs) : ∃ a cap, v = .slice a n cap := by
 rcases h.2 with ⟨rfl, rfl⟩ | ⟨g, cap, cur, rfl, _⟩
 ·
  exact ⟨none, 0, rfl⟩
 ·
  exact ⟨_, cap, rfl⟩
theorem srow_nil (B : Nat) (w : World) : SRow B w (.slice none 0 0) [] := ⟨rfl, Or.inl ⟨rfl, rfl⟩⟩
theorem srow_cell {B : Nat} {w : World} {v : Value} {l : List ByteArray} (h : SRow B w v l) (k : Nat) (hk : k < l.length) : ∃ g cap, v = .slice (some ⟨g, 0, none⟩) l.length cap ∧ g < w.heap.size ∧ B ≤ g ∧ w.cell? ⟨g, k, none⟩ = some (.string l[k]) := by
 obtain ⟨g, cap, rfl, _, _⟩ := h.form (by omega)
 have h1 := own_lt h g rfl
 refine ⟨g, cap, rfl, h1.1, h1.2, ?_⟩
 rw [h.cellAt k (by omega)]
 simp [hk]
theorem srow_ones (l : List ByteArray) : ∀ u ∈ l.map Value.string, u.oneCell' = true := by
 intro u hu
 obtain ⟨p, _, rfl⟩ := List.mem_map.1 hu
 rfl
theorem hoCellsS (w : World) (s : ByteArray) (H : Nat) (h : w.heap.size = H) : ∀ j u, [Value.string s][j]? = some u → (w.alloc (.cells #[.string s] 9)).cell? ((⟨H, 0, none⟩ : Addr).add j) = some u := by
 subst h
 intro j u hj
 match j with
 | 0 =>
  simp only [List.getElem?_cons_zero, Option.some.injEq] at hj; subst hj
  show (w.alloc (.cells #[.string s] 9)).cell? ⟨w.heap.size, 0 + 0, none⟩ = _
  rw [cell_of (heap_new w (.cells #[.string s] 9))]; rfl
 | n + 1 => simp at hj
theorem hoOneS (s : ByteArray) : ∀ u ∈ [Value.string s], u.oneCell' = true := by
 intro u hu
 rw [List.mem_singleton.1 hu]
 rfl
def hasB (l : List ByteArray) (s : ByteArray) : Bool := l.any (fun x => decide (s = x))
section
variable {l : List ByteArray} {s : ByteArray}
include l s
theorem hasB_iff : hasB l s = true ↔ s ∈ l := by simp [hasB]
theorem hasB_no : hasB l s = false ↔ s ∉ l := by rw [← hasB_iff]; simp
end
def addB (l : List ByteArray) (s : ByteArray) : List ByteArray := if hasB l s then l else l ++ [s]
def onceL (l : List ByteArray) : List ByteArray := l.foldl addB []
section
variable {B : Nat} (l : List ByteArray) (s : ByteArray) (v : Value) (w : World) (h : SRow B w v l) (hl : l.length ≤ 100000)
include B l s v w h hl
open zrqbb in
theorem index_any :
  Calls Tryz.prog 189 #[v, .string s] w fun e w' => (∃ k : Int, e = .returned (.int .i64 k) ∧ decide (0 ≤ k) = hasB l s) ∧ w' = w := by
 obtain ⟨va, vc, rfl⟩ := srow_form h
 have HR := hide h
 clear h
 go_enter Tryz.func189, Tryz.ntmps189
 go_wp2_with fail
 go_loopw [8] (fun i wr => ∃ k : Nat, k ≤ l.length ∧ i = .int .i64 k ∧ s ∉ l.take k ∧ wr = w) (fun i _ => l.length - (intOf i).toNat)
 case atStart => exact ⟨0, Nat.zero_le _, rfl, by simp, rfl⟩
 case round =>
  obtain ⟨k, hk, rfl, hns, rfl⟩ := hrel; have HNS := hide hns; clear hns
  by_cases hlt : k < l.length
  ·
   exact zrco
  ·
   have hkk : k = l.length := by omega
   subst hkk; go_wp2_with fail; go_ret; refine ⟨⟨-1, rfl, ?_⟩, rfl⟩; have h := unhide HNS; rw [List.take_length] at h; rw [hasB_no.2 h]; rfl
theorem contains_any :
  Calls Tryz.prog 134 #[v, .string s] w fun e w' => e = .returned (.bool (hasB l s)) ∧ w' = w := by
 have HC := hide (index_any l s v w h hl)
 clear h
 go_enter Tryz.func134, Tryz.ntmps134
 go_wp2_with fail
 refine cm HC.out ?_
 rintro e w1 ⟨⟨k, rfl, hk⟩, rfl⟩
 have HK := hide hk
 clear hk HC
 go_wp2_with fail
 go_ret
 exact ⟨ret_bool HK.out, rfl⟩
end
theorem take_snoc' {α : Type} (l : List α) (k : Nat) (hk : k < l.length) : l.take (k + 1) = l.take k ++ [l[k]] := List.take_succ_eq_append_getElem hk
theorem once_take (l : List ByteArray) (k : Nat) (hk : k < l.length) : onceL (l.take (k + 1)) = addB (onceL (l.take k)) l[k] := by
 rw [take_snoc' l k hk, onceL, List.foldl_append]; rfl
theorem once_len (l : List ByteArray) : (onceL l).length ≤ l.length := by
 have : ∀ (l acc : List ByteArray), (l.foldl addB acc).length ≤ acc.length + l.length := by
  intro l
  induction l with
  | nil => intro acc; simp
  | cons x l ih =>
   intro acc; have h := ih (addB acc x); have h2 : (addB acc x).length ≤ acc.length + 1 := by unfold addB; split <;> simp
   simp only [List.foldl_cons, List.length_cons]; omega
 simpa [onceL] using this l []
open zrqbc in
theorem once_any {B : Nat} (l : List ByteArray) (v : Value) (w : World) (h : SRow B w v l) (hl : l.length ≤ 90000) :
  Calls Tryz.prog 65 #[v] w fun e w' => (∃ u, e = .returned u ∧ SRow w.heap.size w' u (onceL l)) ∧ Below w.heap.size w w' := by
 obtain ⟨i0, hi0, hz0, hz1, hz2⟩ := info_parts info9
 obtain ⟨va, vc, rfl⟩ := srow_form h
 have HR := hide h
 clear h
 go_enter Tryz.func65, Tryz.ntmps65
 go_wp2_with fail
 go_loopw [3, 8] (fun o i wr => ∃ k : Nat, k ≤ l.length ∧ i = .int .i64 k ∧ SRow w.heap.size wr o (onceL (l.take k)) ∧ Below w.heap.size w wr) (fun _ i _ => l.length - (intOf i).toNat)
 case atStart => exact ⟨0, Nat.zero_le _, rfl, srow_nil _ _, Below.refl _ _⟩
 case round =>
  obtain ⟨k, hk, rfl, hown, hbel⟩ := hrel; have HOWN := hide hown; have HBEL := hide hbel; obtain ⟨oa, oc, rfl⟩ := srow_form hown; clear hown hbel
  by_cases hlt : k < l.length
  ·
   exact zrco
  ·
   have hkk : k = l.length := by omega
   subst hkk; go_wp2_with fail; go_ret; refine ⟨⟨_, rfl, ?_⟩, HBEL.out⟩; exact zbdx
end Go.Proofs.YtodmgaikhbmlnaaGreatDoor
