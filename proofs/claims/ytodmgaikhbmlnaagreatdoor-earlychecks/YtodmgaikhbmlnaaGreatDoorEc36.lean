/-
  The document's own parser as a function of the tokens: plain, with a bound on the recursion; it comes to an end; and where it says that there is a program, the reader's grammar says the same.
-/
import Derived.Test.YtodmgaikhbmlnaaGreatDoorEc35
namespace Go.Proofs.YtodmgaikhbmlnaaGreatDoor
abbrev tPM : ByteArray := ⟨#[43, 45]⟩
def lvls : List ByteArray := [tOr, tAnd, tSame, tLess, tPM, tMul]
def fitsB (s x : ByteArray) : Bool := decide (x = s) || (decide (s = tPM) && (decide (x = tAdd) || decide (x = tSub)))
def ops : List (ByteArray × Int) := [(tOr, 25), (tAnd, 26), (tSame, 27), (tLess, 28), (tAdd, 29), (tSub, 30), (tMul, 31)]
def opK (x : ByteArray) : Int := (look2 ops x).getD 0
def lits : List (ByteArray × Int) := [(tTrue, 19), (tFalse, 20), (tNull, 21), (tUndef, 22)]
def litK (x : ByteArray) : Int := (look2 lits x).getD 0
section
variable (l : List Tk)
def rlistLoop (shut : ByteArray) (part : Nat → PR Tr) : Nat → List Tr → Nat → PR (List Tr)
 | 0, _, _ => .out
 | k + 1, acc, i => if fx l i = shut then .ok acc (i + 1) else
  (if acc.length = 0 then PR.ok () i else mustP l tComma i).bind fun _ i1 =>
   if acc.length = 8 then badF l 4 i1 else (part i1).bind fun t i2 => rlistLoop shut part k (acc ++ [t]) i2
def rparamsP (F : Fns) (i : Nat) : PR Tr :=
 (mustP l tOpen i).bind fun _ i1 => (rlistLoop l tShut (paramP l) F.fuel [] i1).bind fun ts i2 => .ok (.mk 40 noText 0 ts) i2
def robjectP (F : Fns) (d i : Nat) : PR Tr :=
 (mustP l tLBrace i).bind fun _ i1 => (rlistLoop l tRBrace (propP l F d) F.fuel [] i1).bind fun ts i2 => .ok (.mk 38 noText 0 ts) i2
def rfuncTail (F : Fns) (kd : Int) (s : ByteArray) (d i : Nat) : PR Tr :=
 (rparamsP l F i).bind fun ps i1 => (blockP l F d i1).bind fun b i2 => .ok (.mk kd s 0 [ps, codeT b]) i2
def rlambdaP (F : Fns) (d i : Nat) : PR Tr :=
 (mustP l tFunction i).bind fun _ i1 => if isName l i1 = true then (nameP l i1).bind fun s i2 => rfuncTail l F 37 s d i2 else rfuncTail l F 37 noText d i1
def rfuncP (F : Fns) (d i : Nat) : PR Tr :=
 (mustP l tFunction i).bind fun _ i1 => (nameP l i1).bind fun s i2 => rfuncTail l F 5 s d i2
def raloneP (F : Fns) (d i : Nat) : PR Tr :=
 if (tkA l i).kd = 1 then .ok (.mk 23 (tkA l i).tx 0 []) (i + 1)
 else if (tkA l i).kd = 3 then .ok (.mk 17 noText (tkA l i).n []) (i + 1)
 else if (tkA l i).kd = 4 then .ok (.mk 18 (tkA l i).tx 0 []) (i + 1)
 else if fx l i = tOpen then inParP l F d i
 else if fx l i = tFunction then rlambdaP l F d i
 else if fx l i = tLBrace then robjectP l F d i
 else if (tkA l i).kd = 2 ∧ 0 < litK (tkA l i).tx then .ok (.mk (litK (tkA l i).tx) noText 0 []) (i + 1)
 else badF l 3 i
def rargsP (F : Fns) (d i : Nat) : PR (List Tr) := rlistLoop l tShut (argP l F d) F.fuel [] i
def raskedLoop (F : Fns) (d : Nat) : Nat → Tr → Nat → PR Tr
 | 0, _, _ => .out
 | k + 1, t, i =>
  if fx l i = tDot then (nameP l (i + 1)).bind fun s i1 => raskedLoop F d k (.mk 36 s 0 [t]) i1
  else if fx l i = tOpen then (rargsP l F d (i + 1)).bind fun ts i1 => raskedLoop F d k (.mk 35 noText 0 (t :: ts)) i1
  else .ok t i
def raskedP (F : Fns) (d i : Nat) : PR Tr := (raloneP l F d i).bind fun t i1 => raskedLoop l F d F.fuel t i1
def rsingleP (F : Fns) (d i : Nat) : PR Tr :=
 match sgP 1 (fx l i) with
 | some s => (deepP l F.sg d (i + 1)).bind fun t i1 => .ok (.mk s.kd noText 0 [t]) i1
 | none => raskedP l F d i
def rpairLoop (sub : Nat → PR Tr) (s : ByteArray) : Nat → Tr → Nat → PR Tr
 | 0, _, _ => .out
 | k + 1, t, i =>
  if (tkA l i).kd = 5 ∧ fitsB s (tkA l i).tx = true then (sub (i + 1)).bind fun u i1 => rpairLoop sub s k (.mk (opK (tkA l i).tx) noText 0 [t, u]) i1
  else .ok t i
def rpairs (F : Fns) (d : Nat) : List ByteArray → Nat → PR Tr
 | [], i => F.sg d i
 | s :: rest, i => (rpairs F d rest i).bind fun t i1 => rpairLoop l (rpairs F d rest) s F.fuel t i1
def rpr (F : Fns) (least : Int) (d i : Nat) : PR Tr := rpairs l F d (lvls.drop (least - 2).toNat) i
def rpartP (F : Fns) (d : Nat) : Nat → Nat → PR Tr
 | 0 => declP l F d
 | 1 => rfuncP l F d
 | 2 => blockP l F d
 | 3 => fun i => (mustP l tSemi i).bind fun _ i1 => .ok (.mk 16 noText 0 []) i1
 | 4 => choiceP l F d
 | 5 => behindP l F d
 | 6 => givingP l F d
 | _ => attemptP l F d
def rstatementP (F : Fns) (d i : Nat) : PR Tr :=
 match look2 stKeys (fx l i) with
 | some q => rpartP l F d q i
 | none => exprP l F d i
def rfns : Nat → Fns
 | 0 => noFns
 | k + 1 => ⟨k, rstatementP l (rfns k), valueP l (rfns k), rpr l (rfns k), rsingleP l (rfns k)⟩
end
section
variable {l : List Tk} (hE : Ends l)
include hE
theorem rlistLoop_nx {q : Prop} {shut : ByteArray} {part : Nat → PR Tr} {I : Nat} (hs : shut ≠ noText) (hp : ∀ i, I ≤ i → i < l.length → Nx q l.length (i + 1) (part i)) :
  ∀ k acc i, I ≤ i → i < l.length → Nx (q ∧ l.length - i < k) l.length (i + 1) (rlistLoop l shut part k acc i) := by
 intro k
 induction k with
 | zero => intro acc i _ _; exact ⟨fun h => absurd h.2 (by omega), fun _ _ h => by (cases h)⟩
 | succ k ih =>
  intro acc i hI hi; unfold rlistLoop
  split
  ·
   exact Nx.ok (by omega) (fx_lt hE hi ‹_› hs)
  ·
   have h0 : Nx (q ∧ l.length - i < k + 1) l.length i (if acc.length = 0 then PR.ok () i else mustP l tComma i) := by
    split
    ·
     exact Nx.ok (Nat.le_refl _) hi
    ·
     exact (mustP_nx hE hi (by decide)).le (by omega)
   refine Nx.bind h0 fun _ j h1 h2 => ?_
   split
   ·
    exact Nx.badF
   ·
    refine Nx.bind ((hp j (by omega) h2).imp And.left) fun t j2 h3 h4 => ?_; exact ((ih _ j2 (by omega) h4).le (by omega)).imp fun h => ⟨h.1, by omega⟩
variable {k : Nat} {F : Fns} (hF : FNx l k F)
include hF
theorem rparamsP_nx {q : Prop} {i : Nat} (hi : i < l.length) (hq : q → 8 * (l.length - i) ≤ k + 4) : Nx q l.length (i + 1) (rparamsP l F i) := by
 unfold rparamsP
 refine Nx.bind (mustP_nx hE hi (by decide)) fun _ j h1 h2 => ?_
 refine Nx.bind (((rlistLoop_nx hE (q := q) (I := j) (by decide) (fun j2 _ h => paramP_nx hE h) F.fuel [] j (Nat.le_refl _) h2).imp fun h => ⟨h, ?_⟩)) fun ts j2 h3 h4 => Nx.ok (by omega) h4
 have := hq h
 rw [hF.fuel]; omega
theorem robjectP_nx {q : Prop} {d i : Nat} (hi : i < l.length) (hq : q → 8 * (l.length - i) ≤ k + 4) : Nx q l.length (i + 1) (robjectP l F d i) := by
 unfold robjectP
 refine Nx.bind (mustP_nx hE hi (by decide)) fun _ j h1 h2 => ?_
 refine Nx.bind (((rlistLoop_nx hE (q := q) (I := j) (by decide) (fun j2 hj h => propP_nx hE hF h fun hh => by have := hq hh; omega) F.fuel [] j (Nat.le_refl _) h2).imp fun h => ⟨h, ?_⟩)) fun ts j2 h3 h4 => Nx.ok (by omega) h4
 have := hq h
 rw [hF.fuel]; omega
theorem rfuncTail_nx {q : Prop} {kd : Int} {s : ByteArray} {d i : Nat} (hi : i < l.length) (hq : q → 8 * (l.length - i) ≤ k + 4) : Nx q l.length (i + 1) (rfuncTail l F kd s d i) := by
 unfold rfuncTail
 refine Nx.bind (rparamsP_nx hE hF hi hq) fun ps j h1 h2 => ?_
 exact Nx.bind (blockP_nx hE hF h2 fun h => by have := hq h; omega) fun b j2 h3 h4 => Nx.ok (by omega) h4
section
variable {q : Prop} {d i : Nat} (hi : i < l.length) (hq : q → 8 * (l.length - i) ≤ k + 4)
include q d i hi hq
theorem rlambdaP_nx : Nx q l.length (i + 1) (rlambdaP l F d i) := by
 unfold rlambdaP
 refine Nx.bind (mustP_nx hE hi (by decide)) fun _ j h1 h2 => ?_
 split
 ·
  exact zbgl
 ·
  exact (rfuncTail_nx hE hF h2 fun h => by have := hq h; omega).le (by omega)
theorem rfuncP_nx : Nx q l.length (i + 1) (rfuncP l F d i) := by
 unfold rfuncP
 refine Nx.bind (mustP_nx hE hi (by decide)) fun _ j h1 h2 => ?_
 exact zbgl
theorem raloneP_nx : Nx q l.length (i + 1) (raloneP l F d i) := by
 unfold raloneP
 split
 ·
  exact zbdp
 ·
  split
  ·
   exact zbdp
  ·
   split
   ·
    exact zbdp
   ·
    split
    ·
     exact inParP_nx hE hF hi hq
    ·
     split
     ·
      exact rlambdaP_nx hE hF hi hq
     ·
      split
      ·
       exact robjectP_nx hE hF hi hq
      ·
       split
       ·
        rename_i h; exact Nx.ok (Nat.le_refl _) (next_lt hE hi (by rw [h.1]; decide))
       ·
        exact Nx.badF
end
theorem raskedLoop_nx {q : Prop} {I : Nat} (hq : q → 8 * (l.length - I) ≤ k + 4) : ∀ n d t i, I < i → i < l.length → Nx (q ∧ l.length - i < n) l.length i (raskedLoop l F d n t i) := by
 intro n
 induction n with
 | zero => intro d acc i _ _; exact ⟨fun h => absurd h.2 (by omega), fun _ _ h => by (cases h)⟩
 | succ n ih =>
  intro d t i hI hi; unfold raskedLoop
  split
  ·
   exact zbfo
  ·
   split
   ·
    have h0 := fx_lt hE hi ‹_› (by decide); unfold rargsP
    refine Nx.bind ((rlistLoop_nx hE (q := q ∧ l.length - i < n + 1) (I := i + 1) (by decide) (fun j2 hj h => argP_nx hF h fun hh => by have := hq hh.1; omega) F.fuel [] (i + 1) (Nat.le_refl _) h0).imp fun h => ⟨h, ?_⟩) fun ts j h1 h2 => ((ih d _ j (by omega) h2).le (by omega)).imp fun h => ⟨h.1, by omega⟩
    have := hq h.1; rw [hF.fuel]; omega
   ·
    exact Nx.ok (Nat.le_refl _) hi
theorem raskedP_nx {q : Prop} {d i : Nat} (hi : i < l.length) (hq : q → 8 * (l.length - i) ≤ k + 4) : Nx q l.length (i + 1) (raskedP l F d i) := by
 unfold raskedP
 refine Nx.bind (raloneP_nx hE hF hi hq) fun t j h1 h2 => ((raskedLoop_nx hE hF hq F.fuel d t j (by omega) h2).le (by omega)).imp fun h => ⟨h, ?_⟩
 have := hq h
 rw [hF.fuel]; omega
theorem rsingleP_nx {d i : Nat} (hi : i < l.length) : Nx (8 * (l.length - i) < k + 1) l.length (i + 1) (rsingleP l F d i) := by
 unfold rsingleP
 split
 ·
  exact zbgb
 ·
  exact raskedP_nx hE hF hi fun h => by omega
omit hF in
theorem rpairLoop_nx {q : Prop} {I : Nat} {sub : Nat → PR Tr} {s : ByteArray} (hp : ∀ i, I < i → i < l.length → Nx q l.length (i + 1) (sub i)) : ∀ n t i, I < i → i < l.length → Nx (q ∧ l.length - i < n) l.length i (rpairLoop l sub s n t i) := by
 intro n
 induction n with
 | zero => intro acc i _ _; exact ⟨fun h => absurd h.2 (by omega), fun _ _ h => by (cases h)⟩
 | succ n ih =>
  intro t i hI hi; unfold rpairLoop
  split
  ·
   rename_i h
   have h0 := next_lt hE hi (by rw [h.1]; decide)
   exact Nx.bind ((hp _ (by omega) h0).imp And.left) fun u j h1 h2 => ((ih _ j (by omega) h2).le (by omega)).imp fun h => ⟨h.1, by omega⟩
  ·
   exact Nx.ok (Nat.le_refl _) hi
theorem rpairs_nx {d : Nat} : ∀ (ls : List ByteArray) (i : Nat), i < l.length → Nx (8 * (l.length - i) + 1 < k + 1) l.length (i + 1) (rpairs l F d ls i)
 | [], i, hi => by
  unfold rpairs; exact (hF.sg _ _ hi).imp fun h => by omega
 | s :: rest, i, hi => by
  unfold rpairs; refine Nx.bind (rpairs_nx rest i hi) fun t j h1 h2 => ?_
  refine ((rpairLoop_nx hE (q := 8 * (l.length - i) + 1 < k + 1) (I := i) (fun i2 h3 h4 => (rpairs_nx rest i2 h4).imp fun h => by omega) F.fuel t j (by omega) h2).le (by omega)).imp fun h => ⟨h, ?_⟩; rw [hF.fuel]; omega
theorem rpartP_nx {q : Prop} {d i c : Nat} (hi : i + 1 < l.length) (hq : q → 8 * (l.length - i) ≤ k + 4) : Nx q l.length (i + 1) (rpartP l F d c i) := by
 unfold rpartP
 split
 ·
  exact declP_nx hE hF hi hq
 ·
  exact rfuncP_nx hE hF (by omega) hq
 ·
  exact blockP_nx hE hF (by omega) hq
 ·
  exact Nx.bind (mustP_nx hE (by omega) (by decide)) fun _ j h1 h2 => Nx.ok h1 h2
 ·
  exact choiceP_nx hE hF hi hq
 ·
  exact behindP_nx hE hF hi hq
 ·
  exact givingP_nx hE hF hi hq
 ·
  exact attemptP_nx hE hF (by omega) hq
theorem rstatementP_nx {d i : Nat} (hi : i < l.length) : Nx (8 * (l.length - i) + 3 < k + 1) l.length (i + 1) (rstatementP l F d i) := by
 unfold rstatementP
 split
 ·
  rename_i c hc
  exact rpartP_nx hE hF (look2_lt hE hi hc (by decide)) fun h => by omega
 ·
  exact exprP_nx hE hF hi fun h => by omega
omit hF in
theorem rfns_nx : ∀ k, FNx l k (rfns l k) := by
 intro k
 induction k with
 | zero => exact ⟨rfl, fun _ _ _ => ⟨fun h => absurd h (by omega), fun _ _ h => by (cases h)⟩, fun _ _ _ => ⟨fun h => absurd h (by omega), fun _ _ h => by (cases h)⟩, fun _ _ _ _ => ⟨fun h => absurd h (by omega), fun _ _ h => by (cases h)⟩, fun _ _ _ => ⟨fun h => absurd h (by omega), fun _ _ h => by (cases h)⟩⟩
 | succ k ih => exact ⟨rfl, fun _ _ hi => rstatementP_nx hE ih hi, fun _ _ hi => valueP_nx hE ih hi, fun _ _ _ hi => rpairs_nx hE ih _ _ hi, fun _ _ hi => rsingleP_nx hE ih hi⟩
end
end Go.Proofs.YtodmgaikhbmlnaaGreatDoor
set_option maxRecDepth 100000
set_option maxHeartbeats 16000000
namespace Go.Proofs.YtodmgaikhbmlnaaGreatDoor
open Go.RowKit
theorem Ps.ap {c : PC} {B : Nat} {w w' : World} {i : Nat} {er pl : Int} (h : Ps c w i er pl) (ha : Below B w w') (hB : c.lo ≤ B) : Ps c w' i er pl :=
 ⟨h.base.later (Ap.of ha) hB, by rw [ha.block _ (by have := h.base.old; omega)]; exact h.blk, h.lt⟩
section
variable {B : Nat} {w : World} {ts : List Tr}
include B w ts
theorem nv_row {ps : List Nat} (h : NAts (fun b => B ≤ b) w ts ps) (hB : B ≤ w.heap.size) (hl : ps.length ≤ maxLen) (cs : Array Value) (hc : cs.toList = ps.map nPtr) (n : Nat) (hn : n = ps.length) (kd : Int) (tx : ByteArray) (z : Int) (q : Nat) (hq : q = w.heap.size + 1) :
  EV B ((w.alloc (.cells cs 22)).alloc (nodeObj kd tx z (.slice (some ⟨w.heap.size, 0, none⟩) n n))) (.mk kd tx z ts) (nPtr q) := by
 subst hn hq
 have := EV.new (KV.row h hB hl cs hc) (by simp; omega) kd tx z
 simpa using this
theorem nv_kv {v : Value} (h : KV B w ts v) (hB : B ≤ w.heap.size) (kd : Int) (tx : ByteArray) (z : Int) : EV B (w.alloc (nodeObj kd tx z v)) (.mk kd tx z ts) (nPtr w.heap.size) := EV.new h hB kd tx z
end
section
variable (c : PC) (w : World) (i : Nat) (er pl D : Int) (he : er ≠ 0) (h : Ps c w i er pl)
include c w i er pl D he h
theorem rvalue_old :
  Calls Tryz.prog 107 #[pPtr c, .int .i64 D] w (NPost c w er pl ZN) := by
 have hc := rok_any c w i er pl h
 rw [beq_eq_false_iff_ne.2 he] at hc
 have HC := hide hc
 have HP := hide h
 clear h hc
 go_enter Tryz.func107, Tryz.ntmps107
 exact zbdj
theorem rstatement2_old :
  Calls Tryz.prog 105 #[pPtr c, .int .i64 D] w (NPost c w er pl ZN) := by
 have hc := rok_any c w i er pl h
 rw [beq_eq_false_iff_ne.2 he] at hc
 have HC := hide hc
 have HP := hide h
 clear h hc
 go_enter Tryz.func105, Tryz.ntmps105
 exact zbdj
end
def lvCells : Array Value := (lvls.map Value.string).toArray
structure RCt (c : PC) (F : Fns) : Prop where
 st : ∀ w d i r, d ≤ 30 → r = deepP c.l F.st d i → r ≠ .out → Ps c w i 0 (-1) → Calls Tryz.prog 47 #[pPtr c, .int .i64 ((d : Int) + 1)] w (QPost c w (NV w.heap.size) ZN r)
 vl : ∀ w d i r, d ≤ 30 → r = deepP c.l F.vl d i → r ≠ .out → Ps c w i 0 (-1) → Calls Tryz.prog 107 #[pPtr c, .int .i64 ((d : Int) + 1)] w (QPost c w (NV w.heap.size) ZN r)
 pr : ∀ w d i r g, d ≤ 30 → r = F.pr 2 d i → r ≠ .out → Ps c w i 0 (-1) → w.heap[g]? = some (.cells lvCells 9 (0, 0)) → g ≠ c.P → Calls Tryz.prog 149 #[pPtr c, .int .i64 (d : Int), .slice (some ⟨g, 0, none⟩) 6 6] w (QPost c w (NV w.heap.size) ZN r)
 sg : ∀ w d i r, d ≤ 30 → r = F.sg d i → r ≠ .out → Ps c w i 0 (-1) → Calls Tryz.prog 213 #[pPtr c, .int .i64 (d : Int)] w (QPost c w (NV w.heap.size) ZN r)
theorem npost_trans {c : PC} {w w1 : World} {er pl : Int} {Z : Value → Prop} {e : Ending} {w' : World} (ha : Ap c.P w.heap.size w w1) (h : NPost c w1 er pl Z e w') : NPost c w er pl Z e w' := ⟨h.1, h.2.1, h.2.2.1, ha.next h.2.2.2⟩
section
variable {c : PC} {F : Fns} (hF : RCt c F) (w : World) (d i : Nat) (r : PR Tr) (hd : d ≤ 30)
include c F hF w d i r hd
theorem rstatement2_any (hs : r = deepP c.l F.st d i) (ho : r ≠ .out) (h : Ps c w i 0 (-1)) :
  Calls Tryz.prog 105 #[pPtr c, .int .i64 (d : Int)] w (QPost c w (NV w.heap.size) ZN r) := by
 have HC := hide (rok_any c w i 0 (-1) h)
 have HC2 := hide (hF.st w d i r hd hs ho h)
 have HO := hide ho
 clear h hs ho hF
 go_enter Tryz.func105, Tryz.ntmps105
 go_wp2_with fail
 refine cm HC.out ?_
 rintro e w1 ⟨rfl, rfl⟩
 clear HC
 go_wp2_with fail
 refine cm HC2.out ?_
 intro e w2 hp
 cases r with
 | out => exact absurd rfl HO.out
 | ok t j =>
  obtain ⟨⟨v, rfl, hv⟩, hp2, ha⟩ := hp; obtain ⟨q, rfl, hn⟩ := hv; have H1 := hide hn; have H2 := hide hp2; have H3 := hide ha; clear hn hp2 ha HC2; exact zcce
 | bad er pl =>
  obtain ⟨⟨v, rfl, q, rfl⟩, hp2, he, ha⟩ := hp; have H2 := hide hp2; have H3 := hide ha; clear hp2 ha HC2; exact zccg
theorem rhead_any (hs : r = inParP c.l F d i) (ho : r ≠ .out) (h : Ps c w i 0 (-1)) :
  Calls Tryz.prog 104 #[pPtr c, .int .i64 (d : Int)] w (QPost c w (NV w.heap.size) ZN r) := by
 unfold inParP at hs
 have HC := hide (rmust_any c w i tOpen (by decide) h)
 have HLT := hide h.rlt
 have HS := hide hs
 have HO := hide ho
 have HF := hide hF
 clear h hs ho hF
 go_enter Tryz.func104, Tryz.ntmps104
 go_wp2_with fail
 refine cm HC.out ?_
 intro e w1 hp
 cases hr : mustP c.l tOpen i with
 | out => rw [hr] at HS; exact absurd HS.out HO.out
 | bad er pl =>
  rw [hr] at hp HS; have hq : r = .bad er pl := unhide HS; subst hq; obtain ⟨⟨v, rfl, rfl⟩, ⟨j, hp2⟩, he, ha⟩ := hp; have HA := hide ha; have HC2 := hide (rvalue_old c w1 j er pl ((d : Int) + 1) he hp2); clear hr HC hp2 ha
  go_wp2_with fail; refine cm HC2.out ?_; rintro e w2 ⟨⟨v, rfl, q, rfl⟩, ⟨j2, hp3⟩, _, ha2⟩; exact zbdy
 | ok x1 j1 =>
  rw [hr] at hp HS; have hq : r = (deepP c.l F.vl d j1).bind fun t i2 => (mustP c.l tShut i2).bind fun _ i3 => .ok t i3 := unhide HS; obtain ⟨⟨v, rfl, rfl⟩, hp2, ha⟩ := hp; have HA := hide ha; have HQ := hide hq
  have HP2 := hide hp2; clear hr HC hp2 ha hq HS
  cases hr2 : deepP c.l F.vl d j1 with
  | out => rw [hr2] at HQ; exact absurd HQ.out HO.out
  | bad er pl =>
   have HC2 := hide (HF.out.vl w1 d j1 _ hd hr2.symm (by nofun) HP2.out); rw [hr2] at HQ; have hq : r = .bad er pl := unhide HQ; subst hq; clear hr2; go_wp2_with fail; refine cm HC2.out ?_
   rintro e w2 ⟨⟨v, rfl, q, rfl⟩, ⟨j2, hp3⟩, he, ha2⟩; exact zbdy
  | ok t j2 =>
   have HC2 := hide (HF.out.vl w1 d j1 _ hd hr2.symm (by nofun) HP2.out); rw [hr2] at HQ; have hq : r = (mustP c.l tShut j2).bind fun _ i3 => .ok t i3 := unhide HQ; have HQ2 := hide hq; clear hr2 hq HQ; go_wp2_with fail
   refine cm HC2.out ?_; rintro e w2 ⟨⟨v, rfl, q, rfl, hn⟩, hp3, ha2⟩; have HA2 := hide (HA.out.next ha2); have HN := hide hn; have HSZ := hide HA.out.size; have HC3 := hide (rmust_any c w2 j2 tShut (by decide) hp3)
   clear HC2 ha2 hp3 hn; go_wp2_with fail; refine cm HC3.out ?_; intro e w3 hp
   cases hr3 : mustP c.l tShut j2 with
   | out => rw [hr3] at HQ2; exact absurd HQ2.out HO.out
   | bad er pl =>
    rw [hr3] at hp HQ2; have hq : r = .bad er pl := unhide HQ2; subst hq; obtain ⟨⟨v, rfl, rfl⟩, hp2, he, ha⟩ := hp; have HA3 := hide (HA2.out.next ha); have HP3 := hide hp2; clear hr3 HC3 hp2 ha; go_wp2_with fail; go_ret
    exact ⟨⟨_, rfl, q, rfl⟩, HP3.out, he, HA3.out⟩
   | ok x3 j3 =>
    rw [hr3] at hp HQ2; have hq : r = .ok t j3 := unhide HQ2; subst hq; obtain ⟨⟨v, rfl, rfl⟩, hp2, ha⟩ := hp; have HA3 := hide (HA2.out.next ha); have HP3 := hide hp2
    have HN3 : Hid (NAt (fun b => w.heap.size ≤ b) w3 t q) := NAt.mono (fun b hb _ => Nat.le_trans HSZ.out hb) _ _ (NAt.later (Stay.of_ap ha (B := w1.heap.size) (by have h1 := unhide HLT; have h2 := unhide HSZ; omega) fun _ h => h) _ _ HN.out)
    clear hr3 HC3 hp2 ha; go_wp2_with fail; go_ret; exact ⟨⟨_, rfl, q, rfl, HN3.out⟩, HP3.out, HA3.out⟩
end
def strictS : List Tr → ByteArray
 | .mk k1 _ _ (.mk k2 t2 _ _ :: _) :: _ => if k1 = 15 ∧ k2 = 18 ∧ t2 = tUse then tStrict else noText
 | _ => noText
theorem codeT_block (n : Int) (kd : Int) (ts : List Tr) : codeT (.mk kd noText n ts) = .mk kd (strictS ts) n ts := by
 unfold codeT strictS
 split <;> rename_i h
 ·
  simp only [Tr.mk.injEq] at h; obtain ⟨rfl, rfl, rfl, rfl⟩ := h; rfl
 ·
  split
  ·
   rename_i h2
   exact absurd rfl (h _ _ _ _ _ _ _ _ _ _ _ _)
  ·
   rfl
theorem strictS_no1 {t : Tr} {r : List Tr} (h : t.kd ≠ 15) : strictS (t :: r) = noText := by
 unfold strictS
 split
 ·
  rename_i heq
  simp only [List.cons.injEq] at heq; obtain ⟨rfl, _⟩ := heq; rw [if_neg (fun hh => h hh.1)]
 ·
  rfl
theorem strictS_no2 {t k2 : Tr} {r r1 : List Tr} (hk : t.kids = k2 :: r1) (h : k2.kd ≠ 18 ∨ k2.tx ≠ tUse) : strictS (t :: r) = noText := by
 cases t with
 | mk a b c ds =>
  simp only [Tr.kids] at hk; subst hk
  cases k2 with
  | mk a2 b2 c2 d2 =>
   simp only [Tr.kd, Tr.tx] at h; simp only [strictS]; rw [if_neg]; rintro ⟨_, h2, h3⟩
   rcases h with h | h
   ·
    exact h h2
   ·
    exact h h3
theorem strictS_yes {t k2 : Tr} {r r1 : List Tr} (h1 : t.kd = 15) (hk : t.kids = k2 :: r1) (h2 : k2.kd = 18) (h3 : k2.tx = tUse) : strictS (t :: r) = tStrict := by
 cases t with
 | mk a b c ds =>
  simp only [Tr.kids] at hk; subst hk
  cases k2 with
  | mk a2 b2 c2 d2 =>
   simp only [Tr.kd, Tr.tx] at h1 h2 h3; simp only [strictS]; rw [if_pos ⟨h1, h2, h3⟩]
theorem strict_any {B : Nat} {w : World} {ts : List Tr} {v : Value} (hk : KV B w ts v) (hx : ∀ t ∈ ts, t.kd = 15 → ∃ v r, t.kids = v :: r) (hl : ts.length ≤ 100000) :
  Calls Tryz.prog 48 #[v] w fun e w' => e = .returned (.string (strictS ts)) ∧ w' = w := by
 cases ts with
 | nil =>
  obtain ⟨a, cap, rfl⟩ := hk.shape; clear hk hx hl; go_enter Tryz.func48, Tryz.ntmps48; go_wp2_with fail; go_ret; exact ⟨rfl, rfl⟩
 | cons t r =>
  obtain ⟨ps, hr, hks⟩ := hk; have hlen := NAts.length _ _ hks; obtain ⟨g, cap, rfl, hc⟩ := row_open hr (by rw [hlen]; simp)
  have hc0 := hc 0 (by rw [hlen]; simp)
  rw [NAts] at hks; obtain ⟨p, ps', rfl, hn, _⟩ := hks; simp only [List.getElem_cons_zero] at hc0; rw [hlen]; have hl1 : (0 : Int) < ((t :: r).length : Int) := by simp
  obtain ⟨u, qs, hb, hrow, hkids⟩ := hn.opens; obtain ⟨f0, _, _, f3, _⟩ := node_cells hb; obtain ⟨L, hL⟩ : ∃ L, L = (t :: r).length := ⟨_, rfl⟩; rw [← hL] at hl1 ⊢
  have hgt : decide ((L : Int) > 0) = true := by simpa using hl1
  by_cases h15 : t.kd = 15
  ·
   obtain ⟨k2, r1, hk2⟩ := hx t (by simp) h15; rw [hk2] at hkids; have hlen2 := NAts.length _ _ hkids; obtain ⟨g2, cap2, rfl, hcc⟩ := row_open hrow (by rw [hlen2]; simp)
   have hcc0 := hcc 0 (by rw [hlen2]; simp)
   rw [NAts] at hkids; obtain ⟨p2, qs', rfl, hn2, _⟩ := hkids; simp only [List.getElem_cons_zero] at hcc0; have hq1 : (0 : Int) < (((p2 :: qs').length : Nat) : Int) := by simp
   obtain ⟨u2, _, hb2, _, _⟩ := hn2.opens; obtain ⟨e0, e1, _, _, _⟩ := node_cells hb2; rw [h15] at f0; obtain ⟨L2, hL2⟩ : ∃ L2, L2 = (p2 :: qs').length := ⟨_, rfl⟩; rw [← hL2] at f3 hq1; clear hL2
   by_cases h18 : k2.kd = 18
   ·
    rw [h18] at e0
    by_cases hu : k2.tx = tUse
    ·
     have hst := strictS_yes (r := r) h15 hk2 h18 hu; have bu : (k2.tx.toList == [117, 115, 101, 32, 115, 116, 114, 105, 99, 116]) = true := tl_eqL (b := tUse) rfl hu; have HST := hide hst
     clear hst hk2 hx hr hc hrow hcc hb hb2 hn hn2 hlen hlen2 hL hl hu h18 h15; exact zbea
    ·
     have hst := strictS_no2 (r := r) hk2 (Or.inr hu); have bu : (k2.tx.toList == [117, 115, 101, 32, 115, 116, 114, 105, 99, 116]) = false := tl_neL (b := tUse) rfl hu; have HST := hide hst
     clear hst hk2 hx hr hc hrow hcc hb hb2 hn hn2 hlen hlen2 hL hl hu h18 h15; exact zbea
   ·
    have hst := strictS_no2 (r := r) hk2 (Or.inl h18); have b18 : (k2.kd == 18) = false := beq_eq_false_iff_ne.2 h18; have HST := hide hst; clear hst hk2 hx hr hc hrow hcc hb hb2 hn hn2 hlen hlen2 hL hl h18 h15; exact zbea
  ·
   have hst := strictS_no1 (r := r) h15; have b15 : (t.kd == 15) = false := beq_eq_false_iff_ne.2 h15; have HST := hide hst; clear hst hx hr hc hrow hb hn hlen hL hl h15; exact zbea
def bodyB (body : Bool) (r : PR Tr) : PR Tr := if body then r.bind fun t j => .ok (codeT t) j else r
theorem bodyB_bad (body : Bool) (er : Int) (p : Nat) : bodyB body (.bad er p) = .bad er p := by cases body <;> rfl
theorem bodyB_out (body : Bool) : bodyB body .out = .out := by cases body <;> rfl
def MustD (c : PC) (s : ByteArray) (i : Nat) (w : World) (w1 : World) : Prop :=
 ((∃ j, mustP c.l s i = .ok () j ∧ Ps c w1 j 0 (-1)) ∨ (∃ er pl, mustP c.l s i = .bad er pl ∧ er ≠ 0 ∧ ∃ j, Ps c w1 j er (pl : Int))) ∧ Ap c.P w.heap.size w w1
theorem must_d {c : PC} {s : ByteArray} {i : Nat} {w w1 : World} {e : Ending} (h : QPost c w (fun _ (_ : Unit) v => ZU v) ZU (mustP c.l s i) e w1) : e = .returned (.tuple #[]) ∧ MustD c s i w w1 := by
 cases hr : mustP c.l s i with
 | out =>
  exfalso; unfold mustP badF at hr
  split at hr <;> cases hr
 | ok x j =>
  rw [hr] at h; obtain ⟨⟨v, rfl, rfl⟩, h2, h3⟩ := h; exact ⟨rfl, Or.inl ⟨j, hr, h2⟩, h3⟩
 | bad er pl =>
  rw [hr] at h; obtain ⟨⟨v, rfl, rfl⟩, h2, he, h3⟩ := h; exact ⟨rfl, Or.inr ⟨er, pl, hr, he, h2⟩, h3⟩
theorem rok_new {c : PC} {w : World} {i : Nat} (h : Ps c w i 0 (-1)) : Calls Tryz.prog 46 #[pPtr c] w fun e w' => e = .returned (.bool true) ∧ w' = w := rok_any c w i 0 (-1) h
theorem rok_old {c : PC} {w : World} {i : Nat} {er pl : Int} (he : er ≠ 0) (h : Ps c w i er pl) : Calls Tryz.prog 46 #[pPtr c] w fun e w' => e = .returned (.bool false) ∧ w' = w := by
 have := rok_any c w i er pl h
 rw [beq_eq_false_iff_ne.2 he] at this
 exact this
theorem mem_snoc {α : Type} {p : α → Prop} {l : List α} {x : α} (h : ∀ t ∈ l, p t) (hx : p x) : ∀ t ∈ l ++ [x], p t := by
 intro t ht
 rcases List.mem_append.1 ht with h1 | h1
 ·
  exact h t h1
 ·
  rw [List.mem_singleton.1 h1]; exact hx
open zrqev in
theorem rbraces_any {c : PC} {F : Fns} (hF : RCt c F) (hN : ∃ k, FNx c.l k F) (hK : FOk F) (body : Bool) (w : World) (d i : Nat) (r : PR Tr) (hd30 : d ≤ 30) (hs : r = bodyB body (blockP c.l F d i)) (ho : r ≠ .out) (h : Ps c w i 0 (-1)) :
  Calls Tryz.prog 100 #[pPtr c, .int .i64 (d : Int), .bool body] w (QPost c w (NV w.heap.size) ZN r) := by
 obtain ⟨i0, hi0, hz0, hz1, hz2⟩ := info_parts info22
 have HC := hide (rmust_any c w i tLBrace (by decide) h)
 have HLT := hide h.rlt
 have HL := hide h.base.len
 have HLO := hide h.base.size
 unfold blockP at hs
 have HS := hide hs
 have HO := hide ho
 have HF := hide hF
 have HNX := hide hN
 have HKO := hide hK
 clear h hs ho hF hN hK
 go_enter Tryz.func100, Tryz.ntmps100
 go_wp2_with fail
 refine cm HC.out ?_
 intro e w1 hp
 obtain ⟨rfl, hm⟩ := must_d hp
 have HM := hide hm
 clear hp hm HC
 go_wp2_with fail
 go_loopg [7] F.fuel (fun k v wr => (∃ acc j, bodyB body ((blockLoop c.l F d k acc j).bind fun ts i2 => .ok (.mk 6 noText 0 ts) i2) = r ∧ KV w.heap.size wr acc v ∧ Ps c wr j 0 (-1) ∧ Ap c.P w.heap.size w wr ∧ acc.length ≤ j ∧ (∀ t ∈ acc, t.kd = 15 → ∃ x y, t.kids = x :: y))
  ∨ (∃ er pl, r = .bad er pl ∧ er ≠ 0 ∧ (∃ j, Ps c wr j er (pl : Int)) ∧ Ap c.P w.heap.size w wr ∧ ZL v))
 case atStart =>
  obtain ⟨hm, ha⟩ := unhide HM
  rcases hm with ⟨j, hm, hp⟩ | ⟨er, pl, hm, he, hp⟩
  ·
   refine Or.inl ⟨[], j, ?_, KV.nil _ _, hp, ha, Nat.zero_le _, by simp⟩; rw [HS.out, hm]; rfl
  ·
   refine Or.inr ⟨er, pl, ?_, he, hp, ha, _, _, _, rfl⟩; rw [HS.out, hm]; exact bodyB_bad _ _ _
 case round =>
  clear HM HS
  rcases hrel with ⟨acc, j, hq, hkv, hps, hap, hle, hall⟩ | ⟨er, pl, hq, he, ⟨j, hps⟩, hap, a, n, kk, rfl⟩
  ·
   obtain ⟨k, rfl⟩ : ∃ k, gk = k + 1 := by
    cases gk with
    | zero => rw [show blockLoop c.l F d 0 acc j = .out from rfl] at hq; exact absurd (hq.symm.trans (bodyB_out body)) HO.out
    | succ k => exact ⟨k, rfl⟩
   have HC1 := hide (rok_new hps); have HC2 := hide (rnext_any c wr j tRBrace (by decide) hps); have HP1 := hide hps; have HA1 := hide hap; have HK1 := hide hkv; have hL := unhide HL; have hjl := hps.lt
   by_cases hx : fx c.l j = tRBrace
   ·
    have HQ : Hid (bodyB body (.ok (.mk 6 noText 0 acc) (j + 1)) = r) := by
     unfold blockLoop at hq; rw [if_pos hx] at hq; exact hq
    have HALL := hide hall; have hd1 : decide (fx c.l j = tRBrace) = true := decide_eq_true hx; rw [hd1] at HC2; obtain ⟨va, vc, rfl⟩ := hkv.shape; have HX := hide hx; clear hq hkv hps hap hx hd1 hall; exact zrdx
   ·
    have HQ : Hid (bodyB body ((deepP c.l F.st d j).bind (fun t i1 => (blockLoop c.l F d k (acc ++ [t]) i1).bind fun ts i2 => PR.ok (.mk 6 noText 0 ts) i2)) = r) := by
     unfold blockLoop at hq; rw [if_neg hx] at hq; rw [← hq]
     cases deepP c.l F.st d j <;> rfl
    have HALL := hide hall; have hd1 : decide (fx c.l j = tRBrace) = false := decide_eq_false hx; rw [hd1] at HC2; have HRV := hide hkv; clear hq hkv hps hap hx hd1 hall
    cases hr : deepP c.l F.st d j with
    | out =>
     rw [hr] at HQ; exact absurd (HQ.out.symm.trans (bodyB_out body)) HO.out
    | bad er pl =>
     have HRR := hide hr; rw [hr] at HQ; have hq : r = .bad er pl := HQ.out.symm.trans (bodyB_bad body er pl); have HQQ := hide hq; clear hr hq HQ; obtain ⟨va, vc, hve⟩ := HRV.out.shape; subst hve; go_wp2_with fail
     refine cm HC1.out ?_; rintro e w2 ⟨rfl, rfl⟩; clear HC1; go_wp2_with fail; refine cm HC2.out ?_; rintro e w3 ⟨rfl, hb3⟩; have HP3 := hide (HP1.out.later hb3); have HA3 := hide (HA1.out.next (Ap.of hb3))
     have HK3 := hide (KV.later HK1.out (Ap.of (R := c.P) hb3) HLT.out); have HC3 := hide (HF.out.st w3 d j _ hd30 HRR.out.symm (by nofun) (HP1.out.later hb3)); clear hb3 HC2 HP1 HA1 HK1; go_wp2_with fail
     refine cm HC3.out ?_; rintro e w4 ⟨⟨v, rfl, p4, rfl⟩, hp4, he, ha4⟩; have HP4 := hide hp4; have HA4 := hide (HA3.out.next ha4); have HK4 := hide (KV.later HK3.out ha4 HLT.out); clear hp4 ha4 HC3 HP3 HA3 HK3
     exact zrdn
    | ok t j2 =>
     have HRR := hide hr; rw [hr] at HQ; have hq : bodyB body ((blockLoop c.l F d k (acc ++ [t]) j2).bind fun ts i2 => PR.ok (.mk 6 noText 0 ts) i2) = r := unhide HQ; have HQQ := hide hq; clear hr hq HQ
     obtain ⟨va, vc, hve⟩ := HRV.out.shape; subst hve; go_wp2_with fail; refine cm HC1.out ?_; rintro e w2 ⟨rfl, rfl⟩; clear HC1; go_wp2_with fail; refine cm HC2.out ?_; rintro e w3 ⟨rfl, hb3⟩
     have HP3 := hide (HP1.out.later hb3); have HA3 := hide (HA1.out.next (Ap.of hb3)); have HK3 := hide (KV.later HK1.out (Ap.of (R := c.P) hb3) HLT.out)
     have HC3 := hide (HF.out.st w3 d j _ hd30 HRR.out.symm (by nofun) (HP1.out.later hb3)); clear hb3 HC2 HP1 HA1 HK1; go_wp2_with fail; refine cm HC3.out ?_; rintro e w4 ⟨⟨v, rfl, p4, rfl, hn4⟩, hp4, ha4⟩
     have HP4 := hide hp4; have HA4 := hide (HA3.out.next ha4); have HN4 := hide (apart_own HK3.out HA3.out.size hn4); have HK4 := hide (KV.later HK3.out ha4 HLT.out); have hlt2 := hp4.lt; have hgt : j < j2 := by
      obtain ⟨kk, hkk⟩ := unhide HNX; exact ((deepP_nx (l := c.l) (d := d) (hkk.st (d + 1) j hjl)).2 t j2 HRR.out).1
     clear hp4 ha4 hn4 HC3 HP3 HA3 HK3; obtain ⟨ps, hown, hk4⟩ := unhide HK4; have hlen := NAts.length _ _ hk4; have hOB := own_lt hown; rw [hlen] at hown; have HOWN := hide hown; have HLEN := hide hlen
     have HKK := hide hk4; have hsz := HA4.out.size; exact zrbd
  ·
   have HC1 := hide (rok_old he hps); have HC2 := hide (rmust_old c wr j er pl he tRBrace hps); have HP1 := hide hps; have HA1 := hide hap; clear hps hap; subst hq; go_wp2_with fail; refine cm HC1.out ?_
   rintro e w2 ⟨rfl, rfl⟩; clear HC1; go_wp2_with fail; refine cm HC2.out ?_; rintro e w3 ⟨rfl, rfl⟩; clear HC2
   cases body with
   | false =>
    go_wp2_with fail; go_ret; exact ⟨⟨_, rfl, _, rfl⟩, ⟨j, HP1.out.alloc _⟩, he, HA1.out.alloc HA1.out.size _⟩
   | true =>
    have HC3 := hide (rok_old he (HP1.out.alloc (nodeObj 6 noText 0 (.slice a n kk)))); go_wp2_with fail; refine cm HC3.out ?_; rintro e w4 ⟨rfl, rfl⟩; clear HC3; go_wp2_with fail; go_ret
    exact ⟨⟨_, rfl, _, rfl⟩, ⟨j, HP1.out.alloc _⟩, he, HA1.out.alloc HA1.out.size _⟩
theorem rbraces_old (c : PC) (w : World) (i : Nat) (er pl D : Int) (body : Bool) (he : er ≠ 0) (h : Ps c w i er pl) :
  Calls Tryz.prog 100 #[pPtr c, .int .i64 D, .bool body] w (NPost c w er pl ZN) := by
 have HC := hide (rmust_old c w i er pl he tLBrace h)
 have HP := hide h
 clear h
 go_enter Tryz.func100, Tryz.ntmps100
 go_wp2_with fail
 refine cm HC.out ?_
 rintro e w1 ⟨rfl, rfl⟩
 clear HC
 have HC1 := hide (rok_old he HP.out)
 have HC2 := hide (rmust_old c w1 i er pl he tRBrace HP.out)
 go_wp2_with fail
 refine wp_loop_rounds 1 ?_
 rw [rounds_succ]
 go_wp2_with fail
 refine cm HC1.out ?_
 rintro e w2 ⟨rfl, rfl⟩
 clear HC1
 go_wp2_with fail
 refine cm HC2.out ?_
 rintro e w3 ⟨rfl, rfl⟩
 clear HC2
 cases body with
 | false =>
  exact zbgk
 | true =>
  have HC3 := hide (rok_old he (HP.out.alloc (nodeObj 6 noText 0 (.slice none 0 0)))); go_wp2_with fail; refine cm HC3.out ?_; rintro e w4 ⟨rfl, rfl⟩; clear HC3; exact zbgk
theorem rlist_old (c : PC) (w : World) (i : Nat) (er pl : Int) (s : ByteArray) (fv : Value) (he : er ≠ 0) (h : Ps c w i er pl) :
  Calls Tryz.prog 147 #[pPtr c, .string s, fv] w fun e w' => e = .returned (.slice none 0 0) ∧ w' = w := by
 have HC1 := hide (rok_old he h)
 have HC2 := hide (rmust_old c w i er pl he s h)
 clear h
 go_enter Tryz.func147, Tryz.ntmps147
 go_wp2_with fail
 refine wp_loop_rounds 1 ?_
 rw [rounds_succ]
 go_wp2_with fail
 refine cm HC1.out ?_
 rintro e w2 ⟨rfl, rfl⟩
 clear HC1
 go_wp2_with fail
 refine cm HC2.out ?_
 rintro e w3 ⟨rfl, rfl⟩
 clear HC2
 go_wp2_with fail
 go_ret
 exact ⟨rfl, rfl⟩
structure PartC (c : PC) (lo : Nat) (K : World → Prop) (f : Nat) (caps : Array Value) (part : Nat → PR Tr) : Prop where
 enters : ∀ args W, (callFunc f args).run Tryz.prog W = .ok (.enter f args) W
 stays : ∀ W W', K W → c.P < W.heap.size → Ap c.P W.heap.size W W' → K W'
 does : ∀ W i r, K W → r = part i → r ≠ .out → Ps c W i 0 (-1) → Calls Tryz.prog f caps W (QPost c W (NV W.heap.size) ZN r)
 /-- What it leans on lies in blocks below a bound. -/
 kept : ∀ B W W', K W → Below B W W' → lo ≤ B → K W'
def RowZ (B : Nat) (w : World) (v : Value) : Prop := ∃ ps : List Nat, ps.length ≤ 9 ∧ w.ownsRow B 22 1 v ps.length (ps.map nPtr)
theorem RowZ.of {B : Nat} {w : World} {ts : List Tr} {v : Value} (h : KV B w ts v) (hl : ts.length ≤ 8) : RowZ B w v := by
 obtain ⟨ps, hr, hk⟩ := h
 exact ⟨ps, by rw [NAts.length _ _ hk]; omega, hr⟩
def LPost (c : PC) (w : World) (r : PR (List Tr)) (e : Ending) (w' : World) : Prop :=
 match r with
 | .ok ts j => (∃ v, e = .returned v ∧ KV w.heap.size w' ts v ∧ ts.length ≤ 8) ∧ Ps c w' j 0 (-1) ∧ Ap c.P w.heap.size w w'
 | .bad er pl => (∃ v, e = .returned v ∧ RowZ w.heap.size w' v) ∧ (∃ j, Ps c w' j er (pl : Int)) ∧ er ≠ 0 ∧ Ap c.P w.heap.size w w'
 | .out => True
section
variable {c : PC} {K : World → Prop} {f : Nat} {caps : Array Value} {part : Nat → PR Tr} {lo : Nat} (hp : PartC c lo K f caps part) (s : ByteArray) (hsn : s ≠ noText) (n : Nat) (w : World) (i : Nat) (r : PR (List Tr)) (hs : r = rlistLoop c.l s part n [] i) (ho : r ≠ .out) (hk : K w) (hlo : lo ≤ w.heap.size) (h : Ps c w i 0 (-1))
include c K f caps part lo hp s hsn n w i r hs ho hk hlo h
open zrqew in
theorem rlist_all :
  Calls Tryz.prog 147 #[pPtr c, .string s, .func (.func f) #[] caps] w (LPost c w r) := by
 have hen := hp.enters
 obtain ⟨i0, hi0, hz0, hz1, hz2⟩ := info_parts info22
 have HLT := hide h.rlt
 have HL := hide h.base.len
 have HLO := hide h.base.size
 have HS := hide hs
 have HO := hide ho
 have HPC := hide hp
 have HK0 := hide hk
 have HLB := hide hlo
 have HP0 := hide h
 clear h hs ho hp hk hlo
 go_enter Tryz.func147, Tryz.ntmps147
 go_wp2_with fail
 go_loopg [7] n (fun k v wr => (∃ acc j, rlistLoop c.l s part k acc j = r ∧ KV w.heap.size wr acc v ∧ Ps c wr j 0 (-1) ∧ Ap c.P w.heap.size w wr ∧ acc.length ≤ 8 ∧ K wr)
  ∨ (∃ er pl, r = .bad er pl ∧ er ≠ 0 ∧ (∃ j, Ps c wr j er (pl : Int)) ∧ Ap c.P w.heap.size w wr ∧ RowZ w.heap.size wr v))
 case atStart => exact Or.inl ⟨[], i, HS.out.symm, KV.nil _ _, HP0.out, Ap.refl _ _ _, by simp, HK0.out⟩
 case round =>
  clear HS HP0 HK0
  rcases hrel with ⟨acc, j, hq, hkv, hps, hap, hle, hkk⟩ | ⟨er, pl, hq, he, ⟨j, hps⟩, hap, hrz⟩
  ·
   obtain ⟨k, rfl⟩ : ∃ k, gk = k + 1 := by
    exact zbdw
   have HC1 := hide (rok_new hps); have HC2 := hide (rnext_any c wr j s hsn hps); have HP1 := hide hps; have HA1 := hide hap; have HK1 := hide hkv; have HKW := hide hkk; have hL := unhide HL; have hjl := hps.lt
   by_cases hx : fx c.l j = s
   ·
    have HQ : Hid (PR.ok acc (j + 1) = r) := by
     unfold rlistLoop at hq; rw [if_pos hx] at hq; exact hq
    have hd1 : decide (fx c.l j = s) = true := decide_eq_true hx; rw [hd1] at HC2; obtain ⟨va, vc, rfl⟩ := hkv.shape; have HX := hide hx; clear hq hkv hps hap hx hd1 hkk; go_wp2_with fail; refine cm HC1.out ?_
    rintro e w2 ⟨rfl, rfl⟩; clear HC1; go_wp2_with fail; refine cm HC2.out ?_; rintro e w3 ⟨rfl, hb3⟩; have HA3 := hide (HA1.out.next (Ap.of hb3)); have HK3 := hide (KV.later HK1.out (Ap.of (R := c.P) hb3) HLT.out)
    have HC3 := hide (rmust_any c w3 j s hsn (HP1.out.later hb3)); clear hb3 HC2 HP1 HA1 HK1; go_wp2_with fail; refine cm HC3.out ?_; intro e w4 hp
    have hmm : mustP c.l s j = .ok () (j + 1) := by unfold mustP; rw [if_pos HX.out]
    rw [hmm] at hp; obtain ⟨⟨v, rfl, rfl⟩, hp4, ha4⟩ := hp; have HP4 := hide hp4; have HA4 := hide (HA3.out.next ha4); have HK4 := hide (KV.later HK3.out ha4 HLT.out); clear hp4 ha4 hmm HC3 HA3 HK3
    have hq : r = .ok acc (j + 1) := HQ.out.symm; subst hq; go_wp2_with fail; go_ret; exact ⟨⟨_, rfl, HK4.out, hle⟩, HP4.out, HA4.out⟩
   ·
    have HQ : Hid (((if acc.length = 0 then PR.ok () j else mustP c.l tComma j).bind fun _ i1 => if acc.length = 8 then badF c.l 4 i1 else (part i1).bind fun t i2 => rlistLoop c.l s part k (acc ++ [t]) i2) = r) := by
     unfold rlistLoop at hq; rw [if_neg hx] at hq; exact hq
    have hd1 : decide (fx c.l j = s) = false := decide_eq_false hx; rw [hd1] at HC2; obtain ⟨va, vc, rfl⟩ := hkv.shape; clear hq hkv hps hap hx hd1 hkk; exact zrdx
  ·
   obtain ⟨zps, hzl, hzr⟩ := hrz; obtain ⟨za, zc, rfl⟩ := row_shut hzr; have HZ := hide hzr; clear hzr; have HC1 := hide (rok_old he hps); have HC2 := hide (rmust_old c wr j er pl he s hps); have HP1 := hide hps
   have HA1 := hide hap; clear hps hap; subst hq; go_wp2_with fail; refine cm HC1.out ?_; rintro e w2 ⟨rfl, rfl⟩; clear HC1; go_wp2_with fail; refine cm HC2.out ?_; rintro e w3 ⟨rfl, rfl⟩; clear HC2; go_wp2_with fail
   go_ret; exact ⟨⟨_, rfl, zps, hzl, HZ.out⟩, ⟨j, HP1.out⟩, he, HA1.out⟩
theorem rlist_any :
  Calls Tryz.prog 147 #[pPtr c, .string s, .func (.func f) #[] caps] w (QPost c w (KV w.heap.size) ZL r) := by
 refine cm (rlist_all hp s hsn n w i r hs ho hk hlo h) ?_
 intro e w' hh
 cases r with
 | out => exact trivial
 | ok ts j =>
  obtain ⟨⟨v, rfl, h1, _⟩, h2, h3⟩ := hh; exact ⟨⟨v, rfl, h1⟩, h2, h3⟩
 | bad er pl =>
  obtain ⟨⟨v, rfl, ps, _, h1⟩, h2, he, h3⟩ := hh; obtain ⟨a, k, hv⟩ := row_shut h1; exact ⟨⟨v, rfl, a, _, k, hv⟩, h2, he, h3⟩
end
end Go.Proofs.YtodmgaikhbmlnaaGreatDoor
