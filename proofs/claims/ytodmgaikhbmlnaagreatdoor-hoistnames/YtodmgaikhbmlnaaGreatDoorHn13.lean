/-
  The document's own parser as a function of the tokens: plain, with a bound on the recursion; it comes to an end; and where it says that there is a program, the reader's grammar says the same.
-/
import Derived.Test.YtodmgaikhbmlnaaGreatDoorHn2
import Derived.Test.YtodmgaikhbmlnaaGreatDoorHn0
import Derived.Test.YtodmgaikhbmlnaaGreatDoorHn12
import Derived.Test.YtodmgaikhbmlnaaGreatDoorHn4
import Derived.Test.YtodmgaikhbmlnaaGreatDoorHn7
import Derived.Deep.LoopGhost
import Derived.Deep.MidRow
import Derived.Laws.AppendOwnNone
namespace Go.Proofs.YtodmgaikhbmlnaaGreatDoor
abbrev tPM : ByteArray := ⟨#[43, 45]⟩
def lvls : List ByteArray := [tOr, tAnd, tSame, tLess, tPM, tMul]
def zp3 (s x : ByteArray) : Bool := decide (x = s) || (decide (s = tPM) && (decide (x = tAdd) || decide (x = tSub)))
def ops : List (ByteArray × Int) := [(tOr, 25), (tAnd, 26), (tSame, 27), (tLess, 28), (tAdd, 29), (tSub, 30), (tMul, 31)]
def opK (x : ByteArray) : Int := (zx1 ops x).getD 0
def lits : List (ByteArray × Int) := [(tTrue, 19), (tFalse, 20), (tNull, 21), (tUndef, 22)]
def litK (x : ByteArray) : Int := (zx1 lits x).getD 0
section
variable (l : List Tk)
def zx3 (shut : ByteArray) (part : Nat → PR Tr) : Nat → List Tr → Nat → PR (List Tr)
 | 0, _, _ => .out
 | k + 1, acc, i => if fx l i = shut then .ok acc (i + 1) else
  (if acc.length = 0 then PR.ok () i else zz0 l zh8 i).bind fun _ i1 =>
   if acc.length = 8 then badF l 4 i1 else (part i1).bind fun t i2 => zx3 shut part k (acc ++ [t]) i2
def zg6 (F : Fns) (i : Nat) : PR Tr :=
 (zz0 l zxw i).bind fun _ i1 => (zx3 l zjy (zbz l) F.fuel [] i1).bind fun ts i2 => .ok (.mk 40 zzx 0 ts) i2
def zfw (F : Fns) (d i : Nat) : PR Tr :=
 (zz0 l zz4 i).bind fun _ i1 => (zx3 l zvv (zf2 l F d) F.fuel [] i1).bind fun ts i2 => .ok (.mk 38 zzx 0 ts) i2
def zv1 (F : Fns) (kd : Int) (s : ByteArray) (d i : Nat) : PR Tr :=
 (zg6 l F i).bind fun ps i1 => (zq2 l F d i1).bind fun b i2 => .ok (.mk kd s 0 [ps, zh0 b]) i2
def zfy (F : Fns) (d i : Nat) : PR Tr :=
 (zz0 l zzw i).bind fun _ i1 => if zw8 l i1 = true then (zjq l i1).bind fun s i2 => zv1 l F 37 s d i2 else zv1 l F 37 zzx d i1
def rfuncP (F : Fns) (d i : Nat) : PR Tr :=
 (zz0 l zzw i).bind fun _ i1 => (zjq l i1).bind fun s i2 => zv1 l F 5 s d i2
def zg1 (F : Fns) (d i : Nat) : PR Tr :=
 if (tkA l i).kd = 1 then .ok (.mk 23 (tkA l i).tx 0 []) (i + 1)
 else if (tkA l i).kd = 3 then .ok (.mk 17 zzx (tkA l i).n []) (i + 1)
 else if (tkA l i).kd = 4 then .ok (.mk 18 (tkA l i).tx 0 []) (i + 1)
 else if fx l i = zxw then zv8 l F d i
 else if fx l i = zzw then zfy l F d i
 else if fx l i = zz4 then zfw l F d i
 else if (tkA l i).kd = 2 ∧ 0 < litK (tkA l i).tx then .ok (.mk (litK (tkA l i).tx) zzx 0 []) (i + 1)
 else badF l 3 i
def rargsP (F : Fns) (d i : Nat) : PR (List Tr) := zx3 l zjy (argP l F d) F.fuel [] i
def zk8 (F : Fns) (d : Nat) : Nat → Tr → Nat → PR Tr
 | 0, _, _ => .out
 | k + 1, t, i =>
  if fx l i = tDot then (zjq l (i + 1)).bind fun s i1 => zk8 F d k (.mk 36 s 0 [t]) i1
  else if fx l i = zxw then (rargsP l F d (i + 1)).bind fun ts i1 => zk8 F d k (.mk 35 zzx 0 (t :: ts)) i1
  else .ok t i
def zmw (F : Fns) (d i : Nat) : PR Tr := (zg1 l F d i).bind fun t i1 => zk8 l F d F.fuel t i1
def zdz (F : Fns) (d i : Nat) : PR Tr :=
 match sgP 1 (fx l i) with
 | some s => (zq4 l F.sg d (i + 1)).bind fun t i1 => .ok (.mk s.kd zzx 0 [t]) i1
 | none => zmw l F d i
def zj3 (sub : Nat → PR Tr) (s : ByteArray) : Nat → Tr → Nat → PR Tr
 | 0, _, _ => .out
 | k + 1, t, i =>
  if (tkA l i).kd = 5 ∧ zp3 s (tkA l i).tx = true then (sub (i + 1)).bind fun u i1 => zj3 sub s k (.mk (opK (tkA l i).tx) zzx 0 [t, u]) i1
  else .ok t i
def zkk (F : Fns) (d : Nat) : List ByteArray → Nat → PR Tr
 | [], i => F.sg d i
 | s :: rest, i => (zkk F d rest i).bind fun t i1 => zj3 l (zkk F d rest) s F.fuel t i1
def rpr (F : Fns) (least : Int) (d i : Nat) : PR Tr := zkk l F d (lvls.drop (least - 2).toNat) i
def rpartP (F : Fns) (d : Nat) : Nat → Nat → PR Tr
 | 0 => zgq l F d
 | 1 => rfuncP l F d
 | 2 => zq2 l F d
 | 3 => fun i => (zz0 l zqz i).bind fun _ i1 => .ok (.mk 16 zzx 0 []) i1
 | 4 => zy5 l F d
 | 5 => zv3 l F d
 | 6 => zyx l F d
 | _ => zw4 l F d
def zky (F : Fns) (d i : Nat) : PR Tr :=
 match zx1 stKeys (fx l i) with
 | some q => rpartP l F d q i
 | none => zp4 l F d i
def rfns : Nat → Fns
 | 0 => noFns
 | k + 1 => ⟨k, zky l (rfns k), zdv l (rfns k), rpr l (rfns k), zdz l (rfns k)⟩
end
section
variable {l : List Tk} (hE : Ends l)
include hE
theorem zgy {q : Prop} {shut : ByteArray} {part : Nat → PR Tr} {I : Nat} (hs : shut ≠ zzx) (hp : ∀ i, I ≤ i → i < l.length → Nx q l.length (i + 1) (part i)) :
  ∀ k acc i, I ≤ i → i < l.length → Nx (q ∧ l.length - i < k) l.length (i + 1) (zx3 l shut part k acc i) := by
 intro k
 induction k with
 | zero => intro acc i _ _; exact ⟨fun h => absurd h.2 (by omega), fun _ _ h => by (cases h)⟩
 | succ k ih =>
  intro acc i hI hi; unfold zx3
  split
  ·
   exact Nx.ok (by omega) (zbj hE hi ‹_› hs)
  ·
   have h0 : Nx (q ∧ l.length - i < k + 1) l.length i (if acc.length = 0 then PR.ok () i else zz0 l zh8 i) := by
    split
    ·
     exact Nx.ok qv hi
    ·
     exact (zjw hE hi (by decide)).le (by omega)
   refine Nx.bind h0 fun _ j h1 h2 => ?_
   split
   ·
    exact Nx.badF
   ·
    refine Nx.bind ((hp j (by omega) h2).imp And.left) fun t j2 h3 h4 => ?_; exact ((ih _ j2 (by omega) h4).le (by omega)).imp fun h => ⟨h.1, by omega⟩
variable {k : Nat} {F : Fns} (hF : FNx l k F)
include hF
theorem rparamsP_nx {q : Prop} {i : Nat} (hi : i < l.length) (hq : q → 8 * (l.length - i) ≤ k + 4) : Nx q l.length (i + 1) (zg6 l F i) := by
 unfold zg6
 refine Nx.bind (zjw hE hi (by decide)) fun _ j h1 h2 => ?_
 refine Nx.bind (((zgy hE (q := q) (I := j) (by decide) (fun j2 _ h => paramP_nx hE h) F.fuel [] j qv h2).imp fun h => ⟨h, ?_⟩)) fun ts j2 h3 h4 => Nx.ok (by omega) h4
 have := hq h
 rw [hF.fuel]; omega
theorem robjectP_nx {q : Prop} {d i : Nat} (hi : i < l.length) (hq : q → 8 * (l.length - i) ≤ k + 4) : Nx q l.length (i + 1) (zfw l F d i) := by
 unfold zfw
 refine Nx.bind (zjw hE hi (by decide)) fun _ j h1 h2 => ?_
 refine Nx.bind (((zgy hE (q := q) (I := j) (by decide) (fun j2 hj h => propP_nx hE hF h fun hh => by have := hq hh; omega) F.fuel [] j qv h2).imp fun h => ⟨h, ?_⟩)) fun ts j2 h3 h4 => Nx.ok (by omega) h4
 have := hq h
 rw [hF.fuel]; omega
theorem zg0 {q : Prop} {kd : Int} {s : ByteArray} {d i : Nat} (hi : i < l.length) (hq : q → 8 * (l.length - i) ≤ k + 4) : Nx q l.length (i + 1) (zv1 l F kd s d i) := by
 unfold zv1
 refine Nx.bind (rparamsP_nx hE hF hi hq) fun ps j h1 h2 => ?_
 exact Nx.bind (zb6 hE hF h2 fun h => by have := hq h; omega) fun b j2 h3 h4 => Nx.ok (by omega) h4
theorem rlambdaP_nx {q : Prop} {d i : Nat} (hi : i < l.length) (hq : q → 8 * (l.length - i) ≤ k + 4) : Nx q l.length (i + 1) (zfy l F d i) := by
 unfold zfy
 refine Nx.bind (zjw hE hi (by decide)) fun _ j h1 h2 => ?_
 split
 ·
  refine Nx.bind (zy2 hE h2) fun s j2 h3 h4 => ?_; exact (zg0 hE hF h4 fun h => by have := hq h; omega).le (by omega)
 ·
  exact (zg0 hE hF h2 fun h => by have := hq h; omega).le (by omega)
theorem rfuncP_nx {q : Prop} {d i : Nat} (hi : i < l.length) (hq : q → 8 * (l.length - i) ≤ k + 4) : Nx q l.length (i + 1) (rfuncP l F d i) := by
 unfold rfuncP
 refine Nx.bind (zjw hE hi (by decide)) fun _ j h1 h2 => ?_
 refine Nx.bind (zy2 hE h2) fun s j2 h3 h4 => ?_
 exact (zg0 hE hF h4 fun h => by have := hq h; omega).le (by omega)
theorem raloneP_nx {q : Prop} {d i : Nat} (hi : i < l.length) (hq : q → 8 * (l.length - i) ≤ k + 4) : Nx q l.length (i + 1) (zg1 l F d i) := by
 unfold zg1
 split
 ·
  rename_i h; exact Nx.ok qv (zk7 hE hi (by rw [h]; decide))
 ·
  split
  ·
   rename_i h; exact Nx.ok qv (zk7 hE hi (by rw [h]; decide))
  ·
   split
   ·
    rename_i h; exact Nx.ok qv (zk7 hE hi (by rw [h]; decide))
   ·
    split
    ·
     exact znq hE hF hi hq
    ·
     split
     ·
      exact rlambdaP_nx hE hF hi hq
     ·
      split
      ·
       exact robjectP_nx hE hF hi hq
      ·
       split
       ·
        rename_i h; exact Nx.ok qv (zk7 hE hi (by rw [h.1]; decide))
       ·
        exact Nx.badF
theorem raskedLoop_nx {q : Prop} {I : Nat} (hq : q → 8 * (l.length - I) ≤ k + 4) : ∀ n d t i, I < i → i < l.length → Nx (q ∧ l.length - i < n) l.length i (zk8 l F d n t i) := by
 intro n
 induction n with
 | zero => intro d acc i _ _; exact ⟨fun h => absurd h.2 (by omega), fun _ _ h => by (cases h)⟩
 | succ n ih =>
  intro d t i hI hi; unfold zk8
  split
  ·
   have h0 := zbj hE hi ‹_› (by decide); exact Nx.bind (zy2 hE h0) fun s j h1 h2 => ((ih d _ j (by omega) h2).le (by omega)).imp fun h => ⟨h.1, by omega⟩
  ·
   split
   ·
    have h0 := zbj hE hi ‹_› (by decide); unfold rargsP
    refine Nx.bind ((zgy hE (q := q ∧ l.length - i < n + 1) (I := i + 1) (by decide) (fun j2 hj h => argP_nx hF h fun hh => by have := hq hh.1; omega) F.fuel [] (i + 1) qv h0).imp fun h => ⟨h, ?_⟩) fun ts j h1 h2 => ((ih d _ j (by omega) h2).le (by omega)).imp fun h => ⟨h.1, by omega⟩
    have := hq h.1; rw [hF.fuel]; omega
   ·
    exact Nx.ok qv hi
theorem raskedP_nx {q : Prop} {d i : Nat} (hi : i < l.length) (hq : q → 8 * (l.length - i) ≤ k + 4) : Nx q l.length (i + 1) (zmw l F d i) := by
 unfold zmw
 refine Nx.bind (raloneP_nx hE hF hi hq) fun t j h1 h2 => ((raskedLoop_nx hE hF hq F.fuel d t j (by omega) h2).le (by omega)).imp fun h => ⟨h, ?_⟩
 have := hq h
 rw [hF.fuel]; omega
theorem rsingleP_nx {d i : Nat} (hi : i < l.length) : Nx (8 * (l.length - i) < k + 1) l.length (i + 1) (zdz l F d i) := by
 unfold zdz
 split
 ·
  rename_i s hs
  have h0 := sgP_lt hE hi hs; exact Nx.bind (zk1 ((hF.sg _ _ h0).imp fun h => by omega)) fun t j h1 h2 => Nx.ok (by omega) h2
 ·
  exact raskedP_nx hE hF hi fun h => by omega
omit hF in
theorem rpairLoop_nx {q : Prop} {I : Nat} {sub : Nat → PR Tr} {s : ByteArray} (hp : ∀ i, I < i → i < l.length → Nx q l.length (i + 1) (sub i)) : ∀ n t i, I < i → i < l.length → Nx (q ∧ l.length - i < n) l.length i (zj3 l sub s n t i) := by
 intro n
 induction n with
 | zero => intro acc i _ _; exact ⟨fun h => absurd h.2 (by omega), fun _ _ h => by (cases h)⟩
 | succ n ih =>
  intro t i hI hi; unfold zj3
  split
  ·
   rename_i h
   have h0 := zk7 hE hi (by rw [h.1]; decide)
   exact Nx.bind ((hp _ (by omega) h0).imp And.left) fun u j h1 h2 => ((ih _ j (by omega) h2).le (by omega)).imp fun h => ⟨h.1, by omega⟩
  ·
   exact Nx.ok qv hi
theorem rpairs_nx {d : Nat} : ∀ (ls : List ByteArray) (i : Nat), i < l.length → Nx (8 * (l.length - i) + 1 < k + 1) l.length (i + 1) (zkk l F d ls i)
 | [], i, hi => by
  unfold zkk; exact (hF.sg _ _ hi).imp fun h => by omega
 | s :: rest, i, hi => by
  unfold zkk; refine Nx.bind (rpairs_nx rest i hi) fun t j h1 h2 => ?_
  refine ((rpairLoop_nx hE (q := 8 * (l.length - i) + 1 < k + 1) (I := i) (fun i2 h3 h4 => (rpairs_nx rest i2 h4).imp fun h => by omega) F.fuel t j (by omega) h2).le (by omega)).imp fun h => ⟨h, ?_⟩; rw [hF.fuel]; omega
theorem rpartP_nx {q : Prop} {d i c : Nat} (hi : i + 1 < l.length) (hq : q → 8 * (l.length - i) ≤ k + 4) : Nx q l.length (i + 1) (rpartP l F d c i) := by
 unfold rpartP
 split
 ·
  exact declP_nx hE hF hi hq
 ·
  exact rfuncP_nx hE hF (by omega) hq
 ·
  exact zb6 hE hF (by omega) hq
 ·
  exact Nx.bind (zjw hE (by omega) (by decide)) fun _ j h1 h2 => Nx.ok h1 h2
 ·
  exact choiceP_nx hE hF hi hq
 ·
  exact behindP_nx hE hF hi hq
 ·
  exact givingP_nx hE hF hi hq
 ·
  exact attemptP_nx hE hF (by omega) hq
theorem rstatementP_nx {d i : Nat} (hi : i < l.length) : Nx (8 * (l.length - i) + 3 < k + 1) l.length (i + 1) (zky l F d i) := by
 unfold zky
 split
 ·
  rename_i c hc
  exact rpartP_nx hE hF (look2_lt hE hi hc (by decide)) fun h => by omega
 ·
  exact exprP_nx hE hF hi fun h => by omega
omit hF in
theorem rfns_nx : ∀ k, FNx l k (rfns l k) := by
 intro k
 induction k with
 | zero => exact ⟨rfl, fun _ _ _ => ⟨fun h => absurd h (by omega), fun _ _ h => by (cases h)⟩, fun _ _ _ => ⟨fun h => absurd h (by omega), fun _ _ h => by (cases h)⟩, fun _ _ _ _ => ⟨fun h => absurd h (by omega), fun _ _ h => by (cases h)⟩, fun _ _ _ => ⟨fun h => absurd h (by omega), fun _ _ h => by (cases h)⟩⟩
 | succ k ih => exact ⟨rfl, fun _ _ hi => rstatementP_nx hE ih hi, fun _ _ hi => valueP_nx hE ih hi, fun _ _ _ hi => rpairs_nx hE ih _ _ hi, fun _ _ hi => rsingleP_nx hE ih hi⟩
end
end Go.Proofs.YtodmgaikhbmlnaaGreatDoor
set_option maxRecDepth 100000
set_option maxHeartbeats 16000000
namespace Go.Proofs.YtodmgaikhbmlnaaGreatDoor
open Go.RowKit
theorem Ps.ap {c : PC} {B : Nat} {w w' : World} {i : Nat} {er pl : Int} (h : Ps c w i er pl) (ha : Below B w w') (hB : c.lo ≤ B) : Ps c w' i er pl :=
 ⟨h.base.later (Ap.of ha) hB, by rw [ha.block _ (by have := h.base.old; omega)]; exact h.blk, h.lt⟩
theorem zhw {B : Nat} {w : World} {ts : List Tr} {ps : List Nat} (h : NAts (fun b => B ≤ b) w ts ps) (hB : B ≤ w.heap.size) (hl : ps.length ≤ maxLen) (cs : Array Value) (hc : cs.toList = ps.map nPtr) (n : Nat) (hn : n = ps.length) (kd : Int) (tx : ByteArray) (z : Int) (q : Nat) (hq : q = w.heap.size + 1) :
  EV B ((w.alloc (.cells cs 22)).alloc (zzk kd tx z (.slice (some ⟨w.heap.size, 0, none⟩) n n))) (.mk kd tx z ts) (nPtr q) := by
 subst hn hq
 have := EV.new (KV.row h hB hl cs hc) (by simp; omega) kd tx z
 simpa using this
theorem nv_kv {B : Nat} {w : World} {ts : List Tr} {v : Value} (h : KV B w ts v) (hB : B ≤ w.heap.size) (kd : Int) (tx : ByteArray) (z : Int) : EV B (w.alloc (zzk kd tx z v)) (.mk kd tx z ts) (nPtr w.heap.size) := EV.new h hB kd tx z
theorem zn2 (c : PC) (w : World) (i : Nat) (er pl D : Int) (he : er ≠ 0) (h : Ps c w i er pl) :
  Calls Tryz.prog 107 #[pPtr c, .int .i64 D] w (NPost c w er pl ZN) := by
 have hc := zy8 c w i er pl h
 rw [beq_eq_false_iff_ne.2 he] at hc
 have HC := qh hc
 have HP := qh h
 clear h hc
 go_enter Tryz.func107, Tryz.ntmps107
 go_wp2_with fail
 refine cm HC.out ?_
 rintro e w1 ⟨rfl, rfl⟩
 clear HC
 go_wp2_with fail
 go_ret
 exact ⟨⟨_, rfl, _, rfl⟩, ⟨i, HP.out.alloc _⟩, he, (Ap.refl c.P w1.heap.size w1).alloc qv _⟩
theorem zby (c : PC) (w : World) (i : Nat) (er pl D : Int) (he : er ≠ 0) (h : Ps c w i er pl) :
  Calls Tryz.prog 105 #[pPtr c, .int .i64 D] w (NPost c w er pl ZN) := by
 have hc := zy8 c w i er pl h
 rw [beq_eq_false_iff_ne.2 he] at hc
 have HC := qh hc
 have HP := qh h
 clear h hc
 go_enter Tryz.func105, Tryz.ntmps105
 go_wp2_with fail
 refine cm HC.out ?_
 rintro e w1 ⟨rfl, rfl⟩
 clear HC
 go_wp2_with fail
 go_ret
 exact ⟨⟨_, rfl, _, rfl⟩, ⟨i, HP.out.alloc _⟩, he, (Ap.refl c.P w1.heap.size w1).alloc qv _⟩
def zhz : Array Value := (lvls.map Value.string).toArray
structure RCt (c : PC) (F : Fns) : Prop where
 st : ∀ w d i r, d ≤ 30 → r = zq4 c.l F.st d i → r ≠ .out → Ps c w i 0 (-1) → Calls Tryz.prog 47 #[pPtr c, .int .i64 ((d : Int) + 1)] w (zj6 c w (NV w.heap.size) ZN r)
 vl : ∀ w d i r, d ≤ 30 → r = zq4 c.l F.vl d i → r ≠ .out → Ps c w i 0 (-1) → Calls Tryz.prog 107 #[pPtr c, .int .i64 ((d : Int) + 1)] w (zj6 c w (NV w.heap.size) ZN r)
 pr : ∀ w d i r g, d ≤ 30 → r = F.pr 2 d i → r ≠ .out → Ps c w i 0 (-1) → w.heap[g]? = some (.cells zhz 9 (0, 0)) → g ≠ c.P → Calls Tryz.prog 149 #[pPtr c, .int .i64 (d : Int), .slice (some ⟨g, 0, none⟩) 6 6] w (zj6 c w (NV w.heap.size) ZN r)
 sg : ∀ w d i r, d ≤ 30 → r = F.sg d i → r ≠ .out → Ps c w i 0 (-1) → Calls Tryz.prog 213 #[pPtr c, .int .i64 (d : Int)] w (zj6 c w (NV w.heap.size) ZN r)
theorem npost_trans {c : PC} {w w1 : World} {er pl : Int} {Z : Value → Prop} {e : Ending} {w' : World} (ha : Ap c.P w.heap.size w w1) (h : NPost c w1 er pl Z e w') : NPost c w er pl Z e w' := ⟨h.1, h.2.1, h.2.2.1, ha.next h.2.2.2⟩
theorem zkx {c : PC} {F : Fns} (hF : RCt c F) (w : World) (d i : Nat) (r : PR Tr) (hd : d ≤ 30) (hs : r = zq4 c.l F.st d i) (ho : r ≠ .out) (h : Ps c w i 0 (-1)) :
  Calls Tryz.prog 105 #[pPtr c, .int .i64 (d : Int)] w (zj6 c w (NV w.heap.size) ZN r) := by
 have HC := qh (zy8 c w i 0 (-1) h)
 have HC2 := qh (hF.st w d i r hd hs ho h)
 have HO := qh ho
 clear h hs ho hF
 go_enter Tryz.func105, Tryz.ntmps105
 go_wp2_with fail
 refine cm HC.out ?_
 rintro e w1 ⟨rfl, rfl⟩
 clear HC
 go_wp2_with fail
 refine cm HC2.out ?_
 intro e w2 hp
 cases r with
 | out => exact absurd rfl HO.out
 | ok t j =>
  obtain ⟨⟨v, rfl, hv⟩, hp2, ha⟩ := hp; obtain ⟨q, rfl, hn⟩ := hv; have H1 := qh hn; have H2 := qh hp2; have H3 := qh ha; clear hn hp2 ha HC2; go_wp2_with fail; go_ret
  exact ⟨⟨_, rfl, q, rfl, H1.out⟩, H2.out, H3.out⟩
 | bad er pl =>
  obtain ⟨⟨v, rfl, q, rfl⟩, hp2, he, ha⟩ := hp; have H2 := qh hp2; have H3 := qh ha; clear hp2 ha HC2; go_wp2_with fail; go_ret; exact ⟨⟨_, rfl, q, rfl⟩, H2.out, he, H3.out⟩
theorem zb1 {c : PC} {F : Fns} (hF : RCt c F) (w : World) (d i : Nat) (r : PR Tr) (hd : d ≤ 30) (hs : r = zv8 c.l F d i) (ho : r ≠ .out) (h : Ps c w i 0 (-1)) :
  Calls Tryz.prog 104 #[pPtr c, .int .i64 (d : Int)] w (zj6 c w (NV w.heap.size) ZN r) := by
 unfold zv8 at hs
 have HC := qh (zx5 c w i zxw (by decide) h)
 have HLT := qh h.rlt
 have HS := qh hs
 have HO := qh ho
 have HF := qh hF
 clear h hs ho hF
 go_enter Tryz.func104, Tryz.ntmps104
 go_wp2_with fail
 refine cm HC.out ?_
 intro e w1 hp
 cases hr : zz0 c.l zxw i with
 | out => rw [hr] at HS; exact absurd HS.out HO.out
 | bad er pl =>
  rw [hr] at hp HS; have hq : r = .bad er pl := zzz HS; subst hq; obtain ⟨⟨v, rfl, rfl⟩, ⟨j, hp2⟩, he, ha⟩ := hp; have HA := qh ha; have HC2 := qh (zn2 c w1 j er pl ((d : Int) + 1) he hp2); clear hr HC hp2 ha
  go_wp2_with fail; refine cm HC2.out ?_; rintro e w2 ⟨⟨v, rfl, q, rfl⟩, ⟨j2, hp3⟩, _, ha2⟩; have HA2 := qh (HA.out.next ha2); have HP3 := qh hp3; have HC3 := qh (zx9 c w2 j2 er pl he zjy hp3)
  clear HC2 ha2 hp3; go_wp2_with fail; refine cm HC3.out ?_; rintro e w3 ⟨rfl, rfl⟩; clear HC3; go_wp2_with fail; go_ret; exact ⟨⟨_, rfl, q, rfl⟩, ⟨_, HP3.out⟩, he, HA2.out⟩
 | ok x1 j1 =>
  rw [hr] at hp HS; have hq : r = (zq4 c.l F.vl d j1).bind fun t i2 => (zz0 c.l zjy i2).bind fun _ i3 => .ok t i3 := zzz HS; obtain ⟨⟨v, rfl, rfl⟩, hp2, ha⟩ := hp; have HA := qh ha; have HQ := qh hq
  have HP2 := qh hp2; clear hr HC hp2 ha hq HS
  cases hr2 : zq4 c.l F.vl d j1 with
  | out => rw [hr2] at HQ; exact absurd HQ.out HO.out
  | bad er pl =>
   have HC2 := qh (HF.out.vl w1 d j1 _ hd hr2.symm (by nofun) HP2.out); rw [hr2] at HQ; have hq : r = .bad er pl := zzz HQ; subst hq; clear hr2; go_wp2_with fail; refine cm HC2.out ?_
   rintro e w2 ⟨⟨v, rfl, q, rfl⟩, ⟨j2, hp3⟩, he, ha2⟩; have HA2 := qh (HA.out.next ha2); have HP3 := qh hp3; have HC3 := qh (zx9 c w2 j2 er pl he zjy hp3); clear HC2 ha2 hp3; go_wp2_with fail
   refine cm HC3.out ?_; rintro e w3 ⟨rfl, rfl⟩; clear HC3; go_wp2_with fail; go_ret; exact ⟨⟨_, rfl, q, rfl⟩, ⟨_, HP3.out⟩, he, HA2.out⟩
  | ok t j2 =>
   have HC2 := qh (HF.out.vl w1 d j1 _ hd hr2.symm (by nofun) HP2.out); rw [hr2] at HQ; have hq : r = (zz0 c.l zjy j2).bind fun _ i3 => .ok t i3 := zzz HQ; have HQ2 := qh hq; clear hr2 hq HQ; go_wp2_with fail
   refine cm HC2.out ?_; rintro e w2 ⟨⟨v, rfl, q, rfl, hn⟩, hp3, ha2⟩; have HA2 := qh (HA.out.next ha2); have HN := qh hn; have HSZ := qh HA.out.size; have HC3 := qh (zx5 c w2 j2 zjy (by decide) hp3)
   clear HC2 ha2 hp3 hn; go_wp2_with fail; refine cm HC3.out ?_; intro e w3 hp
   cases hr3 : zz0 c.l zjy j2 with
   | out => rw [hr3] at HQ2; exact absurd HQ2.out HO.out
   | bad er pl =>
    rw [hr3] at hp HQ2; have hq : r = .bad er pl := zzz HQ2; subst hq; obtain ⟨⟨v, rfl, rfl⟩, hp2, he, ha⟩ := hp; have HA3 := qh (HA2.out.next ha); have HP3 := qh hp2; clear hr3 HC3 hp2 ha; go_wp2_with fail; go_ret
    exact ⟨⟨_, rfl, q, rfl⟩, HP3.out, he, HA3.out⟩
   | ok x3 j3 =>
    rw [hr3] at hp HQ2; have hq : r = .ok t j3 := zzz HQ2; subst hq; obtain ⟨⟨v, rfl, rfl⟩, hp2, ha⟩ := hp; have HA3 := qh (HA2.out.next ha); have HP3 := qh hp2
    have HN3 : Hid (NAt (fun b => w.heap.size ≤ b) w3 t q) := NAt.mono (fun b hb _ => Nat.le_trans HSZ.out hb) _ _ (NAt.later (Stay.of_ap ha (B := w1.heap.size) (by have h1 := zzz HLT; have h2 := zzz HSZ; omega) fun _ h => h) _ _ HN.out)
    clear hr3 HC3 hp2 ha; go_wp2_with fail; go_ret; exact ⟨⟨_, rfl, q, rfl, HN3.out⟩, HP3.out, HA3.out⟩
def zv6 : List Tr → ByteArray
 | .mk k1 _ _ (.mk k2 t2 _ _ :: _) :: _ => if k1 = 15 ∧ k2 = 18 ∧ t2 = tUse then tStrict else zzx
 | _ => zzx
theorem codeT_block (n : Int) (kd : Int) (ts : List Tr) : zh0 (.mk kd zzx n ts) = .mk kd (zv6 ts) n ts := by
 unfold zh0 zv6
 split <;> rename_i h
 ·
  simp only [Tr.mk.injEq] at h; obtain ⟨rfl, rfl, rfl, rfl⟩ := h; rfl
 ·
  split
  ·
   rename_i h2
   exact absurd rfl (h _ _ _ _ _ _ _ _ _ _ _ _)
  ·
   rfl
theorem strictS_no1 {t : Tr} {r : List Tr} (h : t.kd ≠ 15) : zv6 (t :: r) = zzx := by
 unfold zv6
 split
 ·
  rename_i heq
  simp only [List.cons.injEq] at heq; obtain ⟨rfl, _⟩ := heq; rw [if_neg (fun hh => h hh.1)]
 ·
  rfl
theorem strictS_no2 {t k2 : Tr} {r r1 : List Tr} (hk : t.kids = k2 :: r1) (h : k2.kd ≠ 18 ∨ k2.tx ≠ tUse) : zv6 (t :: r) = zzx := by
 cases t with
 | mk a b c ds =>
  simp only [Tr.kids] at hk; subst hk
  cases k2 with
  | mk a2 b2 c2 d2 =>
   simp only [Tr.kd, Tr.tx] at h; simp only [zv6]; rw [if_neg]; rintro ⟨_, h2, h3⟩
   rcases h with h | h
   ·
    exact h h2
   ·
    exact h h3
theorem strictS_yes {t k2 : Tr} {r r1 : List Tr} (h1 : t.kd = 15) (hk : t.kids = k2 :: r1) (h2 : k2.kd = 18) (h3 : k2.tx = tUse) : zv6 (t :: r) = tStrict := by
 cases t with
 | mk a b c ds =>
  simp only [Tr.kids] at hk; subst hk
  cases k2 with
  | mk a2 b2 c2 d2 =>
   simp only [Tr.kd, Tr.tx] at h1 h2 h3; simp only [zv6]; rw [if_pos ⟨h1, h2, h3⟩]
theorem strict_any {B : Nat} {w : World} {ts : List Tr} {v : Value} (hk : KV B w ts v) (hx : ∀ t ∈ ts, t.kd = 15 → ∃ v r, t.kids = v :: r) (hl : ts.length ≤ 100000) :
  Calls Tryz.prog 48 #[v] w fun e w' => e = .returned (.string (zv6 ts)) ∧ w' = w := by
 cases ts with
 | nil =>
  obtain ⟨a, cap, rfl⟩ := hk.shape; clear hk hx hl; go_enter Tryz.func48, Tryz.ntmps48; go_wp2_with fail; go_ret; exact ⟨rfl, rfl⟩
 | cons t r =>
  obtain ⟨ps, hr, hks⟩ := hk; have hlen := NAts.length _ _ hks; obtain ⟨g, cap, rfl, hc⟩ := zw9 hr (by rw [hlen]; simp)
  have hc0 := hc 0 (by rw [hlen]; simp)
  rw [NAts] at hks; obtain ⟨p, ps', rfl, hn, _⟩ := hks; simp only [List.getElem_cons_zero] at hc0; rw [hlen]; have hl1 : (0 : Int) < ((t :: r).length : Int) := by simp
  obtain ⟨u, qs, hb, hrow, hkids⟩ := hn.opens; obtain ⟨f0, _, _, f3, _⟩ := zzj hb; obtain ⟨L, hL⟩ : ∃ L, L = (t :: r).length := ⟨_, rfl⟩; rw [← hL] at hl1 ⊢
  have hgt : decide ((L : Int) > 0) = true := by simpa using hl1
  by_cases h15 : t.kd = 15
  ·
   obtain ⟨k2, r1, hk2⟩ := hx t (by simp) h15; rw [hk2] at hkids; have hlen2 := NAts.length _ _ hkids; obtain ⟨g2, cap2, rfl, hcc⟩ := zw9 hrow (by rw [hlen2]; simp)
   have hcc0 := hcc 0 (by rw [hlen2]; simp)
   rw [NAts] at hkids; obtain ⟨p2, qs', rfl, hn2, _⟩ := hkids; simp only [List.getElem_cons_zero] at hcc0; have hq1 : (0 : Int) < (((p2 :: qs').length : Nat) : Int) := by simp
   obtain ⟨u2, _, hb2, _, _⟩ := hn2.opens; obtain ⟨e0, e1, _, _, _⟩ := zzj hb2; rw [h15] at f0; obtain ⟨L2, hL2⟩ : ∃ L2, L2 = (p2 :: qs').length := ⟨_, rfl⟩; rw [← hL2] at f3 hq1; clear hL2
   by_cases h18 : k2.kd = 18
   ·
    rw [h18] at e0
    by_cases hu : k2.tx = tUse
    ·
     have hst := strictS_yes (r := r) h15 hk2 h18 hu; have bu : (k2.tx.toList == [117, 115, 101, 32, 115, 116, 114, 105, 99, 116]) = true := zf8 (b := tUse) rfl hu; have HST := qh hst
     clear hst hk2 hx hr hc hrow hcc hb hb2 hn hn2 hlen hlen2 hL hl hu h18 h15; go_enter Tryz.func48, Tryz.ntmps48; go_wp2_with fail; go_ret; exact ⟨by rw [HST.out]; rfl, rfl⟩
    ·
     have hst := strictS_no2 (r := r) hk2 (Or.inr hu); have bu : (k2.tx.toList == [117, 115, 101, 32, 115, 116, 114, 105, 99, 116]) = false := zgk (b := tUse) rfl hu; have HST := qh hst
     clear hst hk2 hx hr hc hrow hcc hb hb2 hn hn2 hlen hlen2 hL hl hu h18 h15; go_enter Tryz.func48, Tryz.ntmps48; go_wp2_with fail; go_ret; exact ⟨by rw [HST.out]; rfl, rfl⟩
   ·
    have hst := strictS_no2 (r := r) hk2 (Or.inl h18); have b18 : (k2.kd == 18) = false := beq_eq_false_iff_ne.2 h18; have HST := qh hst; clear hst hk2 hx hr hc hrow hcc hb hb2 hn hn2 hlen hlen2 hL hl h18 h15
    go_enter Tryz.func48, Tryz.ntmps48; go_wp2_with fail; go_ret; exact ⟨by rw [HST.out]; rfl, rfl⟩
  ·
   have hst := strictS_no1 (r := r) h15; have b15 : (t.kd == 15) = false := beq_eq_false_iff_ne.2 h15; have HST := qh hst; clear hst hx hr hc hrow hb hn hlen hL hl h15; go_enter Tryz.func48, Tryz.ntmps48
   go_wp2_with fail; go_ret; exact ⟨by rw [HST.out]; rfl, rfl⟩
def bodyB (body : Bool) (r : PR Tr) : PR Tr := if body then r.bind fun t j => .ok (zh0 t) j else r
theorem bodyB_bad (body : Bool) (er : Int) (p : Nat) : bodyB body (.bad er p) = .bad er p := by cases body <;> rfl
theorem bodyB_out (body : Bool) : bodyB body .out = .out := by cases body <;> rfl
def MustD (c : PC) (s : ByteArray) (i : Nat) (w : World) (w1 : World) : Prop :=
 ((∃ j, zz0 c.l s i = .ok () j ∧ Ps c w1 j 0 (-1)) ∨ (∃ er pl, zz0 c.l s i = .bad er pl ∧ er ≠ 0 ∧ ∃ j, Ps c w1 j er (pl : Int))) ∧ Ap c.P w.heap.size w w1
theorem must_d {c : PC} {s : ByteArray} {i : Nat} {w w1 : World} {e : Ending} (h : zj6 c w (fun _ (_ : Unit) v => ZU v) ZU (zz0 c.l s i) e w1) : e = .returned (.tuple #[]) ∧ MustD c s i w w1 := by
 cases hr : zz0 c.l s i with
 | out =>
  exfalso; unfold zz0 badF at hr
  split at hr <;> cases hr
 | ok x j =>
  rw [hr] at h; obtain ⟨⟨v, rfl, rfl⟩, h2, h3⟩ := h; exact ⟨rfl, Or.inl ⟨j, hr, h2⟩, h3⟩
 | bad er pl =>
  rw [hr] at h; obtain ⟨⟨v, rfl, rfl⟩, h2, he, h3⟩ := h; exact ⟨rfl, Or.inr ⟨er, pl, hr, he, h2⟩, h3⟩
theorem zvx {c : PC} {w : World} {i : Nat} (h : Ps c w i 0 (-1)) : Calls Tryz.prog 46 #[pPtr c] w fun e w' => e = .returned (.bool true) ∧ w' = w := zy8 c w i 0 (-1) h
theorem zvy {c : PC} {w : World} {i : Nat} {er pl : Int} (he : er ≠ 0) (h : Ps c w i er pl) : Calls Tryz.prog 46 #[pPtr c] w fun e w' => e = .returned (.bool false) ∧ w' = w := by
 have := zy8 c w i er pl h
 rw [beq_eq_false_iff_ne.2 he] at this
 exact this
theorem mem_snoc {α : Type} {p : α → Prop} {l : List α} {x : α} (h : ∀ t ∈ l, p t) (hx : p x) : ∀ t ∈ l ++ [x], p t := by
 intro t ht
 rcases List.mem_append.1 ht with h1 | h1
 ·
  exact h t h1
 ·
  rw [List.mem_singleton.1 h1]; exact hx
theorem zx8 {c : PC} {F : Fns} (hF : RCt c F) (hN : ∃ k, FNx c.l k F) (hK : FOk F) (body : Bool) (w : World) (d i : Nat) (r : PR Tr) (hd30 : d ≤ 30) (hs : r = bodyB body (zq2 c.l F d i)) (ho : r ≠ .out) (h : Ps c w i 0 (-1)) :
  Calls Tryz.prog 100 #[pPtr c, .int .i64 (d : Int), .bool body] w (zj6 c w (NV w.heap.size) ZN r) := by
 obtain ⟨i0, hi0, hz0, hz1, hz2⟩ := info_parts zkw
 have HC := qh (zx5 c w i zz4 (by decide) h)
 have HLT := qh h.rlt
 have HL := qh h.base.len
 have HLO := qh h.base.size
 unfold zq2 at hs
 have HS := qh hs
 have HO := qh ho
 have HF := qh hF
 have HNX := qh hN
 have HKO := qh hK
 clear h hs ho hF hN hK
 go_enter Tryz.func100, Tryz.ntmps100
 go_wp2_with fail
 refine cm HC.out ?_
 intro e w1 hp
 obtain ⟨rfl, hm⟩ := must_d hp
 have HM := qh hm
 clear hp hm HC
 go_wp2_with fail
 go_loopg [7] F.fuel (fun k v wr => (∃ acc j, bodyB body ((zx7 c.l F d k acc j).bind fun ts i2 => .ok (.mk 6 zzx 0 ts) i2) = r ∧ KV w.heap.size wr acc v ∧ Ps c wr j 0 (-1) ∧ Ap c.P w.heap.size w wr ∧ acc.length ≤ j ∧ (∀ t ∈ acc, t.kd = 15 → ∃ x y, t.kids = x :: y))
  ∨ (∃ er pl, r = .bad er pl ∧ er ≠ 0 ∧ (∃ j, Ps c wr j er (pl : Int)) ∧ Ap c.P w.heap.size w wr ∧ ZL v))
 case atStart =>
  obtain ⟨hm, ha⟩ := zzz HM
  rcases hm with ⟨j, hm, hp⟩ | ⟨er, pl, hm, he, hp⟩
  ·
   refine Or.inl ⟨[], j, ?_, KV.nil _ _, hp, ha, Nat.zero_le _, by simp⟩; rw [HS.out, hm]; rfl
  ·
   refine Or.inr ⟨er, pl, ?_, he, hp, ha, _, _, _, rfl⟩; rw [HS.out, hm]; exact bodyB_bad _ _ _
 case round =>
  clear HM HS
  rcases hrel with ⟨acc, j, hq, hkv, hps, hap, hle, hall⟩ | ⟨er, pl, hq, he, ⟨j, hps⟩, hap, a, n, kk, rfl⟩
  ·
   obtain ⟨k, rfl⟩ : ∃ k, gk = k + 1 := by
    cases gk with
    | zero => rw [show zx7 c.l F d 0 acc j = .out from rfl] at hq; exact absurd (hq.symm.trans (bodyB_out body)) HO.out
    | succ k => exact ⟨k, rfl⟩
   have HC1 := qh (zvx hps); have HC2 := qh (zzy c wr j zvv (by decide) hps); have HP1 := qh hps; have HA1 := qh hap; have HK1 := qh hkv; have hL := zzz HL; have hjl := hps.lt
   by_cases hx : fx c.l j = zvv
   ·
    have HQ : Hid (bodyB body (.ok (.mk 6 zzx 0 acc) (j + 1)) = r) := by
     unfold zx7 at hq; rw [if_pos hx] at hq; exact hq
    have HALL := qh hall; have hd1 : decide (fx c.l j = zvv) = true := decide_eq_true hx; rw [hd1] at HC2; obtain ⟨va, vc, rfl⟩ := hkv.shape; have HX := qh hx; clear hq hkv hps hap hx hd1 hall; go_wp2_with fail
    refine cm HC1.out ?_; rintro e w2 ⟨rfl, rfl⟩; clear HC1; go_wp2_with fail; refine cm HC2.out ?_; rintro e w3 ⟨rfl, hb3⟩; have HP3 := qh (HP1.out.later hb3); have HA3 := qh (HA1.out.next (Ap.of hb3))
    have HK3 := qh (KV.later HK1.out (Ap.of (R := c.P) hb3) HLT.out); have HC3 := qh (zx5 c w3 j zvv (by decide) (HP1.out.later hb3)); clear hb3 HC2 HP1 HA1 HK1; go_wp2_with fail; refine cm HC3.out ?_
    intro e w4 hp; have hmm : zz0 c.l zvv j = .ok () (j + 1) := by unfold zz0; rw [if_pos HX.out]
    rw [hmm] at hp; obtain ⟨⟨v, rfl, rfl⟩, hp4, ha4⟩ := hp; have HP4 := qh hp4; have HA4 := qh (HA3.out.next ha4); have HK4 := qh (KV.later HK3.out ha4 HLT.out); clear hp4 ha4 hmm HC3 HP3 HA3 HK3
    cases body with
    | false =>
     have hq : r = .ok (.mk 6 zzx 0 acc) (j + 1) := HQ.out.symm; subst hq; go_wp2_with fail; go_ret; refine ⟨⟨_, rfl, (EV.new HK4.out HA4.out.size 6 zzx 0).nv⟩, HP4.out.alloc _, HA4.out.alloc HA4.out.size _⟩
    | true =>
     have hq : r = .ok (.mk 6 (zv6 acc) 0 acc) (j + 1) := by rw [← codeT_block]; exact HQ.out.symm
     subst hq; have HC5 := qh (zvx (HP4.out.alloc (zzk 6 zzx 0 (.slice va acc.length vc))))
     have HC6 := qh (strict_any (KV.later HK4.out (Ap.of (R := c.P) (qb.alloc qv (zzk 6 zzx 0 (.slice va acc.length vc)))) HLT.out) HALL.out (by omega))
     have hc1 : (w4.alloc (zzk 6 zzx 0 (.slice va acc.length vc))).cell? ⟨w4.heap.size, 1, none⟩ = some (.string zzx) := by rw [zqj (zqx _ _)]; rfl
     have hf1 : (w4.alloc (zzk 6 zzx 0 (.slice va acc.length vc))).frozen? ⟨w4.heap.size, 1, none⟩ = false := zj5 (zqx _ _) 1; go_wp2_with fail; refine cm HC5.out ?_; rintro e w5 ⟨rfl, rfl⟩; clear HC5
     go_wp2_with fail; refine cm HC6.out ?_; rintro e w6 ⟨rfl, rfl⟩; clear HC6; go_wp2_with fail; go_ret; exact ⟨⟨_, rfl, (EV.new HK4.out HA4.out.size 6 (zv6 acc) 0).nv⟩, HP4.out.alloc _, HA4.out.alloc HA4.out.size _⟩
   ·
    have HQ : Hid (bodyB body ((zq4 c.l F.st d j).bind (fun t i1 => (zx7 c.l F d k (acc ++ [t]) i1).bind fun ts i2 => PR.ok (.mk 6 zzx 0 ts) i2)) = r) := by
     unfold zx7 at hq; rw [if_neg hx] at hq; rw [← hq]
     cases zq4 c.l F.st d j <;> rfl
    have HALL := qh hall; have hd1 : decide (fx c.l j = zvv) = false := decide_eq_false hx; rw [hd1] at HC2; have HRV := qh hkv; clear hq hkv hps hap hx hd1 hall
    cases hr : zq4 c.l F.st d j with
    | out =>
     rw [hr] at HQ; exact absurd (HQ.out.symm.trans (bodyB_out body)) HO.out
    | bad er pl =>
     have HRR := qh hr; rw [hr] at HQ; have hq : r = .bad er pl := HQ.out.symm.trans (bodyB_bad body er pl); have HQQ := qh hq; clear hr hq HQ; obtain ⟨va, vc, hve⟩ := HRV.out.shape; subst hve; go_wp2_with fail
     refine cm HC1.out ?_; rintro e w2 ⟨rfl, rfl⟩; clear HC1; go_wp2_with fail; refine cm HC2.out ?_; rintro e w3 ⟨rfl, hb3⟩; have HP3 := qh (HP1.out.later hb3); have HA3 := qh (HA1.out.next (Ap.of hb3))
     have HK3 := qh (KV.later HK1.out (Ap.of (R := c.P) hb3) HLT.out); have HC3 := qh (HF.out.st w3 d j _ hd30 HRR.out.symm (by nofun) (HP1.out.later hb3)); clear hb3 HC2 HP1 HA1 HK1; go_wp2_with fail
     refine cm HC3.out ?_; rintro e w4 ⟨⟨v, rfl, p4, rfl⟩, hp4, he, ha4⟩; have HP4 := qh hp4; have HA4 := qh (HA3.out.next ha4); have HK4 := qh (KV.later HK3.out ha4 HLT.out); clear hp4 ha4 HC3 HP3 HA3 HK3
     obtain ⟨ps, hown, hk4⟩ := zzz HK4; have hlen := NAts.length _ _ hk4; have hOB := zxj hown; rw [hlen] at hown; have HOWN := qh hown; have HLEN := qh hlen; have HKK := qh hk4; have hsz := HA4.out.size
     have HOB := qh hOB; clear hown hk4 HK4 hOB hlen
     go_wp2_with (at_builtin; refine wpList_append_lies _ rfl _ _ 36 rfl w.heap.size 22 i0 (.pointer none) 1 8 Tryz.underlying36 hi0 hz0 hz1 hz2 rfl (by decide) _ _ _ rfl (HOWN.out.alloc _) ⟨w4.heap.size, 0, none⟩ 1 1 [nPtr p4] rfl rfl (zq3 w4 p4 _ rfl) (zxy p4) (by decide) (by unfold maxLen; omega) (by omega) (by simp; omega) (w4.heap.size + 1) (by simp) ?_)
     intro g cap w5 hown' hgrow hg _; have HA5 := qh ((HA4.out.alloc hsz (.cells #[nPtr p4] 22)).grown hgrow (by simp; omega) (fun k hk => (zzz HOB k hk).2))
     have HP5 : Hid (∃ j, Ps c w5 j er (pl : Int)) := by
      obtain ⟨j2, hp⟩ := zzz HP4; exact ⟨j2, hp.ap (((Below.refl w.heap.size w4).alloc hsz (.cells #[nPtr p4] 22)).grown hgrow (by simp; omega) (fun k hk => (zzz HOB k hk).2)) HLO.out⟩
     clear hown' hgrow hg HKK HOWN; go_wp2_with fail
     go_roundg k
     case measure => omega
     case rel => exact Or.inr ⟨er, pl, HQQ.out, he, HP5.out, HA5.out, _, _, _, rfl⟩
    | ok t j2 =>
     have HRR := qh hr; rw [hr] at HQ; have hq : bodyB body ((zx7 c.l F d k (acc ++ [t]) j2).bind fun ts i2 => PR.ok (.mk 6 zzx 0 ts) i2) = r := zzz HQ; have HQQ := qh hq; clear hr hq HQ
     obtain ⟨va, vc, hve⟩ := HRV.out.shape; subst hve; go_wp2_with fail; refine cm HC1.out ?_; rintro e w2 ⟨rfl, rfl⟩; clear HC1; go_wp2_with fail; refine cm HC2.out ?_; rintro e w3 ⟨rfl, hb3⟩
     have HP3 := qh (HP1.out.later hb3); have HA3 := qh (HA1.out.next (Ap.of hb3)); have HK3 := qh (KV.later HK1.out (Ap.of (R := c.P) hb3) HLT.out)
     have HC3 := qh (HF.out.st w3 d j _ hd30 HRR.out.symm (by nofun) (HP1.out.later hb3)); clear hb3 HC2 HP1 HA1 HK1; go_wp2_with fail; refine cm HC3.out ?_; rintro e w4 ⟨⟨v, rfl, p4, rfl, hn4⟩, hp4, ha4⟩
     have HP4 := qh hp4; have HA4 := qh (HA3.out.next ha4); have HN4 := qh (zb7 HK3.out HA3.out.size hn4); have HK4 := qh (KV.later HK3.out ha4 HLT.out); have hlt2 := hp4.lt; have hgt : j < j2 := by
      obtain ⟨kk, hkk⟩ := zzz HNX; exact ((zk1 (l := c.l) (d := d) (hkk.st (d + 1) j hjl)).2 t j2 HRR.out).1
     clear hp4 ha4 hn4 HC3 HP3 HA3 HK3; obtain ⟨ps, hown, hk4⟩ := zzz HK4; have hlen := NAts.length _ _ hk4; have hOB := zxj hown; rw [hlen] at hown; have HOWN := qh hown; have HLEN := qh hlen
     have HKK := qh hk4; have hsz := HA4.out.size; have HOB := qh hOB; clear hown hk4 HK4 hOB hlen
     go_wp2_with (at_builtin; refine wpList_append_lies _ rfl _ _ 36 rfl w.heap.size 22 i0 (.pointer none) 1 8 Tryz.underlying36 hi0 hz0 hz1 hz2 rfl (by decide) _ _ _ rfl (HOWN.out.alloc _) ⟨w4.heap.size, 0, none⟩ 1 1 [nPtr p4] rfl rfl (zq3 w4 p4 _ rfl) (zxy p4) (by decide) (by unfold maxLen; omega) (by omega) (by simp; omega) (w4.heap.size + 1) (by simp) ?_)
     intro g cap w5 hown' hgrow hg _
     have HK5 : Hid (KV w.heap.size w5 (acc ++ [t]) (.slice (some ⟨g, 0, none⟩) (acc.length + 1) cap)) := zg2 HKK.out (NAts.cons HN4.out NAts.nil) (by rw [List.map_append]; exact hown') (by simp [HLEN.out]) hgrow hg
     have HA5 := qh ((HA4.out.alloc hsz (.cells #[nPtr p4] 22)).grown hgrow (by simp; omega) (fun k hk => (zzz HOB k hk).2))
     have HP5 := qh (HP4.out.ap (((Below.refl w.heap.size w4).alloc hsz (.cells #[nPtr p4] 22)).grown hgrow (by simp; omega) (fun k hk => (zzz HOB k hk).2)) HLO.out)
     have HALL2 : Hid (∀ u ∈ acc ++ [t], u.kd = 15 → ∃ x y, u.kids = x :: y) := by
      refine mem_snoc HALL.out ?_; have h1 := zzz HRR; unfold zq4 at h1
      split at h1
      ·
       cases h1
      ·
       exact HKO.out _ _ _ _ h1
     clear hown' hgrow hg HKK HOWN; go_wp2_with fail
     go_roundg k
     case measure => omega
     case rel => exact Or.inl ⟨acc ++ [t], j2, HQQ.out, HK5.out, HP5.out, HA5.out, by simp; omega, HALL2.out⟩
  ·
   have HC1 := qh (zvy he hps); have HC2 := qh (zx9 c wr j er pl he zvv hps); have HP1 := qh hps; have HA1 := qh hap; clear hps hap; subst hq; go_wp2_with fail; refine cm HC1.out ?_
   rintro e w2 ⟨rfl, rfl⟩; clear HC1; go_wp2_with fail; refine cm HC2.out ?_; rintro e w3 ⟨rfl, rfl⟩; clear HC2
   cases body with
   | false =>
    go_wp2_with fail; go_ret; exact ⟨⟨_, rfl, _, rfl⟩, ⟨j, HP1.out.alloc _⟩, he, HA1.out.alloc HA1.out.size _⟩
   | true =>
    have HC3 := qh (zvy he (HP1.out.alloc (zzk 6 zzx 0 (.slice a n kk)))); go_wp2_with fail; refine cm HC3.out ?_; rintro e w4 ⟨rfl, rfl⟩; clear HC3; go_wp2_with fail; go_ret
    exact ⟨⟨_, rfl, _, rfl⟩, ⟨j, HP1.out.alloc _⟩, he, HA1.out.alloc HA1.out.size _⟩
theorem zy9 (c : PC) (w : World) (i : Nat) (er pl D : Int) (body : Bool) (he : er ≠ 0) (h : Ps c w i er pl) :
  Calls Tryz.prog 100 #[pPtr c, .int .i64 D, .bool body] w (NPost c w er pl ZN) := by
 have HC := qh (zx9 c w i er pl he zz4 h)
 have HP := qh h
 clear h
 go_enter Tryz.func100, Tryz.ntmps100
 go_wp2_with fail
 refine cm HC.out ?_
 rintro e w1 ⟨rfl, rfl⟩
 clear HC
 have HC1 := qh (zvy he HP.out)
 have HC2 := qh (zx9 c w1 i er pl he zvv HP.out)
 go_wp2_with fail
 refine wp_loop_rounds 1 ?_
 rw [rounds_succ]
 go_wp2_with fail
 refine cm HC1.out ?_
 rintro e w2 ⟨rfl, rfl⟩
 clear HC1
 go_wp2_with fail
 refine cm HC2.out ?_
 rintro e w3 ⟨rfl, rfl⟩
 clear HC2
 cases body with
 | false =>
  go_wp2_with fail; go_ret; exact ⟨⟨_, rfl, _, rfl⟩, ⟨i, HP.out.alloc _⟩, he, (Ap.refl c.P _ w3).alloc qv _⟩
 | true =>
  have HC3 := qh (zvy he (HP.out.alloc (zzk 6 zzx 0 (.slice none 0 0)))); go_wp2_with fail; refine cm HC3.out ?_; rintro e w4 ⟨rfl, rfl⟩; clear HC3; go_wp2_with fail; go_ret
  exact ⟨⟨_, rfl, _, rfl⟩, ⟨i, HP.out.alloc _⟩, he, (Ap.refl c.P _ w3).alloc qv _⟩
theorem rlist_old (c : PC) (w : World) (i : Nat) (er pl : Int) (s : ByteArray) (fv : Value) (he : er ≠ 0) (h : Ps c w i er pl) :
  Calls Tryz.prog 147 #[pPtr c, .string s, fv] w fun e w' => e = .returned (.slice none 0 0) ∧ w' = w := by
 have HC1 := qh (zvy he h)
 have HC2 := qh (zx9 c w i er pl he s h)
 clear h
 go_enter Tryz.func147, Tryz.ntmps147
 go_wp2_with fail
 refine wp_loop_rounds 1 ?_
 rw [rounds_succ]
 go_wp2_with fail
 refine cm HC1.out ?_
 rintro e w2 ⟨rfl, rfl⟩
 clear HC1
 go_wp2_with fail
 refine cm HC2.out ?_
 rintro e w3 ⟨rfl, rfl⟩
 clear HC2
 go_wp2_with fail
 go_ret
 exact ⟨rfl, rfl⟩
structure PartC (c : PC) (lo : Nat) (K : World → Prop) (f : Nat) (caps : Array Value) (part : Nat → PR Tr) : Prop where
 enters : ∀ args W, (callFunc f args).run Tryz.prog W = .ok (.enter f args) W
 stays : ∀ W W', K W → c.P < W.heap.size → Ap c.P W.heap.size W W' → K W'
 does : ∀ W i r, K W → r = part i → r ≠ .out → Ps c W i 0 (-1) → Calls Tryz.prog f caps W (zj6 c W (NV W.heap.size) ZN r)
 /-- What it leans on lies in blocks below a bound. -/
 kept : ∀ B W W', K W → Below B W W' → lo ≤ B → K W'
def RowZ (B : Nat) (w : World) (v : Value) : Prop := ∃ ps : List Nat, ps.length ≤ 9 ∧ w.ownsRow B 22 1 v ps.length (ps.map nPtr)
theorem RowZ.of {B : Nat} {w : World} {ts : List Tr} {v : Value} (h : KV B w ts v) (hl : ts.length ≤ 8) : RowZ B w v := by
 obtain ⟨ps, hr, hk⟩ := h
 exact ⟨ps, by rw [NAts.length _ _ hk]; omega, hr⟩
def LPost (c : PC) (w : World) (r : PR (List Tr)) (e : Ending) (w' : World) : Prop :=
 match r with
 | .ok ts j => (∃ v, e = .returned v ∧ KV w.heap.size w' ts v ∧ ts.length ≤ 8) ∧ Ps c w' j 0 (-1) ∧ Ap c.P w.heap.size w w'
 | .bad er pl => (∃ v, e = .returned v ∧ RowZ w.heap.size w' v) ∧ (∃ j, Ps c w' j er (pl : Int)) ∧ er ≠ 0 ∧ Ap c.P w.heap.size w w'
 | .out => True
theorem rlist_all {c : PC} {K : World → Prop} {f : Nat} {caps : Array Value} {part : Nat → PR Tr} {lo : Nat} (hp : PartC c lo K f caps part) (s : ByteArray) (hsn : s ≠ zzx) (n : Nat) (w : World) (i : Nat) (r : PR (List Tr)) (hs : r = zx3 c.l s part n [] i) (ho : r ≠ .out) (hk : K w) (hlo : lo ≤ w.heap.size) (h : Ps c w i 0 (-1)) :
  Calls Tryz.prog 147 #[pPtr c, .string s, .func (.func f) #[] caps] w (LPost c w r) := by
 have hen := hp.enters
 obtain ⟨i0, hi0, hz0, hz1, hz2⟩ := info_parts zkw
 have HLT := qh h.rlt
 have HL := qh h.base.len
 have HLO := qh h.base.size
 have HS := qh hs
 have HO := qh ho
 have HPC := qh hp
 have HK0 := qh hk
 have HLB := qh hlo
 have HP0 := qh h
 clear h hs ho hp hk hlo
 go_enter Tryz.func147, Tryz.ntmps147
 go_wp2_with fail
 go_loopg [7] n (fun k v wr => (∃ acc j, zx3 c.l s part k acc j = r ∧ KV w.heap.size wr acc v ∧ Ps c wr j 0 (-1) ∧ Ap c.P w.heap.size w wr ∧ acc.length ≤ 8 ∧ K wr)
  ∨ (∃ er pl, r = .bad er pl ∧ er ≠ 0 ∧ (∃ j, Ps c wr j er (pl : Int)) ∧ Ap c.P w.heap.size w wr ∧ RowZ w.heap.size wr v))
 case atStart => exact Or.inl ⟨[], i, HS.out.symm, KV.nil _ _, HP0.out, Ap.refl _ _ _, by simp, HK0.out⟩
 case round =>
  clear HS HP0 HK0
  rcases hrel with ⟨acc, j, hq, hkv, hps, hap, hle, hkk⟩ | ⟨er, pl, hq, he, ⟨j, hps⟩, hap, hrz⟩
  ·
   obtain ⟨k, rfl⟩ : ∃ k, gk = k + 1 := by
    cases gk with
    | zero => exact absurd hq.symm HO.out
    | succ k => exact ⟨k, rfl⟩
   have HC1 := qh (zvx hps); have HC2 := qh (zzy c wr j s hsn hps); have HP1 := qh hps; have HA1 := qh hap; have HK1 := qh hkv; have HKW := qh hkk; have hL := zzz HL; have hjl := hps.lt
   by_cases hx : fx c.l j = s
   ·
    have HQ : Hid (PR.ok acc (j + 1) = r) := by
     unfold zx3 at hq; rw [if_pos hx] at hq; exact hq
    have hd1 : decide (fx c.l j = s) = true := decide_eq_true hx; rw [hd1] at HC2; obtain ⟨va, vc, rfl⟩ := hkv.shape; have HX := qh hx; clear hq hkv hps hap hx hd1 hkk; go_wp2_with fail; refine cm HC1.out ?_
    rintro e w2 ⟨rfl, rfl⟩; clear HC1; go_wp2_with fail; refine cm HC2.out ?_; rintro e w3 ⟨rfl, hb3⟩; have HA3 := qh (HA1.out.next (Ap.of hb3)); have HK3 := qh (KV.later HK1.out (Ap.of (R := c.P) hb3) HLT.out)
    have HC3 := qh (zx5 c w3 j s hsn (HP1.out.later hb3)); clear hb3 HC2 HP1 HA1 HK1; go_wp2_with fail; refine cm HC3.out ?_; intro e w4 hp
    have hmm : zz0 c.l s j = .ok () (j + 1) := by unfold zz0; rw [if_pos HX.out]
    rw [hmm] at hp; obtain ⟨⟨v, rfl, rfl⟩, hp4, ha4⟩ := hp; have HP4 := qh hp4; have HA4 := qh (HA3.out.next ha4); have HK4 := qh (KV.later HK3.out ha4 HLT.out); clear hp4 ha4 hmm HC3 HA3 HK3
    have hq : r = .ok acc (j + 1) := HQ.out.symm; subst hq; go_wp2_with fail; go_ret; exact ⟨⟨_, rfl, HK4.out, hle⟩, HP4.out, HA4.out⟩
   ·
    have HQ : Hid (((if acc.length = 0 then PR.ok () j else zz0 c.l zh8 j).bind fun _ i1 => if acc.length = 8 then badF c.l 4 i1 else (part i1).bind fun t i2 => zx3 c.l s part k (acc ++ [t]) i2) = r) := by
     unfold zx3 at hq; rw [if_neg hx] at hq; exact hq
    have hd1 : decide (fx c.l j = s) = false := decide_eq_false hx; rw [hd1] at HC2; obtain ⟨va, vc, rfl⟩ := hkv.shape; clear hq hkv hps hap hx hd1 hkk; go_wp2_with fail; refine cm HC1.out ?_; rintro e w2 ⟨rfl, rfl⟩
    clear HC1; go_wp2_with fail; refine cm HC2.out ?_; rintro e w3 ⟨rfl, hb3⟩; have HP3 := qh (HP1.out.later hb3); have HA3 := qh (HA1.out.next (Ap.of hb3))
    have HK3 := qh (KV.later HK1.out (Ap.of (R := c.P) hb3) HLT.out); have HKW3 := qh (HPC.out.stays _ _ HKW.out HP1.out.rlt (Ap.of hb3)); clear hb3 HC2 HP1 HA1 HK1 HKW
    by_cases h0 : acc.length = 0
    ·
     have hgt : decide ((0 : Int) < (acc.length : Int)) = false := by rw [h0]; rfl
     have hgt2 : decide (0 < acc.length) = false := by rw [h0]; rfl
     have h8 : ((acc.length : Int) == 8) = false := by rw [h0]; rfl
     rw [if_pos h0] at HQ; have HQ' : Hid ((if acc.length = 8 then badF c.l 4 j else (part j).bind fun t i2 => zx3 c.l s part k (acc ++ [t]) i2) = r) := zzz HQ; rw [if_neg (by omega)] at HQ'; clear HQ
     have HQ := HQ'; have HLE8 : Hid (acc.length < 8) := by show _ < _; omega
     clear HQ' h0; have HCo := qh (zvx HP3.out); go_wp2_with fail; refine cm HCo.out ?_; rintro e wo ⟨rfl, rfl⟩; clear HCo
     cases hr : part j with
     | out =>
      rw [hr] at HQ; exact absurd HQ.out.symm HO.out
     | bad er pl =>
      have HRR := qh hr; rw [hr] at HQ; have hq : r = .bad er pl := HQ.out.symm; have HQQ := qh hq; have HC5 := qh (HPC.out.does wo j _ HKW3.out HRR.out.symm (by nofun) HP3.out); clear hr hq HQ; go_wp2_with fail
      refine cm HC5.out ?_; rintro e w4 ⟨⟨v, rfl, p4, rfl⟩, hp4, he, ha4⟩; have HP4 := qh hp4; have HA4 := qh (HA3.out.next ha4); have HK4 := qh (KV.later HK3.out ha4 HLT.out); clear hp4 ha4 HC5 HP3 HA3 HK3
      obtain ⟨ps, hown, hk4⟩ := zzz HK4; have hlen := NAts.length _ _ hk4; have hOB := zxj hown; rw [hlen] at hown; have HOWN := qh hown; have HLEN := qh hlen; have HKK := qh hk4; have hsz := HA4.out.size
      have HOB := qh hOB; clear hown hk4 HK4 hOB hlen
      go_wp2_with (at_builtin; refine wpList_append_lies _ rfl _ _ 36 rfl w.heap.size 22 i0 (.pointer none) 1 8 Tryz.underlying36 hi0 hz0 hz1 hz2 rfl (by decide) _ _ _ rfl (HOWN.out.alloc _) ⟨w4.heap.size, 0, none⟩ 1 1 [nPtr p4] rfl rfl (zq3 w4 p4 _ rfl) (zxy p4) (by decide) (by unfold maxLen; omega) (by omega) (by simp; omega) (w4.heap.size + 1) (by simp) ?_)
      intro g cap w5 hown' hgrow hg _; have HB5 := qh (((Below.refl w.heap.size w4).alloc hsz (.cells #[nPtr p4] 22)).grown hgrow (by simp; omega) (fun k hk => (zzz HOB k hk).2))
      have HA5 := qh ((HA4.out.alloc hsz (.cells #[nPtr p4] 22)).grown hgrow (by simp; omega) (fun k hk => (zzz HOB k hk).2))
      have HP5 : Hid (∃ j, Ps c w5 j er (pl : Int)) := by
       obtain ⟨j2, hp⟩ := zzz HP4; exact ⟨j2, hp.ap HB5.out HLO.out⟩
      have HZ5 : Hid (RowZ w.heap.size w5 (.slice (some ⟨g, 0, none⟩) (acc.length + 1) cap)) := ⟨ps ++ [p4], by have := zzz HLEN; simp; omega, by have hl := zzz HLEN; rw [List.length_append, List.length_singleton, hl, List.map_append]; exact hown'⟩
      clear hown' hgrow hg HKK HOWN; go_wp2_with fail
      go_roundg k
      case measure => omega
      case rel => exact Or.inr ⟨er, pl, HQQ.out, he, HP5.out, HA5.out, HZ5.out⟩
     | ok t j2 =>
      have HRR := qh hr; rw [hr] at HQ; have hq : zx3 c.l s part k (acc ++ [t]) j2 = r := zzz HQ; have HQQ := qh hq; have HC5 := qh (HPC.out.does wo j _ HKW3.out HRR.out.symm (by nofun) HP3.out)
      clear hr hq HQ; go_wp2_with fail; refine cm HC5.out ?_; rintro e w4 ⟨⟨v, rfl, p4, rfl, hn4⟩, hp4, ha4⟩; have HP4 := qh hp4; have HA4 := qh (HA3.out.next ha4); have HK4 := qh (KV.later HK3.out ha4 HLT.out)
      have HN4 := qh (zb7 HK3.out HA3.out.size hn4); have HKW4 := qh (HPC.out.stays _ _ HKW3.out HP3.out.rlt ha4); clear hn4; clear hp4 ha4 HC5 HP3 HA3 HK3; obtain ⟨ps, hown, hk4⟩ := zzz HK4
      have hlen := NAts.length _ _ hk4; have hOB := zxj hown; rw [hlen] at hown; have HOWN := qh hown; have HLEN := qh hlen; have HKK := qh hk4; have hsz := HA4.out.size; have HOB := qh hOB
      clear hown hk4 HK4 hOB hlen
      go_wp2_with (at_builtin; refine wpList_append_lies _ rfl _ _ 36 rfl w.heap.size 22 i0 (.pointer none) 1 8 Tryz.underlying36 hi0 hz0 hz1 hz2 rfl (by decide) _ _ _ rfl (HOWN.out.alloc _) ⟨w4.heap.size, 0, none⟩ 1 1 [nPtr p4] rfl rfl (zq3 w4 p4 _ rfl) (zxy p4) (by decide) (by unfold maxLen; omega) (by omega) (by simp; omega) (w4.heap.size + 1) (by simp) ?_)
      intro g cap w5 hown' hgrow hg _; have HB5 := qh (((Below.refl w.heap.size w4).alloc hsz (.cells #[nPtr p4] 22)).grown hgrow (by simp; omega) (fun k hk => (zzz HOB k hk).2))
      have HA5 := qh ((HA4.out.alloc hsz (.cells #[nPtr p4] 22)).grown hgrow (by simp; omega) (fun k hk => (zzz HOB k hk).2))
      have HK5 : Hid (KV w.heap.size w5 (acc ++ [t]) (.slice (some ⟨g, 0, none⟩) (acc.length + 1) cap)) := zg2 HKK.out (NAts.cons HN4.out NAts.nil) (by rw [List.map_append]; exact hown') (by simp [HLEN.out]) hgrow hg
      have HP5 := qh (HP4.out.ap HB5.out HLO.out); have HKW5 := qh (HPC.out.kept _ _ _ HKW4.out HB5.out HLB.out); clear hown' hgrow hg HKK HOWN; go_wp2_with fail
      go_roundg k
      case measure => omega
      case rel => exact Or.inl ⟨acc ++ [t], j2, HQQ.out, HK5.out, HP5.out, HA5.out, by have hh := zzz HLE8; simp; omega, HKW5.out⟩
    ·
     have hgt : decide ((acc.length : Int) > 0) = true := by simp; omega
     rw [if_neg h0] at HQ; have HC4 := qh (zx5 c w3 j zh8 (by decide) HP3.out); go_wp2_with fail; refine cm HC4.out ?_; intro e w6 hp
     cases hm : zz0 c.l zh8 j with
     | out => rw [hm] at HQ; exact absurd HQ.out.symm HO.out
     | bad er pl =>
      rw [hm] at hp HQ; have hq : r = .bad er pl := HQ.out.symm; obtain ⟨⟨v, rfl, rfl⟩, ⟨j6, hp6⟩, he, ha6⟩ := hp; have HQQ := qh hq; have HP6 := qh hp6; have HA6 := qh (HA3.out.next ha6)
      have HK6 := qh (KV.later HK3.out ha6 HLT.out); clear hp6 ha6 hm HC4 hq HQ
      by_cases h8 : acc.length = 8
      ·
       have h8' : ((acc.length : Int) == 8) = true := by rw [h8]; rfl
       have HC7 := qh (rfail_old c w6 j6 er pl 4 he HP6.out); go_wp2_with fail; refine cm HC7.out ?_; rintro e w7 ⟨⟨v, rfl, q, rfl⟩, ⟨j7, hp7⟩, _, ha7⟩; have HC8 := qh (zvy he hp7); have HP7 := qh hp7
       have HA7 := qh (HA6.out.next ha7); have HK7 := qh (KV.later HK6.out ha7 HLT.out); clear hp7 ha7 HC7; go_wp2_with fail; refine cm HC8.out ?_; rintro e w8 ⟨rfl, rfl⟩; clear HC8; go_wp2_with fail
       go_roundg k
       case measure => omega
       case rel => exact Or.inr ⟨er, pl, HQQ.out, he, ⟨j7, HP7.out⟩, HA7.out, RowZ.of (by have hk := zzz HK7; rw [h8] at hk; exact hk) hle⟩
      ·
       have h8' : ((acc.length : Int) == 8) = false := beq_eq_false_iff_ne.2 (by omega); have HC8 := qh (zvy he HP6.out); go_wp2_with fail; refine cm HC8.out ?_; rintro e w8 ⟨rfl, rfl⟩; clear HC8; go_wp2_with fail
       go_roundg k
       case measure => omega
       case rel => exact Or.inr ⟨er, pl, HQQ.out, he, ⟨j6, HP6.out⟩, HA6.out, RowZ.of HK6.out hle⟩
     | ok x6 j6 =>
      rw [hm] at hp HQ; obtain ⟨⟨v, rfl, rfl⟩, hp6, ha6⟩ := hp; have HQ' : Hid ((if acc.length = 8 then badF c.l 4 j6 else (part j6).bind fun t i2 => zx3 c.l s part k (acc ++ [t]) i2) = r) := zzz HQ; clear HQ
      have HQ := HQ'; clear HQ'; have HP6 := qh hp6; have HA6 := qh (HA3.out.next ha6); have HK6 := qh (KV.later HK3.out ha6 HLT.out); have HKW6 := qh (HPC.out.stays _ _ HKW3.out HP3.out.rlt ha6)
      clear hp6 ha6 hm HC4 HP3 HA3 HK3 HKW3
      by_cases h8 : acc.length = 8
      ·
       have h8' : ((acc.length : Int) == 8) = true := by rw [h8]; rfl
       rw [if_pos h8] at HQ; have HC7 := qh (zwv c w6 j6 4 (by decide) HP6.out); go_wp2_with fail; refine cm HC7.out ?_; rintro e w7 ⟨⟨v, rfl, q, rfl⟩, ⟨j7, hp7⟩, he, ha7⟩; have HC8 := qh (zvy he hp7)
       have HP7 := qh hp7; have HA7 := qh (HA6.out.next ha7); have HK7 := qh (KV.later HK6.out ha7 HLT.out); clear hp7 ha7 HC7; go_wp2_with fail; refine cm HC8.out ?_; rintro e w8 ⟨rfl, rfl⟩; clear HC8
       go_wp2_with fail
       go_roundg k
       case measure => omega
       case rel => exact Or.inr ⟨4, (tkA c.l j6).pl, HQ.out.symm, by decide, ⟨j7, HP7.out⟩, HA7.out, RowZ.of (by have hk := zzz HK7; rw [h8] at hk; exact hk) hle⟩
      ·
       have h8' : ((acc.length : Int) == 8) = false := beq_eq_false_iff_ne.2 (by omega); rw [if_neg h8] at HQ; have HLE8 : Hid (acc.length < 8) := by show _ < _; omega
       have HCo := qh (zvx HP6.out); go_wp2_with fail; refine cm HCo.out ?_; rintro e wo ⟨rfl, rfl⟩; clear HCo
       cases hr : part j6 with
       | out =>
        rw [hr] at HQ; exact absurd HQ.out.symm HO.out
       | bad er pl =>
        have HRR := qh hr; rw [hr] at HQ; have hq : r = .bad er pl := HQ.out.symm; have HQQ := qh hq; have HC5 := qh (HPC.out.does wo j6 _ HKW6.out HRR.out.symm (by nofun) HP6.out); clear hr hq HQ; go_wp2_with fail
        refine cm HC5.out ?_; rintro e w4 ⟨⟨v, rfl, p4, rfl⟩, hp4, he, ha4⟩; have HP4 := qh hp4; have HA4 := qh (HA6.out.next ha4); have HK4 := qh (KV.later HK6.out ha4 HLT.out); clear hp4 ha4 HC5 HP6 HA6 HK6
        obtain ⟨ps, hown, hk4⟩ := zzz HK4; have hlen := NAts.length _ _ hk4; have hOB := zxj hown; rw [hlen] at hown; have HOWN := qh hown; have HLEN := qh hlen; have HKK := qh hk4; have hsz := HA4.out.size
        have HOB := qh hOB; clear hown hk4 HK4 hOB hlen
        go_wp2_with (at_builtin; refine wpList_append_lies _ rfl _ _ 36 rfl w.heap.size 22 i0 (.pointer none) 1 8 Tryz.underlying36 hi0 hz0 hz1 hz2 rfl (by decide) _ _ _ rfl (HOWN.out.alloc _) ⟨w4.heap.size, 0, none⟩ 1 1 [nPtr p4] rfl rfl (zq3 w4 p4 _ rfl) (zxy p4) (by decide) (by unfold maxLen; omega) (by omega) (by simp; omega) (w4.heap.size + 1) (by simp) ?_)
        intro g cap w5 hown' hgrow hg _; have HB5 := qh (((Below.refl w.heap.size w4).alloc hsz (.cells #[nPtr p4] 22)).grown hgrow (by simp; omega) (fun k hk => (zzz HOB k hk).2))
        have HA5 := qh ((HA4.out.alloc hsz (.cells #[nPtr p4] 22)).grown hgrow (by simp; omega) (fun k hk => (zzz HOB k hk).2))
        have HP5 : Hid (∃ j, Ps c w5 j er (pl : Int)) := by
         obtain ⟨j2, hp⟩ := zzz HP4; exact ⟨j2, hp.ap HB5.out HLO.out⟩
        have HZ5 : Hid (RowZ w.heap.size w5 (.slice (some ⟨g, 0, none⟩) (acc.length + 1) cap)) := ⟨ps ++ [p4], by have := zzz HLEN; simp; omega, by have hl := zzz HLEN; rw [List.length_append, List.length_singleton, hl, List.map_append]; exact hown'⟩
        clear hown' hgrow hg HKK HOWN; go_wp2_with fail
        go_roundg k
        case measure => omega
        case rel => exact Or.inr ⟨er, pl, HQQ.out, he, HP5.out, HA5.out, HZ5.out⟩
       | ok t j2 =>
        have HRR := qh hr; rw [hr] at HQ; have hq : zx3 c.l s part k (acc ++ [t]) j2 = r := zzz HQ; have HQQ := qh hq; have HC5 := qh (HPC.out.does wo j6 _ HKW6.out HRR.out.symm (by nofun) HP6.out)
        clear hr hq HQ; go_wp2_with fail; refine cm HC5.out ?_; rintro e w4 ⟨⟨v, rfl, p4, rfl, hn4⟩, hp4, ha4⟩; have HP4 := qh hp4; have HA4 := qh (HA6.out.next ha4); have HK4 := qh (KV.later HK6.out ha4 HLT.out)
        have HN4 := qh (zb7 HK6.out HA6.out.size hn4); have HKW4 := qh (HPC.out.stays _ _ HKW6.out HP6.out.rlt ha4); clear hn4; clear hp4 ha4 HC5 HP6 HA6 HK6; obtain ⟨ps, hown, hk4⟩ := zzz HK4
        have hlen := NAts.length _ _ hk4; have hOB := zxj hown; rw [hlen] at hown; have HOWN := qh hown; have HLEN := qh hlen; have HKK := qh hk4; have hsz := HA4.out.size; have HOB := qh hOB
        clear hown hk4 HK4 hOB hlen
        go_wp2_with (at_builtin; refine wpList_append_lies _ rfl _ _ 36 rfl w.heap.size 22 i0 (.pointer none) 1 8 Tryz.underlying36 hi0 hz0 hz1 hz2 rfl (by decide) _ _ _ rfl (HOWN.out.alloc _) ⟨w4.heap.size, 0, none⟩ 1 1 [nPtr p4] rfl rfl (zq3 w4 p4 _ rfl) (zxy p4) (by decide) (by unfold maxLen; omega) (by omega) (by simp; omega) (w4.heap.size + 1) (by simp) ?_)
        intro g cap w5 hown' hgrow hg _; have HB5 := qh (((Below.refl w.heap.size w4).alloc hsz (.cells #[nPtr p4] 22)).grown hgrow (by simp; omega) (fun k hk => (zzz HOB k hk).2))
        have HA5 := qh ((HA4.out.alloc hsz (.cells #[nPtr p4] 22)).grown hgrow (by simp; omega) (fun k hk => (zzz HOB k hk).2))
        have HK5 : Hid (KV w.heap.size w5 (acc ++ [t]) (.slice (some ⟨g, 0, none⟩) (acc.length + 1) cap)) := zg2 HKK.out (NAts.cons HN4.out NAts.nil) (by rw [List.map_append]; exact hown') (by simp [HLEN.out]) hgrow hg
        have HP5 := qh (HP4.out.ap HB5.out HLO.out); have HKW5 := qh (HPC.out.kept _ _ _ HKW4.out HB5.out HLB.out); clear hown' hgrow hg HKK HOWN; go_wp2_with fail
        go_roundg k
        case measure => omega
        case rel => exact Or.inl ⟨acc ++ [t], j2, HQQ.out, HK5.out, HP5.out, HA5.out, by have hh := zzz HLE8; simp; omega, HKW5.out⟩
  ·
   obtain ⟨zps, hzl, hzr⟩ := hrz; obtain ⟨za, zc, rfl⟩ := zj2 hzr; have HZ := qh hzr; clear hzr; have HC1 := qh (zvy he hps); have HC2 := qh (zx9 c wr j er pl he s hps); have HP1 := qh hps
   have HA1 := qh hap; clear hps hap; subst hq; go_wp2_with fail; refine cm HC1.out ?_; rintro e w2 ⟨rfl, rfl⟩; clear HC1; go_wp2_with fail; refine cm HC2.out ?_; rintro e w3 ⟨rfl, rfl⟩; clear HC2; go_wp2_with fail
   go_ret; exact ⟨⟨_, rfl, zps, hzl, HZ.out⟩, ⟨j, HP1.out⟩, he, HA1.out⟩
theorem zm5 {c : PC} {K : World → Prop} {f : Nat} {caps : Array Value} {part : Nat → PR Tr} {lo : Nat} (hp : PartC c lo K f caps part) (s : ByteArray) (hsn : s ≠ zzx) (n : Nat) (w : World) (i : Nat) (r : PR (List Tr)) (hs : r = zx3 c.l s part n [] i) (ho : r ≠ .out) (hk : K w) (hlo : lo ≤ w.heap.size) (h : Ps c w i 0 (-1)) :
  Calls Tryz.prog 147 #[pPtr c, .string s, .func (.func f) #[] caps] w (zj6 c w (KV w.heap.size) ZL r) := by
 refine cm (rlist_all hp s hsn n w i r hs ho hk hlo h) ?_
 intro e w' hh
 cases r with
 | out => exact trivial
 | ok ts j =>
  obtain ⟨⟨v, rfl, h1, _⟩, h2, h3⟩ := hh; exact ⟨⟨v, rfl, h1⟩, h2, h3⟩
 | bad er pl =>
  obtain ⟨⟨v, rfl, ps, _, h1⟩, h2, he, h3⟩ := hh; obtain ⟨a, k, hv⟩ := zj2 h1; exact ⟨⟨v, rfl, a, _, k, hv⟩, h2, he, h3⟩
end Go.Proofs.YtodmgaikhbmlnaaGreatDoor
