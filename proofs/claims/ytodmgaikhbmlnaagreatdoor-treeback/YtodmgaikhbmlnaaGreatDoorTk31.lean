/-
  How much the writer writes at most.
-/
import Derived.Test.YtodmgaikhbmlnaaGreatDoorTk29
import Derived.Test.YtodmgaikhbmlnaaGreatDoorTk30
set_option maxRecDepth 100000
set_option maxHeartbeats 16000000
namespace Go.Proofs.YtodmgaikhbmlnaaGreatDoor
open Go.RowKit

theorem cost_mk (kd : Int) (tx : ByteArray) (n : Int) (ks : List Tr) : (Tr.mk kd tx n ks).cost = 80 + 3 * tx.size + Tr.costs ks := by rw [Tr.cost]
theorem costs_nil : Tr.costs [] = 0 := by rw [Tr.costs]
theorem costs_cons (t : Tr) (ts : List Tr) : Tr.costs (t :: ts) = t.cost + Tr.costs ts := by rw [Tr.costs]
theorem cost_lo (t : Tr) : 80 ≤ t.cost := by cases t; rw [cost_mk]; omega
theorem costs_app : ∀ (a b : List Tr), Tr.costs (a ++ b) = Tr.costs a + Tr.costs b
  | [], b => by rw [costs_nil]; simp
  | t :: a, b => by rw [List.cons_append, costs_cons, costs_cons, costs_app a b]; omega

/-- What the writer's functions write is no more than the cost. -/
structure WL (F : WF) : Prop where
  v1 : ∀ c t s, c = 0 ∨ c = 2 ∨ c = 6 → Shp NmW c t → t.lt → (F.vl t 1 s).1.length + 4 ≤ s.1.length + t.cost
  vl : ∀ c t l s, c = 0 ∨ c = 2 ∨ c = 6 → Shp NmW c t → t.lt → (F.vl t l s).1.length ≤ s.1.length + t.cost
  st : ∀ t s, Shp NmW 1 t → t.lt → (F.st t s).1.length ≤ s.1.length + t.cost

theorem sum1 (x : ByteArray) : sumT [x] = x.size + 1 := by simp [sumT]
theorem sum2 (x y : ByteArray) : sumT [x, y] = x.size + 1 + (y.size + 1) := by simp [sumT]
theorem sum4 (x y z u : ByteArray) : sumT [x, y, z, u] = x.size + 1 + (y.size + 1) + (z.size + 1) + (u.size + 1) := by simp [sumT]; omega
theorem puts1_len (x : ByteArray) (s : WS) : (putsS [x] s).1.length ≤ s.1.length + (x.size + 1) := by have := putsS_len [x] s; rw [sum1] at this; exact this
theorem puts2_len (x y : ByteArray) (s : WS) : (putsS [x, y] s).1.length ≤ s.1.length + (x.size + 1 + (y.size + 1)) := by have := putsS_len [x, y] s; rw [sum2] at this; exact this
theorem puts4_len (x y z u : ByteArray) (s : WS) : (putsS [x, y, z, u] s).1.length ≤ s.1.length + (x.size + 1 + (y.size + 1) + (z.size + 1) + (u.size + 1)) := by have := putsS_len [x, y, z, u] s; rw [sum4] at this; exact this
theorem closeS_len (x : ByteArray) (s : WS) : (closeS x s).1.length = s.1.length + x.size := by
  unfold closeS
  rw [List.length_append]
  rfl
theorem hd_len (kd : Int) : (hdText kd).size ≤ 6 := by
  unfold hdText
  cases h : hds.find? (fun e => decide (e.2 = kd)) with
  | none => decide
  | some e =>
    have h1 := List.mem_of_find?_eq_some h
    have key : ∀ e ∈ hds, e.1.size ≤ 6 := by decide +kernel
    exact key e h1
theorem sg_facts {kd : Int} {g : Sg} (h : sgK kd = some g) : g.kd = kd ∧ g.tx.size ≤ 9 ∧ g.parts ≤ 2 ∧ 0 ≤ g.parts ∧ 1 ≤ g.str ∧ g.str ≤ 10 := by
  have h1 := List.mem_of_find?_eq_some h
  have h2 : kd = g.kd := by simpa using List.find?_some h
  have key : ∀ e ∈ sgs, e.tx.size ≤ 9 ∧ e.parts ≤ 2 ∧ 0 ≤ e.parts ∧ 1 ≤ e.str ∧ e.str ≤ 10 := by decide +kernel
  exact ⟨h2.symm, key g h1⟩
theorem quote_len (s : ByteArray) : (quoteB s).size ≤ 2 * s.size + 2 := by
  have h : ∀ l : List UInt8, (l.flatMap quoteC).length ≤ 2 * l.length := by
    intro l
    induction l with
    | nil => simp
    | cons c l ih =>
      have hc : (quoteC c).length ≤ 2 := by
        unfold quoteC
        split
        · simp
        · split <;> simp
      simp only [List.flatMap_cons, List.length_append, List.length_cons]
      omega
  have h1 := h s.data.toList
  have h2 : (quoteB s).size = (quoteL s.data.toList).length := rfl
  have h3 : s.data.toList.length = s.size := rfl
  rw [h2]
  unfold quoteL
  simp only [List.length_append, List.length_cons, List.length_nil]
  omega
theorem itoa_len {n : Int} (h0 : 0 ≤ n) (h1 : n ≤ 1000000000) : (itoaB n).size ≤ 10 := by
  have hlen : (Lib.decDigits n.toNat).length ≤ 10 := dec_len 9 n.toNat (by rw [show (10 : Nat) ^ (9 + 1) = 10000000000 from by decide]; omega)
  have hl : (itoaB n).size = (Lib.itoa n).length := rfl
  rw [hl]
  unfold Lib.itoa
  rw [if_neg (by omega)]
  exact hlen
theorem core_sign {F : WF} {kd : Int} {g : Sg} (hg : sgK kd = some g) {tx : ByteArray} {n : Int} {ks : List Tr} {s : WS} : coreW F (.mk kd tx n ks) s = signedW F (.mk kd tx n ks) g s := by
  unfold coreW
  show (match sgK kd with | some g => _ | none => _) = _
  rw [hg]
theorem signed0 {F : WF} {t : Tr} {g : Sg} (hp : g.parts = 0) {s : WS} : signedW F t g s = putsS [g.tx] s := by
  unfold signedW
  rw [if_neg (by omega), if_neg (by omega)]
theorem signed1 {F : WF} {t : Tr} {g : Sg} (hp : g.parts = 1) {s : WS} : signedW F t g s = F.vl (t.kid 0) g.str (putsS [g.tx] s) := by
  unfold signedW
  rw [if_neg (by omega), if_pos hp]
theorem signed2 {F : WF} {t : Tr} {g : Sg} (hp : g.parts = 2) {s : WS} : signedW F t g s = F.vl (t.kid 1) (g.str + 1) (putsS [g.tx] (F.vl (t.kid 0) g.str s)) := by
  unfold signedW
  rw [if_pos hp]
section
variable {F : WF} (hF : WL F)
include hF
theorem commas_rest_len {c : Nat} (hc : c = 0 ∨ c = 2 ∨ c = 6) : ∀ (b : Bool) (ks : List Tr) (s : WS), (∀ t ∈ ks, Shp NmW c t ∧ t.lt) → (commasW F b ks s).1.length ≤ s.1.length + Tr.costs ks
  | _, [], s, _ => by unfold commasW; rw [costs_nil]; exact Nat.le_refl _
  | b, t :: ks, s, h => by
    unfold commasW
    rw [costs_cons]
    have h1 := commas_rest_len hc false ks (F.vl t 1 (if b then s else putsS [tComma] s)) (fun u hu => h u (by simp [hu]))
    have h2 := hF.v1 c t (if b then s else putsS [tComma] s) hc (h t (by simp)).1 (h t (by simp)).2
    have h3 : (if b then s else putsS [tComma] s).1.length ≤ s.1.length + 2 := by
      split
      · omega
      · exact puts1_len tComma s
    omega
theorem sts_len : ∀ (ks : List Tr) (s : WS), (∀ t ∈ ks, Shp NmW 1 t ∧ t.lt) → (stsW F ks s).1.length ≤ s.1.length + Tr.costs ks
  | [], s, _ => by rw [costs_nil]; exact Nat.le_refl _
  | t :: ks, s, h => by
    rw [costs_cons]
    have h1 := sts_len ks (F.st t s) (fun u hu => h u (by simp [hu]))
    have h2 := hF.st t s (h t (by simp)).1 (h t (by simp)).2
    have e : stsW F (t :: ks) s = stsW F ks (F.st t s) := rfl
    rw [e]
    omega
theorem vls_len : ∀ (ks : List Tr) (s : WS), (∀ t ∈ ks, Shp NmW 0 t ∧ t.lt) → (vlsW F ks s).1.length ≤ s.1.length + Tr.costs ks
  | [], s, _ => by rw [costs_nil]; exact Nat.le_refl _
  | t :: ks, s, h => by
    rw [costs_cons]
    have h1 := vls_len ks (F.vl t 1 s) (fun u hu => h u (by simp [hu]))
    have h2 := hF.v1 0 t s (Or.inl rfl) (h t (by simp)).1 (h t (by simp)).2
    have e : vlsW F (t :: ks) s = vlsW F ks (F.vl t 1 s) := rfl
    rw [e]
    omega
theorem block_len (tx : ByteArray) (ks : List Tr) (s : WS) (hk : ∀ t ∈ ks, Shp NmW 1 t ∧ t.lt) : (blockW F (.mk 6 tx 0 ks) s).1.length + 70 ≤ s.1.length + (Tr.mk 6 tx 0 ks).cost := by
  have h1 := puts1_len tLBrace s
  have h2 := sts_len hF ks (putsS [tLBrace] s) hk
  have h3 := puts1_len tRBrace (stsW F ks (putsS [tLBrace] s))
  have e : blockW F (.mk 6 tx 0 ks) s = putsS [tRBrace] (stsW F ks (putsS [tLBrace] s)) := rfl
  have e1 : tLBrace.size = 1 := rfl
  have e2 : tRBrace.size = 1 := rfl
  rw [e, cost_mk]
  omega
theorem blk_len {c : Nat} (t : Tr) (s : WS) (hc : c = 3 ∨ c = 4) (h : Shp NmW c t) (hl : t.lt) : (blockW F t s).1.length + 70 ≤ s.1.length + t.cost := by
  rcases hc with rfl | rfl
  · cases h with
    | blk hs => exact block_len hF _ _ s fun u hu => ⟨hs u hu, lt_kids hl u hu⟩
  · cases h with
    | body _ hs => exact block_len hF _ _ s fun u hu => ⟨hs u hu, lt_kids hl u hu⟩
theorem list_len {c : Nat} (hc : c = 0 ∨ c = 2 ∨ c = 6) (ks : List Tr) (s : WS) (hk : ∀ t ∈ ks, Shp NmW c t ∧ t.lt) : (listW F tOpen tShut ks s).1.length ≤ s.1.length + 3 + Tr.costs ks := by
  have h1 := closeS_len tOpen s
  have h2 := commas_rest_len hF hc true ks (closeS tOpen s) hk
  have h3 := puts1_len tShut (commasW F true ks (closeS tOpen s))
  have e1 : tOpen.size = 1 := rfl
  have e2 : tShut.size = 1 := rfl
  unfold listW
  omega
theorem pars_len (p : Tr) (s : WS) (h : Shp NmW 5 p) (hl : p.lt) : (listW F tOpen tShut p.kids s).1.length + 70 ≤ s.1.length + p.cost := by
  cases h with
  | @pars ps hs hl8 =>
    have h1 := list_len hF (c := 6) (Or.inr (Or.inr rfl)) ps s fun u hu => ⟨hs u hu, lt_kids hl u hu⟩
    rw [cost_mk]
    have e : (Tr.mk 40 noText 0 ps).kids = ps := rfl
    rw [e]
    omega
theorem fun_len (kd : Int) (tx : ByteArray) (p b : Tr) (s : WS) (hp : Shp NmW 5 p) (hb : Shp NmW 4 b) (hlp : p.lt) (hlb : b.lt) : (functionW F (.mk kd tx 0 [p, b]) s).1.length + 4 ≤ s.1.length + (Tr.mk kd tx 0 [p, b]).cost := by
  have e : functionW F (.mk kd tx 0 [p, b]) s = blockW F b (listW F tOpen tShut p.kids (if tx = noText then putsS [tFunction] s else putsS [tx] (putsS [tFunction] s))) := rfl
  have h0 : (if tx = noText then putsS [tFunction] s else putsS [tx] (putsS [tFunction] s)).1.length ≤ s.1.length + 9 + (tx.size + 1) := by
    have h1 := puts1_len tFunction s
    have h2 := puts1_len tx (putsS [tFunction] s)
    have e1 : tFunction.size = 8 := rfl
    split <;> omega
  have h1 := pars_len hF p (if tx = noText then putsS [tFunction] s else putsS [tx] (putsS [tFunction] s)) hp hlp
  have h2 := blk_len hF b (listW F tOpen tShut p.kids (if tx = noText then putsS [tFunction] s else putsS [tx] (putsS [tFunction] s))) (Or.inr rfl) hb hlb
  rw [e, cost_mk, costs_cons, costs_cons, costs_nil]
  omega
theorem core_len (c : Nat) (t : Tr) (s : WS) (hc : c = 0 ∨ c = 2 ∨ c = 6) (h : Shp NmW c t) (hl : t.lt) : (coreW F t s).1.length + 4 ≤ s.1.length + t.cost := by
  have eT : tShut.size = 1 := rfl
  have eD : tDot.size = 1 := rfl
  have eQ : tEq.size = 1 := rfl
  have eC : tColon.size = 1 := rfl
  have eL : tLBrace.size = 1 := rfl
  have eR : tRBrace.size = 1 := rfl
  have eN : noText.size = 0 := rfl
  cases h with
  | @name tx hn =>
    have h1 := puts1_len tx s
    have e : coreW F (.mk 23 tx 0 []) s = putsS [tx] s := rfl
    rw [e, cost_mk]; omega
  | str tx =>
    have h1 := puts1_len (quoteB tx) s
    have h2 := quote_len tx
    have e : coreW F (.mk 18 tx 0 []) s = putsS [quoteB tx] s := rfl
    rw [e, cost_mk]; omega
  | num n =>
    have h0 : 0 ≤ n ∧ n ≤ 1000000000 := by
      rw [lt_mk] at hl
      exact hl.1.2 rfl
    have h1 := puts1_len (itoaB n) s
    have h2 := itoa_len h0.1 h0.2
    have e : coreW F (.mk 17 noText n []) s = putsS [itoaB n] s := rfl
    rw [e, cost_mk]; omega
  | @lit kd hk =>
    obtain ⟨g, hg, _, hp, _⟩ := sg_lit hk
    have h1 := puts1_len g.tx s
    have h2 := (sg_facts hg).2.1
    rw [core_sign hg, signed0 hp, cost_mk]; omega
  | @memb tx u _ hu =>
    have h1 := hF.vl 0 u 9 s (Or.inl rfl) hu (lt_kids hl u (by simp))
    have h2 := puts2_len tDot tx (F.vl u 9 s)
    have e : coreW F (.mk 36 tx 0 [u]) s = putsS [tDot, tx] (F.vl u 9 s) := rfl
    rw [e, cost_mk, costs_cons, costs_nil]; omega
  | @call u us hu hs hl8 =>
    have h1 := hF.vl 0 u 9 s (Or.inl rfl) hu (lt_kids hl u (by simp))
    have h2 := list_len hF (c := 0) (Or.inl rfl) us (F.vl u 9 s) fun v hv => ⟨hs v hv, lt_kids hl v (by simp [hv])⟩
    have e : coreW F (.mk 35 noText 0 (u :: us)) s = listW F tOpen tShut us (F.vl u 9 s) := rfl
    rw [e, cost_mk, costs_cons]; omega
  | @one kd u hk hu =>
    obtain ⟨g, hg, _, hp, _⟩ := sg_one hk
    have h1 := puts1_len g.tx s
    have h2 := (sg_facts hg).2.1
    have h3 := hF.vl 0 u g.str (putsS [g.tx] s) (Or.inl rfl) hu (lt_kids hl u (by simp))
    have e : (Tr.mk kd noText 0 [u]).kid 0 = u := rfl
    rw [core_sign hg, signed1 hp, cost_mk, costs_cons, costs_nil, e]; omega
  | @two kd a b hk ha hb =>
    obtain ⟨g, hg, _, hp, _⟩ := sg_two hk
    have h0 := hF.vl 0 a g.str s (Or.inl rfl) ha (lt_kids hl a (by simp))
    have h1 := puts1_len g.tx (F.vl a g.str s)
    have h2 := (sg_facts hg).2.1
    have h3 := hF.vl 0 b (g.str + 1) (putsS [g.tx] (F.vl a g.str s)) (Or.inl rfl) hb (lt_kids hl b (by simp))
    have e0 : (Tr.mk kd noText 0 [a, b]).kid 0 = a := rfl
    have e1 : (Tr.mk kd noText 0 [a, b]).kid 1 = b := rfl
    rw [core_sign hg, signed2 hp, cost_mk, costs_cons, costs_cons, costs_nil, e0, e1]; omega
  | @asg a b hk ha hb =>
    have h0 := hF.vl 0 a 9 s (Or.inl rfl) ha (lt_kids hl a (by simp))
    have h1 := puts1_len tEq (F.vl a 9 s)
    have h3 := hF.v1 0 b (putsS [tEq] (F.vl a 9 s)) (Or.inl rfl) hb (lt_kids hl b (by simp))
    have e : coreW F (.mk 24 noText 0 [a, b]) s = F.vl b 1 (putsS [tEq] (F.vl a 9 s)) := rfl
    rw [e, cost_mk, costs_cons, costs_cons, costs_nil]; omega
  | @obj ps hs hl8 =>
    have h0 := puts1_len tLBrace s
    have h1 := commas_rest_len hF (c := 2) (Or.inr (Or.inl rfl)) true ps (putsS [tLBrace] s) fun v hv => ⟨hs v hv, lt_kids hl v hv⟩
    have h2 := puts1_len tRBrace (commasW F true ps (putsS [tLBrace] s))
    have e : coreW F (.mk 38 noText 0 ps) s = putsS [tRBrace] (commasW F true ps (putsS [tLBrace] s)) := rfl
    rw [e, cost_mk]; omega
  | @lam tx p b hn hp hb =>
    have e : coreW F (.mk 37 tx 0 [p, b]) s = functionW F (.mk 37 tx 0 [p, b]) s := rfl
    rw [e]
    exact fun_len hF 37 tx p b s hp hb (lt_kids hl p (by simp)) (lt_kids hl b (by simp))
  | @prop tx v _ hv =>
    have h0 := puts2_len tx tColon s
    have h1 := hF.v1 0 v (putsS [tx, tColon] s) (Or.inl rfl) hv (lt_kids hl v (by simp))
    have e : coreW F (.mk 39 tx 0 [v]) s = F.vl v 1 (putsS [tx, tColon] s) := rfl
    rw [e, cost_mk, costs_cons, costs_nil]; omega
  | @par tx hn =>
    have h1 := puts1_len tx s
    have e : coreW F (.mk 23 tx 0 []) s = putsS [tx] s := rfl
    rw [e, cost_mk]; omega
  | _ => exfalso; omega
theorem value_len (c : Nat) (t : Tr) (l : Int) (s : WS) (hc : c = 0 ∨ c = 2 ∨ c = 6) (h : Shp NmW c t) (hl : t.lt) : (valueW F t l s).1.length ≤ s.1.length + t.cost ∧ (l = 1 → (valueW F t l s).1.length + 4 ≤ s.1.length + t.cost) := by
  unfold valueW
  split
  · rename_i hst
    refine ⟨?_, fun h1 => absurd hst (by have := (strK_bounds t.kd).1; omega)⟩
    have h1 := puts1_len tOpen s
    have h2 := hF.v1 c t (putsS [tOpen] s) hc h hl
    have h3 := puts1_len tShut (F.vl t 1 (putsS [tOpen] s))
    have e1 : tOpen.size = 1 := rfl
    have e2 : tShut.size = 1 := rfl
    unfold parW
    omega
  · have h1 := core_len hF c t s hc h hl
    exact ⟨by omega, fun _ => h1⟩
theorem last_len (t : Tr) (s : WS) (hk : ∀ u ∈ t.kids, Shp NmW 0 u ∧ u.lt) : (lastW F t s).1.length ≤ s.1.length + Tr.costs t.kids + 2 := by
  have h1 := vls_len hF t.kids s hk
  have h2 := puts1_len tSemi (vlsW F t.kids s)
  have e2 : tSemi.size = 1 := rfl
  unfold lastW
  omega
theorem try_len (k : Tr) (s : WS) (h : Shp NmW 3 k ∨ Shp NmW 7 k ∨ Shp NmW 8 k) (hl : k.lt) : (tryW F k s).1.length ≤ s.1.length + k.cost := by
  have e1 : tCatch.size = 5 := rfl
  have e2 : tOpen.size = 1 := rfl
  have e3 : tShut.size = 1 := rfl
  have e4 : tFinally.size = 7 := rfl
  rcases h with h | h | h
  · cases h with
    | @blk ts hs =>
      have h1 := block_len hF noText ts s fun u hu => ⟨hs u hu, lt_kids hl u hu⟩
      have e : tryW F (.mk 6 noText 0 ts) s = blockW F (.mk 6 noText 0 ts) s := rfl
      rw [e]; omega
  · cases h with
    | @cat tx b _ hb =>
      have h0 := puts4_len tCatch tOpen tx tShut s
      have h1 := blk_len hF b (putsS [tCatch, tOpen, tx, tShut] s) (Or.inl rfl) hb (lt_kids hl b (by simp))
      have e : tryW F (.mk 13 tx 0 [b]) s = blockW F b (putsS [tCatch, tOpen, tx, tShut] s) := rfl
      rw [e, cost_mk, costs_cons, costs_nil]; omega
  · cases h with
    | @fin b hb =>
      have h0 := puts1_len tFinally s
      have h1 := blk_len hF b (putsS [tFinally] s) (Or.inl rfl) hb (lt_kids hl b (by simp))
      have e : tryW F (.mk 14 noText 0 [b]) s = blockW F b (putsS [tFinally] s) := rfl
      rw [e, cost_mk, costs_cons, costs_nil]; omega
theorem tries_len : ∀ (ks : List Tr) (s : WS), (∀ k ∈ ks, (Shp NmW 3 k ∨ Shp NmW 7 k ∨ Shp NmW 8 k) ∧ k.lt) → (ks.foldl (fun s k => tryW F k s) s).1.length ≤ s.1.length + Tr.costs ks
  | [], s, _ => by rw [costs_nil]; exact Nat.le_refl _
  | t :: ks, s, h => by
    rw [costs_cons, List.foldl_cons]
    have h1 := tries_len ks (tryW F t s) (fun u hu => h u (by simp [hu]))
    have h2 := try_len hF t s (h t (by simp)).1 (h t (by simp)).2
    omega
theorem statement_len (t : Tr) (s : WS) (h : Shp NmW 1 t) (hl : t.lt) : (statementW F t s).1.length ≤ s.1.length + t.cost := by
  have eE : tEq.size = 1 := rfl
  have eO : tOpen.size = 1 := rfl
  have eT : tShut.size = 1 := rfl
  have eL : tElse.size = 4 := rfl
  have eS : tSemi.size = 1 := rfl
  have eY : tTry.size = 3 := rfl
  cases h with
  | @decl kd tx v hk hn hv hl1 hc =>
    have h0 := puts2_len (hdText kd) tx s
    have h1 := hd_len kd
    have h2 := puts1_len tEq (putsS [hdText kd, tx] s)
    have h3 := last_len hF (.mk kd tx 0 v) (if 0 < v.length then putsS [tEq] (putsS [hdText kd, tx] s) else putsS [hdText kd, tx] s) fun u hu => ⟨hv u hu, lt_kids hl u hu⟩
    have h4 : (if 0 < v.length then putsS [tEq] (putsS [hdText kd, tx] s) else putsS [hdText kd, tx] s).1.length ≤ (putsS [hdText kd, tx] s).1.length + 2 := by split <;> omega
    have e : statementW F (.mk kd tx 0 v) s = lastW F (.mk kd tx 0 v) (if 0 < v.length then putsS [tEq] (putsS [hdText kd, tx] s) else putsS [hdText kd, tx] s) := by
      rcases hk with rfl | rfl | rfl <;> rfl
    have e2 : (Tr.mk kd tx 0 v).kids = v := rfl
    rw [e2] at h3
    rw [e, cost_mk]; omega
  | @func tx p b hn hp hb =>
    have h1 := fun_len hF 5 tx p b s hp hb (lt_kids hl p (by simp)) (lt_kids hl b (by simp))
    have e : statementW F (.mk 5 tx 0 [p, b]) s = functionW F (.mk 5 tx 0 [p, b]) s := rfl
    rw [e]; omega
  | sblk h =>
    cases h with
    | @blk ts hs =>
      have h1 := block_len hF noText ts s fun u hu => ⟨hs u hu, lt_kids hl u hu⟩
      have e : statementW F (.mk 6 noText 0 ts) s = blockW F (.mk 6 noText 0 ts) s := rfl
      rw [e]; omega
  | @sif v t hv hs =>
    have h0 := puts2_len (hdText 7) tOpen s
    have hh := hd_len 7
    have h1 := hF.v1 0 v (putsS [hdText 7, tOpen] s) (Or.inl rfl) hv (lt_kids hl v (by simp))
    have h2 := puts1_len tShut (F.vl v 1 (putsS [hdText 7, tOpen] s))
    have h3 := hF.st t (putsS [tShut] (F.vl v 1 (putsS [hdText 7, tOpen] s))) hs (lt_kids hl t (by simp))
    have e : statementW F (.mk 7 noText 0 [v, t]) s = F.st t (putsS [tShut] (F.vl v 1 (putsS [hdText 7, tOpen] s))) := rfl
    rw [e, cost_mk, costs_cons, costs_cons, costs_nil]; omega
  | @sife v t u hv hs he =>
    have h0 := puts2_len (hdText 7) tOpen s
    have hh := hd_len 7
    have h1 := hF.v1 0 v (putsS [hdText 7, tOpen] s) (Or.inl rfl) hv (lt_kids hl v (by simp))
    have h2 := puts1_len tShut (F.vl v 1 (putsS [hdText 7, tOpen] s))
    have h3 := hF.st t (putsS [tShut] (F.vl v 1 (putsS [hdText 7, tOpen] s))) hs (lt_kids hl t (by simp))
    have h4 := puts1_len tElse (F.st t (putsS [tShut] (F.vl v 1 (putsS [hdText 7, tOpen] s))))
    have h5 := hF.st u (putsS [tElse] (F.st t (putsS [tShut] (F.vl v 1 (putsS [hdText 7, tOpen] s))))) he (lt_kids hl u (by simp))
    have e : statementW F (.mk 7 noText 0 [v, t, u]) s = F.st u (putsS [tElse] (F.st t (putsS [tShut] (F.vl v 1 (putsS [hdText 7, tOpen] s))))) := rfl
    rw [e, cost_mk, costs_cons, costs_cons, costs_cons, costs_nil]; omega
  | @loop kd v t hk hv hs =>
    have h0 := puts2_len (hdText kd) tOpen s
    have hh := hd_len kd
    have h1 := hF.v1 0 v (putsS [hdText kd, tOpen] s) (Or.inl rfl) hv (lt_kids hl v (by simp))
    have h2 := puts1_len tShut (F.vl v 1 (putsS [hdText kd, tOpen] s))
    have h3 := hF.st t (putsS [tShut] (F.vl v 1 (putsS [hdText kd, tOpen] s))) hs (lt_kids hl t (by simp))
    have e : statementW F (.mk kd noText 0 [v, t]) s = F.st t (putsS [tShut] (F.vl v 1 (putsS [hdText kd, tOpen] s))) := by rcases hk with rfl | rfl <;> rfl
    rw [e, cost_mk, costs_cons, costs_cons, costs_nil]; omega
  | @give kd v hk hv hl1 hc =>
    have h0 := puts1_len (hdText kd) s
    have h1 := hd_len kd
    have h3 := last_len hF (.mk kd noText 0 v) (putsS [hdText kd] s) fun u hu => ⟨hv u hu, lt_kids hl u hu⟩
    have e : statementW F (.mk kd noText 0 v) s = lastW F (.mk kd noText 0 v) (putsS [hdText kd] s) := by rcases hk with rfl | rfl <;> rfl
    have e2 : (Tr.mk kd noText 0 v).kids = v := rfl
    rw [e2] at h3
    rw [e, cost_mk]; omega
  | @atm b c f hb hc hf hl1 =>
    have h0 := puts1_len tTry s
    have h1 := tries_len hF (b :: (c ++ f)) (putsS [tTry] s) fun u hu => ⟨by
      simp only [List.mem_cons, List.mem_append] at hu
      rcases hu with rfl | hu | hu
      · exact Or.inl hb
      · exact Or.inr (Or.inl (hc u hu))
      · exact Or.inr (Or.inr (hf u hu)), lt_kids hl u hu⟩
    have e : statementW F (.mk 12 noText 0 (b :: (c ++ f))) s = (b :: (c ++ f)).foldl (fun s k => tryW F k s) (putsS [tTry] s) := rfl
    rw [e, cost_mk]; omega
  | empty =>
    have e : statementW F (.mk 16 noText 0 []) s = emptyW s := rfl
    have h1 : (emptyW s).1.length ≤ s.1.length + 2 := by
      unfold emptyW
      rw [closeS_len]
      unfold blankS
      split
      · omega
      · simp; omega
    rw [e, cost_mk]; omega
  | @expr v hv =>
    have h0 := hF.v1 0 v s (Or.inl rfl) hv (lt_kids hl v (by simp))
    have h1 := puts1_len tOpen s
    have h2 := hF.v1 0 v (putsS [tOpen] s) (Or.inl rfl) hv (lt_kids hl v (by simp))
    have h3 := puts1_len tShut (F.vl v 1 (putsS [tOpen] s))
    have e : statementW F (.mk 15 noText 0 [v]) s = putsS [tSemi] (if opensW v.count v then putsS [tShut] (F.vl v 1 (putsS [tOpen] s)) else F.vl v 1 s) := rfl
    have h4 := puts1_len tSemi (if opensW v.count v then putsS [tShut] (F.vl v 1 (putsS [tOpen] s)) else F.vl v 1 s)
    have h5 : (if opensW v.count v then putsS [tShut] (F.vl v 1 (putsS [tOpen] s)) else F.vl v 1 s).1.length ≤ s.1.length + v.cost + 4 := by split <;> omega
    rw [e, cost_mk, costs_cons, costs_nil]; omega
end
theorem wf_len : ∀ k, WL (wf k)
  | 0 => ⟨fun _ t s _ _ _ => by have := cost_lo t; show s.1.length + 4 ≤ _; omega, fun _ t _ s _ _ _ => by have := cost_lo t; show s.1.length ≤ _; omega, fun t s _ _ => by have := cost_lo t; show s.1.length ≤ _; omega⟩
  | k + 1 => ⟨fun c t s hc h hl => (value_len (wf_len k) c t 1 s hc h hl).2 rfl, fun c t l s hc h hl => (value_len (wf_len k) c t l s hc h hl).1, fun t s h hl => statement_len (wf_len k) t s h hl⟩

/-- A slice of parts, in blocks that were there ahead of the writer's. -/
def RB (B : Nat) (w : World) (ts : List Tr) (v : Value) : Prop :=
  ∃ a c, v = .slice a ts.length c ∧ ∀ j (hj : j < ts.length), ∃ g o q, a = some ⟨g, o, none⟩ ∧ g < B ∧ w.cell? ⟨g, o + j, none⟩ = some (nPtr q) ∧ NB B w ts[j] q
theorem RB.later {B : Nat} {w w' : World} {ts : List Tr} {v : Value} (h : RB B w ts v) (hb : Below B w w') : RB B w' ts v := by
  obtain ⟨a, c, hv, hr⟩ := h
  refine ⟨a, c, hv, fun j hj => ?_⟩
  obtain ⟨g, o, q, h1, h2, h3, h4⟩ := hr j hj
  exact ⟨g, o, q, h1, h2, by rw [hb.cell (p := ⟨g, o + j, none⟩) h2]; exact h3, h4.later hb⟩
theorem NB.rowV {B : Nat} {w : World} {t : Tr} {p : Nat} (h : NB B w t p) : ∃ v, w.cell? ⟨p, 3, none⟩ = some v ∧ RB B w t.kids v := by
  by_cases h0 : 0 < t.kids.length
  · obtain ⟨g, c, ps, h3, hg, hl, hr⟩ := h.row h0
    exact ⟨_, h3, _, _, rfl, fun j hj => ⟨g, 0, ps[j], rfl, hg, by rw [Nat.zero_add]; exact (hr j hj (by omega)).1, (hr j hj (by omega)).2⟩⟩
  · obtain ⟨a, c, h3⟩ := h.rowLen
    exact ⟨_, h3, _, _, rfl, fun j hj => absurd hj (by omega)⟩

theorem wrBlock {B b m : Nat} (t : Tr) (s0 : WS) (f : Nat → WS) (hkl : t.kids.length ≤ 100000) (h0 : f 0 = putsS [tLBrace] s0) (hst : ∀ j (hj : j < t.kids.length), SC B b m t.kids[j] (f j) (f (j + 1))) (hl0 : s0.1.length + sumT [tLBrace] ≤ 100000000) (hl : (f t.kids.length).1.length + sumT [tRBrace] ≤ 100000000) :
    ∀ w p, Wt B b m s0 w → NB B w t p → Calls Tryz.prog 119 #[wPtr b, nPtr p] w (WPost B b m (putsS [tRBrace] (f t.kids.length)) w) := by
  have HST := hide hst
  have H0 := hide h0
  have HL := hide hl
  clear hst h0 hl
  intro w p hW hN
  have HW0 := hide hW
  have HN := hide hN
  have HK0 := hide (Kp.refl B b w)
  clear hW hN
  go_enter Tryz.func119, Tryz.ntmps119
  go_wp2_with fail
  refine Calls.mono (put_at (s := s0) (w := w) [tLBrace] _ 1 rfl #[.string tLBrace] rfl (by exact new_at (by simp)) (by exact (unhide HW0).alloc _) (by exact (unhide HK0).alloc (unhide HW0).size _) hl0) ?_
  intro e w1 hp
  obtain ⟨rfl, g1, g2⟩ := hp
  have HW1 : Hid (Wt B b m (f 0) w1) := by rw [unhide H0]; exact g1
  have HK1 := hide g2
  clear g1 g2 HW0 HK0
  obtain ⟨v, c3, hrb⟩ := ((unhide HN).later (unhide HK1).below).rowV
  obtain ⟨a, c, rfl, hrow⟩ := hrb
  have hpl : p < w1.heap.size := by have h1 := (unhide HN).lt; have h2 := (unhide HW1).size; omega
  have HROW := hide hrow
  clear hrow
  go_wp2_with fail
  clear c3
  go_loopw [14] (fun i wr => ∃ k : Nat, k ≤ t.kids.length ∧ i = .int .i64 k ∧ Wt B b m (f k) wr ∧ Kp B b w wr ∧ Below B w1 wr) (fun i _ => t.kids.length - (intOf i).toNat)
  case atStart => exact ⟨0, Nat.zero_le _, rfl, unhide HW1, unhide HK1, Below.refl _ _⟩
  case round =>
    obtain ⟨k, hk, rfl, hw, hkp, hbw⟩ := hrel
    have HW := hide hw
    have HK := hide hkp
    have HBW := hide hbw
    clear hw hkp hbw
    by_cases hlt : k < t.kids.length
    · obtain ⟨g, o, q, rfl, hgB, rk, hnk⟩ := (unhide HROW) k hlt
      have rk2 : wr.cell? ⟨g, o + k, none⟩ = some (nPtr q) := by rw [(unhide HBW).cell (p := ⟨g, o + k, none⟩) hgB]; exact rk
      have HC := hide ((unhide HST) k hlt wr q (unhide HW) (hnk.later (unhide HBW)))
      have hgl : g < wr.heap.size := by have h2 := (unhide HW).size; omega
      clear rk hnk
      go_wp2_with fail
      refine Calls.mono HC.out ?_
      intro e w2 hp
      obtain ⟨rfl, g1, g2⟩ := hp
      have HW2 := hide g1
      have HK2 := hide ((unhide HK).trans g2)
      have HB2 := hide ((unhide HBW).trans g2.below)
      clear g1 g2 HC rk2
      go_wp2_with fail
      go_roundw
      case rel => exact ⟨k + 1, by omega, by go_num, unhide HW2, unhide HK2, unhide HB2⟩
      case measure => simp [intOf]; omega
    · have hk2 : k = t.kids.length := by omega
      subst hk2
      go_wp2_with fail
      refine Calls.mono (put_at (s := f t.kids.length) (w := w) [tRBrace] _ 1 rfl #[.string tRBrace] rfl (by exact new_at (by simp)) (by exact (unhide HW).alloc _) (by exact (unhide HK).alloc (unhide HW).size _) (unhide HL)) ?_
      intro e w3 hp
      obtain ⟨rfl, g1, g2⟩ := hp
      have HW3 := hide g1
      have HK3 := hide g2
      clear g1 g2 HW HK
      go_wp2_with fail
      go_end0
      exact ⟨rfl, unhide HW3, unhide HK3⟩

theorem wrLast {B b m : Nat} (t : Tr) (f : Nat → WS) (hkl : t.kids.length ≤ 100000) (hst : ∀ j (hj : j < t.kids.length), VC B b m t.kids[j] 1 (f j) (f (j + 1))) (hl : (f t.kids.length).1.length + sumT [tSemi] ≤ 100000000) :
    ∀ w p, Wt B b m (f 0) w → NB B w t p → Calls Tryz.prog 117 #[wPtr b, nPtr p] w (WPost B b m (putsS [tSemi] (f t.kids.length)) w) := by
  have HST := hide hst
  have HL := hide hl
  clear hst hl
  intro w p hW hN
  have HW0 := hide hW
  have HN := hide hN
  have HK0 := hide (Kp.refl B b w)
  clear hW hN
  obtain ⟨v, c3, hrb⟩ := (unhide HN).rowV
  obtain ⟨a, c, rfl, hrow⟩ := hrb
  have hpl : p < w.heap.size := by have h1 := (unhide HN).lt; have h2 := (unhide HW0).size; omega
  have HROW := hide hrow
  clear hrow
  go_enter Tryz.func117, Tryz.ntmps117
  go_wp2_with fail
  clear c3
  go_loopw [11] (fun i wr => ∃ k : Nat, k ≤ t.kids.length ∧ i = .int .i64 k ∧ Wt B b m (f k) wr ∧ Kp B b w wr) (fun i _ => t.kids.length - (intOf i).toNat)
  case atStart => exact ⟨0, Nat.zero_le _, rfl, unhide HW0, unhide HK0⟩
  case round =>
    obtain ⟨k, hk, rfl, hw, hkp⟩ := hrel
    have HW := hide hw
    have HK := hide hkp
    clear hw hkp
    by_cases hlt : k < t.kids.length
    · obtain ⟨g, o, q, rfl, hgB, rk, hnk⟩ := (unhide HROW) k hlt
      have rk2 : wr.cell? ⟨g, o + k, none⟩ = some (nPtr q) := by rw [(unhide HK).below.cell (p := ⟨g, o + k, none⟩) hgB]; exact rk
      have HC := hide ((unhide HST) k hlt wr q (unhide HW) (hnk.later (unhide HK).below))
      have hgl : g < wr.heap.size := by have h2 := (unhide HW).size; omega
      clear rk hnk
      go_wp2_with fail
      refine Calls.mono HC.out ?_
      intro e w2 hp
      obtain ⟨rfl, g1, g2⟩ := hp
      have HW2 := hide g1
      have HK2 := hide ((unhide HK).trans g2)
      clear g1 g2 HC rk2
      go_wp2_with fail
      go_roundw
      case rel => exact ⟨k + 1, by omega, by go_num, unhide HW2, unhide HK2⟩
      case measure => simp [intOf]; omega
    · have hk2 : k = t.kids.length := by omega
      subst hk2
      go_wp2_with fail
      refine Calls.mono (put_at (s := f t.kids.length) (w := w) [tSemi] _ 1 rfl #[.string tSemi] rfl (by exact new_at (by simp)) (by exact (unhide HW).alloc _) (by exact (unhide HK).alloc (unhide HW).size _) (unhide HL)) ?_
      intro e w3 hp
      obtain ⟨rfl, g1, g2⟩ := hp
      have HW3 := hide g1
      have HK3 := hide g2
      clear g1 g2 HW HK
      go_wp2_with fail
      go_end0
      exact ⟨rfl, unhide HW3, unhide HK3⟩

theorem wrCommas {B b m : Nat} (ts : List Tr) (f : Nat → WS) (hkl : ts.length ≤ 100000) (h0 : ∀ h : 0 < ts.length, VC B b m ts[0] 1 (f 0) (f 1)) (hst : ∀ j (hj : j < ts.length), 0 < j → VC B b m ts[j] 1 (putsS [tComma] (f j)) (f (j + 1)) ∧ (f j).1.length + sumT [tComma] ≤ 100000000) :
    ∀ w v, Wt B b m (f 0) w → RB B w ts v → Calls Tryz.prog 232 #[wPtr b, v] w (WPost B b m (f ts.length) w) := by
  have HST := hide hst
  have H0 := hide h0
  clear hst h0
  intro w v hW hrb
  have HW0 := hide hW
  have HK0 := hide (Kp.refl B b w)
  clear hW
  obtain ⟨a, c, rfl, hrow⟩ := hrb
  have HROW := hide hrow
  clear hrow
  go_enter Tryz.func232, Tryz.ntmps232
  go_wp2_with fail
  go_loopw [8] (fun i wr => ∃ k : Nat, k ≤ ts.length ∧ i = .int .i64 k ∧ Wt B b m (f k) wr ∧ Kp B b w wr) (fun i _ => ts.length - (intOf i).toNat)
  case atStart => exact ⟨0, Nat.zero_le _, rfl, unhide HW0, unhide HK0⟩
  case round =>
    obtain ⟨k, hk, rfl, hw, hkp⟩ := hrel
    have HW := hide hw
    have HK := hide hkp
    clear hw hkp
    by_cases hlt : k < ts.length
    · obtain ⟨g, o, q, rfl, hgB, rk, hnk⟩ := (unhide HROW) k hlt
      have rk2 : wr.cell? ⟨g, o + k, none⟩ = some (nPtr q) := by rw [(unhide HK).below.cell (p := ⟨g, o + k, none⟩) hgB]; exact rk
      have HQ := hide hnk
      have hgl : g < wr.heap.size := by have h2 := (unhide HW).size; omega
      clear rk hnk
      by_cases hk0 : k = 0
      · subst hk0
        simp only [Nat.add_zero] at rk2
        have HC := hide ((unhide H0) hlt wr q (unhide HW) ((unhide HQ).later (unhide HK).below))
        go_wp2_with fail
        refine Calls.mono HC.out ?_
        intro e w2 hp
        obtain ⟨rfl, g1, g2⟩ := hp
        have HW2 := hide g1
        have HK2 := hide ((unhide HK).trans g2)
        clear g1 g2 HC rk2
        go_wp2_with fail
        go_roundw
        case rel => exact ⟨0 + 1, by omega, by go_num, unhide HW2, unhide HK2⟩
        case measure => simp [intOf]; omega
      · obtain ⟨hvc, hcl⟩ := (unhide HST) k hlt (by omega)
        have HVC := hide hvc
        have hkp : (0 : Int) < (k : Int) := by omega
        clear hvc
        go_wp2_with fail
        refine Calls.mono (put_at (s := f k) (w := w) [tComma] _ 1 rfl #[.string tComma] rfl (by exact new_at (by simp)) (by exact (unhide HW).alloc _) (by exact (unhide HK).alloc (unhide HW).size _) hcl) ?_
        intro e w3 hp
        obtain ⟨rfl, g1, g2⟩ := hp
        have HW3 := hide g1
        have HK3 := hide g2
        clear g1 g2 HW HK
        have HQ3 := hide ((unhide HQ).later (unhide HK3).below)
        have HC := hide ((unhide HVC) w3 q (unhide HW3) (unhide HQ3))
        clear rk2
        go_wp2_with fail
        refine Calls.mono HC.out ?_
        intro e w2 hp
        obtain ⟨rfl, g1, g2⟩ := hp
        have HW2 := hide g1
        have HK2 := hide ((unhide HK3).trans g2)
        clear g1 g2 HC
        go_wp2_with fail
        go_roundw
        case rel => exact ⟨k + 1, by omega, by go_num, unhide HW2, unhide HK2⟩
        case measure => simp [intOf]; omega
    · have hk2 : k = ts.length := by omega
      subst hk2
      go_wp2_with fail
      go_end0
      exact ⟨rfl, unhide HW, unhide HK⟩

theorem wrList {B b m : Nat} (opn shut : ByteArray) (ts : List Tr) (s s' : WS) (h : ∀ w v, Wt B b m (closeS opn s) w → RB B w ts v → Calls Tryz.prog 232 #[wPtr b, v] w (WPost B b m s' w)) (hl0 : s.1.length + opn.size ≤ 100000000) (hl : s'.1.length + sumT [shut] ≤ 100000000) :
    ∀ w v, Wt B b m s w → RB B w ts v → Calls Tryz.prog 177 #[wPtr b, .string opn, .string shut, v] w (WPost B b m (putsS [shut] s') w) := by
  have HH := hide h
  clear h
  intro w v hW hrb
  have HW0 := hide hW
  have HK0 := hide (Kp.refl B b w)
  have HRB := hide hrb
  obtain ⟨a, c, rfl, hrow⟩ := hrb
  clear hW hrow
  have HC := hide (close_any opn (unhide HW0).wr hl0)
  go_enter Tryz.func177, Tryz.ntmps177
  go_wp2_with fail
  refine Calls.mono HC.out ?_
  rintro e w1 ⟨rfl, h1, hk1⟩
  have HW1 : Hid (Wt B b m (closeS opn s) w1) := (unhide HW0).later h1 hk1
  have HK1 := hide hk1
  clear h1 hk1 HC
  have HC := hide ((unhide HH) w1 _ (unhide HW1) ((unhide HRB).later (unhide HK1).below))
  go_wp2_with fail
  refine Calls.mono HC.out ?_
  intro e w2 hp
  obtain ⟨rfl, g1, g2⟩ := hp
  have HW2 := hide g1
  have HK2 := hide ((unhide HK1).trans g2)
  clear g1 g2 HC
  go_wp2_with fail
  refine Calls.mono (put_at (s := s') (w := w) [shut] _ 1 rfl #[.string shut] rfl (by exact new_at (by simp)) (by exact (unhide HW2).alloc _) (by exact (unhide HK2).alloc (unhide HW2).size _) hl) ?_
  intro e w3 hp
  obtain ⟨rfl, g1, g2⟩ := hp
  have HW3 := hide g1
  have HK3 := hide g2
  clear g1 g2 HW2 HK2
  go_wp2_with fail
  go_end0
  exact ⟨rfl, unhide HW3, unhide HK3⟩

theorem wrObject {B b m : Nat} (t : Tr) (s s' : WS) (h : ∀ w v, Wt B b m (putsS [tLBrace] s) w → RB B w t.kids v → Calls Tryz.prog 232 #[wPtr b, v] w (WPost B b m s' w)) (hl0 : s.1.length + sumT [tLBrace] ≤ 100000000) (hl : s'.1.length + sumT [tRBrace] ≤ 100000000) :
    ∀ w p, Wt B b m s w → NB B w t p → Calls Tryz.prog 231 #[wPtr b, nPtr p] w (WPost B b m (putsS [tRBrace] s') w) := by
  have HH := hide h
  clear h
  intro w p hW hN
  have HW0 := hide hW
  have HN := hide hN
  have HK0 := hide (Kp.refl B b w)
  clear hW hN
  go_enter Tryz.func231, Tryz.ntmps231
  go_wp2_with fail
  refine Calls.mono (put_at (s := s) (w := w) [tLBrace] _ 1 rfl #[.string tLBrace] rfl (by exact new_at (by simp)) (by exact (unhide HW0).alloc _) (by exact (unhide HK0).alloc (unhide HW0).size _) hl0) ?_
  intro e w1 hp
  obtain ⟨rfl, g1, g2⟩ := hp
  have HW1 := hide g1
  have HK1 := hide g2
  clear g1 g2 HW0 HK0
  obtain ⟨v, c3, hrb⟩ := ((unhide HN).later (unhide HK1).below).rowV
  have hpl : p < w1.heap.size := by have h1 := (unhide HN).lt; have h2 := (unhide HW1).size; omega
  have HC := hide ((unhide HH) w1 _ (unhide HW1) hrb)
  obtain ⟨a, c, rfl, _⟩ := hrb
  go_wp2_with fail
  refine Calls.mono HC.out ?_
  intro e w2 hp
  obtain ⟨rfl, g1, g2⟩ := hp
  have HW2 := hide g1
  have HK2 := hide ((unhide HK1).trans g2)
  clear g1 g2 HC c3 hpl
  go_wp2_with fail
  refine Calls.mono (put_at (s := s') (w := w) [tRBrace] _ 1 rfl #[.string tRBrace] rfl (by exact new_at (by simp)) (by exact (unhide HW2).alloc _) (by exact (unhide HK2).alloc (unhide HW2).size _) hl) ?_
  intro e w3 hp
  obtain ⟨rfl, g1, g2⟩ := hp
  have HW3 := hide g1
  have HK3 := hide g2
  clear g1 g2 HW2 HK2
  go_wp2_with fail
  go_end0
  exact ⟨rfl, unhide HW3, unhide HK3⟩
end Go.Proofs.YtodmgaikhbmlnaaGreatDoor
