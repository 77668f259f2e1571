/-
  What the writer does with every program that was read: it writes what the plain functions write.
-/
import Derived.Test.YtodmgaikhbmlnaaGreatDoorTk31
import Derived.Test.YtodmgaikhbmlnaaGreatDoorTk35
import Derived.Test.YtodmgaikhbmlnaaGreatDoorTk29
set_option maxRecDepth 100000
set_option maxHeartbeats 16000000
namespace Go.Proofs.YtodmgaikhbmlnaaGreatDoor
open Go.RowKit

theorem costs_take {ts : List Tr} {j : Nat} (hj : j < ts.length) : Tr.costs (ts.take j) + ts[j].cost ≤ Tr.costs ts := by
  have h := congrArg Tr.costs (List.take_append_drop j ts)
  rw [List.drop_eq_getElem_cons hj, costs_app, costs_cons] at h
  omega
theorem costs_take_le (ts : List Tr) (j : Nat) : Tr.costs (ts.take j) ≤ Tr.costs ts := by
  have h := congrArg Tr.costs (List.take_append_drop j ts)
  rw [costs_app] at h
  omega
theorem commas_snoc (F : WF) : ∀ (l : List Tr) (b : Bool) (t : Tr) (s : WS), commasW F b (l ++ [t]) s = F.vl t 1 (if l = [] then (if b then s else putsS [tComma] s) else putsS [tComma] (commasW F b l s))
  | [], b, t, s => by rw [if_pos rfl]; rfl
  | a :: l, b, t, s => by
    have ih := commas_snoc F l false t (F.vl a 1 (if b then s else putsS [tComma] s))
    have e : commasW F b (a :: l ++ [t]) s = commasW F false (l ++ [t]) (F.vl a 1 (if b then s else putsS [tComma] s)) := rfl
    rw [e, ih]
    have e2 : (if a :: l = [] then (if b then s else putsS [tComma] s) else putsS [tComma] (commasW F b (a :: l) s)) = putsS [tComma] (commasW F b (a :: l) s) := if_neg (by simp)
    rw [e2]
    cases l with
    | nil => rw [if_pos rfl, if_neg (by decide)]; rfl
    | cons c l => rw [if_neg (by simp)]; rfl
theorem foldl_take {α : Type} (g : α → Tr → α) (ts : List Tr) (s : α) {j : Nat} (hj : j < ts.length) : (ts.take (j + 1)).foldl g s = g ((ts.take j).foldl g s) ts[j] := by
  rw [List.take_succ_eq_append_getElem hj, List.foldl_append]
  rfl

/-- What the writer's functions do, for programs that are not too great for the bound. -/
structure WM (B b m k : Nat) (F : WF) : Prop where
  vl : ∀ c t l s, c = 0 ∨ c = 2 ∨ c = 6 → 2 * t.count ≤ k → Shp NmW c t → t.lt → s.1.length + t.cost ≤ 100000000 → VC B b m t l s (F.vl t l s)
  v1 : ∀ c t s, c = 0 ∨ c = 2 ∨ c = 6 → 2 * t.count ≤ k + 1 → Shp NmW c t → t.lt → s.1.length + t.cost ≤ 100000002 → VC B b m t 1 s (F.vl t 1 s)
  st : ∀ t s, 2 * t.count ≤ k → Shp NmW 1 t → t.lt → s.1.length + t.cost ≤ 100000000 → SC B b m t s (F.st t s)

theorem kids_len {t : Tr} {n : Nat} (h : 2 * t.count ≤ n) : t.kids.length ≤ n := by
  cases t with
  | mk kd tx i ks =>
    have h1 := counts_len ks
    rw [count_mk] at h
    show ks.length ≤ n
    omega
section
variable {B b m k : Nat} {F : WF} (hF : WM B b m k F) (hL : WL F)
include hF hL
theorem commas_wm {c : Nat} (hc : c = 0 ∨ c = 2 ∨ c = 6) (ts : List Tr) (s : WS) (hk : ∀ t ∈ ts, 2 * t.count ≤ k ∧ Shp NmW c t ∧ t.lt) (hl8 : ts.length ≤ 8) (hb : s.1.length + Tr.costs ts + 10 ≤ 100000000) :
    ∀ w v, Wt B b m s w → RB B w ts v → Calls Tryz.prog 232 #[wPtr b, v] w (WPost B b m (commasW F true ts s) w) := by
  have hlen : ∀ j, (commasW F true (ts.take j) s).1.length ≤ s.1.length + Tr.costs (ts.take j) := fun j => commas_rest_len hL hc true _ s fun t ht => (hk t (List.mem_of_mem_take ht)).2
  have h := wrCommas (B := B) (b := b) (m := m) ts (fun j => commasW F true (ts.take j) s) (by omega) ?h0 ?hst
  case h0 =>
    intro h0
    have h1 := hk ts[0] (List.getElem_mem h0)
    have e : commasW F true (ts.take 1) s = F.vl ts[0] 1 s := by
      have := commas_snoc F (ts.take 0) true ts[0] s
      rw [← List.take_succ_eq_append_getElem h0] at this
      simpa using this
    have h2 := costs_take h0
    rw [List.take_zero, costs_nil] at h2
    show VC B b m ts[0] 1 (commasW F true (ts.take 0) s) (commasW F true (ts.take 1) s)
    rw [e, List.take_zero]
    exact hF.vl c ts[0] 1 s hc h1.1 h1.2.1 h1.2.2 (by omega)
  case hst =>
    intro j hj hj0
    have h1 := hk ts[j] (List.getElem_mem hj)
    have h2 := costs_take hj
    have h3 := hlen j
    have h4 := puts1_len tComma (commasW F true (ts.take j) s)
    have e1 : tComma.size = 1 := rfl
    have e : commasW F true (ts.take (j + 1)) s = F.vl ts[j] 1 (putsS [tComma] (commasW F true (ts.take j) s)) := by
      have := commas_snoc F (ts.take j) true ts[j] s
      rw [← List.take_succ_eq_append_getElem hj, if_neg (by intro e; rcases List.take_eq_nil_iff.1 e with h | h; (· omega); (· subst h; simp at hj))] at this
      exact this
    refine ⟨?_, ?_⟩
    · show VC B b m ts[j] 1 (putsS [tComma] (commasW F true (ts.take j) s)) (commasW F true (ts.take (j + 1)) s)
      rw [e]
      exact hF.vl c ts[j] 1 _ hc h1.1 h1.2.1 h1.2.2 (by omega)
    · show (commasW F true (ts.take j) s).1.length + sumT [tComma] ≤ 100000000
      rw [sum1]
      omega
  intro w v hW hrb
  have h5 := h w v (by show Wt B b m (commasW F true (ts.take 0) s) w; rw [List.take_zero]; exact hW) hrb
  have e : ts.take ts.length = ts := List.take_length
  simp only [e] at h5
  exact h5
theorem list_wm {c : Nat} (hc : c = 0 ∨ c = 2 ∨ c = 6) (ts : List Tr) (s : WS) (hk : ∀ t ∈ ts, 2 * t.count ≤ k ∧ Shp NmW c t ∧ t.lt) (hl8 : ts.length ≤ 8) (hb : s.1.length + Tr.costs ts + 20 ≤ 100000000) :
    ∀ w v, Wt B b m s w → RB B w ts v → Calls Tryz.prog 177 #[wPtr b, .string tOpen, .string tShut, v] w (WPost B b m (listW F tOpen tShut ts s) w) := by
  have e1 : tOpen.size = 1 := rfl
  have e2 : tShut.size = 1 := rfl
  have h1 := closeS_len tOpen s
  have h2 := commas_rest_len hL hc true ts (closeS tOpen s) fun t ht => (hk t ht).2
  exact wrList tOpen tShut ts s _ (commas_wm hF hL hc ts (closeS tOpen s) hk hl8 (by omega)) (by omega) (by rw [sum1]; omega)
theorem block_wm (tx : ByteArray) (ks : List Tr) (s : WS) (hk : ∀ t ∈ ks, 2 * t.count ≤ k ∧ Shp NmW 1 t ∧ t.lt) (hkl : ks.length ≤ 100000) (hb : s.1.length + Tr.costs ks + 20 ≤ 100000000) :
    BC B b m (.mk 6 tx 0 ks) s (blockW F (.mk 6 tx 0 ks) s) := by
  have e1 : tLBrace.size = 1 := rfl
  have e2 : tRBrace.size = 1 := rfl
  have h1 := puts1_len tLBrace s
  have hlen : ∀ j, (stsW F (ks.take j) (putsS [tLBrace] s)).1.length ≤ (putsS [tLBrace] s).1.length + Tr.costs (ks.take j) := fun j => sts_len hL _ _ fun t ht => (hk t (List.mem_of_mem_take ht)).2
  have h := wrBlock (B := B) (b := b) (m := m) (.mk 6 tx 0 ks) s (fun j => stsW F (ks.take j) (putsS [tLBrace] s)) hkl (by rw [List.take_zero]; rfl) (fun j hj => by
      have hj2 : j < ks.length := hj
      have h2 := hk ks[j] (List.getElem_mem hj2)
      have h3 := hlen j
      have h4 := costs_take hj2
      have e : stsW F (ks.take (j + 1)) (putsS [tLBrace] s) = F.st ks[j] (stsW F (ks.take j) (putsS [tLBrace] s)) := foldl_take _ ks _ hj2
      show SC B b m ks[j] (stsW F (ks.take j) (putsS [tLBrace] s)) (stsW F (ks.take (j + 1)) (putsS [tLBrace] s))
      rw [e]
      exact hF.st ks[j] _ h2.1 h2.2.1 h2.2.2 (by omega)) (by rw [sum1]; omega) (by
      have h3 := hlen ks.length
      rw [List.take_length] at h3
      show (stsW F (ks.take ks.length) (putsS [tLBrace] s)).1.length + _ ≤ _
      rw [List.take_length, sum1]
      omega)
  intro w p hW hN
  have h5 := h w p hW hN
  have e : ks.take (Tr.mk 6 tx 0 ks).kids.length = ks := List.take_length
  simp only [e] at h5
  exact h5
theorem blk_wm {c : Nat} (t : Tr) (s : WS) (hc : c = 3 ∨ c = 4) (h : Shp NmW c t) (hl : t.lt) (hk : 2 * t.count ≤ k + 2) (hkk : k ≤ 90000) (hb : s.1.length + t.cost ≤ 100000000) : BC B b m t s (blockW F t s) := by
  have hn := kids_len hk
  rcases hc with rfl | rfl
  · cases h with
    | @blk ts hs =>
      rw [cost_mk] at hb
      exact block_wm hF hL _ ts s (fun u hu => ⟨kid_lt hk u hu, hs u hu, lt_kids hl u hu⟩) (by have : ts.length ≤ k + 2 := hn; omega) (by omega)
  · cases h with
    | @body tx ts _ hs =>
      rw [cost_mk] at hb
      exact block_wm hF hL _ ts s (fun u hu => ⟨kid_lt hk u hu, hs u hu, lt_kids hl u hu⟩) (by have : ts.length ≤ k + 2 := hn; omega) (by omega)
theorem fun_wm (kd : Int) (tx : ByteArray) (p c : Tr) (s : WS) (hp : Shp NmW 5 p) (hc : Shp NmW 4 c) (hl : (Tr.mk kd tx 0 [p, c]).lt) (hk : 2 * (Tr.mk kd tx 0 [p, c]).count ≤ k + 2) (hkk : k ≤ 90000) (hb : s.1.length + (Tr.mk kd tx 0 [p, c]).cost ≤ 100000002) :
    ∀ w q, Wt B b m s w → NB B w (.mk kd tx 0 [p, c]) q → Calls Tryz.prog 118 #[wPtr b, nPtr q] w (WPost B b m (functionW F (.mk kd tx 0 [p, c]) s) w) := by
  have eF : tFunction.size = 8 := rfl
  have h1 := puts1_len tFunction s
  have h2 := puts1_len tx (putsS [tFunction] s)
  have hkp : 2 * p.count ≤ k := kid_lt hk p (by simp)
  have hkc : 2 * c.count ≤ k := kid_lt hk c (by simp)
  have hlp := lt_kids hl p (by simp)
  have hlc := lt_kids hl c (by simp)
  rw [cost_mk, costs_cons, costs_cons, costs_nil] at hb
  have hcost := cost_lo p
  have lists : ∀ s1 : WS, s1.1.length + p.cost ≤ 100000000 → ∀ w v, Wt B b m s1 w → RB B w p.kids v → Calls Tryz.prog 177 #[wPtr b, .string tOpen, .string tShut, v] w (WPost B b m (listW F tOpen tShut p.kids s1) w) := by
    intro s1 hs1
    cases hp with
    | @pars ps hs hl8 =>
      rw [cost_mk] at hs1
      exact list_wm hF hL (c := 6) (Or.inr (Or.inr rfl)) ps s1 (fun u hu => ⟨kid_lt (Nat.le_trans hkp (by omega)) u hu, hs u hu, lt_kids hlp u hu⟩) hl8 (by omega)
  by_cases ht : tx = noText
  · subst ht
    have e : functionW F (.mk kd noText 0 [p, c]) s = blockW F c (listW F tOpen tShut p.kids (putsS [tFunction] s)) := rfl
    have h3 := pars_len hL p (putsS [tFunction] s) hp hlp
    rw [e]
    exact wrFun_none kd 0 p c s _ _ (by rw [sum1]; omega) (lists _ (by omega)) (blk_wm hF hL c _ (Or.inr rfl) hc hlc (by omega) hkk (by omega))
  · have e : functionW F (.mk kd tx 0 [p, c]) s = blockW F c (listW F tOpen tShut p.kids (putsS [tx] (putsS [tFunction] s))) := by
      show blockW F c (listW F tOpen tShut p.kids (if tx = noText then _ else _)) = _
      rw [if_neg ht]
      rfl
    have h3 := pars_len hL p (putsS [tx] (putsS [tFunction] s)) hp hlp
    rw [e]
    exact wrFun_name kd tx 0 p c s _ _ ht (by rw [sum1]; omega) (by rw [sum1]; omega) (lists _ (by omega)) (blk_wm hF hL c _ (Or.inr rfl) hc hlc (by omega) hkk (by omega))
theorem core_wm {c : Nat} (hc : c = 0 ∨ c = 2 ∨ c = 6) (t : Tr) (l : Int) (s : WS) (hst : ¬ strK t.kd < l) (hk : 2 * t.count ≤ k + 2) (hkk : k ≤ 90000) (h : Shp NmW c t) (hl : t.lt) (hb : s.1.length + t.cost ≤ 100000002) : VC B b m t l s (coreW F t s) := by
  have eD : tDot.size = 1 := rfl
  have eQ : tEq.size = 1 := rfl
  have eC : tColon.size = 1 := rfl
  have eL : tLBrace.size = 1 := rfl
  have eR : tRBrace.size = 1 := rfl
  cases h with
  | @name tx hn =>
    rw [cost_mk] at hb
    exact value_name tx 0 [] l s hst (by rw [sum1]; omega)
  | @par tx hn =>
    rw [cost_mk] at hb
    exact value_name tx 0 [] l s hst (by rw [sum1]; omega)
  | str tx =>
    rw [cost_mk] at hb
    rw [lt_mk] at hl
    have h1 : tx.size ≤ 500 := hl.1.1 rfl
    have h2 := quote_len tx
    exact value_str tx 0 [] l s hst (by omega) (by rw [sum1]; omega)
  | num n =>
    rw [cost_mk] at hb
    rw [lt_mk] at hl
    have h1 := hl.1.2 rfl
    have h2 := itoa_len h1.1 h1.2
    exact value_num noText n [] l s hst (fun W hW => itoa_any n (by omega) W hW.tab.2) (by rw [sum1]; omega)
  | @lit kd hk' =>
    obtain ⟨g, hg, _, hp, _⟩ := sg_lit hk'
    have h2 := (sg_facts hg).2.1
    rw [cost_mk] at hb
    rw [core_sign hg, signed0 hp]
    exact value_sign kd noText 0 [] g l s _ hst hg (by rw [hp]; exact signed_none g.tx g.kd g.str kd s (by rw [sum1]; omega))
  | @memb tx u _ hu =>
    rw [cost_mk, costs_cons, costs_nil] at hb
    have h1 := hL.vl 0 u 9 s (Or.inl rfl) hu (lt_kids hl u (by simp))
    exact value_memb tx 0 u l s (F.vl u 9 s) hst (hF.vl 0 u 9 s (Or.inl rfl) (kid_lt hk u (by simp)) hu (lt_kids hl u (by simp)) (by omega)) (by rw [sum2]; omega)
  | @call u us hu hs hl8 =>
    rw [cost_mk, costs_cons] at hb
    have h1 := hL.vl 0 u 9 s (Or.inl rfl) hu (lt_kids hl u (by simp))
    exact value_call noText 0 u us l s (F.vl u 9 s) _ hst (by omega) (hF.vl 0 u 9 s (Or.inl rfl) (kid_lt hk u (by simp)) hu (lt_kids hl u (by simp)) (by omega)) (list_wm hF hL (Or.inl rfl) us (F.vl u 9 s) (fun v hv => ⟨kid_lt hk v (by simp [hv]), hs v hv, lt_kids hl v (by simp [hv])⟩) hl8 (by omega))
  | @one kd u hk' hu =>
    obtain ⟨g, hg, _, hp, _⟩ := sg_one hk'
    have h2 := (sg_facts hg).2.1
    have h3 := puts1_len g.tx s
    rw [cost_mk, costs_cons, costs_nil] at hb
    rw [core_sign hg, signed1 hp]
    exact value_sign kd noText 0 [u] g l s _ hst hg (by rw [hp]; exact signed_one g.tx g.kd g.str kd u s _ (by rw [sum1]; omega) (hF.vl 0 u g.str _ (Or.inl rfl) (kid_lt hk u (by simp)) hu (lt_kids hl u (by simp)) (by omega)))
  | @two kd a c hk' ha hc' =>
    obtain ⟨g, hg, _, hp, _⟩ := sg_two hk'
    have h2 := sg_facts hg
    have h3 := hL.vl 0 a g.str s (Or.inl rfl) ha (lt_kids hl a (by simp))
    have h4 := puts1_len g.tx (F.vl a g.str s)
    rw [cost_mk, costs_cons, costs_cons, costs_nil] at hb
    rw [core_sign hg, signed2 hp]
    exact value_sign kd noText 0 [a, c] g l s _ hst hg (by rw [hp]; exact signed_two g.tx g.kd g.str kd a c s (F.vl a g.str s) _ h2.2.2.2.2 (hF.vl 0 a g.str s (Or.inl rfl) (kid_lt hk a (by simp)) ha (lt_kids hl a (by simp)) (by omega)) (by rw [sum1]; omega) (hF.vl 0 c (g.str + 1) _ (Or.inl rfl) (kid_lt hk c (by simp)) hc' (lt_kids hl c (by simp)) (by omega)))
  | @asg a c hk' ha hc' =>
    rw [cost_mk, costs_cons, costs_cons, costs_nil] at hb
    have h3 := hL.vl 0 a 9 s (Or.inl rfl) ha (lt_kids hl a (by simp))
    have h4 := puts1_len tEq (F.vl a 9 s)
    exact value_assign noText 0 a c [] l s (F.vl a 9 s) _ hst (hF.vl 0 a 9 s (Or.inl rfl) (kid_lt hk a (by simp)) ha (lt_kids hl a (by simp)) (by omega)) (hF.vl 0 c 1 _ (Or.inl rfl) (kid_lt hk c (by simp)) hc' (lt_kids hl c (by simp)) (by omega)) (by rw [sum1]; omega)
  | @obj ps hs hl8 =>
    rw [cost_mk] at hb
    have h0 := puts1_len tLBrace s
    have h1 := commas_rest_len hL (c := 2) (Or.inr (Or.inl rfl)) true ps (putsS [tLBrace] s) fun v hv => ⟨hs v hv, lt_kids hl v hv⟩
    exact value_obj noText 0 ps l s _ hst (wrObject (.mk 38 noText 0 ps) s (commasW F true ps (putsS [tLBrace] s)) (commas_wm hF hL (c := 2) (Or.inr (Or.inl rfl)) ps (putsS [tLBrace] s) (fun v hv => ⟨kid_lt hk v hv, hs v hv, lt_kids hl v hv⟩) hl8 (by omega)) (by rw [sum1]; omega) (by rw [sum1]; omega))
  | @lam tx p d hn hp hd =>
    exact value_lam tx 0 [p, d] l s _ hst (fun_wm hF hL 37 tx p d s hp hd hl hk hkk hb)
  | @prop tx v _ hv =>
    rw [cost_mk, costs_cons, costs_nil] at hb
    have h0 := puts2_len tx tColon s
    exact value_prop tx 0 v l s _ hst (by rw [sum2]; omega) (hF.vl 0 v 1 _ (Or.inl rfl) (kid_lt hk v (by simp)) hv (lt_kids hl v (by simp)) (by omega))
  | _ => exfalso; omega
theorem value_wm {c : Nat} (hc : c = 0 ∨ c = 2 ∨ c = 6) (t : Tr) (l : Int) (s : WS) (hk : (2 * t.count ≤ k + 1 ∧ s.1.length + t.cost ≤ 100000000) ∨ (l = 1 ∧ 2 * t.count ≤ k + 2 ∧ s.1.length + t.cost ≤ 100000002)) (hkk : k ≤ 90000) (h : Shp NmW c t) (hl : t.lt) : VC B b m t l s (valueW F t l s) := by
  unfold valueW
  have e1 : tOpen.size = 1 := rfl
  have e2 : tShut.size = 1 := rfl
  have hcost := cost_lo t
  split
  · rename_i hst
    have hk1 : 2 * t.count ≤ k + 1 ∧ s.1.length + t.cost ≤ 100000000 := by
      rcases hk with hk | ⟨h1, _⟩
      · exact hk
      · have := (strK_bounds t.kd).1; omega
    have h1 := puts1_len tOpen s
    have h2 := hL.v1 c t (putsS [tOpen] s) hc h hl
    unfold parW
    exact value_par t l s _ hst (wrPar_any t s _ (hF.v1 c t _ hc hk1.1 h hl (by omega)) (by rw [sum1]; omega) (by rw [sum1]; omega))
  · rename_i hst
    exact core_wm hF hL hc t l s hst (by rcases hk with hk | hk <;> omega) hkk h hl (by rcases hk with hk | hk <;> omega)
end

theorem okTs_of : ∀ {ts : List Tr}, (∀ u ∈ ts, okT u) → okTs ts
  | [], _ => by rw [okTs]; trivial
  | t :: ts, h => by rw [okTs]; exact ⟨h t (by simp), okTs_of fun u hu => h u (by simp [hu])⟩
theorem okT_mk {kd : Int} {tx : ByteArray} {n : Int} {ks : List Tr} (h : needK kd ≤ ks.length) (hk : ∀ u ∈ ks, okT u) : okT (.mk kd tx n ks) := by
  rw [okT]
  exact ⟨h, okTs_of hk⟩
theorem okT1 {kd : Int} {tx : ByteArray} {n : Int} {t : Tr} (h : needK kd ≤ 1) (ih : okT t) : okT (.mk kd tx n [t]) := okT_mk h (by simpa using ih)
theorem okT2 {kd : Int} {tx : ByteArray} {n : Int} {t u : Tr} (h : needK kd ≤ 2) (ih : okT t) (ih2 : okT u) : okT (.mk kd tx n [t, u]) := okT_mk h (by simp [ih, ih2])
theorem okT_shp {Nm : ByteArray → Prop} {c : Nat} {t : Tr} (h : Shp Nm c t) : okT t := by
  induction h with
  | name | str | num | par | empty => exact okT_mk (by decide) (by simp)
  | lit hk => exact okT_mk (by rcases hk with rfl | rfl | rfl | rfl <;> decide) (by simp)
  | memb _ _ ih => exact okT1 (by decide) ih
  | call _ _ _ ih ihs => exact okT_mk (by rw [List.length_cons]; exact Nat.le_add_left 1 _) (by intro u hu; rcases List.mem_cons.1 hu with rfl | hu; exact ih; exact ihs u hu)
  | one hk _ ih => exact okT1 (by rcases hk with rfl | rfl | rfl <;> decide) ih
  | two hk _ _ iha ihb => exact okT2 (by unfold needK; split; (· exact Nat.le_refl 2); (· split <;> omega)) iha ihb
  | asg _ _ _ iha ihb => exact okT2 (by decide) iha ihb
  | obj _ _ ihs => exact okT_mk (Nat.zero_le _) ihs
  | lam _ _ _ iha ihb => exact okT2 (by decide) iha ihb
  | prop _ _ ih => exact okT1 (by decide) ih
  | pars _ _ ihs => exact okT_mk (Nat.zero_le _) ihs
  | blk _ ihs => exact okT_mk (Nat.zero_le _) ihs
  | body _ _ ihs => exact okT_mk (Nat.zero_le _) ihs
  | decl hk _ _ _ _ ihs => exact okT_mk (by rcases hk with rfl | rfl | rfl <;> exact Nat.zero_le _) ihs
  | func _ _ _ iha ihb => exact okT2 (by decide) iha ihb
  | sblk _ ih => exact ih
  | sif _ _ iha ihb => exact okT2 (by decide) iha ihb
  | sife _ _ _ iha ihb ihc => exact okT_mk (show needK 7 ≤ 3 by decide) (by simp [iha, ihb, ihc])
  | loop hk _ _ iha ihb => exact okT2 (by rcases hk with rfl | rfl <;> decide) iha ihb
  | give hk _ _ _ ihs => exact okT_mk (by rcases hk with rfl | rfl <;> exact Nat.zero_le _) ihs
  | atm _ _ _ _ ih ihc ihf =>
    refine okT_mk (Nat.zero_le _) fun u hu => ?_
    simp only [List.mem_cons, List.mem_append] at hu
    rcases hu with rfl | hu | hu
    · exact ih
    · exact ihc u hu
    · exact ihf u hu
  | cat _ _ ih => exact okT1 (by decide) ih
  | fin _ ih => exact okT1 (by decide) ih
  | expr _ ih => exact okT1 (by decide) ih
  | prog _ _ ihs => exact okT_mk (Nat.zero_le _) ihs

section
variable {B b m k : Nat} {F : WF} (hF : WM B b m k F) (hL : WL F)
include hF hL
theorem last_wm (t : Tr) (s : WS) (hk : ∀ u ∈ t.kids, 2 * u.count ≤ k ∧ Shp NmW 0 u ∧ u.lt) (hkl : t.kids.length ≤ 1) (hb : s.1.length + Tr.costs t.kids + 4 ≤ 100000000) :
    ∀ w p, Wt B b m s w → NB B w t p → Calls Tryz.prog 117 #[wPtr b, nPtr p] w (WPost B b m (lastW F t s) w) := by
  have e2 : tSemi.size = 1 := rfl
  have hlen : ∀ j, (vlsW F (t.kids.take j) s).1.length ≤ s.1.length + Tr.costs (t.kids.take j) := fun j => vls_len hL _ _ fun u hu => (hk u (List.mem_of_mem_take hu)).2
  have h := wrLast (B := B) (b := b) (m := m) t (fun j => vlsW F (t.kids.take j) s) (by omega) (fun j hj => by
      have h2 := hk t.kids[j] (List.getElem_mem hj)
      have h3 := hlen j
      have h4 := costs_take hj
      have e : vlsW F (t.kids.take (j + 1)) s = F.vl t.kids[j] 1 (vlsW F (t.kids.take j) s) := foldl_take _ _ _ hj
      show VC B b m t.kids[j] 1 (vlsW F (t.kids.take j) s) (vlsW F (t.kids.take (j + 1)) s)
      rw [e]
      exact hF.vl 0 _ 1 _ (Or.inl rfl) h2.1 h2.2.1 h2.2.2 (by omega)) (by
      have h3 := hlen t.kids.length
      rw [List.take_length] at h3
      show (vlsW F (t.kids.take t.kids.length) s).1.length + _ ≤ _
      rw [List.take_length, sum1]
      omega)
  intro w p hW hN
  have h5 := h w p (by show Wt B b m (vlsW F (t.kids.take 0) s) w; rw [List.take_zero]; exact hW) hN
  have e : t.kids.take t.kids.length = t.kids := List.take_length
  simp only [e] at h5
  exact h5
theorem try_wm (ks : List Tr) (s : WS) (hk : ∀ u ∈ ks, 2 * u.count ≤ k ∧ (Shp NmW 3 u ∨ Shp NmW 7 u ∨ Shp NmW 8 u) ∧ u.lt) (hkk : k ≤ 90000) (hkl : ks.length ≤ 100000) (hb : s.1.length + Tr.costs ks + 10 ≤ 100000000) :
    ∀ w p, Wt B b m s w → NB B w (.mk 12 noText 0 ks) p → Calls Tryz.prog 121 #[wPtr b, nPtr p] w (WPost B b m (attemptW F (.mk 12 noText 0 ks) s) w) := by
  have eY : tTry.size = 3 := rfl
  have e1 : tCatch.size = 5 := rfl
  have e2 : tOpen.size = 1 := rfl
  have e3 : tShut.size = 1 := rfl
  have e4 : tFinally.size = 7 := rfl
  have h1 := puts1_len tTry s
  have hlen : ∀ j, ((ks.take j).foldl (fun s u => tryW F u s) (putsS [tTry] s)).1.length ≤ (putsS [tTry] s).1.length + Tr.costs (ks.take j) := fun j => tries_len hL _ _ fun u hu => (hk u (List.mem_of_mem_take hu)).2
  have h := wrTry (B := B) (b := b) (m := m) (.mk 12 noText 0 ks) s (fun j => (ks.take j).foldl (fun s u => tryW F u s) (putsS [tTry] s)) hkl (by rw [List.take_zero]; rfl) (fun j hj => by
      have hj2 : j < ks.length := hj
      obtain ⟨hc, hs, hl⟩ := hk ks[j] (List.getElem_mem hj2)
      have h3 := hlen j
      have h4 := costs_take hj2
      have e : (ks.take (j + 1)).foldl (fun s u => tryW F u s) (putsS [tTry] s) = tryW F ks[j] ((ks.take j).foldl (fun s u => tryW F u s) (putsS [tTry] s)) := foldl_take _ ks _ hj2
      simp only [Tr.kids, e]
      generalize (ks.take j).foldl (fun s u => tryW F u s) (putsS [tTry] s) = S at h3
      generalize ks[j] = u at hc hs hl h4
      rcases hs with hs | hs | hs
      · cases hs with
        | @blk ts hts =>
          have hbl := blk_wm hF hL (.mk 6 noText 0 ts) S (Or.inl rfl) (.blk hts) hl (by omega) hkk (by omega)
          exact Or.inl ⟨rfl, hbl⟩
      · cases hs with
        | @cat tx v hn hv =>
          rw [cost_mk, costs_cons, costs_nil] at h4
          have h5 := puts4_len tCatch tOpen tx tShut S
          have hcv : 2 * v.count ≤ k := kid_lt (Nat.le_trans hc (by omega)) v (by simp)
          exact Or.inr (Or.inl ⟨tx, v, rfl, by rw [sum4]; omega, blk_wm hF hL v _ (Or.inl rfl) hv (lt_kids hl v (by simp)) (by omega) hkk (by omega)⟩)
      · cases hs with
        | @fin v hv =>
          rw [cost_mk, costs_cons, costs_nil] at h4
          have h5 := puts1_len tFinally S
          have hcv : 2 * v.count ≤ k := kid_lt (Nat.le_trans hc (by omega)) v (by simp)
          exact Or.inr (Or.inr ⟨v, rfl, by rw [sum1]; omega, blk_wm hF hL v _ (Or.inl rfl) hv (lt_kids hl v (by simp)) (by omega) hkk (by omega)⟩)) (by rw [sum1]; omega)
  intro w p hW hN
  have h5 := h w p hW hN
  have e : ks.take (Tr.mk 12 noText 0 ks).kids.length = ks := List.take_length
  simp only [e] at h5
  exact h5
theorem statement_wm (t : Tr) (s : WS) (hk : 2 * t.count ≤ k + 1) (hkk : k ≤ 90000) (h : Shp NmW 1 t) (hl : t.lt) (hb : s.1.length + t.cost ≤ 100000000) : SC B b m t s (statementW F t s) := by
  have eE : tEq.size = 1 := rfl
  have eO : tOpen.size = 1 := rfl
  have eT : tShut.size = 1 := rfl
  have eL : tElse.size = 4 := rfl
  have eS : tSemi.size = 1 := rfl
  have hk2 : 2 * t.count ≤ k + 2 := by omega
  cases h with
  | @decl kd tx v hk' hn hv hl1 hc =>
    rw [cost_mk] at hb
    have h0 := puts2_len (hdText kd) tx s
    have h1 := hd_len kd
    have h2 := puts1_len tEq (putsS [hdText kd, tx] s)
    have hks : ∀ u ∈ v, 2 * u.count ≤ k ∧ Shp NmW 0 u ∧ u.lt := fun u hu => ⟨kid_lt hk2 u hu, hv u hu, lt_kids hl u hu⟩
    cases v with
    | nil =>
      have e : statementW F (.mk kd tx 0 []) s = lastW F (.mk kd tx 0 []) (putsS [hdText kd, tx] s) := by rcases hk' with rfl | rfl | rfl <;> rfl
      rw [e]
      rw [costs_nil] at hb
      exact st_decl0 kd tx 0 s _ hk' (by rw [sum2]; omega) (last_wm hF hL (.mk kd tx 0 []) _ hks hl1 (by show _ + Tr.costs [] + 4 ≤ _; rw [costs_nil]; omega))
    | cons u r =>
      cases r with
      | nil =>
        have e : statementW F (.mk kd tx 0 [u]) s = lastW F (.mk kd tx 0 [u]) (putsS [tEq] (putsS [hdText kd, tx] s)) := by rcases hk' with rfl | rfl | rfl <;> rfl
        rw [e]
        exact st_decl1 kd tx 0 u s _ hk' (by rw [sum2]; omega) (by rw [sum1]; omega) (last_wm hF hL (.mk kd tx 0 [u]) _ hks hl1 (by show _ + Tr.costs [u] + 4 ≤ _; omega))
      | cons x r => simp at hl1
  | @func tx p c hn hp hc =>
    exact st_func tx 0 [p, c] s _ (fun_wm hF hL 5 tx p c s hp hc hl hk2 hkk (by omega))
  | sblk h =>
    cases h with
    | @blk ts hs => exact st_block noText 0 ts s _ (blk_wm hF hL (.mk 6 noText 0 ts) s (Or.inl rfl) (.blk hs) hl hk2 hkk hb)
  | @sif v t hv hs =>
    rw [cost_mk, costs_cons, costs_cons, costs_nil] at hb
    have h0 := puts2_len (hdText 7) tOpen s
    have hh := hd_len 7
    have h1 := hL.v1 0 v (putsS [hdText 7, tOpen] s) (Or.inl rfl) hv (lt_kids hl v (by simp))
    have h2 := puts1_len tShut (F.vl v 1 (putsS [hdText 7, tOpen] s))
    exact st_if noText 0 [v, t] s _ (wrBehind2 7 noText (hdText 7) 0 v t s (F.vl v 1 (putsS [hdText 7, tOpen] s)) _ rfl (by rw [sum2]; omega) (hF.vl 0 v 1 _ (Or.inl rfl) (kid_lt hk2 v (by simp)) hv (lt_kids hl v (by simp)) (by omega)) (by rw [sum1]; omega) (hF.st t _ (kid_lt hk2 t (by simp)) hs (lt_kids hl t (by simp)) (by omega)))
  | @sife v t u hv hs he =>
    rw [cost_mk, costs_cons, costs_cons, costs_cons, costs_nil] at hb
    have h0 := puts2_len (hdText 7) tOpen s
    have hh := hd_len 7
    have h1 := hL.v1 0 v (putsS [hdText 7, tOpen] s) (Or.inl rfl) hv (lt_kids hl v (by simp))
    have h2 := puts1_len tShut (F.vl v 1 (putsS [hdText 7, tOpen] s))
    have h3 := hL.st t (putsS [tShut] (F.vl v 1 (putsS [hdText 7, tOpen] s))) hs (lt_kids hl t (by simp))
    have h4 := puts1_len tElse (F.st t (putsS [tShut] (F.vl v 1 (putsS [hdText 7, tOpen] s))))
    exact st_if noText 0 [v, t, u] s _ (wrBehind3 7 noText (hdText 7) 0 v t u s (F.vl v 1 (putsS [hdText 7, tOpen] s)) (F.st t (putsS [tShut] (F.vl v 1 (putsS [hdText 7, tOpen] s)))) _ rfl (by rw [sum2]; omega) (hF.vl 0 v 1 _ (Or.inl rfl) (kid_lt hk2 v (by simp)) hv (lt_kids hl v (by simp)) (by omega)) (by rw [sum1]; omega) (hF.st t _ (kid_lt hk2 t (by simp)) hs (lt_kids hl t (by simp)) (by omega)) (by rw [sum1]; omega) (hF.st u _ (kid_lt hk2 u (by simp)) he (lt_kids hl u (by simp)) (by omega)))
  | @loop kd v t hk' hv hs =>
    rw [cost_mk, costs_cons, costs_cons, costs_nil] at hb
    have h0 := puts2_len (hdText kd) tOpen s
    have hh := hd_len kd
    have h1 := hL.v1 0 v (putsS [hdText kd, tOpen] s) (Or.inl rfl) hv (lt_kids hl v (by simp))
    have h2 := puts1_len tShut (F.vl v 1 (putsS [hdText kd, tOpen] s))
    have h3 := wrBehind2 (B := B) (b := b) (m := m) kd noText (hdText kd) 0 v t s (F.vl v 1 (putsS [hdText kd, tOpen] s)) (F.st t (putsS [tShut] (F.vl v 1 (putsS [hdText kd, tOpen] s)))) rfl (by rw [sum2]; omega) (hF.vl 0 v 1 _ (Or.inl rfl) (kid_lt hk2 v (by simp)) hv (lt_kids hl v (by simp)) (by omega)) (by rw [sum1]; omega) (hF.st t _ (kid_lt hk2 t (by simp)) hs (lt_kids hl t (by simp)) (by omega))
    rcases hk' with rfl | rfl
    · exact st_while noText 0 [v, t] s _ h3
    · exact st_with noText 0 [v, t] s _ h3
  | @give kd v hk' hv hl1 hc =>
    rw [cost_mk] at hb
    have h0 := puts1_len (hdText kd) s
    have h1 := hd_len kd
    have e : statementW F (.mk kd noText 0 v) s = lastW F (.mk kd noText 0 v) (putsS [hdText kd] s) := by rcases hk' with rfl | rfl <;> rfl
    rw [e]
    exact st_give kd noText 0 v s _ hk' (by rw [sum1]; omega) (last_wm hF hL (.mk kd noText 0 v) _ (fun u hu => ⟨kid_lt hk2 u hu, hv u hu, lt_kids hl u hu⟩) hl1 (by show _ + Tr.costs v + 4 ≤ _; omega))
  | @atm x c f hx hc hf hl1 =>
    rw [cost_mk] at hb
    exact st_try noText 0 _ s _ (try_wm hF hL (x :: (c ++ f)) s (fun u hu => ⟨kid_lt hk2 u hu, by
      simp only [List.mem_cons, List.mem_append] at hu
      rcases hu with rfl | hu | hu
      · exact Or.inl hx
      · exact Or.inr (Or.inl (hc u hu))
      · exact Or.inr (Or.inr (hf u hu)), lt_kids hl u hu⟩) hkk (by simp; omega) (by omega))
  | empty =>
    rw [cost_mk] at hb
    exact st_empty noText 0 [] s _ (wrEmpty s (by omega))
  | @expr v hv =>
    rw [cost_mk, costs_cons, costs_nil] at hb
    have h0 := hL.v1 0 v s (Or.inl rfl) hv (lt_kids hl v (by simp))
    have h1 := puts1_len tOpen s
    have h2 := hL.v1 0 v (putsS [tOpen] s) (Or.inl rfl) hv (lt_kids hl v (by simp))
    have h3 := puts1_len tShut (F.vl v 1 (putsS [tOpen] s))
    have e : statementW F (.mk 15 noText 0 [v]) s = putsS [tSemi] (if opensW v.count v then putsS [tShut] (F.vl v 1 (putsS [tOpen] s)) else F.vl v 1 s) := rfl
    rw [e]
    cases hop : opensW v.count v with
    | false => exact st_expr noText 0 [v] s _ (expr_plain noText 0 v [] s (F.vl v 1 s) hop (okT_shp hv) (hF.vl 0 v 1 s (Or.inl rfl) (kid_lt hk2 v (by simp)) hv (lt_kids hl v (by simp)) (by omega)) (by rw [sum1]; omega))
    | true => exact st_expr noText 0 [v] s _ (expr_par noText 0 v [] s (putsS [tShut] (F.vl v 1 (putsS [tOpen] s))) hop (okT_shp hv) (wrPar_any v s _ (hF.vl 0 v 1 _ (Or.inl rfl) (kid_lt hk2 v (by simp)) hv (lt_kids hl v (by simp)) (by omega)) (by rw [sum1]; omega) (by rw [sum1]; omega)) (by rw [sum1]; omega))
end
theorem wf_wm (B b m : Nat) : ∀ k, k ≤ 90000 → WM B b m k (wf k)
  | 0, _ => ⟨fun _ t _ _ _ h _ _ _ => absurd h (by have := count_pos t; omega), fun _ t _ _ h _ _ _ => absurd h (by have := count_pos t; omega), fun t _ h _ _ _ => absurd h (by have := count_pos t; omega)⟩
  | k + 1, hk => by
    have ih := wf_wm B b m k (by omega)
    exact ⟨fun c t l s hc h1 h2 h3 h4 => value_wm ih (wf_len k) hc t l s (Or.inl ⟨h1, h4⟩) (by omega) h2 h3, fun c t s hc h1 h2 h3 h4 => value_wm ih (wf_len k) hc t 1 s (Or.inr ⟨rfl, h1, h4⟩) (by omega) h2 h3, fun t s h1 h2 h3 h4 => statement_wm ih (wf_len k) t s h1 (by omega) h2 h3 h4⟩

section
variable {k : Nat} {F : WF} (hF : WX k F)
include hF
theorem core_lx {c : Nat} (hc : c = 0 ∨ c = 2 ∨ c = 6) (t : Tr) (s : WS) (ts : List TS) (hk : 2 * t.count ≤ k + 2) (hsh : Shp NmW c t) (hl : t.lt) (h : Lx s ts) : Lx (coreW F t s) (ts ++ t.toks) := by
  have no : ∀ {kd : Int}, sgK kd = none → ∀ (tx : ByteArray) (n : Int) (ks : List Tr) (s : WS), coreW F (.mk kd tx n ks) s = (if kd = 17 then putsS [itoaB n] s
    else if kd = 18 then putsS [quoteB tx] s
    else if kd = 23 then putsS [tx] s
    else if kd = 24 then F.vl (ks.getD 1 noTr) 1 (putsS [tEq] (F.vl (ks.getD 0 noTr) 9 s))
    else if kd = 36 then putsS [tDot, tx] (F.vl (ks.getD 0 noTr) 9 s)
    else if kd = 35 then listW F tOpen tShut (ks.drop 1) (F.vl (ks.getD 0 noTr) 9 s)
    else if kd = 37 then functionW F (.mk kd tx n ks) s
    else if kd = 38 then objectW F (.mk kd tx n ks) s
    else if kd = 39 then F.vl (ks.getD 0 noTr) 1 (putsS [tx, tColon] s)
    else s) := by
    intro kd hkd tx n ks s
    unfold coreW
    show (match sgK kd with | some g => _ | none => _) = _
    rw [hkd]; rfl
  have vl := hF.vl 0
  have kl := fun {kd tx n ks} (h : 2 * (Tr.mk kd tx n ks).count ≤ k + 2) => kid_lt h
  cases hsh with
  | name hs =>
    rw [no (by decide +kernel), if_neg (by decide), if_neg (by decide), if_pos rfl, toks_name]
    exact h.puts1 (tok_name hs)
  | par hs =>
    rw [no (by decide +kernel), if_neg (by decide), if_neg (by decide), if_pos rfl, toks_name]
    exact h.puts1 (tok_name hs)
  | str s' =>
    rw [lt_mk] at hl
    rw [no (by decide +kernel), if_neg (by decide), if_pos rfl, toks_str]
    exact h.puts1 (tok_str (hl.1.1 rfl))
  | num n =>
    rw [lt_mk] at hl
    have := hl.1.2 rfl
    rw [no (by decide +kernel), if_pos rfl, toks_num]
    exact h.puts1 (tok_num this.1 this.2)
  | @lit kd hk' =>
    obtain ⟨g, hg, _, hp, _⟩ := sg_lit hk'
    rw [toks_lit hg hp]
    unfold coreW
    show Lx (match sgK kd with | some g => _ | none => _) _
    rw [hg]
    show Lx (signedW F _ g s) _
    unfold signedW
    rw [if_neg (by omega), if_neg (by omega)]
    exact h.puts1 (tok_si (sgK_mem hg))
  | @one kd u hk' hu =>
    obtain ⟨g, hg, _, hp, _⟩ := sg_one hk'
    rw [toks_one hg hp]
    unfold coreW
    show Lx (match sgK kd with | some g => _ | none => _) _
    rw [hg]
    show Lx (signedW F _ g s) _
    unfold signedW
    rw [if_neg (by omega), if_pos hp]
    have h1 := vl u g.str _ _ (Or.inl rfl) (kl hk u (by simp)) hu (lt_kids hl u (by simp)) (h.puts1 (tok_si (sgK_mem hg)))
    exact h1.cast (by simp)
  | @two kd a b hk' ha hb =>
    obtain ⟨g, hg, _, hp, _⟩ := sg_two hk'
    rw [toks_two hg hp]
    unfold coreW
    show Lx (match sgK kd with | some g => _ | none => _) _
    rw [hg]
    show Lx (signedW F _ g s) _
    unfold signedW
    rw [if_pos hp]
    have h1 := vl a g.str _ _ (Or.inl rfl) (kl hk a (by simp)) ha (lt_kids hl a (by simp)) h
    have h2 := vl b (g.str + 1) _ _ (Or.inl rfl) (kl hk b (by simp)) hb (lt_kids hl b (by simp)) (h1.puts1 (tok_si (sgK_mem hg)))
    exact h2.cast (by simp)
  | @asg a b _ ha hb =>
    rw [no (by decide +kernel), if_neg (by decide), if_neg (by decide), if_neg (by decide), if_pos rfl, toks_asg]
    have h1 := vl a 9 _ _ (Or.inl rfl) (kl hk a (by simp)) ha (lt_kids hl a (by simp)) h
    have h2 := vl b 1 _ _ (Or.inl rfl) (kl hk b (by simp)) hb (lt_kids hl b (by simp)) (h1.puts1 (tokS (x := tEq) (by decide)))
    exact h2.cast (by simp)
  | @memb x u hx hu =>
    rw [no (by decide +kernel), if_neg (by decide), if_neg (by decide), if_neg (by decide), if_neg (by decide), if_pos rfl, toks_memb]
    have h1 := vl u 9 _ _ (Or.inl rfl) (kl hk u (by simp)) hu (lt_kids hl u (by simp)) h
    exact (h1.puts2 (tokS (x := tDot) (by decide)) (tok_name hx)).cast (by simp)
  | @call u us hu hus _ =>
    rw [no (by decide +kernel), if_neg (by decide), if_neg (by decide), if_neg (by decide), if_neg (by decide), if_neg (by decide), if_pos rfl, toks_call]
    have h1 := vl u 9 _ _ (Or.inl rfl) (kl hk u (by simp)) hu (lt_kids hl u (by simp)) h
    have h2 := list_lx hF (c := 0) (Or.inl rfl) us _ _ (fun t ht => ⟨kl hk t (by simp [ht]), hus t ht, lt_kids hl t (by simp [ht])⟩) h1
    exact h2.cast (by simp)
  | @lam x p b hx hp hb =>
    rw [no (by decide +kernel), if_neg (by decide), if_neg (by decide), if_neg (by decide), if_neg (by decide), if_neg (by decide), if_neg (by decide), if_pos rfl, toks_lam]
    unfold functionW
    show Lx (blockW F b (listW F tOpen tShut p.kids (if x = noText then _ else _))) _
    have hf := h.puts1 (tokW (x := tFunction) (by decide))
    by_cases e : x = noText
    · rw [if_pos e, if_pos e]
      have h1 := tail_lx hF p b hp hb ⟨kl hk p (by simp), kl hk b (by simp)⟩ ⟨lt_kids hl p (by simp), lt_kids hl b (by simp)⟩ _ _ hf
      exact h1.cast (by simp)
    · rw [if_neg e, if_neg e]
      have hn : NmW x := by rcases hx with hx | hx; exact absurd hx e; exact hx
      have h1 := tail_lx hF p b hp hb ⟨kl hk p (by simp), kl hk b (by simp)⟩ ⟨lt_kids hl p (by simp), lt_kids hl b (by simp)⟩ _ _ (hf.puts1 (tok_name hn))
      exact h1.cast (by simp)
  | @obj ps hs _ =>
    rw [no (by decide +kernel), if_neg (by decide), if_neg (by decide), if_neg (by decide), if_neg (by decide), if_neg (by decide), if_neg (by decide), if_neg (by decide), if_pos rfl, toks_obj]
    unfold objectW
    have h1 := commas_lx hF (c := 2) (Or.inr (Or.inl rfl)) ps _ _ (fun t ht => ⟨kl hk t ht, hs t ht, lt_kids hl t ht⟩) (h.puts1 (tokS (x := tLBrace) (by decide)))
    have e : (ps.map fun t => t.at 1) = ps.map Tr.toks := List.map_congr_left fun t _ => atq_one
    rw [e] at h1
    exact (h1.puts1 (tokS (x := tRBrace) (by decide))).cast (by simp)
  | @prop x v hx hv =>
    rw [no (by decide +kernel), if_neg (by decide), if_neg (by decide), if_neg (by decide), if_neg (by decide), if_neg (by decide), if_neg (by decide), if_neg (by decide), if_neg (by decide), if_pos rfl, toks_prop]
    have h1 := vl v 1 _ _ (Or.inl rfl) (kl hk v (by simp)) hv (lt_kids hl v (by simp)) (h.puts2 (tok_name hx) (tokS (x := tColon) (by decide)))
    exact h1.cast (by simp)
  | _ => exact absurd hc (by decide)
theorem value_lx {c : Nat} (hc : c = 0 ∨ c = 2 ∨ c = 6) (t : Tr) (least : Int) (s : WS) (ts : List TS) (hk : 2 * t.count ≤ k + 2) (hin : strK t.kd < least → 2 * t.count ≤ k + 1) (hsh : Shp NmW c t) (hl : t.lt) (h : Lx s ts) : Lx (valueW F t least s) (ts ++ t.at least) := by
  unfold valueW
  by_cases hs : strK t.kd < least
  · rw [if_pos hs, at_par hs]
    unfold parW
    have h1 := hF.v1 c t _ _ hc (hin hs) hsh hl (h.puts1 (tokS (x := tOpen) (by decide)))
    rw [atq_one] at h1
    exact (h1.puts1 (tokS (x := tShut) (by decide))).cast (by simp)
  · rw [if_neg hs, at_plain (by omega)]
    exact core_lx hF hc t s ts hk hsh hl h
end
end Go.Proofs.YtodmgaikhbmlnaaGreatDoor
