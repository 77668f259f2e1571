/-
  Walk with a counter: a program's nodes are counted.
-/
import Derived.Test.YtodmgaikhbmlnaaGreatDoorHn0
import Derived.Test.YtodmgaikhbmlnaaGreatDoorHn4
import Derived.Test.YtodmgaikhbmlnaaGreatDoorHn11
import Derived.Test.YtodmgaikhbmlnaaGreatDoorHn5
import Derived.Test.YtodmgaikhbmlnaaGreatDoorHn3
set_option maxRecDepth 100000
set_option maxHeartbeats 16000000
namespace Go.Proofs.YtodmgaikhbmlnaaGreatDoor
open Go.RowKit
theorem NAts.get {I : Nat → Prop} {w : World} : ∀ (ts : List Tr) (ps : List Nat), NAts I w ts ps → ∀ k, (hk : k < ts.length) → ∃ hp : k < ps.length, NAt I w ts[k] ps[k]
 | [], _, _, k, hk => absurd hk (by simp)
 | t :: ts, ps, h, k, hk => by
  rw [NAts] at h; obtain ⟨p, ps', rfl, h1, h2⟩ := h
  cases k with
  | zero => exact ⟨by simp, h1⟩
  | succ k =>
   obtain ⟨hp, hn⟩ := NAts.get ts ps' h2 k (by simpa using hk); exact ⟨by simpa using hp, by simpa using hn⟩
theorem zhx : ∀ (ts : List Tr) (k : Nat) (hk : k < ts.length), Tr.counts (ts.take (k + 1)) = Tr.counts (ts.take k) + (ts[k]).count
 | [], k, hk => absurd hk (by simp)
 | t :: ts, 0, _ => by simp [zz9, zq0]
 | t :: ts, k + 1, hk => by
  have := zhx ts k (by simpa using hk); simp only [List.take_succ_cons, zz9, List.getElem_cons_succ]; omega
theorem zb4 (ts : List Tr) (k : Nat) (hk : k < ts.length) : (ts[k]).count ≤ Tr.counts ts := by
 have h1 := zhx ts k hk
 have h2 : Tr.counts ts = Tr.counts (ts.take (k + 1)) + Tr.counts (ts.drop (k + 1)) := by rw [← zk2, List.take_append_drop]
 omega
theorem count_pos (t : Tr) : 1 ≤ t.count := by cases t with | mk kd tx n ks => rw [zqy]; omega
theorem zvz : ∀ (ts : List Tr), ts.length ≤ Tr.counts ts
 | [] => by simp
 | t :: ts => by
  have h1 := count_pos t; have h2 := zvz ts; rw [zz9, List.length_cons]; omega
abbrev cntV (b : Nat) : Value := .func (.func 113) #[] #[.pointer (some ⟨b, 0, none⟩)]
theorem count1_any (v : Value) (b : Nat) (n : Int) (w : World) (hc : w.cell? ⟨b, 0, none⟩ = some (.int .i64 n)) (hf : ∀ o, w.frozen? ⟨b, o, none⟩ = false) (hn : 0 ≤ n) (hn2 : n ≤ 100000) :
  Calls Tryz.prog 113 #[v, .pointer (some ⟨b, 0, none⟩)] w fun e w' => e = .returned (.bool true) ∧ w' = w.setCell ⟨b, 0, none⟩ (.int .i64 (n + 1)) := by
 go_enter Tryz.func113, Tryz.ntmps113
 go_wp2_with fail
 go_ret
 exact ⟨rfl, rfl⟩
theorem NAt.opens2 {I : Nat → Prop} {w : World} {t : Tr} {p : Nat} (h : NAt I w t p) : ∃ u ps, w.heap[p]? = some (zzk t.kd t.tx t.n u) ∧ w.ownsRow 0 22 1 u ps.length (ps.map nPtr) ∧ (∀ g, u.ownBlock = some g → I g) ∧ NAts I w t.kids ps := by
 cases t with
 | mk kd tx n ks =>
  rw [NAt] at h; obtain ⟨_, u, ps, h1, h2, h3⟩ := h; exact ⟨u, ps, h1, h2.1, h2.2, h3⟩
structure Cnt (b : Nat) (n : Nat) (w : World) : Prop where
 blk : w.heap[b]? = some (.cells #[.int .i64 (n : Int)] 3 (0, 0))
theorem Cnt.set {b n : Nat} {w : World} (h : Cnt b n w) (m : Nat) {v : Int} (hv : v = (m : Int)) : Cnt b m (w.setCell ⟨b, 0, none⟩ (.int .i64 v)) := ⟨by rw [zqq h.blk, hv]; rfl⟩
theorem en90 : ∀ args W, (callFunc 113 args).run Tryz.prog W = .ok (.enter 113 args) W := fun _ _ => by kernel_rfl
theorem walk_any (b : Nat) : ∀ (m : Nat) (t : Tr), t.count ≤ m → ∀ (p n : Nat) (w : World), NAt (fun x => x ≠ b) w t p → Cnt b n w → n + t.count ≤ 100000 →
  Calls Tryz.prog 20 #[nPtr p, cntV b] w fun e w' => e = .returned (.tuple #[]) ∧ Cnt b (n + t.count) w' ∧ Ap b w.heap.size w w' := by
 intro m
 induction m with
 | zero =>
  intro t ht
  cases t with
  | mk kd tx nn ks => rw [zqy] at ht; omega
 | succ m ih =>
  intro t ht p n w hnt hcn hbd; obtain ⟨u, ps, hblk, hrow, hri, hks⟩ := hnt.opens2; have hlen := NAts.length _ _ hks; have hpb : p ≠ b := by
   cases t with
   | mk kd tx nn ks => rw [NAt] at hnt; exact hnt.1
  have htc : t.count = 1 + Tr.counts t.kids := by cases t with | mk kd tx nn ks => exact zqy _ _ _ _
  obtain ⟨_, _, _, f3, _⟩ := zzj hblk; obtain ⟨ua, uc, hu⟩ := zj2 hrow; subst hu; have c0 : w.cell? ⟨b, 0, none⟩ = some (.int .i64 (n : Int)) := by rw [zqj hcn.blk]; rfl
  have cf := zj5 hcn.blk; have hen := en90; have hfn : ∀ W : World, (binOp .eql 35 (cntV b) .nilFunc).run Tryz.prog W = .ok (.bool false) W := fun W => by kernel_rfl
  have HC := qh (count1_any (nPtr p) b (n : Int) w c0 cf (by omega) (by omega)); have HCN := qh hcn; have HKS := qh hks; have HROW := qh hrow; have HRI := qh hri; have HIH := qh ih; have HTC := qh htc
  have HHT := qh ht; have HBD := qh hbd; have hpb2 : ¬ b = p := fun e => hpb e.symm; have g3 : (w.setCell ⟨b, 0, none⟩ (.int .i64 ((n : Int) + 1))).cell? ⟨p, 3, none⟩ = some (.slice ua ps.length uc) := by
   rw [World.cell?_of_block (w := w) (Below.heap_setCell w ⟨b, 0, none⟩ _ p hpb)]; exact f3
  rw [hlen] at g3; have HG3 := qh g3; clear c0 cf hcn hks hrow hri ih htc ht hbd hblk hnt f3 hpb hpb2 g3; have hg3 := zzz HG3; go_enter Tryz.func20, Tryz.ntmps20; go_wp2_with fail; refine cm HC.out ?_
  rintro e w1 ⟨rfl, rfl⟩; clear HC; go_wp2_with fail
  go_loopw [23] (fun i wr => ∃ k : Nat, k ≤ t.kids.length ∧ i = .int .i64 k ∧ Cnt b (n + 1 + Tr.counts (t.kids.take k)) wr ∧ Ap b w.heap.size w wr) (fun i _ => t.kids.length - (intOf i).toNat)
  case atStart => exact ⟨0, Nat.zero_le _, rfl, by simpa [zq0] using HCN.out.set (n + 1) (by omega), Ap.setCell (R := b) (Ap.refl _ _ _) (p := ⟨b, 0, none⟩) (Or.inr rfl) _⟩
  case round =>
   obtain ⟨k, hk, rfl, hcn, hap⟩ := hrel; have HCK := qh hcn; have HAK := qh hap; clear hcn hap
   by_cases hlt : k < t.kids.length
   ·
    obtain ⟨g, cap, hv, hcell⟩ := zw9 HROW.out (by omega); simp only [Value.slice.injEq] at hv; obtain ⟨rfl, _, rfl⟩ := hv; obtain ⟨hkp, hnk⟩ := NAts.get _ _ HKS.out k hlt; have hgb : g ≠ b := zzz HRI g rfl
    have hgl : g < w.heap.size := (zxj HROW.out g rfl).1; have hck : wr.cell? ⟨g, k, none⟩ = some (nPtr ps[k]) := by
     rw [HAK.out.cell (p := ⟨g, k, none⟩) hgl hgb]; exact hcell k hkp
    have hnk2 : NAt (fun x => x ≠ b) wr t.kids[k] ps[k] := NAt.later (fun x hx hl => HAK.out.block x hl hx) _ _ hnk; have hle := zb4 t.kids k hlt; have htk := zhx t.kids k hlt; have h1 := zzz HTC
    have h2 := zzz HHT; have h3 := zzz HBD; have htot : Tr.counts (t.kids.take k) + (t.kids[k]).count ≤ Tr.counts t.kids := by
     have : Tr.counts t.kids = Tr.counts (t.kids.take (k + 1)) + Tr.counts (t.kids.drop (k + 1)) := by rw [← zk2, List.take_append_drop]
     omega
    have HC := qh (HIH.out t.kids[k] (by omega) ps[k] (n + 1 + Tr.counts (t.kids.take k)) wr hnk2 HCK.out (by omega)); have HTK := qh htk; obtain ⟨q, hq⟩ : ∃ q, q = ps[k] := ⟨_, rfl⟩; rw [← hq] at hck HC
    have hki : (k : Int) < (t.kids.length : Int) := by omega
    have hkb : t.kids.length ≤ 100000 := by have := zvz t.kids; omega
    clear hcell hnk hnk2 hle htk h1 h2 h3 htot hq; go_wp2_with fail; refine cm HC.out ?_; rintro e w2 ⟨rfl, hc2, ha2⟩; have HC2 := qh hc2; have HA2 := qh (HAK.out.next ha2); clear hc2 ha2 HC hck; go_wp2_with fail
    go_roundw
    case rel => exact ⟨k + 1, by omega, by go_num, by rw [HTK.out]; have := zzz HC2; rw [Nat.add_assoc] at this; exact this, HA2.out⟩
    case measure => simp [intOf]; omega
   ·
    have hk2 : k = t.kids.length := by omega
    subst hk2; go_wp2_with fail
    go_end0
    refine ⟨rfl, ?_, HAK.out⟩; have := zzz HCK; rw [List.take_length] at this; rw [HTC.out, ← Nat.add_assoc]; exact this
theorem many_any (B : Nat) (t : Tr) (p : Nat) (w : World) (h : NAt (From B) w t p) (hc : t.count ≤ 90000) :
  Calls Tryz.prog 52 #[nPtr p] w fun e w' => e = .returned (.int .i64 (t.count : Int)) ∧ Below w.heap.size w w' := by
 have hmf := mf_run
 have hn : NAt (fun x => x ≠ w.heap.size) (w.alloc (.cells #[.int .i64 0] 3)) t p :=
  NAt.later (I := fun x => x ≠ w.heap.size) (fun b _ hl => Below.heap_alloc w _ b hl) _ _ (NAt.mono (fun b _ hl => by omega) _ _ h)
 have hcn : Cnt w.heap.size 0 (w.alloc (.cells #[.int .i64 0] 3)) := ⟨zqx _ _⟩
 have HC := qh (walk_any w.heap.size t.count t qv p 0 _ hn hcn (by omega))
 clear h hn hcn hc
 go_enter Tryz.func52, Tryz.ntmps52
 go_wp2_with fail
 refine cm HC.out ?_
 rintro e w1 ⟨rfl, hc1, ha1⟩
 have c0 : w1.cell? ⟨w.heap.size, 0, none⟩ = some (.int .i64 (((0 + t.count : Nat)) : Int)) := by rw [zqj hc1.blk]; rfl
 rw [Nat.zero_add] at c0
 have HB : Hid (Below w.heap.size w w1) := (qb.alloc qv (.cells #[.int .i64 0] 3)).trans ((ha1.mono (by simp)).below qv)
 clear hc1 ha1 HC
 go_wp2_with fail
 go_ret
 exact ⟨rfl, HB.out⟩
inductive PaR where
 | ok (t : Tr)
 | at (er : Int) (p : Nat)
 | bare
abbrev KK : Nat := 24100
def parseS (ws gs : List ByteArray) (s : ByteArray) : PaR :=
 if 3000 < s.size then .bare
 else match zkz ws gs s (zz3 gapB s 0) [] with
  | .bad er p => .at er p
  | .ok l => match zh5 l (fns l KK) with
   | .bad er p => .at er p
   | .ok t _ => if 1500 < t.count then .bare else .ok t
   | .out => .bare
def PaPost (r : PaR) (w : World) (e : Ending) (w' : World) : Prop :=
 match r with
 | .ok t => ∃ p, e = .returned (.tuple #[nPtr p, .nilIface]) ∧ NAt (From w.heap.size) w' t p ∧ Below w.heap.size w w'
 | .at er pl => ∃ b, e = .returned (.tuple #[.pointer none, .iface 129 (.pointer (some ⟨b, 0, none⟩))]) ∧ w'.heap[b]? = some (.cells #[.int .i64 er, .int .i64 (pl : Int)] 130 (0, 0)) ∧ w.heap.size ≤ b ∧ Below w.heap.size w w'
 | .bare => e = .returned (.tuple #[.pointer none, .iface 23 (.int .i64 4)]) ∧ Below w.heap.size w w'
theorem rdTok_kd {ws gs : List ByteArray} {s : ByteArray} {k : Nat} {kd n : Int} {tx : ByteArray} {e : Nat} (h : zj9 ws gs s k = .tok kd tx n e) : kd ≠ 6 := by
 unfold zj9 at h
 split at h
 ·
  unfold zy0 at h
  split at h
  ·
   cases h; decide
  ·
   split at h
   ·
    cases h
   ·
    cases h; decide
 ·
  split at h
  ·
   unfold zh4 at h
   split at h
   ·
    cases h
   ·
    split at h
    ·
     cases h
    ·
     split at h
     ·
      cases h
     ·
      cases h; decide
  ·
   split at h
   ·
    unfold zd2 at h
    split at h
    ·
     split at h
     ·
      cases h
     ·
      cases h; decide
    ·
     cases h
   ·
    unfold zh9 at h
    split at h
    ·
     cases h; decide
    ·
     cases h
theorem toks_form (ws gs : List ByteArray) (s : ByteArray) (hgs : ∀ g ∈ gs, 1 ≤ g.size) : ∀ m i acc l, s.size - i = m → i ≤ s.size → zkz ws gs s i acc = .ok l →
  ∃ l', l = acc ++ l' ++ [⟨6, ⟨#[]⟩, 0, s.size⟩] ∧ (∀ t ∈ l', t.kd ≠ 6) ∧ l'.length ≤ s.size - i := by
 intro m
 induction m using Nat.strongRecOn with
 | ind m ih =>
  intro i acc l hm hi h
  by_cases hlt : i < s.size
  ·
   cases hr : zj9 ws gs s i with
   | bad er p => rw [zk3 ws gs s i acc er p hlt hr] at h; cases h
   | tok kd tx n e =>
    have hb := zdq ws gs s i kd n tx e hlt hgs hr; rw [zwq ws gs s i acc kd n tx e hlt hr hb.1] at h; have hge := zxz gapB s e; have hle := zwj gapB s e hb.2
    obtain ⟨l', h1, h2, h3⟩ := ih (s.size - zz3 gapB s e) (by omega) (zz3 gapB s e) _ l rfl hle h; refine ⟨⟨kd, tx, n, i⟩ :: l', by rw [h1]; simp, fun t ht => ?_, by simp; omega⟩
    rcases List.mem_cons.1 ht with rfl | ht
    ·
     exact rdTok_kd hr
    ·
     exact h2 t ht
  ·
   rw [zgj ws gs s i acc hlt] at h; exact ⟨[], by cases h; simp, fun t ht => absurd ht (by simp), by simp⟩
theorem toks_ends {ws gs : List ByteArray} {s : ByteArray} (hgs : ∀ g ∈ gs, 1 ≤ g.size) {l : List Tk} (h : zkz ws gs s (zz3 gapB s 0) [] = .ok l) : Ends l ∧ 0 < l.length ∧ l.length ≤ s.size + 1 := by
 obtain ⟨l', h1, h2, h3⟩ := toks_form ws gs s hgs _ (zz3 gapB s 0) [] l rfl (zwj gapB s 0 (Nat.zero_le _)) h
 rw [List.nil_append] at h1
 subst h1
 refine ⟨fun i hi => ?_, by simp, by simp; omega⟩
 rw [List.length_append, List.length_singleton] at hi
 unfold tkA
 rw [List.getD_eq_getElem?_getD, List.length_append, List.length_singleton]
 by_cases hil : i < l'.length
 ·
  rw [List.getElem?_append_left hil, List.getElem?_eq_getElem hil]; constructor
  ·
   intro h6; exact absurd h6 (h2 _ (List.getElem_mem hil))
  ·
   intro h6; omega
 ·
  have hi2 : i = l'.length := by omega
  subst hi2; rw [List.getElem?_append_right qv, Nat.sub_self]; simp
theorem progLoop_nx {l : List Tk} {k : Nat} {F : Fns} (hF : FNx l k F) (hk : 8 * l.length + 3 < k) : ∀ n acc i, i < l.length → l.length - i < n → zjv l F n acc i ≠ .out := by
 intro n
 induction n with
 | zero => intro acc i hi hn; omega
 | succ n ih =>
  intro acc i hi hn; unfold zjv
  split
  ·
   nofun
  ·
   have hd := zk1 (l := l) (d := 0) ((hF.st (0 + 1) i hi).imp (q' := True) (fun _ => by omega))
   cases hr : zq4 l F.st 0 i with
   | out => exact absurd hr (hd.1 trivial)
   | bad er p => rw [PR.bind]; nofun
   | ok t j =>
    have := hd.2 t j hr; exact ih _ j this.2 (by omega)
theorem progLoop_lt {l : List Tk} {k : Nat} {F : Fns} (hF : FNx l k F) : ∀ n acc i ts j, i < l.length → zjv l F n acc i = .ok ts j → j < l.length := by
 intro n
 induction n with
 | zero => intro acc i ts j _ h; cases h
 | succ n ih =>
  intro acc i ts j hi h; unfold zjv at h
  split at h
  ·
   cases h; exact hi
  ·
   obtain ⟨t, j1, h1, h⟩ := zq8 h; exact ih _ j1 _ _ ((zk1 (l := l) (d := 0) (hF.st (0 + 1) i hi)).2 t j1 h1).2 h
theorem zg8 {l : List Tk} (hE : Ends l) (h0 : 0 < l.length) (hl : l.length ≤ 3001) : zh5 l (fns l KK) ≠ .out ∧ ∀ t j, zh5 l (fns l KK) = .ok t j → j < l.length := by
 have hF := fns_nx hE KK
 have h1 := progLoop_nx hF (by unfold KK; omega) (fns l KK).fuel [] 0 h0 (by rw [hF.fuel]; unfold KK; omega)
 unfold zh5
 constructor
 ·
  cases hr : zjv l (fns l KK) (fns l KK).fuel [] 0 with
  | out => exact absurd hr h1
  | bad er p => nofun
  | ok ts j => nofun
 ·
  intro t j h; obtain ⟨ts, j1, h2, h⟩ := zq8 h; cases h; exact progLoop_lt hF _ _ _ _ _ h0 h2
structure Tabs (w : World) : Prop where
 heads : ∃ t fr, w.heap[5]? = some (.cells hdCells t fr)
 signs : ∃ t fr, w.heap[4]? = some (.cells sgCells t fr)
theorem Tabs.later {w w' : World} (h : Tabs w) (hb : Below w.heap.size w w') : Tabs w' := by
 obtain ⟨⟨t, fr, h1⟩, ⟨t2, fr2, h2⟩⟩ := h
 exact ⟨⟨t, fr, by rw [hb.block _ (zzq h1)]; exact h1⟩, ⟨t2, fr2, by rw [hb.block _ (zzq h2)]; exact h2⟩⟩
theorem rw_below (w : World) : Below w.heap.size w (RW w) := (qb.alloc qv _).alloc (by simp) _
theorem readToks_any (w : World) (l : List Tk) (g cap : Nat) (cur : Array Value) (hE : Ends l) (h0 : 0 < l.length) (hl : l.length ≤ 3001) (ht : w.heap[g]? = some (.cells cur 123 (0, 0))) (hcap : l.length ≤ cap ∧ cap ≤ maxLen ∧ cur.size = cap * 4 ∧ cur.toList.take (l.length * 4) = zj1 l) (hT : Tabs w) :
  Calls Tryz.prog 51 #[.slice (some ⟨g, 0, none⟩) l.length cap] w (RdPost (zh5 l (fns l KK)) w) := by
 have hb := rw_below w
 have hT2 := hT.later hb
 have HN := newReader_any (RW w) l g cap cur hE h0 hl (by rw [hb.block _ (zzq ht)]; exact ht) hcap hT2.heads hT2.signs
 have hF : ∀ c : Ctx, c.l = l → FC c (fns c.l KK) := fun c hc => fns_does c (by rw [hc]; exact hE) KK
 have hp := (zg8 hE h0 hl).1
 cases hr : zh5 l (fns l KK) with
 | out => exact absurd hr hp
 | bad er pl =>
  refine read_bad w l g cap er pl HN fun c W hc hrd => ?_; have := program_any (hF c hc) ⟨KK, fns_nx (by rw [hc]; exact hE) KK⟩ (fns_ok c.l KK) W _ rfl (by rw [hc, hr]; nofun) hrd
  rw [hc, hr] at this; exact this
 | ok t j =>
  refine read_ok w l g cap t j HN fun c W hc hrd => ?_; have := program_any (hF c hc) ⟨KK, fns_nx (by rw [hc]; exact hE) KK⟩ (fns_ok c.l KK) W _ rfl (by rw [hc, hr]; nofun) hrd
  rw [hc, hr] at this; exact this
theorem parse_long (s : ByteArray) (w : World) (hs : 3000 < s.size) : Calls Tryz.prog 13 #[.string s] w (PaPost .bare w) := by
 have HC := qh (tokens_long s w hs)
 clear hs
 go_enter Tryz.func13, Tryz.ntmps13
 go_wp2_with fail
 refine cm HC.out ?_
 rintro e w1 ⟨rfl, rfl⟩
 go_wp2_with fail
 exact bodyPost_ret (v := .tuple #[.pointer none, .iface 23 (.int .i64 4)]) (by simp [results, Tryz.results13, go_sem]) rfl ⟨rfl, Below.refl _ _⟩
theorem parse_toks (s : ByteArray) (w : World) (er : Int) (p : Nat) (h : Calls Tryz.prog 50 #[.string s] w (TPost (.bad er p) w)) : Calls Tryz.prog 13 #[.string s] w (PaPost (.at er p) w) := by
 have HC := qh h
 clear h
 go_enter Tryz.func13, Tryz.ntmps13
 go_wp2_with fail
 refine cm HC.out ?_
 rintro e w1 ⟨b, rfl, hb1, hb2, hb3⟩
 have H1 := qh hb1
 have H3 := qh hb3
 have H2 := qh hb2
 clear hb1 hb2 hb3 HC
 go_wp2_with fail
 exact bodyPost_ret (v := .tuple #[.pointer none, .iface 129 (.pointer (some ⟨b, 0, none⟩))]) (by simp [results, Tryz.results13, go_sem]) rfl ⟨b, rfl, H1.out, H2.out, H3.out⟩
theorem parse_bad (s : ByteArray) (w : World) (l : List Tk) (er : Int) (p : Nat) (h : Calls Tryz.prog 50 #[.string s] w (TPost (.ok l) w)) (h0 : 0 < l.length)
  (hr : ∀ (W : World) (g cap : Nat) (cur : Array Value), Below w.heap.size w W → W.heap[g]? = some (.cells cur 123 (0, 0)) → (l.length ≤ cap ∧ cap ≤ maxLen ∧ cur.size = cap * 4 ∧ cur.toList.take (l.length * 4) = zj1 l) → Calls Tryz.prog 51 #[.slice (some ⟨g, 0, none⟩) l.length cap] W (RdPost (.bad er p) W)) :
  Calls Tryz.prog 13 #[.string s] w (PaPost (.at er p) w) := by
 have HC := qh h
 have HR := qh hr
 clear h hr
 go_enter Tryz.func13, Tryz.ntmps13
 go_wp2_with fail
 refine cm HC.out ?_
 rintro e w1 ⟨v, rfl, hown, hb1⟩
 rcases hown.2 with hn | ⟨g, cap, cur, rfl, hg, hh, h1, h2, h3, h4⟩
 ·
  omega
 ·
  have HC2 := qh (HR.out w1 g cap cur hb1 hh ⟨h1, h2, h3, h4⟩); have HB1 := qh hb1; clear hown hb1 hg hh h1 h2 h3 h4 HC; go_wp2_with fail; refine cm HC2.out ?_; rintro e w2 ⟨b, rfl, hb1, hb2, hb3⟩; have H1 := qh hb1
  have H3 := qh (HB1.out.trans (hb3.mono HB1.out.size)); have H2 := qh (Nat.le_trans HB1.out.size hb2); clear hb1 hb2 hb3 HC2; go_wp2_with fail
  exact bodyPost_ret (v := .tuple #[.pointer none, .iface 129 (.pointer (some ⟨b, 0, none⟩))]) (by simp [results, Tryz.results13, go_sem]) rfl ⟨b, rfl, H1.out, H2.out, H3.out⟩
theorem parse_ok (s : ByteArray) (w : World) (l : List Tk) (t : Tr) (j : Nat) (h : Calls Tryz.prog 50 #[.string s] w (TPost (.ok l) w)) (h0 : 0 < l.length) (hc : t.count ≤ 90000)
  (hr : ∀ (W : World) (g cap : Nat) (cur : Array Value), Below w.heap.size w W → W.heap[g]? = some (.cells cur 123 (0, 0)) → (l.length ≤ cap ∧ cap ≤ maxLen ∧ cur.size = cap * 4 ∧ cur.toList.take (l.length * 4) = zj1 l) → Calls Tryz.prog 51 #[.slice (some ⟨g, 0, none⟩) l.length cap] W (RdPost (.ok t j) W)) :
  Calls Tryz.prog 13 #[.string s] w (PaPost (if 1500 < t.count then .bare else .ok t) w) := by
 have HC := qh h
 have HR := qh hr
 have HCC := qh hc
 obtain ⟨r, hrr⟩ : ∃ r, r = (if 1500 < t.count then PaR.bare else .ok t) := ⟨_, rfl⟩
 rw [← hrr]
 have HRR := qh hrr
 clear h hr hc hrr
 go_enter Tryz.func13, Tryz.ntmps13
 go_wp2_with fail
 refine cm HC.out ?_
 rintro e w1 ⟨v, rfl, hown, hb1⟩
 rcases hown.2 with hn | ⟨g, cap, cur, rfl, hg, hh, h1, h2, h3, h4⟩
 ·
  omega
 ·
  have HC2 := qh (HR.out w1 g cap cur hb1 hh ⟨h1, h2, h3, h4⟩); have HB1 := qh hb1; clear hown hb1 hg hh h1 h2 h3 h4 HC; go_wp2_with fail; refine cm HC2.out ?_; rintro e w2 ⟨p, rfl, hn, hb⟩; have HN := qh hn
  have HB2 := qh (HB1.out.trans (hb.mono HB1.out.size)); have HC3 := qh (many_any w1.heap.size t p w2 hn HCC.out); have HS1 := qh HB1.out.size; clear hn hb HC2; go_wp2_with fail; refine cm HC3.out ?_
  rintro e w3 ⟨rfl, hb3⟩; have HB3 := qh (HB2.out.trans (hb3.mono HB2.out.size))
  have HN3 : Hid (NAt (From w.heap.size) w3 t p) := NAt.mono (fun b hb _ => Nat.le_trans HS1.out hb) _ _ (NAt.later (I := From w1.heap.size) (fun b _ hl => hb3.block b hl) _ _ HN.out); clear hb3 HC3
  by_cases h15 : 1500 < t.count
  ·
   have hq : r = .bare := by rw [HRR.out, if_pos h15]
   have HQ := qh hq; clear hq; have hi : (1500 : Int) < (t.count : Int) := by omega
   clear h15; go_wp2_with fail; exact bodyPost_ret (v := .tuple #[.pointer none, .iface 23 (.int .i64 4)]) (by simp [results, Tryz.results13, go_sem]) rfl (by rw [HQ.out]; exact ⟨rfl, HB3.out⟩)
  ·
   have hq : r = .ok t := by rw [HRR.out, if_neg h15]
   have HQ := qh hq; clear hq; have hi : ¬ (1500 : Int) < (t.count : Int) := by omega
   clear h15; go_wp2_with fail; exact bodyPost_ret (v := .tuple #[nPtr p, .nilIface]) (by simp [results, Tryz.results13, go_sem]) rfl (by rw [HQ.out]; exact ⟨p, rfl, HN3.out, HB3.out⟩)
theorem parse_any (ws gs : List ByteArray) (s : ByteArray) (w : World) (hL : Lists ws gs w) (hgs : ∀ g ∈ gs, 1 ≤ g.size) (hT : Tabs w) : Calls Tryz.prog 13 #[.string s] w (PaPost (parseS ws gs s) w) := by
 unfold parseS
 by_cases hs : 3000 < s.size
 ·
  rw [if_pos hs]; exact parse_long s w hs
 ·
  rw [if_neg hs]; have hk := tokens_any ws gs s w (by omega) hL hgs
  cases ht : zkz ws gs s (zz3 gapB s 0) [] with
  | bad er p => rw [ht] at hk; exact parse_toks s w er p hk
  | ok l =>
   rw [ht] at hk; obtain ⟨hE, h0, hl⟩ := toks_ends hgs ht; have hl2 : l.length ≤ 3001 := by omega
   obtain ⟨hp1, hp2⟩ := zg8 hE h0 hl2; have hrd := fun (W : World) (g cap : Nat) (cur : Array Value) (hb : Below w.heap.size w W) hh hcap => readToks_any W l g cap cur hE h0 hl2 hh hcap (hT.later hb); simp only
   cases hr : zh5 l (fns l KK) with
   | out => exact absurd hr hp1
   | bad er p => rw [hr] at hrd; exact parse_bad s w l er p hk h0 hrd
   | ok t j =>
    rw [hr] at hrd; have hj := hp2 t j hr; have hcb := prog_cb (fns_cb KK) hr; exact parse_ok s w l t j hk h0 (by omega) hrd
end Go.Proofs.YtodmgaikhbmlnaaGreatDoor
namespace Go.Proofs.YtodmgaikhbmlnaaGreatDoor
open Go.ChangeShapes Go.WideShapes Go.ChangeAt Go.WideMaps Go.WideElems Go.RowKit
theorem gTSigns : Tryz.prog.globalNamed "sloppyscope/tree.signs" = some 4 := by kernel_rfl
theorem gTHeads : Tryz.prog.globalNamed "sloppyscope/tree.heads" = some 5 := by kernel_rfl
theorem tTSigns : (Tryz.prog.globals[4]?).map (·.type) = some 176 := by kernel_rfl
theorem tTHeads : (Tryz.prog.globals[5]?).map (·.type) = some 179 := by kernel_rfl
theorem cells160 : Tryz.prog.cellsOf 175 = 4 := by kernel_rfl
theorem cells3 : Tryz.prog.cellsOf 3 = 1 := by kernel_rfl
theorem cells161 : Tryz.prog.cellsOf 176 = 56 := by kernel_rfl
theorem cellsHd : Tryz.prog.cellsOf 178 = 2 := by kernel_rfl
theorem cellsHds : Tryz.prog.cellsOf 179 = 16 := by kernel_rfl
theorem of_pieces (k : Nat) (hk : 0 < k) : ∀ (L : List (List Value)) (cs : List Value), (∀ l ∈ L, l.length = k) → cs.length = L.length * k → (∀ i (hi : i < L.length), (cs.drop (i * k)).take k = L[i]) → cs = L.flatten
 | [], cs, _, hl, _ => by
  have : cs.length = 0 := by simpa using hl
  simpa using this
 | l :: L, cs, h, hl, hp => by
  have h0 := hp 0 (by simp); simp only [Nat.zero_mul, List.drop_zero, List.getElem_cons_zero] at h0
  have h1 := of_pieces k hk L (cs.drop k) (fun x hx => h x (List.mem_cons_of_mem _ hx)) (by rw [List.length_drop, hl, List.length_cons, Nat.add_mul]; omega) (fun i hi => by
   have := hp (i + 1) (by simpa using hi); rw [List.getElem_cons_succ] at this; rw [List.drop_drop, show k + i * k = (i + 1) * k by rw [Nat.add_mul]; omega]
   exact this)
  rw [List.flatten_cons, ← h0, ← h1, List.take_append_drop]
theorem int_of {W : World} {fuel : Nat} {cs : List Value} {z : Int} {q : List MemPlace} (h : DataW.trod (fun _ => ()) Tryz.prog W 0 (fun _ => true) false fuel 3 cs = some (.lit (.int .i64 z), q)) : cs = [.int .i64 z] := by
 obtain ⟨k, e, f, _⟩ := DataW.trod_int Tryz.underlying3 h
 simp only [Prod.mk.injEq, DataW.lit.injEq, Lit.int.injEq, true_and] at f
 rw [e, ← f.1]
theorem text_of {W : World} {fuel : Nat} {cs : List Value} {l : List UInt8} {q : List MemPlace} (h : DataW.trod (fun _ => ()) Tryz.prog W 0 (fun _ => true) false fuel 9 cs = some (.lit (.string l), q)) : cs = [.string (zq6 l)] := by
 obtain ⟨s, e1, e2, _⟩ := DataW.trod_string Tryz.underlying9 h
 simp only [Prod.mk.injEq, DataW.lit.injEq, Lit.string.injEq] at e2
 rw [e1, zn4 e2.1.symm]
theorem fields4 {cs : List Value} (hl : cs.length = 4) {a b c d : Value} (h0 : (cs.drop 0).take 1 = [a]) (h1 : (cs.drop 1).take 1 = [b]) (h2 : (cs.drop 2).take 1 = [c]) (h3 : (cs.drop 3).take 1 = [d]) : cs = [a, b, c, d] := by
 match cs, hl with
 | [x, y, z, u], _ => simp at h0 h1 h2 h3; rw [h0, h1, h2, h3]
theorem fields2 {cs : List Value} (hl : cs.length = 2) {a b : Value} (h0 : (cs.drop 0).take 1 = [a]) (h1 : (cs.drop 1).take 1 = [b]) : cs = [a, b] := by
 match cs, hl with
 | [x, y], _ => simp at h0 h1; rw [h0, h1]
def sgD (l : List UInt8) (a b c : Int) : DataW Unit := .agg [.lit (.string l), .lit (.int .i64 a), .lit (.int .i64 b), .lit (.int .i64 c)]
def hdD (l : List UInt8) (a : Int) : DataW Unit := .agg [.lit (.string l), .lit (.int .i64 a)]
theorem zp1 {H : Type} {xs : List (DataW H × List MemPlace)} {ds : List (DataW H)} (h : ds = xs.map (·.1)) (i : Nat) (d : DataW H) (hd : ds[i]? = some d) : ∃ q, xs[i]? = some (d, q) := by
 subst h
 rw [List.getElem?_map] at hd
 cases hx : xs[i]? with
 | none => rw [hx] at hd; cases hd
 | some x =>
  rw [hx] at hd; exact ⟨x.2, by rw [← Option.some.inj hd]⟩
theorem sg_of {W : World} {fuel : Nat} {cs : List Value} {l : List UInt8} {a b c : Int} {q : List MemPlace} (h : DataW.trod (fun _ => ()) Tryz.prog W 0 (fun _ => true) false fuel 175 cs = some (sgD l a b c, q)) :
  cs = [.string (zq6 l), .int .i64 a, .int .i64 b, .int .i64 c] := by
 obtain ⟨xs, n, _, hx, hl, hn, hel⟩ := DataW.trod_struct Tryz.underlying175 h
 simp only [Prod.mk.injEq, sgD, DataW.agg.injEq] at hx
 rw [cells160] at hl
 obtain ⟨q0, x0⟩ := zp1 hx.1 0 _ rfl
 obtain ⟨q1, x1⟩ := zp1 hx.1 1 _ rfl
 obtain ⟨q2, x2⟩ := zp1 hx.1 2 _ rfl
 obtain ⟨q3, x3⟩ := zp1 hx.1 3 _ rfl
 have f0 := hel 0 _ rfl
 have f1 := hel 1 _ rfl
 have f2 := hel 2 _ rfl
 have f3 := hel 3 _ rfl
 rw [x0] at f0
 rw [x1] at f1
 rw [x2] at f2
 rw [x3] at f3
 have g0 : (cs.drop 0).take (Tryz.prog.cellsOf 9) = _ := text_of f0
 have g1 : (cs.drop 1).take (Tryz.prog.cellsOf 3) = _ := int_of f1
 have g2 : (cs.drop 2).take (Tryz.prog.cellsOf 3) = _ := int_of f2
 have g3 : (cs.drop 3).take (Tryz.prog.cellsOf 3) = _ := int_of f3
 rw [cells9] at g0
 rw [cells3] at g1 g2 g3
 exact fields4 hl g0 g1 g2 g3
theorem hd_of {W : World} {fuel : Nat} {cs : List Value} {l : List UInt8} {a : Int} {q : List MemPlace} (h : DataW.trod (fun _ => ()) Tryz.prog W 0 (fun _ => true) false fuel 178 cs = some (hdD l a, q)) :
  cs = [.string (zq6 l), .int .i64 a] := by
 obtain ⟨xs, n, _, hx, hl, hn, hel⟩ := DataW.trod_struct Tryz.underlying178 h
 simp only [Prod.mk.injEq, hdD, DataW.agg.injEq] at hx
 rw [cellsHd] at hl
 obtain ⟨q0, x0⟩ := zp1 hx.1 0 _ rfl
 obtain ⟨q1, x1⟩ := zp1 hx.1 1 _ rfl
 have f0 := hel 0 _ rfl
 have f1 := hel 1 _ rfl
 rw [x0] at f0
 rw [x1] at f1
 have g0 : (cs.drop 0).take (Tryz.prog.cellsOf 9) = _ := text_of f0
 have g1 : (cs.drop 1).take (Tryz.prog.cellsOf 3) = _ := int_of f1
 rw [cells9] at g0
 rw [cells3] at g1
 exact fields2 hl g0 g1
def sgL4 : List (List UInt8 × Int × Int × Int) := sgs.map fun e => (e.tx.data.toList, e.kd, e.parts, e.str)
def hdL2 : List (List UInt8 × Int) := hds.map fun e => (e.1.data.toList, e.2)
theorem tsigns_of {W : World} {fuel : Nat} {cs : List Value} {p : List MemPlace} (h : DataW.trod (fun _ => ()) Tryz.prog W 0 (fun _ => true) false fuel 176 cs = some (.agg (sgL4.map fun e => sgD e.1 e.2.1 e.2.2.1 e.2.2.2), p)) : cs = sgCells.toList := by
 obtain ⟨xs, m, _, hx, hlen, hn, hel⟩ := DataW.trod_array Tryz.underlying176 h
 simp only [Prod.mk.injEq, DataW.agg.injEq] at hx
 rw [cells161] at hlen
 have key : cs = (sgL4.map fun e => [Value.string (zq6 e.1), .int .i64 e.2.1, .int .i64 e.2.2.1, .int .i64 e.2.2.2]).flatten := by
  refine of_pieces 4 (by decide) _ cs ?_ (by rw [hlen]; rfl) ?_
  ·
   intro l hl; obtain ⟨e, _, rfl⟩ := List.mem_map.1 hl; rfl
  ·
   intro i hi; rw [List.length_map] at hi; have hi14 : i < 14 := hi; have he := hel i hi14; rw [cells160] at he; obtain ⟨q, hq⟩ := zp1 hx.1 i _ (by rw [List.getElem?_map, List.getElem?_eq_getElem hi]; rfl)
   rw [hq] at he; rw [sg_of he, List.getElem_map]
 rw [key]
 rfl
theorem theads_of {W : World} {fuel : Nat} {cs : List Value} {p : List MemPlace} (h : DataW.trod (fun _ => ()) Tryz.prog W 0 (fun _ => true) false fuel 179 cs = some (.agg (hdL2.map fun e => hdD e.1 e.2), p)) : cs = hdCells.toList := by
 obtain ⟨xs, m, _, hx, hlen, hn, hel⟩ := DataW.trod_array Tryz.underlying179 h
 simp only [Prod.mk.injEq, DataW.agg.injEq] at hx
 rw [cellsHds] at hlen
 have key : cs = (hdL2.map fun e => [Value.string (zq6 e.1), .int .i64 e.2]).flatten := by
  refine of_pieces 2 (by decide) _ cs ?_ (by rw [hlen]; rfl) ?_
  ·
   intro l hl; obtain ⟨e, _, rfl⟩ := List.mem_map.1 hl; rfl
  ·
   intro i hi; rw [List.length_map] at hi; have hi14 : i < 8 := hi; have he := hel i hi14; rw [cellsHd] at he; obtain ⟨q, hq⟩ := zp1 hx.1 i _ (by rw [List.getElem?_map, List.getElem?_eq_getElem hi]; rfl)
   rw [hq] at he; rw [hd_of he, List.getElem_map]
 rw [key]
 rfl
end Go.Proofs.YtodmgaikhbmlnaaGreatDoor
namespace Go.Proofs.YtodmgaikhbmlnaaGreatDoor
open Go.RowKit
structure PC where
 P : Nat
 l : List Tk
 tb : Nat
 cap : Nat
 lo : Nat
def PC.tv (c : PC) : Value := .slice (some ⟨c.tb, 0, none⟩) c.l.length c.cap
abbrev pPtr (c : PC) : Value := .pointer (some ⟨c.P, 0, none⟩)
structure PB (c : PC) (w : World) : Prop where
 ends : Ends c.l
 tokens : ∃ cur, w.heap[c.tb]? = some (.cells cur 68 (0, 0)) ∧ c.l.length ≤ c.cap ∧ c.cap ≤ maxLen ∧ cur.size = c.cap * 4 ∧ cur.toList.take (c.l.length * 4) = zj1 c.l
 ntb : c.tb ≠ c.P
 len : c.l.length ≤ 3001
 old : c.tb < c.lo ∧ c.P < c.lo
 size : c.lo ≤ w.heap.size
theorem PB.later {c : PC} {B : Nat} {w w' : World} (h : PB c w) (ha : Ap c.P B w w') (hB : c.lo ≤ B) : PB c w' := by
 obtain ⟨h0, ⟨cur, h1, h1'⟩, h2, h3, h4, h5⟩ := h
 exact ⟨h0, ⟨cur, by rw [ha.block _ (by omega) h2]; exact h1, h1'⟩, h2, h3, h4, Nat.le_trans h5 ha.size⟩
def prObj (c : PC) (i : Nat) (er pl : Int) : Obj := .cells #[c.tv, .int .i64 (i : Int), .int .i64 er, .int .i64 pl] 66 (0, 0)
structure Ps (c : PC) (w : World) (i : Nat) (er pl : Int) : Prop where
 base : PB c w
 blk : w.heap[c.P]? = some (prObj c i er pl)
 lt : i < c.l.length
theorem Ps.later {c : PC} {w w' : World} {i : Nat} {er pl : Int} (h : Ps c w i er pl) (ha : Below w.heap.size w w') : Ps c w' i er pl :=
 ⟨h.base.later (Ap.of ha) h.base.size, by rw [ha.block _ (zzq h.blk)]; exact h.blk, h.lt⟩
theorem Ps.rlt {c : PC} {w : World} {i : Nat} {er pl : Int} (h : Ps c w i er pl) : c.P < w.heap.size := zzq h.blk
theorem Ps.c0 {c : PC} {w : World} {i : Nat} {er pl : Int} (h : Ps c w i er pl) : w.cell? ⟨c.P, 0, none⟩ = some (.slice (some ⟨c.tb, 0, none⟩) c.l.length c.cap) := by rw [zqj h.blk]; rfl
theorem Ps.c1 {c : PC} {w : World} {i : Nat} {er pl : Int} (h : Ps c w i er pl) : w.cell? ⟨c.P, 1, none⟩ = some (.int .i64 (i : Int)) := by rw [zqj h.blk]; rfl
theorem Ps.c2 {c : PC} {w : World} {i : Nat} {er pl : Int} (h : Ps c w i er pl) : w.cell? ⟨c.P, 2, none⟩ = some (.int .i64 er) := by rw [zqj h.blk]; rfl
theorem Ps.c3 {c : PC} {w : World} {i : Nat} {er pl : Int} (h : Ps c w i er pl) : w.cell? ⟨c.P, 3, none⟩ = some (.int .i64 pl) := by rw [zqj h.blk]; rfl
theorem Ps.fz {c : PC} {w : World} {i : Nat} {er pl : Int} (h : Ps c w i er pl) (o : Nat) : w.frozen? ⟨c.P, o, none⟩ = false := zj5 h.blk o
theorem PB.tok {c : PC} {w : World} (h : PB c w) (i j : Nat) (hi : i < c.l.length) (hj : j < 4) : w.cell? ⟨c.tb, i * 4 + j, none⟩ = (zdx (tkA c.l i))[j]? := by
 obtain ⟨cur, hb, h1, h2, h3, h4⟩ := h.tokens
 rw [zqj hb, ← tks_get c.l i j hi hj, ← h4, List.getElem?_take_of_lt (by omega), Array.getElem?_toList]
theorem PB.tlt {c : PC} {w : World} (h : PB c w) : c.tb < w.heap.size := by
 obtain ⟨cur, hb, _⟩ := h.tokens
 exact zzq hb
theorem Ps.toks {c : PC} {w : World} {i : Nat} {er pl : Int} (h : Ps c w i er pl) :
  w.cell? ⟨c.tb, i * 4, none⟩ = some (.int .i64 (tkA c.l i).kd) ∧ w.cell? ⟨c.tb, i * 4 + 1, none⟩ = some (.string (tkA c.l i).tx) ∧ w.cell? ⟨c.tb, i * 4 + 2, none⟩ = some (.int .i64 (tkA c.l i).n) ∧ w.cell? ⟨c.tb, i * 4 + 3, none⟩ = some (.int .i64 ((tkA c.l i).pl : Int)) :=
 ⟨h.base.tok i 0 h.lt (by decide), h.base.tok i 1 h.lt (by decide), h.base.tok i 2 h.lt (by decide), h.base.tok i 3 h.lt (by decide)⟩
theorem Ps.step {c : PC} {w : World} {i j : Nat} {er pl : Int} (h : Ps c w i er pl) (hj : j < c.l.length) : Ps c (w.setCell ⟨c.P, 1, none⟩ (.int .i64 (j : Int))) j er pl :=
 ⟨h.base.later ((Ap.refl c.P c.lo w).setCell (p := ⟨c.P, 1, none⟩) (Or.inr rfl) _) qv, by rw [zqq h.blk]; rfl, hj⟩
theorem Ps.fault {c : PC} {w : World} {i : Nat} {er pl : Int} (h : Ps c w i er pl) (e p : Int) : Ps c ((w.setCell ⟨c.P, 2, none⟩ (.int .i64 e)).setCell ⟨c.P, 3, none⟩ (.int .i64 p)) i e p :=
 ⟨h.base.later (((Ap.refl c.P c.lo w).setCell (p := ⟨c.P, 2, none⟩) (Or.inr rfl) _).setCell (p := ⟨c.P, 3, none⟩) (Or.inr rfl) _) qv, by rw [zqq (zqq h.blk _)]; rfl, h.lt⟩
theorem Ps.drew {c : PC} {w : World} {i : Nat} {er pl : Int} (h : Ps c w i er pl) : Ps c w.drew i er pl := h.later qb.drew
theorem Ps.alloc {c : PC} {w : World} {i : Nat} {er pl : Int} (h : Ps c w i er pl) (o : Obj) : Ps c (w.alloc o) i er pl := h.later (qb.alloc qv o)
def NPost (c : PC) (w : World) (er pl : Int) (Z : Value → Prop) (e : Ending) (w' : World) : Prop :=
 (∃ v, e = .returned v ∧ Z v) ∧ (∃ j, Ps c w' j er pl) ∧ er ≠ 0 ∧ Ap c.P w.heap.size w w'
def zj6 {α : Type} (c : PC) (w : World) (N : World → α → Value → Prop) (Z : Value → Prop) (r : PR α) (e : Ending) (w' : World) : Prop :=
 match r with
 | .ok x j => (∃ v, e = .returned v ∧ N w' x v) ∧ Ps c w' j 0 (-1) ∧ Ap c.P w.heap.size w w'
 | .bad er pl => NPost c w er (pl : Int) Z e w'
 | .out => True
abbrev ZN (v : Value) : Prop := ∃ q, v = nPtr q
abbrev ZU (v : Value) : Prop := v = .tuple #[]
abbrev ZT (v : Value) : Prop := ∃ s, v = .string s
abbrev ZL (v : Value) : Prop := ∃ a n k, v = .slice a n k
theorem zy8 (c : PC) (w : World) (i : Nat) (er pl : Int) (h : Ps c w i er pl) :
  Calls Tryz.prog 46 #[pPtr c] w fun e w' => e = .returned (.bool (er == 0)) ∧ w' = w := by
 have c2 := h.c2
 clear h
 go_enter Tryz.func46, Tryz.ntmps46
 go_wp2_with fail
 go_ret
 exact ⟨rfl, rfl⟩
theorem zwv (c : PC) (w : World) (i : Nat) (e0 : Int) (he : e0 ≠ 0) (h : Ps c w i 0 (-1)) :
  Calls Tryz.prog 98 #[pPtr c, .int .i64 e0] w (NPost c w e0 ((tkA c.l i).pl : Int) ZN) := by
 have HC := qh (zy8 c w i 0 (-1) h)
 have h0 : w.cell? ⟨c.P, 0, none⟩ = _ := h.c0
 have h1 : w.cell? ⟨c.P, 1, none⟩ = _ := h.c1
 have h2 : w.cell? ⟨c.P, 2, none⟩ = _ := h.c2
 have h3 : w.cell? ⟨c.P, 3, none⟩ = _ := h.c3
 have f2 : w.frozen? ⟨c.P, 2, none⟩ = false := h.fz 2
 have f3 : w.frozen? ⟨c.P, 3, none⟩ = false := h.fz 3
 have k3 : w.cell? ⟨c.tb, i * 4 + 3, none⟩ = _ := h.toks.2.2.2
 have hlt : (i : Int) < (c.l.length : Int) := by have := h.lt; omega
 have hR := h.rlt
 have HP := qh h
 clear h
 go_enter Tryz.func98, Tryz.ntmps98
 go_wp2_with fail
 refine cm HC.out ?_
 rintro e w1 ⟨rfl, rfl⟩
 clear HC
 go_wp2_with fail
 go_region
 go_wp2_with fail
 go_ret
 refine ⟨⟨_, rfl, _, rfl⟩, ⟨i, (HP.out.fault e0 _).alloc _ |>.drew⟩, he, ?_⟩
 exact ((((Ap.refl c.P w1.heap.size w1).setCell (p := ⟨c.P, 2, none⟩) (Or.inr rfl) _).setCell (p := ⟨c.P, 3, none⟩) (Or.inr rfl) _).alloc (by simp) _).drew
theorem rfail_old (c : PC) (w : World) (i : Nat) (er pl e0 : Int) (he : er ≠ 0) (h : Ps c w i er pl) :
  Calls Tryz.prog 98 #[pPtr c, .int .i64 e0] w (NPost c w er pl ZN) := by
 have hc := zy8 c w i er pl h
 rw [beq_eq_false_iff_ne.2 he] at hc
 have HC := qh hc
 have HP := qh h
 clear h hc
 go_enter Tryz.func98, Tryz.ntmps98
 go_wp2_with fail
 refine cm HC.out ?_
 rintro e w1 ⟨rfl, rfl⟩
 clear HC
 go_wp2_with fail
 go_ret
 exact ⟨⟨_, rfl, _, rfl⟩, ⟨i, HP.out.alloc _⟩, he, (Ap.refl c.P w1.heap.size w1).alloc qv _⟩
theorem rnext_old (c : PC) (w : World) (i : Nat) (er pl : Int) (he : er ≠ 0) (s : ByteArray) (h : Ps c w i er pl) :
  Calls Tryz.prog 99 #[pPtr c, .string s] w fun e w' => e = .returned (.bool false) ∧ Below w.heap.size w w' := by
 have h0 := h.c0
 have h1 := h.c1
 obtain ⟨k0, k1, k2, k3⟩ := h.toks
 have hlt : (i : Int) < (c.l.length : Int) := by have := h.lt; omega
 have hR := h.rlt
 have hT := h.base.tlt
 have hc := fun o => zy8 c (w.alloc o).drew i er pl (h.alloc o).drew
 rw [beq_eq_false_iff_ne.2 he] at hc
 have HC := qh hc
 clear h hc
 go_enter Tryz.func99, Tryz.ntmps99
 go_wp2_with fail
 go_region
 go_wp2_with fail
 refine cm (HC.out _) ?_
 rintro e w1 ⟨rfl, rfl⟩
 clear HC
 go_wp2_with fail
 go_ret
 exact ⟨rfl, (qb.alloc qv _).drew⟩
theorem fx_is {l : List Tk} {i : Nat} {s : ByteArray} (hs : s ≠ zzx) : fx l i = s ↔ ((tkA l i).kd = 2 ∨ (tkA l i).kd = 5) ∧ (tkA l i).tx = s := by
 unfold fx
 by_cases h : (tkA l i).kd = 2 ∨ (tkA l i).kd = 5
 ·
  rw [if_pos (by simpa using h)]; exact ⟨fun e => ⟨h, e⟩, fun e => e.2⟩
 ·
  rw [if_neg (by simpa using h)]; exact ⟨fun e => absurd e.symm hs, fun e => absurd e.1 h⟩
theorem zzy (c : PC) (w : World) (i : Nat) (s : ByteArray) (hs : s ≠ zzx) (h : Ps c w i 0 (-1)) :
  Calls Tryz.prog 99 #[pPtr c, .string s] w fun e w' => e = .returned (.bool (decide (fx c.l i = s))) ∧ Below w.heap.size w w' := by
 have h0 := h.c0
 have h1 := h.c1
 obtain ⟨k0, k1, k2, k3⟩ := h.toks
 have hlt : (i : Int) < (c.l.length : Int) := by have := h.lt; omega
 have hR := h.rlt
 have hT := h.base.tlt
 have HC := qh (fun o => zy8 c (w.alloc o).drew i 0 (-1) (h.alloc o).drew)
 have HF := qh (fx_is (l := c.l) (i := i) hs)
 clear h
 generalize tkA c.l i = t at k0 k1 k2 k3 HF
 by_cases h2 : t.kd = 2
 ·
  have b2 : (t.kd == 2) = true := beq_iff_eq.2 h2
  by_cases ht : t.tx = s
  ·
   have bt := tl_eq ht; have hd : decide (fx c.l i = s) = true := decide_eq_true (HF.out.2 ⟨Or.inl h2, ht⟩); rw [hd]; clear hd ht h2 HF; go_enter Tryz.func99, Tryz.ntmps99; go_wp2_with fail
   go_region
   go_wp2_with fail; refine cm (HC.out _) ?_; rintro e w1 ⟨rfl, rfl⟩; clear HC; go_wp2_with fail; go_ret; exact ⟨rfl, (qb.alloc qv _).drew⟩
  ·
   have bt := zp2 ht; have hd : decide (fx c.l i = s) = false := decide_eq_false fun e => ht (HF.out.1 e).2; rw [hd]; clear hd ht h2 HF; go_enter Tryz.func99, Tryz.ntmps99; go_wp2_with fail
   go_region
   go_wp2_with fail; refine cm (HC.out _) ?_; rintro e w1 ⟨rfl, rfl⟩; clear HC; go_wp2_with fail; go_ret; exact ⟨rfl, (qb.alloc qv _).drew⟩
 ·
  have b2 : (t.kd == 2) = false := beq_eq_false_iff_ne.2 h2
  by_cases h5 : t.kd = 5
  ·
   have b5 : (t.kd == 5) = true := beq_iff_eq.2 h5
   by_cases ht : t.tx = s
   ·
    have bt := tl_eq ht; have hd : decide (fx c.l i = s) = true := decide_eq_true (HF.out.2 ⟨Or.inr h5, ht⟩); rw [hd]; clear hd ht h2 h5 HF; go_enter Tryz.func99, Tryz.ntmps99; go_wp2_with fail
    go_region
    go_wp2_with fail; refine cm (HC.out _) ?_; rintro e w1 ⟨rfl, rfl⟩; clear HC; go_wp2_with fail; go_ret; exact ⟨rfl, (qb.alloc qv _).drew⟩
   ·
    have bt := zp2 ht; have hd : decide (fx c.l i = s) = false := decide_eq_false fun e => ht (HF.out.1 e).2; rw [hd]; clear hd ht h2 h5 HF; go_enter Tryz.func99, Tryz.ntmps99; go_wp2_with fail
    go_region
    go_wp2_with fail; refine cm (HC.out _) ?_; rintro e w1 ⟨rfl, rfl⟩; clear HC; go_wp2_with fail; go_ret; exact ⟨rfl, (qb.alloc qv _).drew⟩
  ·
   have b5 : (t.kd == 5) = false := beq_eq_false_iff_ne.2 h5; have hd : decide (fx c.l i = s) = false := decide_eq_false fun e => by have := (HF.out.1 e).1; omega
   rw [hd]; clear hd h2 h5 HF; go_enter Tryz.func99, Tryz.ntmps99; go_wp2_with fail
   go_region
   go_wp2_with fail; refine cm (HC.out _) ?_; rintro e w1 ⟨rfl, rfl⟩; clear HC; go_wp2_with fail; go_ret; exact ⟨rfl, (qb.alloc qv _).drew⟩
theorem zv7 (c : PC) (w : World) (i : Nat) (er pl : Int) (he : er ≠ 0) (s : ByteArray) (h : Ps c w i er pl) :
  Calls Tryz.prog 101 #[pPtr c, .string s] w fun e w' => e = .returned (.bool false) ∧ Below w.heap.size w w' := by
 have HC := qh (rnext_old c w i er pl he s h)
 clear h
 go_enter Tryz.func101, Tryz.ntmps101
 go_wp2_with fail
 refine cm HC.out ?_
 rintro e w1 ⟨rfl, hb⟩
 have HB := qh hb
 clear HC hb
 go_wp2_with fail
 go_ret
 exact ⟨rfl, HB.out⟩
theorem zz1 (c : PC) (w : World) (i : Nat) (s : ByteArray) (hs : s ≠ zzx) (hf : ¬ fx c.l i = s) (h : Ps c w i 0 (-1)) :
  Calls Tryz.prog 101 #[pPtr c, .string s] w fun e w' => e = .returned (.bool false) ∧ Below w.heap.size w w' := by
 have hc := zzy c w i s hs h
 rw [decide_eq_false hf] at hc
 have HC := qh hc
 clear h hc hf
 go_enter Tryz.func101, Tryz.ntmps101
 go_wp2_with fail
 refine cm HC.out ?_
 rintro e w1 ⟨rfl, hb⟩
 have HB := qh hb
 clear HC hb
 go_wp2_with fail
 go_ret
 exact ⟨rfl, HB.out⟩
theorem zxx (c : PC) (w : World) (i : Nat) (s : ByteArray) (hs : s ≠ zzx) (hf : fx c.l i = s) (h : Ps c w i 0 (-1)) :
  Calls Tryz.prog 101 #[pPtr c, .string s] w fun e w' => e = .returned (.bool true) ∧ Ps c w' (i + 1) 0 (-1) ∧ Ap c.P w.heap.size w w' := by
 have hc := zzy c w i s hs h
 rw [decide_eq_true hf] at hc
 have hl := zbj h.base.ends h.lt hf hs
 have hl3 := h.base.len
 have HC := qh hc
 have HP := qh h
 clear h hc hf
 go_enter Tryz.func101, Tryz.ntmps101
 go_wp2_with fail
 refine cm HC.out ?_
 rintro e w1 ⟨rfl, hb⟩
 have hp := HP.out.later hb
 have h1 := hp.c1
 have f1 := hp.fz 1
 have HB := qh hb
 have HP1 := qh hp
 clear HC hb hp
 go_wp2_with fail
 go_ret
 have hn : ((i : Int) + 1) = (((i + 1 : Nat)) : Int) := by omega
 exact ⟨rfl, by rw [hn]; exact HP1.out.step hl, (Ap.of HB.out).trans ((Ap.refl c.P _ w1).setCell (p := ⟨c.P, 1, none⟩) (Or.inr rfl) _)⟩
theorem ppU {c : PC} {w w' : World} {i : Nat} (h : Ps c w' i 0 (-1)) (ha : Ap c.P w.heap.size w w') : zj6 c w (fun _ (_ : Unit) v => ZU v) ZU (.ok () i) (.returned (.tuple #[])) w' := ⟨⟨_, rfl, rfl⟩, h, ha⟩
theorem zx9 (c : PC) (w : World) (i : Nat) (er pl : Int) (he : er ≠ 0) (s : ByteArray) (h : Ps c w i er pl) :
  Calls Tryz.prog 106 #[pPtr c, .string s] w fun e w' => e = .returned (.tuple #[]) ∧ w' = w := by
 have hc := zy8 c w i er pl h
 rw [beq_eq_false_iff_ne.2 he] at hc
 have HC := qh hc
 clear h hc
 go_enter Tryz.func106, Tryz.ntmps106
 go_wp2_with fail
 refine cm HC.out ?_
 rintro e w1 ⟨rfl, rfl⟩
 clear HC
 go_wp2_with fail
 go_end0
 exact ⟨rfl, rfl⟩
theorem zx5 (c : PC) (w : World) (i : Nat) (s : ByteArray) (hs : s ≠ zzx) (h : Ps c w i 0 (-1)) :
  Calls Tryz.prog 106 #[pPtr c, .string s] w (zj6 c w (fun _ (_ : Unit) v => ZU v) ZU (zz0 c.l s i)) := by
 have HC := qh (zy8 c w i 0 (-1) h)
 by_cases hf : fx c.l i = s
 ·
  have hm : zz0 c.l s i = .ok () (i + 1) := by unfold zz0; rw [if_pos hf]
  rw [hm]; have HC2 := qh (zxx c w i s hs hf h); clear h hm hf; go_enter Tryz.func106, Tryz.ntmps106; go_wp2_with fail; refine cm HC.out ?_; rintro e w1 ⟨rfl, rfl⟩; clear HC; go_wp2_with fail; refine cm HC2.out ?_
  rintro e w2 ⟨rfl, hp, ha⟩; have HP := qh hp; have HA := qh ha; clear HC2 hp ha; go_wp2_with fail
  go_end0
  exact ppU HP.out HA.out
 ·
  have hm : zz0 c.l s i = .bad 3 (tkA c.l i).pl := by unfold zz0 badF; rw [if_neg hf]
  rw [hm]; have HC2 := qh (zz1 c w i s hs hf h); have HP := qh h; clear h hm hf; go_enter Tryz.func106, Tryz.ntmps106; go_wp2_with fail; refine cm HC.out ?_; rintro e w1 ⟨rfl, rfl⟩; clear HC; go_wp2_with fail
  refine cm HC2.out ?_; rintro e w2 ⟨rfl, hb⟩; have HC3 := qh (zwv c w2 i 3 (by decide) (HP.out.later hb)); have HB := qh hb; clear HC2 hb; go_wp2_with fail; refine cm HC3.out ?_
  rintro e w3 ⟨⟨v, rfl, q, rfl⟩, hp, he, ha⟩; have HP3 := qh hp; have HA := qh ((Ap.of (R := c.P) HB.out).next ha); clear HC3 hp ha; go_wp2_with fail
  go_end0
  exact ⟨⟨_, rfl, rfl⟩, HP3.out, by decide, HA.out⟩
theorem rident_old (c : PC) (w : World) (i : Nat) (er pl : Int) (he : er ≠ 0) (h : Ps c w i er pl) :
  Calls Tryz.prog 102 #[pPtr c] w fun e w' => e = .returned (.string ⟨#[]⟩) ∧ w' = w := by
 have hc := zy8 c w i er pl h
 rw [beq_eq_false_iff_ne.2 he] at hc
 have HC := qh hc
 clear h hc
 go_enter Tryz.func102, Tryz.ntmps102
 go_wp2_with fail
 refine cm HC.out ?_
 rintro e w1 ⟨rfl, rfl⟩
 clear HC
 go_wp2_with fail
 go_ret
 exact ⟨rfl, rfl⟩
abbrev NT (_ : World) (x : ByteArray) (v : Value) : Prop := v = .string x
theorem zv0 (c : PC) (w : World) (i : Nat) (h : Ps c w i 0 (-1)) :
  Calls Tryz.prog 102 #[pPtr c] w (zj6 c w NT ZT (zjq c.l i)) := by
 have HC := qh (zy8 c w i 0 (-1) h)
 have h0 := h.c0
 have h1 := h.c1
 have f1 := h.fz 1
 obtain ⟨k0, k1, k2, k3⟩ := h.toks
 have hlt : (i : Int) < (c.l.length : Int) := by have := h.lt; omega
 have hl3 := h.base.len
 have hR := h.rlt
 have hT := h.base.tlt
 have HP := qh h
 have hne := h.base.ntb
 by_cases hk : (tkA c.l i).kd = 1
 ·
  have hm : zjq c.l i = .ok (tkA c.l i).tx (i + 1) := by unfold zjq; rw [if_pos hk]
  rw [hm]; have hl : i + 1 < c.l.length := zk7 h.base.ends h.lt (by rw [hk]; decide)
  rw [hk] at k0; clear h hm hk
  generalize tkA c.l i = t at k0 k1 k2 k3
  go_enter Tryz.func102, Tryz.ntmps102; go_wp2_with fail; refine cm HC.out ?_; rintro e w1 ⟨rfl, rfl⟩; clear HC; go_wp2_with fail
  go_region
  go_wp2_with fail; have m1 : (w1.setCell ⟨c.P, 1, none⟩ (.int .i64 ((i : Int) + 1))).cell? ⟨c.tb, i * 4 + 1, none⟩ = some (.string t.tx) := by
   rw [World.cell?_of_block (w := w1) (Below.heap_setCell w1 ⟨c.P, 1, none⟩ _ c.tb hne)]; exact k1
  go_region
  go_wp2_with fail; go_ret; have hn : ((i : Int) + 1) = (((i + 1 : Nat)) : Int) := by omega
  refine ⟨⟨_, rfl, rfl⟩, ?_, ?_⟩
  ·
   rw [hn]; exact (HP.out.step hl).drew.drew
  ·
   exact (((Ap.refl c.P _ w1).setCell (p := ⟨c.P, 1, none⟩) (Or.inr rfl) _).drew).drew
 ·
  have hm : zjq c.l i = .bad 3 (tkA c.l i).pl := by unfold zjq badF; rw [if_neg hk]
  rw [hm]; have b1 : ((tkA c.l i).kd != 1) = true := by rw [bne_iff_ne]; exact hk
  have HC3 := qh (zwv c w.drew i 3 (by decide) h.drew); clear h hm hk; go_enter Tryz.func102, Tryz.ntmps102; go_wp2_with fail; refine cm HC.out ?_; rintro e w1 ⟨rfl, rfl⟩; clear HC; go_wp2_with fail
  go_region
  go_wp2_with fail; refine cm HC3.out ?_; rintro e w3 ⟨⟨v, rfl, q, rfl⟩, hp, he, ha⟩; have HP3 := qh hp; have HA := qh (Ap.next (Ap.refl c.P w1.heap.size w1).drew ha); clear HC3 hp ha; go_wp2_with fail; go_ret
  exact ⟨⟨_, rfl, _, rfl⟩, HP3.out, by decide, HA.out⟩
end Go.Proofs.YtodmgaikhbmlnaaGreatDoor
