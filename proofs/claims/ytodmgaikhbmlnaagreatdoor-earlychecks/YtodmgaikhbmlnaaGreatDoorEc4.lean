/-
  Parts of proofs that stand more than once.
-/
import Derived.Test.YtodmgaikhbmlnaaGreatDoorEc3
set_option maxRecDepth 100000
set_option maxHeartbeats 16000000
namespace Go.Proofs.YtodmgaikhbmlnaaGreatDoor
open Go.RowKit
theorem zrqbg.zrdmX {G : Prop} (h : G := by
  clear hb3 HC HA2 HR2 HK2; have HC := hide (node_any 1 noText (.slice va acc.length vc) w3 ⟨_, _, _, rfl⟩); go_wp2_with fail; refine cm HC.out ?_; rintro e wn ⟨rfl, rfl⟩; clear HC
  obtain ⟨m1, m2, m3⟩ := made0 HR3.out HA3.out HK3.out 1 noText _ rfl
  have HC := hide (code_any w.heap.size (.mk 1 noText 0 acc) (nPtr w3.heap.size) _ m1 (fun k1 r1 hk1 h15 => unhide HEX k1 (by have hk2 : acc = k1 :: r1 := hk1; rw [hk2]; simp) h15))
  have HM2 := hide m2; have HM3 := hide m3; clear m1 m2 m3; go_wp2_with fail; refine cm HC.out ?_; rintro e w5 ⟨rfl, hev, hbw⟩; have HEV := hide hev; have HR5 := hide (HM2.out.ap hbw HLO.out)
  have HA5 := hide (HM3.out.trans (Ap.of hbw)); clear hev hbw; go_wp2_with fail; go_ret; exact ppOk HQ.out.symm HEV.out.nv HR5.out HA5.out
 ) : G := h
theorem zrqbh.zrcdX {G : Prop} (h : G := by
  have HNN := hide hn; have H2 : Hid (w.heap.size + 2 ≤ w2.heap.size) := by show _ ≤ _; omega
  clear hn hrd ha c0 c1 HC HN HP hszR hsz2 hR; go_wp2_with fail; refine leaves_cons (f := 110) (args := #[.pointer (some ⟨w.heap.size, 0, none⟩), .pointer (some ⟨w.heap.size + 1, 0, none⟩)]) (by simp) (by simp [go_sem]) ?_
  refine (catch_idle ⟨w.heap.size, 0, none⟩ ⟨w.heap.size + 1, 0, none⟩ _).mono ?_; rintro e u' w'' ⟨rfl, rfl, rfl⟩
  show Leaves _ _ _ _ [] .returning _
  refine ⟨.tuple #[nPtr p, .nilIface], by simp [results, Tryz.results51, go_sem, d0, d1], p, rfl, ?_, ?_⟩
  ·
   refine NAt.mono (J := From w.heap.size) (fun b hb _ => ?_) _ _ (NAt.later (I := fun b => w2.heap.size ≤ b) (fun b hb _ => ?_) _ _ HNN.out)
   ·
    have h2 := unhide H2; have h3 : w2.heap.size ≤ b := hb
    show w.heap.size ≤ b
    omega
   ·
    have h2 := unhide H2; have h3 : w2.heap.size ≤ b := hb
    rw [Below.heap_setCell _ ⟨w.heap.size + 1, 0, none⟩ _ b (by show b ≠ w.heap.size + 1; omega), Below.heap_setCell _ ⟨w.heap.size, 0, none⟩ _ b (by show b ≠ w.heap.size; omega)]
  ·
   exact (HBW.out.setCell (p := ⟨w.heap.size, 0, none⟩) (Nat.le_refl _) _).setCell (p := ⟨w.heap.size + 1, 0, none⟩) (Nat.le_succ _) _
 ) : G := h
theorem zrqbh.zrdtX {G : Prop} (h : G := by
  obtain ⟨⟨v, rfl, p, rfl, hn⟩, hrd, ha⟩ := hp; exact zrcd
 ) : G := h
theorem zrqbi.zrcdX {G : Prop} (h : G := by
  have H2 : Hid (w.heap.size + 2 ≤ w2.heap.size) := by show _ ≤ _; omega
  have h3l : w.heap.size + 1 < w3.heap.size := lt_of_heap c1; have C0 := hide c0; have C1 := hide c1; clear ha c0 c1 HC HN HP hszR hsz2 hR H2
  refine leaves_cons (f := 110) (args := #[.pointer (some ⟨w.heap.size, 0, none⟩), .pointer (some ⟨w.heap.size + 1, 0, none⟩)]) (by simp) (by simp [go_sem]) ?_
  refine (catch_fault w.heap.size (w.heap.size + 1) er pl w3 _ _ d0 d0f d1 d1f (by omega) (by omega) h3l).mono ?_; rintro e u' w'' ⟨rfl, rfl, rfl⟩
  show Leaves _ _ _ _ [] .returning _
  have g0 : ((((w3.setCell ⟨w.heap.size, 0, none⟩ (.pointer none)).setCell ⟨w.heap.size + 1, 0, none⟩ (.iface 129 (.pointer (some ⟨w3.heap.size + 1, 0, none⟩)))).alloc (.cells #[.int .i64 er, .int .i64 (pl : Int)] 127)).alloc (.cells #[.int .i64 er, .int .i64 (pl : Int)] 130)).drew.heap[w.heap.size]? = some (.cells #[.pointer none] 22 (0, 0)) := by
   show ((((w3.setCell ⟨w.heap.size, 0, none⟩ (.pointer none)).setCell ⟨w.heap.size + 1, 0, none⟩ (.iface 129 (.pointer (some ⟨w3.heap.size + 1, 0, none⟩)))).alloc (.cells #[.int .i64 er, .int .i64 (pl : Int)] 127)).alloc (.cells #[.int .i64 er, .int .i64 (pl : Int)] 130)).heap[w.heap.size]? = _
   rw [Below.heap_alloc _ _ _ (by simp; omega), Below.heap_alloc _ _ _ (by simp; omega), Below.heap_setCell _ ⟨w.heap.size + 1, 0, none⟩ _ _ (by show w.heap.size ≠ w.heap.size + 1; omega), heap_set C0.out]
   rfl
  have g1 : ((((w3.setCell ⟨w.heap.size, 0, none⟩ (.pointer none)).setCell ⟨w.heap.size + 1, 0, none⟩ (.iface 129 (.pointer (some ⟨w3.heap.size + 1, 0, none⟩)))).alloc (.cells #[.int .i64 er, .int .i64 (pl : Int)] 127)).alloc (.cells #[.int .i64 er, .int .i64 (pl : Int)] 130)).drew.heap[w.heap.size + 1]? = some (.cells #[.iface 129 (.pointer (some ⟨w3.heap.size + 1, 0, none⟩))] 29 (0, 0)) := by
   show ((((w3.setCell ⟨w.heap.size, 0, none⟩ (.pointer none)).setCell ⟨w.heap.size + 1, 0, none⟩ (.iface 129 (.pointer (some ⟨w3.heap.size + 1, 0, none⟩)))).alloc (.cells #[.int .i64 er, .int .i64 (pl : Int)] 127)).alloc (.cells #[.int .i64 er, .int .i64 (pl : Int)] 130)).heap[w.heap.size + 1]? = _
   have hs : (w3.setCell ⟨w.heap.size, 0, none⟩ (.pointer none)).heap[w.heap.size + 1]? = some (.cells #[.nilIface] 29 (0, 0)) := by
    rw [Below.heap_setCell _ ⟨w.heap.size, 0, none⟩ _ _ (by show w.heap.size + 1 ≠ w.heap.size; omega)]; exact unhide C1
   rw [Below.heap_alloc _ _ _ (by simp; omega), Below.heap_alloc _ _ _ (by simp; omega), heap_set hs]
   rfl
  have e0 : ((((w3.setCell ⟨w.heap.size, 0, none⟩ (.pointer none)).setCell ⟨w.heap.size + 1, 0, none⟩ (.iface 129 (.pointer (some ⟨w3.heap.size + 1, 0, none⟩)))).alloc (.cells #[.int .i64 er, .int .i64 (pl : Int)] 127)).alloc (.cells #[.int .i64 er, .int .i64 (pl : Int)] 130)).drew.cell? ⟨w.heap.size, 0, none⟩ = some (.pointer none) := by rw [cell_of g0]; rfl
  have e1 : ((((w3.setCell ⟨w.heap.size, 0, none⟩ (.pointer none)).setCell ⟨w.heap.size + 1, 0, none⟩ (.iface 129 (.pointer (some ⟨w3.heap.size + 1, 0, none⟩)))).alloc (.cells #[.int .i64 er, .int .i64 (pl : Int)] 127)).alloc (.cells #[.int .i64 er, .int .i64 (pl : Int)] 130)).drew.cell? ⟨w.heap.size + 1, 0, none⟩ = some (.iface 129 (.pointer (some ⟨w3.heap.size + 1, 0, none⟩))) := by rw [cell_of g1]; rfl
  obtain ⟨WZ, hWZ⟩ : ∃ WZ, WZ = ((((w3.setCell ⟨w.heap.size, 0, none⟩ (.pointer none)).setCell ⟨w.heap.size + 1, 0, none⟩ (.iface 129 (.pointer (some ⟨w3.heap.size + 1, 0, none⟩)))).alloc (.cells #[.int .i64 er, .int .i64 (pl : Int)] 127)).alloc (.cells #[.int .i64 er, .int .i64 (pl : Int)] 130)).drew := ⟨_, rfl⟩
  rw [← hWZ] at e0 e1; rw [← hWZ]; refine ⟨.tuple #[.pointer none, .iface 129 (.pointer (some ⟨w3.heap.size + 1, 0, none⟩))], by simp [results, Tryz.results51, go_sem, e0, e1], w3.heap.size + 1, rfl, ?_, by omega, ?_⟩
  all_goals rw [hWZ]
  ·
   have := heap_new (((w3.setCell ⟨w.heap.size, 0, none⟩ (.pointer none)).setCell ⟨w.heap.size + 1, 0, none⟩ (.iface 129 (.pointer (some ⟨w3.heap.size + 1, 0, none⟩)))).alloc (.cells #[.int .i64 er, .int .i64 (pl : Int)] 127)) (.cells #[.int .i64 er, .int .i64 (pl : Int)] 130)
   rw [show ((((w3.setCell ⟨w.heap.size, 0, none⟩ (.pointer none)).setCell ⟨w.heap.size + 1, 0, none⟩ (.iface 129 (.pointer (some ⟨w3.heap.size + 1, 0, none⟩)))).alloc (.cells #[.int .i64 er, .int .i64 (pl : Int)] 127)).heap.size) = w3.heap.size + 1 by simp] at this
   exact this
  ·
   have hs := HBW.out.size
   exact (((((HBW.out.setCell (p := ⟨w.heap.size, 0, none⟩) (Nat.le_refl _) _).setCell (p := ⟨w.heap.size + 1, 0, none⟩) (Nat.le_succ _) _).alloc (by simpa using hs) _).alloc (by simp; omega) _).drew)
 ) : G := h
theorem zrqbi.zrdtX {G : Prop} (h : G := by
  obtain ⟨rfl, ha⟩ := hp; exact zrcd
 ) : G := h
theorem zrqbj.zrboX {G : Prop} (h : G := by
  have HC := hide (node_any 23 x1 (.slice none 0 0) w1 ⟨_, _, _, rfl⟩); go_wp2_with fail; refine cm HC.out ?_; rintro e wn ⟨rfl, rfl⟩; clear HC; go_wp2_with fail; go_ret
  obtain ⟨m1, m2, m3⟩ := made0 HR1.out HA1.out (KV.nil _ _) 23 x1 _ rfl; exact ppOk HS.out.symm m1.nv m2 m3
 ) : G := h
theorem zrqbk.zrcgX {G : Prop} (h : G := by
  have HC := hide (node_any 39 x1 (.slice (some ⟨w3.heap.size, 0, none⟩) 1 1) (w3.alloc (.cells #[nPtr p3] 22)) ⟨_, _, _, rfl⟩); go_wp2_with fail; refine cm HC.out ?_; rintro e wn ⟨rfl, rfl⟩; clear HC; go_wp2_with fail
  go_ret; obtain ⟨m1, m2, m3⟩ := made HR3.out HA3.out (NAts.cons HN3.out NAts.nil) (by simp [maxLen]) #[nPtr p3] rfl 1 rfl 39 x1 (w3.heap.size + 1) rfl; exact ppOk HS.out.symm m1.nv m2 m3
 ) : G := h
theorem zrqbk.zrdeX {G : Prop} (h : G := by
  clear hrd ha HA1 HR1
  cases hr : deepP c.l F.vl d j2 with
  | out =>
   exact zbak
  | bad er p =>
   have HC := hide (deepV hF w2 d j2 HR2.out (by rw [hr]; nofun))
   exact zbcj
  | ok x3 j3 =>
   have HC := hide (deepV hF w2 d j2 HR2.out (by rw [hr]; nofun))
   exact zrcg
 ) : G := h
theorem zrqbk.zrboX {G : Prop} (h : G := by
  cases hr : mustP c.l tColon j1 with
  | out =>
   exact zbak
  | bad er p =>
   have HC := hide (must_any c tColon w1 j1 d HR1.out (by decide)); exact zbck
  | ok x2 j2 =>
   have HC := hide (must_any c tColon w1 j1 d HR1.out (by decide)); exact zrde
 ) : G := h
theorem zrqbl.zrboX {G : Prop} (h : G := by
  have HC := hide (node_any 16 noText (.slice none 0 0) w1 ⟨_, _, _, rfl⟩); go_wp2_with fail; refine cm HC.out ?_; rintro e wn ⟨rfl, rfl⟩; clear HC; go_wp2_with fail; go_ret
  obtain ⟨m1, m2, m3⟩ := made0 HR1.out HA1.out (KV.nil _ _) 16 noText _ rfl; exact ppOk HS.out.symm m1.nv m2 m3
 ) : G := h
theorem zrqbm.zrcsX {G : Prop} (h : G := by
  go_wp2_with fail; go_ret; exact ppOk HS.out.symm ⟨p1, rfl, HN1.out⟩ HR1.out HA1.out
 ) : G := h
theorem zrqbn.zrdfX {G : Prop} (h : G := by
  have HN1 := hide (KV.mono hn1.1 HA0.out.size); clear hn1; clear hrd ha HA0 HR0; obtain ⟨va, vc, rfl⟩ := HN1.out.shape; have HC := hide (node_any 40 noText (.slice va x1.length vc) w1 ⟨_, _, _, rfl⟩); go_wp2_with fail
  refine cm HC.out ?_; rintro e wn ⟨rfl, rfl⟩; clear HC; go_wp2_with fail; go_ret; obtain ⟨m1, m2, m3⟩ := made0 HR1.out HA1.out HN1.out 40 noText _ rfl; exact ppOk HS.out.symm m1.nv m2 m3
 ) : G := h
theorem zrqbo.zrdfX {G : Prop} (h : G := by
  have HN1 := hide (KV.mono hn1.1 HA0.out.size); clear hn1; clear hrd ha HA0 HR0; obtain ⟨va, vc, rfl⟩ := HN1.out.shape; have HC := hide (node_any 38 noText (.slice va x1.length vc) w1 ⟨_, _, _, rfl⟩); go_wp2_with fail
  refine cm HC.out ?_; rintro e wn ⟨rfl, rfl⟩; clear HC; go_wp2_with fail; go_ret; obtain ⟨m1, m2, m3⟩ := made0 HR1.out HA1.out HN1.out 38 noText _ rfl; exact ppOk HS.out.symm m1.nv m2 m3
 ) : G := h
theorem zrqbp.zrbtX {G : Prop} (h : G := by
  have HC := hide (node_any 5 x2 (.slice (some ⟨wc.heap.size, 0, none⟩) 2 2) (wc.alloc (.cells #[nPtr p3, nPtr pb] 22)) ⟨_, _, _, rfl⟩); go_wp2_with fail; refine cm HC.out ?_; rintro e wn ⟨rfl, rfl⟩; clear HC
  go_wp2_with fail; go_ret; obtain ⟨m1, m2, m3⟩ := made HRc.out HAc.out (NAts.cons HNP.out (NAts.cons HNB.out NAts.nil)) (by simp [maxLen]) #[nPtr p3, nPtr pb] rfl 2 rfl 5 x2 (wc.heap.size + 1) rfl
  exact ppOk HS.out.symm m1.nv m2 m3
 ) : G := h
theorem zrqbp.zrcgX {G : Prop} (h : G := by
  exact zeak
 ) : G := h
theorem zrqbp.zrdeX {G : Prop} (h : G := by
  clear hrd ha HA1 HR1; exact zeah
 ) : G := h
theorem zrqbp.zrboX {G : Prop} (h : G := by
  cases hr : nameP c.l j1 with
  | out =>
   exact zbak
  | bad er p =>
   have HC := hide (name_any c w1 j1 d HR1.out); exact zbck
  | ok x2 j2 =>
   have HC := hide (name_any c w1 j1 d HR1.out); exact zrde
 ) : G := h
theorem zrqbq.zrbtX {G : Prop} (h : G := by
  have HC := hide (node_any 37 x2 (.slice (some ⟨wc.heap.size, 0, none⟩) 2 2) (wc.alloc (.cells #[nPtr p3, nPtr pb] 22)) ⟨_, _, _, rfl⟩); go_wp2_with fail; refine cm HC.out ?_; rintro e wn ⟨rfl, rfl⟩; clear HC
  go_wp2_with fail; go_ret; obtain ⟨m1, m2, m3⟩ := made HRc.out HAc.out (NAts.cons HNP.out (NAts.cons HNB.out NAts.nil)) (by simp [maxLen]) #[nPtr p3, nPtr pb] rfl 2 rfl 37 x2 (wc.heap.size + 1) rfl
  exact ppOk HS.out.symm m1.nv m2 m3
 ) : G := h
theorem zrqbq.zrcgX {G : Prop} (h : G := by
  exact zeak
 ) : G := h
theorem zrqbq.zrboX {G : Prop} (h : G := by
  have HC := hide (atName_any c w1 j1 d HR1.out)
  cases hb : isName c.l j1 with
  | true =>
   rw [hb] at HC HS; rw [if_pos rfl] at HS; clear hb; go_wp2_with fail; refine cm HC.out ?_; rintro e wq ⟨rfl, hbq⟩; clear HC; have HAq := hide (HA1.out.next (Ap.of hbq)); have HRq := hide (HR1.out.later hbq)
   clear hbq HA1 HR1
   cases hr : nameP c.l j1 with
   | out =>
    exact zbak
   | bad er p =>
    have HC := hide (name_any c wq j1 d HRq.out); exact zbdn
   | ok x2 j2 =>
    have HC := hide (name_any c wq j1 d HRq.out); rw [hr] at HC HS; simp only [bind_ok] at HS; clear hr; go_wp2_with fail; refine cm HC.out ?_; intro e w2 hp; obtain ⟨⟨v2, rfl, rfl⟩, hrd, ha⟩ := hp; clear HC
    have HA2 := hide (HAq.out.next ha); have HR2 := hide hrd; clear hrd ha HAq HRq; exact zeah
  | false =>
   rw [hb] at HC HS; rw [if_neg (by decide)] at HS; clear hb; go_wp2_with fail; refine cm HC.out ?_; rintro e wq ⟨rfl, hbq⟩; clear HC; have HAq := hide (HA1.out.next (Ap.of hbq)); have HRq := hide (HR1.out.later hbq)
   clear hbq HA1 HR1
   cases hr : paramsP c.l F j1 with
   | out =>
    exact zbak
   | bad er p =>
    have HC := hide (params_at (F := F) wq d j1 (by rw [hr]; nofun) HRq.out)
    exact zbdn
   | ok x2 j2 =>
    have HC := hide (params_at (F := F) wq d j1 (by rw [hr]; nofun) HRq.out)
    rw [hr] at HC HS; simp only [bind_ok] at HS; clear hr; go_wp2_with fail; refine cm HC.out ?_; intro e w2 hp; obtain ⟨⟨v2, rfl, p2, rfl, hn2⟩, hrd, ha⟩ := hp; clear HC; have HA2 := hide (HAq.out.next ha)
    have HR2 := hide hrd; have HN2 := hide (nat_mono hn2 HAq.out.size); clear hn2; clear hrd ha HAq HRq; have HNP := hide (NAt.mono (J := fun b => w.heap.size ≤ b ∧ b < w2.heap.size) (fun b hb hl => ⟨hb, hl⟩) _ _ HN2.out)
    cases hr : blockP c.l F d j2 with
    | out =>
     exact zbak
    | bad er p =>
     have HC := hide (block_any hF hN w2 d j2 _ rfl (by rw [hr]; nofun) HR2.out)
     exact zbcj
    | ok tb jb =>
     have HX := hide (blockP_exprOk hK hr); have HC := hide (block_any hF hN w2 d j2 _ rfl (by rw [hr]; nofun) HR2.out)
     rw [hr] at HC HS; simp only [bind_ok] at HS; clear hr; go_wp2_with fail; refine cm HC.out ?_; intro e wb hp; obtain ⟨⟨vb, rfl, hn⟩, hrd, ha⟩ := hp; clear HC; have HAb := hide (HA2.out.next ha); have HRb := hide hrd
     have HLb := hide HLT.out; replace HNP := hide (NAt.later (fun b hb _ => ha.block b hb.2 (by have h1 := unhide HLT; have h2 := hb.1; omega)) _ _ HNP.out)
     have HC := hide (code_any w2.heap.size tb vb wb hn HX.out); clear hn hrd ha; go_wp2_with fail; refine cm HC.out ?_; rintro e wc ⟨rfl, hev, hbw⟩; clear HC
     have HAc := hide (HAb.out.trans ((Ap.of hbw).mono HA2.out.size)); have HRc := hide (HRb.out.ap hbw HR2.out.base.size)
     replace HNP := hide (NAt.mono (J := From w.heap.size) (fun b hb _ => hb.1) _ _ (NAt.later (fun b hb _ => hbw.block b hb.2) _ _ HNP.out)); obtain ⟨pb, rfl, hnb⟩ := hev.nv; have HNB := hide (nat_mono hnb HA2.out.size)
     clear hev hbw hnb; have HC := hide (node_any 37 noText (.slice (some ⟨wc.heap.size, 0, none⟩) 2 2) (wc.alloc (.cells #[nPtr p2, nPtr pb] 22)) ⟨_, _, _, rfl⟩); go_wp2_with fail; refine cm HC.out ?_
     rintro e wn ⟨rfl, rfl⟩; clear HC; go_wp2_with fail; go_ret
     obtain ⟨m1, m2, m3⟩ := made HRc.out HAc.out (NAts.cons HNP.out (NAts.cons HNB.out NAts.nil)) (by simp [maxLen]) #[nPtr p2, nPtr pb] rfl 2 rfl 37 noText (wc.heap.size + 1) rfl; exact ppOk HS.out.symm m1.nv m2 m3
 ) : G := h
theorem zrqbr.zrdeX {G : Prop} (h : G := by
  replace HN1 := hide (nat_later HN1.out ha HLT.out); clear hrd ha HA1 HR1; have HC := hide (node_any 15 noText (.slice (some ⟨w2.heap.size, 0, none⟩) 1 1) (w2.alloc (.cells #[nPtr p1] 22)) ⟨_, _, _, rfl⟩)
  go_wp2_with fail; refine cm HC.out ?_; rintro e wn ⟨rfl, rfl⟩; clear HC; go_wp2_with fail; go_ret
  obtain ⟨m1, m2, m3⟩ := made HR2.out HA2.out (NAts.cons HN1.out NAts.nil) (by simp [maxLen]) #[nPtr p1] rfl 1 rfl 15 noText (w2.heap.size + 1) rfl; exact ppOk HS.out.symm m1.nv m2 m3
 ) : G := h
theorem zrqbr.zrlX {G : Prop} (h : G := by
  cases hr : deepP c.l F.vl d i with
  | out =>
   exact zbak
  | bad er p =>
   have HC := hide (deepV hF wq d i HRq.out (by rw [hr]; nofun))
   exact zbdn
  | ok x1 j1 =>
   have HC := hide (deepV hF wq d i HRq.out (by rw [hr]; nofun))
   rw [hr] at HC HS; simp only [bind_ok] at HS; clear hr; go_wp2_with fail; refine cm HC.out ?_; intro e w1 hp; obtain ⟨⟨v1, rfl, p1, rfl, hn1⟩, hrd, ha⟩ := hp; clear HC; have HA1 := hide (HAq.out.next ha)
   have HR1 := hide hrd; have HN1 := hide (nat_mono hn1 HAq.out.size); clear hn1; clear hrd ha HAq HRq
   cases hr : mustP c.l tSemi j1 with
   | out =>
    exact zbak
   | bad er p =>
    have HC := hide (must_any c tSemi w1 j1 d HR1.out (by decide)); exact zbck
   | ok x2 j2 =>
    have HC := hide (must_any c tSemi w1 j1 d HR1.out (by decide)); exact zrde
 ) : G := h
theorem zrqbr.zrdhX {G : Prop} (h : G := by
  exact zrl
 ) : G := h
theorem zrqbs.zrdhX {G : Prop} (h : G := by
  exact zbbl
 ) : G := h
theorem zrqbt.zrdX {G : Prop} (h : G := by
  have hi := unhide HJ; obtain ⟨hsr, hsa⟩ := stepped HRwt.out HAwt.out hi
  have HX := hide (madeN (hsr.alloc (.cells #[.int .i64 (tkA c.l i).kd, .string (tkA c.l i).tx, .int .i64 (tkA c.l i).n, .int .i64 ((tkA c.l i).pl : Int)] 123)) (hsa.alloc hsa.size (.cells #[.int .i64 (tkA c.l i).kd, .string (tkA c.l i).tx, .int .i64 (tkA c.l i).n, .int .i64 ((tkA c.l i).pl : Int)] 123)) 23 (tkA c.l i).tx 0 (wt.heap.size + 1) (by simp))
  clear hsr hsa
  have HC := hide (node_any 23 (tkA c.l i).tx (.slice none 0 0) (wt.alloc (.cells #[.int .i64 (tkA c.l i).kd, .string (tkA c.l i).tx, .int .i64 (tkA c.l i).n, .int .i64 ((tkA c.l i).pl : Int)] 123)) ⟨_, _, _, rfl⟩)
  exact zbdc
 ) : G := h
theorem zrqbt.zruX {G : Prop} (h : G := by
  exact zrd
 ) : G := h
theorem zrqbt.zrbiX {G : Prop} (h : G := by
  clear hsg; have HJ := hide (next_lt h.base.ends h.lt (by rw [hk]; decide))
  have b1 : ((tkA c.l i).kd == 1) = true := by rw [hk]; decide
  have b4 : ((tkA c.l i).kd == 4) = false := by rw [hk]; decide
  have b3 : ((tkA c.l i).kd == 3) = false := by rw [hk]; decide
  clear hk; exact zru
 ) : G := h
theorem zrqbu.zrdX {G : Prop} (h : G := by
  have hi := unhide HJ; obtain ⟨hsr, hsa⟩ := stepped HRwt.out HAwt.out hi
  have HX := hide (madeN (hsr.alloc (.cells #[.int .i64 (tkA c.l i).kd, .string (tkA c.l i).tx, .int .i64 (tkA c.l i).n, .int .i64 ((tkA c.l i).pl : Int)] 123)) (hsa.alloc hsa.size (.cells #[.int .i64 (tkA c.l i).kd, .string (tkA c.l i).tx, .int .i64 (tkA c.l i).n, .int .i64 ((tkA c.l i).pl : Int)] 123)) 18 (tkA c.l i).tx 0 (wt.heap.size + 1) (by simp))
  clear hsr hsa
  have HC := hide (node_any 18 (tkA c.l i).tx (.slice none 0 0) (wt.alloc (.cells #[.int .i64 (tkA c.l i).kd, .string (tkA c.l i).tx, .int .i64 (tkA c.l i).n, .int .i64 ((tkA c.l i).pl : Int)] 123)) ⟨_, _, _, rfl⟩)
  exact zbdc
 ) : G := h
theorem zrqbu.zruX {G : Prop} (h : G := by
  exact zrd
 ) : G := h
theorem zrqbu.zrbiX {G : Prop} (h : G := by
  clear hsg; have HJ := hide (next_lt h.base.ends h.lt (by rw [hk]; decide))
  have b1 : ((tkA c.l i).kd == 1) = false := by rw [hk]; decide
  have b4 : ((tkA c.l i).kd == 4) = true := by rw [hk]; decide
  have b3 : ((tkA c.l i).kd == 3) = false := by rw [hk]; decide
  clear hk; exact zru
 ) : G := h
theorem zrqbv.zrdX {G : Prop} (h : G := by
  have hi := unhide HJ; obtain ⟨hsr, hsa⟩ := stepped HRwt.out HAwt.out hi
  have HX := hide (madeN (hsr.alloc (.cells #[.int .i64 (tkA c.l i).kd, .string (tkA c.l i).tx, .int .i64 (tkA c.l i).n, .int .i64 ((tkA c.l i).pl : Int)] 123)) (hsa.alloc hsa.size (.cells #[.int .i64 (tkA c.l i).kd, .string (tkA c.l i).tx, .int .i64 (tkA c.l i).n, .int .i64 ((tkA c.l i).pl : Int)] 123)) 17 noText (tkA c.l i).n (wt.heap.size + 1) (by simp))
  clear hsr hsa; have HC := hide (node_any 17 noText (.slice none 0 0) (wt.alloc (.cells #[.int .i64 (tkA c.l i).kd, .string (tkA c.l i).tx, .int .i64 (tkA c.l i).n, .int .i64 ((tkA c.l i).pl : Int)] 123)) ⟨_, _, _, rfl⟩)
  exact zbdc
 ) : G := h
theorem zrqbv.zruX {G : Prop} (h : G := by
  exact zrd
 ) : G := h
theorem zrqbv.zrbiX {G : Prop} (h : G := by
  clear hsg; have HJ := hide (next_lt h.base.ends h.lt (by rw [hk]; decide))
  have b1 : ((tkA c.l i).kd == 1) = false := by rw [hk]; decide
  have b4 : ((tkA c.l i).kd == 4) = false := by rw [hk]; decide
  have b3 : ((tkA c.l i).kd == 3) = true := by rw [hk]; decide
  clear hk; exact zru
 ) : G := h
theorem zrqbw.zrdX {G : Prop} (h : G := by
  have HC := hide (fault_any c 3 (wt.alloc (.cells #[.int .i64 (tkA c.l i).kd, .string (tkA c.l i).tx, .int .i64 (tkA c.l i).n, .int .i64 ((tkA c.l i).pl : Int)] 123)) i d HRt2.out); go_wp2_with fail; refine cm HC.out ?_
  rintro e w9 ⟨rfl, hb9⟩; exact ⟨rfl, ppBad rfl (HAt2.out.next (Ap.of hb9))⟩
 ) : G := h
theorem zrqbw.zruX {G : Prop} (h : G := by
  exact zrd
 ) : G := h
theorem zrqbw.zrbiX {G : Prop} (h : G := by
  clear hsg; have b1 : ((tkA c.l i).kd == 1) = false := beq_eq_false_iff_ne.2 h1; have b4 : ((tkA c.l i).kd == 4) = false := beq_eq_false_iff_ne.2 h4; have b3 : ((tkA c.l i).kd == 3) = false := beq_eq_false_iff_ne.2 h3
  clear h1 h3 h4; exact zru
 ) : G := h
theorem zrqbx.zrbcX {G : Prop} (h : G := by
  have hi := unhide HJ; obtain ⟨hsr, hsa⟩ := stepped HRwt.out HAwt.out hi
  have HX := hide (madeN (hsr.alloc (.cells #[.int .i64 (tkA c.l i).kd, .string (tkA c.l i).tx, .int .i64 (tkA c.l i).n, .int .i64 ((tkA c.l i).pl : Int)] 123)) (hsa.alloc hsa.size (.cells #[.int .i64 (tkA c.l i).kd, .string (tkA c.l i).tx, .int .i64 (tkA c.l i).n, .int .i64 ((tkA c.l i).pl : Int)] 123)) x.kd noText 0 (wt.heap.size + 1) (by simp))
  clear hsr hsa
  have HC := hide (node_any x.kd noText (.slice none 0 0) (wt.alloc (.cells #[.int .i64 (tkA c.l i).kd, .string (tkA c.l i).tx, .int .i64 (tkA c.l i).n, .int .i64 ((tkA c.l i).pl : Int)] 123)) ⟨_, _, _, rfl⟩); exact zbdc
 ) : G := h
theorem zrqbx.zrlX {G : Prop} (h : G := by
  have HC := hide (sign_any c 0 wq i d HRq.out); rw [HSG.out] at HC; simp only [sgVO, sgV, Option.isSome] at HC; go_wp2_with fail; refine cm HC.out ?_; rintro e ws ⟨rfl, hbws⟩; clear HC
  have HAws := hide (HAq.out.next (Ap.of hbws)); have HRws := hide (HRq.out.later hbws); clear hbws HRq HAq
  have HAs2 := hide (HAws.out.alloc HAws.out.size (.cells #[.string x.tx, .int .i64 x.kd, .int .i64 x.parts, .int .i64 x.str] 175))
  have HRs2 := hide (HRws.out.alloc (.cells #[.string x.tx, .int .i64 x.kd, .int .i64 x.parts, .int .i64 x.str] 175))
  have hs0 : (ws.alloc (.cells #[.string x.tx, .int .i64 x.kd, .int .i64 x.parts, .int .i64 x.str] 175)).heap[ws.heap.size]? = some (.cells #[.string x.tx, .int .i64 x.kd, .int .i64 x.parts, .int .i64 x.str] 175) := heap_new _ _
  have HS0 := hide hs0; clear hs0; have HC := hide (token_any c (ws.alloc (.cells #[.string x.tx, .int .i64 x.kd, .int .i64 x.parts, .int .i64 x.str] 175)) i d HRs2.out); unfold tkV at HC; go_wp2_with fail
  refine cm HC.out ?_; rintro e wt ⟨rfl, hbwt⟩; clear HC; have HAwt := hide (HAs2.out.next (Ap.of hbwt)); have HRwt := hide (HRs2.out.later hbwt); have hp0 := (hbwt.block ws.heap.size (by simp)).trans HS0.out
  obtain ⟨k0, k1, k2, k3, kf, klt⟩ := c160 hp0; have hc1 := HRwt.out.c1; have hcz := HRwt.out.fz; have hcl := HRwt.out.rlt; clear hbwt hp0; exact zrbc
 ) : G := h
theorem zrqbx.zrwX {G : Prop} (h : G := by
  exact zrl
 ) : G := h
theorem zrqbx.zrbiX {G : Prop} (h : G := by
  have HJ := hide (sgP_lt h.base.ends h.lt hsg); clear hsg; clear h; exact zrw
 ) : G := h
theorem zrqby.zrwX {G : Prop} (h : G := by
  exact zbbl
 ) : G := h
theorem zrqbz.zrbcX {G : Prop} (h : G := by
  have HPT : Hid ((wt.alloc (.cells #[.int .i64 (tkA c.l i).kd, .string (tkA c.l i).tx, .int .i64 (tkA c.l i).n, .int .i64 ((tkA c.l i).pl : Int)] 123)).heap[wt.heap.size]? = some (.cells #[.int .i64 (tkA c.l i).kd, .string (tkA c.l i).tx, .int .i64 (tkA c.l i).n, .int .i64 ((tkA c.l i).pl : Int)] 123)) := heap_new _ _
  have HTL : Hid (c.R < wt.heap.size) := Nat.lt_of_lt_of_le HLT.out HAwt.out.size; clear HRwt HAwt
  cases hr : F.pr 2 d i with
  | out =>
   exact zbak
  | bad er p =>
   have HC := hide (hF.pr 2 (by decide) (by decide) (wt.alloc (.cells #[.int .i64 (tkA c.l i).kd, .string (tkA c.l i).tx, .int .i64 (tkA c.l i).n, .int .i64 ((tkA c.l i).pl : Int)] 123)) d i _ rfl (by rw [hr]; nofun) HRt2.out)
   rw [hr] at HC HS; simp only [bind_bad] at HS; clear hr; go_wp2_with fail; refine cm HC.out ?_; intro e w' hp; obtain ⟨rfl, ha⟩ := hp; exact ⟨rfl, ppBad HS.out.symm (HAt2.out.next ha)⟩
  | ok x1 j1 =>
   have HC := hide (hF.pr 2 (by decide) (by decide) (wt.alloc (.cells #[.int .i64 (tkA c.l i).kd, .string (tkA c.l i).tx, .int .i64 (tkA c.l i).n, .int .i64 ((tkA c.l i).pl : Int)] 123)) d i _ rfl (by rw [hr]; nofun) HRt2.out)
   rw [hr] at HC HS; simp only [bind_ok] at HS; clear hr; go_wp2_with fail; refine cm HC.out ?_; intro e w1 hp; obtain ⟨⟨v1, rfl, p1, rfl, hn1⟩, hrd, ha⟩ := hp; clear HC; have HA1 := hide (HAt2.out.next ha)
   have HR1 := hide hrd; have HN1 := hide (nat_mono hn1 HAt2.out.size); clear hn1; replace HPT := hide ((ha.block _ (lt_of_heap HPT.out) (by have := unhide HTL; omega)).trans HPT.out)
   clear hrd ha HAt2 HRt2; have HC := hide (fixed_any c w1 j1 d HR1.out); go_wp2_with fail; refine cm HC.out ?_; rintro e wf ⟨rfl, hbwf⟩; clear HC; have HAwf := hide (HA1.out.next (Ap.of hbwf))
   have HRwf := hide (HR1.out.later hbwf); replace HN1 := hide (nat_later HN1.out (Ap.of hbwf) HLT.out); replace HPT := hide ((hbwf.block _ (lt_of_heap HPT.out)).trans HPT.out); clear hbwf HR1 HA1
   by_cases hx : fx c.l j1 = tEq
   ·
    rw [if_pos hx] at HS; have bx : ((fx c.l j1).toList == [61]) = true := tl_eqL (b := tEq) rfl hx; have HXX := hide hx; have HMU : Hid (mustP c.l tEq j1 = .ok () (j1 + 1)) := by
     show _ = _
     unfold mustP; rw [if_pos hx]
    clear hx; obtain ⟨u1, qs, hu1, _, _⟩ := HN1.out.opens; obtain ⟨f10, _, _, _, _⟩ := node_cells hu1; clear hu1
    by_cases h23 : x1.kd = 23
    ·
     have b23 : (x1.kd != 23) = false := by rw [h23]; rfl
     rw [if_pos (Or.inl h23)] at HS; clear h23; exact zcau
    ·
     have b23 : (x1.kd != 23) = true := bne_iff_ne.2 h23
     by_cases h36 : x1.kd = 36
     ·
      have b36 : (x1.kd != 36) = false := by rw [h36]; rfl
      rw [if_pos (Or.inr h36)] at HS; clear h23 h36; exact zcau
     ·
      have b36 : (x1.kd != 36) = true := bne_iff_ne.2 h36; rw [if_neg (fun hh => hh.elim h23 h36)] at HS; clear h23 h36; obtain ⟨t0, t1, t2, t3, tf, tlt⟩ := c113 HPT.out; have HC := hide (failAt_any c 1 (tkA c.l i) wf)
      unfold tkV at HC; go_wp2_with fail; refine cm HC.out ?_; rintro e w9 ⟨rfl, hb9⟩; exact ⟨rfl, ppBad HS.out.symm (HAwf.out.next (Ap.of hb9))⟩
   ·
    rw [if_neg hx] at HS; have bx : ((fx c.l j1).toList == [61]) = false := tl_neL (b := tEq) rfl hx; clear hx; go_wp2_with fail; go_ret; exact ppOk HS.out.symm ⟨p1, rfl, HN1.out⟩ HRwf.out HAwf.out
 ) : G := h
theorem zrqca.zrdgX {G : Prop} (h : G := by
  refine wh 2 (rPtr c) HX3.out ?_; refine wh 3 (rPtr c) HX3.out ?_; refine wh 4 (.func (.func 273) #[rPtr c] #[]) HX3.out ?_; refine wq1 5 fun K hK => ?_; go_simp; refine cm HC.out ?_; intro e w1 hp
  obtain ⟨⟨v1, rfl, p1, rfl, hn1⟩, hrd, ha⟩ := hp; clear HC; have HA1 := hide (HX2.out.next ha); have HR1 := hide hrd; have HN1 := hide (nat_mono hn1 HX2.out.size)
  have HS1 := hide ((ha.block _ (lt_of_heap HX3.out) (by have := unhide HTL; omega)).trans HX3.out)
  clear hn1 hrd ha; refine hK.out _ _ HS1.out (fun _ => ?_); clear hK K; refine wq1 6 fun K hK => ?_; go_simp; have HS2 := hide ((Below.heap_alloc w1 (.cells #[nPtr p1] 22) _ (lt_of_heap HS1.out)).trans HS1.out)
  refine hK.out _ _ HS2.out (fun _ => ?_); clear hK K; refine wq1 7 fun K hK => ?_; go_simp; refine cm (node_any x.kd noText (.slice (some ⟨w1.heap.size, 0, none⟩) 1 1) (w1.alloc (.cells #[nPtr p1] 22)) ⟨_, _, _, rfl⟩) ?_
  rintro e wn ⟨rfl, rfl⟩; have HS3 := hide ((Below.heap_alloc (w1.alloc (.cells #[nPtr p1] 22)) (nodeObj x.kd noText 0 (.slice (some ⟨w1.heap.size, 0, none⟩) 1 1)) _ (lt_of_heap HS2.out)).trans HS2.out)
  refine hK.out _ _ HS3.out (fun _ => ?_); clear hK K; refine wh 8 (nPtr (w1.alloc (.cells #[nPtr p1] 22)).heap.size) HS3.out ?_; refine wpAnyH_done (by kernel_rfl) ?_ _; go_simp; go_wp2_with fail; go_ret
  obtain ⟨m1, m2, m3⟩ := made HR1.out HA1.out (NAts.cons HN1.out NAts.nil) (by simp [maxLen]) #[nPtr p1] rfl 1 rfl x.kd noText (w1.heap.size + 1) rfl; exact ppOk HS.out.symm m1.nv m2 m3
 ) : G := h
theorem zrqca.zrddX {G : Prop} (h : G := by
  refine wh 2 (rPtr c) HX3.out ?_; refine wh 3 (rPtr c) HX3.out ?_; refine wh 4 (.func (.func 273) #[rPtr c] #[]) HX3.out ?_; refine wq1 5 fun K hK => ?_; go_simp; refine cm HC.out ?_; intro e w' hp; obtain ⟨rfl, ha⟩ := hp
  exact ⟨rfl, ppBad HS.out.symm (HX2.out.next ha)⟩
 ) : G := h
theorem zrqcb.zrdgX {G : Prop} (h : G := by
  refine wh 2 (nPtr p0) HX3.out ?_; refine wh 3 (rPtr c) HX3.out ?_; refine wh 4 (.pointer (some ⟨ws.heap.size, 3, none⟩)) HX3.out ?_
  refine wg 5 (.int .i64 x.str) rfl (Or.inl ⟨by kernel_rfl, fun W hW => by obtain ⟨_, _, _, kk, _, _⟩ := c160 hW; go_simp⟩) HX3.out ?_
  refine wg 6 (.int .i64 (x.str + 1)) rfl (Or.inl ⟨by kernel_rfl, fun W _ => by have hw : IntKind.i64.wrap (x.str + 1) = x.str + 1 := (by rw [IntKind.wrap_i64]; omega); go_simp; try exact hw⟩) HX3.out ?_
  refine wq1 7 fun K hK => ?_; go_simp; refine cm HC.out ?_; intro e w1 hp; obtain ⟨⟨v1, rfl, p1, rfl, hn1⟩, hrd, ha⟩ := hp; clear HC; have HA1 := hide (HX2.out.next ha); have HR1 := hide hrd; have hj2 := hrd.lt
  have HN1 := hide (nat_mono hn1 HX2.out.size); replace HN2 := hide (nat_later HN2.out ha HLT.out); have HS1 := hide ((ha.block _ (lt_of_heap HX3.out) (by have := unhide HTL; omega)).trans HX3.out)
  clear hn1 hrd ha; refine hK.out _ _ HS1.out (fun _ => ?_); clear hK K; refine wq1 8 fun K hK => ?_; go_simp; have HS2 := hide ((Below.heap_alloc w1 (.cells #[nPtr p0, nPtr p1] 22) _ (lt_of_heap HS1.out)).trans HS1.out)
  refine hK.out _ _ HS2.out (fun _ => ?_); clear hK K; refine wq1 9 fun K hK => ?_; go_simp
  refine cm (node_any x.kd noText (.slice (some ⟨w1.heap.size, 0, none⟩) 2 2) (w1.alloc (.cells #[nPtr p0, nPtr p1] 22)) ⟨_, _, _, rfl⟩) ?_; rintro e wn ⟨rfl, rfl⟩
  have HS3 := hide ((Below.heap_alloc (w1.alloc (.cells #[nPtr p0, nPtr p1] 22)) (nodeObj x.kd noText 0 (.slice (some ⟨w1.heap.size, 0, none⟩) 2 2)) _ (lt_of_heap HS2.out)).trans HS2.out)
  refine hK.out _ _ HS3.out (fun _ => ?_); clear hK K; refine wh 10 (nPtr (w1.alloc (.cells #[nPtr p0, nPtr p1] 22)).heap.size) HS3.out ?_; refine wpAnyH_done (by kernel_rfl) ?_ _; go_simp
  obtain ⟨m1, m2, m3⟩ := made HR1.out HA1.out (NAts.cons HN2.out (NAts.cons HN1.out NAts.nil)) (by simp [maxLen]) #[nPtr p0, nPtr p1] rfl 2 rfl x.kd noText (w1.heap.size + 1) rfl; obtain ⟨pm, hpm, hnm⟩ := m1.nv
  have hpe : pm = w1.heap.size + 1 := by simpa [nPtr] using hpm.symm
  subst hpe; have HM1 := hide hnm; have HM2 := hide m2; have HM3 := hide m3; clear m1 m2 m3 hpm hnm; go_wp2_with fail
  go_roundw
  case rel => exact ⟨k, .mk x.kd noText 0 [t, u], j2, w1.heap.size + 1, rfl, HQ.out, HM2.out, HM3.out, HM1.out⟩
  case measure => rw [nxt_eq HM2.out, nxt_eq HRM.out]; omega
 ) : G := h
theorem zrqcb.zrddX {G : Prop} (h : G := by
  refine wh 2 (nPtr p0) HX3.out ?_; refine wh 3 (rPtr c) HX3.out ?_; refine wh 4 (.pointer (some ⟨ws.heap.size, 3, none⟩)) HX3.out ?_
  refine wg 5 (.int .i64 x.str) rfl (Or.inl ⟨by kernel_rfl, fun W hW => by obtain ⟨_, _, _, kk, _, _⟩ := c160 hW; go_simp⟩) HX3.out ?_
  refine wg 6 (.int .i64 (x.str + 1)) rfl (Or.inl ⟨by kernel_rfl, fun W _ => by have hw : IntKind.i64.wrap (x.str + 1) = x.str + 1 := (by rw [IntKind.wrap_i64]; omega); go_simp; try exact hw⟩) HX3.out ?_
  refine wq1 7 fun K hK => ?_; go_simp; refine cm HC.out ?_; intro e w' hp; obtain ⟨rfl, ha⟩ := hp; exact ⟨rfl, ppBad HQ.out.symm (HX2.out.next ha)⟩
 ) : G := h
end Go.Proofs.YtodmgaikhbmlnaaGreatDoor
