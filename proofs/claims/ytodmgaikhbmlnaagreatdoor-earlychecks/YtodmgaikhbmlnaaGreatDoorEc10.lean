/-
  Parts of proofs that stand more than once.
-/
import Derived.Test.YtodmgaikhbmlnaaGreatDoorEc9
set_option maxRecDepth 100000
set_option maxHeartbeats 16000000
namespace Go.Proofs.YtodmgaikhbmlnaaGreatDoor
open Go.RowKit
theorem zrqes.zrcaX {G : Prop} (h : G := by
  refine wt 5 (pPtr c) ?_; refine wt 6 (.int .i64 (d : Int)) ?_; refine wr2 4 7 (fun K hK => ?_) fun K hK => ?_
  ·
   go_simp; refine hK _ _ ?_; clear hK K; refine wr1 7 fun K hK => ?_; go_simp; refine cm HC.out ?_; rintro e wc ⟨⟨vc, rfl, pc, rfl⟩, hpc, he, ha⟩; have HAc := hide (HA.out.drew.next ha)
   have HOc := hide (HOP.out.stay (((Ap.refl c.P w6.heap.size w6).drew).next ha) HLT.out); exact zcbd
  ·
   go_simp; refine cm HC.out ?_; rintro e wc ⟨⟨vc, rfl, pc, rfl⟩, hpc, he, ha⟩; have HAc := hide (HA.out.drew.next ha); have HOc := hide (HOP.out.stay (((Ap.refl c.P w6.heap.size w6).drew).next ha) HLT.out); exact zcbe
 ) : G := h
theorem zrqes.zrdjX {G : Prop} (h : G := by
  clear hc0 hf0; obtain ⟨hc3, hcf, hcl⟩ := HOP.out.cell
  cases hr : blockP c.l F d (j + 1) with
  | out => rw [hr] at HQ1; exact absurd HQ1.out HO.out
  | bad er pl =>
   have HC := hide (rbraces_any HF.out HNN.out HKK.out false w6.drew d (j + 1) _ hd hr.symm (by nofun) HP.out.drew); rw [hr] at HQ1; have hq : r = .bad er pl := unhide HQ1; subst hq; clear hr HQ1; go_wp2_with fail
   refine via2 (H := CallBad c w (.mk 12 noText 0 [b]) (.slice (some ⟨wv.heap.size, 0, none⟩) 1 1) [q] er pl) (G := ?G1) (fun CONT => ?_) ?_; rotate_left
   ·
    exact zrca
   ·
    exact zrbp
  | ok b2 j3 =>
   have HC := hide (rbraces_any HF.out HNN.out HKK.out false w6.drew d (j + 1) _ hd hr.symm (by nofun) HP.out.drew); rw [hr] at HQ1; have hq : r = .ok (.mk 12 noText 0 [b, .mk 14 noText 0 [b2]]) j3 := unhide HQ1; subst hq
   clear hr HQ1; go_wp2_with fail; have HSZ := hide HA.out.size; have HSC : Hid (w6.heap.size ≤ w6.heap.size) := Nat.le_refl _
   refine via2 (H := CallOk c w w6.heap.size (.mk 12 noText 0 [b]) (.slice (some ⟨wv.heap.size, 0, none⟩) 1 1) [q] b2 j3) (G := ?G2) (fun CONT => ?_) ?_; rotate_left
   ·
    exact zrch
   ·
    exact zrbu
 ) : G := h
theorem zrqes.zrdvX {G : Prop} (h : G := by
  have HC3 := hide (rskip_yes c _ j tFinally (by decide) hx HP.out); exact zrdj
 ) : G := h
theorem zrqes.zrhX {G : Prop} (h : G := by
  exact zrdv
 ) : G := h
theorem zrqes.zrsX {G : Prop} (h : G := by
  have HQ1 : Hid (r = (blockP c.l F d (j + 1)).bind fun b2 i1 => .ok (.mk 12 noText 0 [b, .mk 14 noText 0 [b2]]) i1) := by
   have h1 := unhide HQ; rw [hb0, bind_ok] at h1; unfold catchP at h1; rw [if_neg hc0, bind_ok] at h1; unfold finallyP at h1; rw [if_pos hf0] at h1; rw [h1]
   cases blockP c.l F d (j + 1) <;> rfl
  exact zrh
 ) : G := h
theorem zrqes.zraX {G : Prop} (h : G := by
  exact zrs
 ) : G := h
theorem zrqes.zrnX {G : Prop} (h : G := by
  exact zeaf
 ) : G := h
theorem zrqet.zrbkX {G : Prop} (h : G := by
  obtain ⟨jc, hpc⟩ := HHY.out.ps; have he := HHY.out.he; have HPC := hide (hpc.ap (unhide (HBW (.slice (some ⟨g, 0, none⟩) 2 cap))) HLO.out)
  have HAC := hide (HHY.out.ap.trans (Ap.of (unhide (HBW (.slice (some ⟨g, 0, none⟩) 2 cap))))); have HNC := HNW (.slice (some ⟨g, 0, none⟩) 2 cap); have HC9 := hide (rskip_old c _ jc _ _ he tFinally HPC.out)
  clear hpc HBW HNW hp3c hp3f; go_wp2_with fail; refine cm HC9.out ?_; rintro e wy ⟨rfl, hb⟩; have HA2 := hide (HAC.out.next (Ap.of hb)); have HP2 := hide (HPC.out.later hb)
  have nb := (hb.block _ (lt_of_heap HNC.out)).trans HNC.out; clear hb HC9; obtain ⟨z0, z1, z2, z3, zf⟩ := node_cells nb; have hnlz := lt_of_heap nb; clear nb; go_wp2_with fail; go_ret
  exact ⟨⟨_, rfl, _, rfl⟩, ⟨jc, HP2.out⟩, he, HA2.out⟩
 ) : G := h
theorem zrqet.zrbwX {G : Prop} (h : G := by
  exact zrbk
 ) : G := h
theorem zrqet.zrcaX {G : Prop} (h : G := by
  refine wt 5 (.string s) ?_; refine wt 6 (pPtr c) ?_; refine wt 7 (.int .i64 (d : Int)) ?_; refine wr2 4 8 (fun K hK => ?_) fun K hK => ?_
  ·
   go_simp; refine hK _ _ ?_; clear hK K; refine wr1 8 fun K hK => ?_; go_simp; refine cm HC.out ?_; rintro e wc ⟨⟨vc, rfl, pc, rfl⟩, hpc, he, ha⟩; have HAc := hide (HA.out.drew.next ha)
   have HOc := hide (HOP.out.stay (((Ap.refl c.P wm.heap.size wm).drew).next ha) HLT.out); have HHY : Hid (CallBad _ _ _ _ _ _ _ wc pc) := CallBad.mk HAc.out hpc HOc.out he; obtain ⟨gc3, gcf, gcl⟩ := HOc.out.cell
   have gcl1 : w.heap.size < wc.heap.size + 1 := by omega
   have gcl2 : w.heap.size < wc.heap.size + 2 := by omega
   have gcl3 : w.heap.size < wc.heap.size + 1 + 1 := by omega
   clear ha hpc; exact zbcz
  ·
   go_simp; refine cm HC.out ?_; rintro e wc ⟨⟨vc, rfl, pc, rfl⟩, hpc, he, ha⟩; have HAc := hide (HA.out.drew.next ha); have HOc := hide (HOP.out.stay (((Ap.refl c.P wm.heap.size wm).drew).next ha) HLT.out)
   have HHY : Hid (CallBad _ _ _ _ _ _ _ wc pc) := CallBad.mk HAc.out hpc HOc.out he; obtain ⟨gc3, gcf, gcl⟩ := HOc.out.cell; have gcl1 : w.heap.size < wc.heap.size + 1 := by omega
   have gcl2 : w.heap.size < wc.heap.size + 2 := by omega
   have gcl3 : w.heap.size < wc.heap.size + 1 + 1 := by omega
   clear ha hpc; exact zbaz
 ) : G := h
theorem zrqet.zrdjX {G : Prop} (h : G := by
  clear c0 c1 c2 c3 cf cf3 hnl; clear hc0
  refine viaB (H := fun wm _ => ∃ er pl, r = .bad er pl ∧ Calls Tryz.prog 100 #[pPtr c, .int .i64 (d : Int), .bool false] wm.drew (NPost c wm.drew er pl ZN) ∧ Open w.heap.size wm (.mk 12 noText 0 [b]) w.heap.size (.slice (some ⟨wv.heap.size, 0, none⟩) 1 1) [q] ∧ Ap c.P w.heap.size w wm) (G := ?GB) (fun CONTB => ?_) ?_
  rotate_left
  ·
   have HC := hide (rmust_any c w6 (j + 1) tOpen (by decide) HP.out); go_wp2_with fail; refine cm HC.out ?_; intro e w8 hp; clear HC
   cases hr : mustP c.l tOpen (j + 1) with
   | out => rw [hr] at HQ1; exact absurd HQ1.out HO.out
   | bad er pl =>
    rw [hr] at hp HQ1; have hq : r = .bad er pl := unhide HQ1; have HQB := hide hq; clear hq; obtain ⟨⟨v, rfl, rfl⟩, ⟨jm, hp2⟩, he, ha⟩ := hp; clear hr HQ1; replace HOP := hide (HOP.out.stay ha HLT.out)
    replace HA := hide (HA.out.next ha); replace HP := hide hp2; clear hp2 ha; have HC := hide ((rident_old c _ jm _ _ he HP.out).mono (fun e w' h => (⟨⟨_, h.1⟩, h.2⟩ : (∃ s, e = .returned (.string s)) ∧ w' = w8)))
    go_wp2_with fail; refine cm HC.out ?_; rintro e wi ⟨⟨s, rfl⟩, rfl⟩; clear HC; exact zccj
   | ok x1 k1 =>
    rw [hr] at hp HQ1
    have HQ2 : Hid (r = (nameP c.l k1).bind fun s i2 => (mustP c.l tShut i2).bind fun _ i3 => (blockP c.l F d i3).bind fun b2 i4 => (finallyP c.l F d i4).bind fun f i5 => .ok (.mk 12 noText 0 (b :: .mk 13 s 0 [b2] :: f)) i5) := unhide HQ1
    obtain ⟨⟨v, rfl, rfl⟩, hp2, ha⟩ := hp; have HR1 := hide hr; clear hr HQ1; replace HOP := hide (HOP.out.stay ha HLT.out); replace HA := hide (HA.out.next ha); replace HP := hide hp2; clear hp2 ha
    have HC := hide (rident_any c w8 k1 HP.out); go_wp2_with fail; refine cm HC.out ?_; intro e w9 hp; clear HC
    cases hr : nameP c.l k1 with
    | out => rw [hr] at HQ2; exact absurd HQ2.out HO.out
    | bad er pl =>
     rw [hr] at hp HQ2; have hq : r = .bad er pl := unhide HQ2; have HQB := hide hq; clear hq; obtain ⟨⟨v, rfl, s, rfl⟩, ⟨jm, hp2⟩, he, ha⟩ := hp; clear hr HQ2; replace HOP := hide (HOP.out.stay ha HLT.out)
     replace HA := hide (HA.out.next ha); replace HP := hide hp2; clear hp2 ha; exact zccj
    | ok s k2 =>
     rw [hr] at hp HQ2
     have HQ3 : Hid (r = (mustP c.l tShut k2).bind fun _ i3 => (blockP c.l F d i3).bind fun b2 i4 => (finallyP c.l F d i4).bind fun f i5 => .ok (.mk 12 noText 0 (b :: .mk 13 s 0 [b2] :: f)) i5) := unhide HQ2
     obtain ⟨⟨v, rfl, rfl⟩, hp2, ha⟩ := hp; have HR2 := hide hr; clear hr HQ2; replace HOP := hide (HOP.out.stay ha HLT.out); replace HA := hide (HA.out.next ha); replace HP := hide hp2; clear hp2 ha
     have HC := hide (rmust_any c w9 k2 tShut (by decide) HP.out); go_wp2_with fail; refine cm HC.out ?_; intro e wm hp; clear HC
     cases hr : mustP c.l tShut k2 with
     | out => rw [hr] at HQ3; exact absurd HQ3.out HO.out
     | bad er pl =>
      rw [hr] at hp HQ3; have hq : r = .bad er pl := unhide HQ3; have HQB := hide hq; clear hq; obtain ⟨⟨v, rfl, rfl⟩, ⟨jm, hp2⟩, he, ha⟩ := hp; clear hr HQ3; replace HOP := hide (HOP.out.stay ha HLT.out)
      replace HA := hide (HA.out.next ha); replace HP := hide hp2; clear hp2 ha; exact zbdv
     | ok x3 k3 =>
      rw [hr] at hp HQ3; have HQ4 : Hid (r = (blockP c.l F d k3).bind fun b2 i4 => (finallyP c.l F d i4).bind fun f i5 => .ok (.mk 12 noText 0 (b :: .mk 13 s 0 [b2] :: f)) i5) := unhide HQ3
      obtain ⟨⟨v, rfl, rfl⟩, hp2, ha⟩ := hp; have HR3 := hide hr; clear hr HQ3; replace HOP := hide (HOP.out.stay ha HLT.out); replace HA := hide (HA.out.next ha); replace HP := hide hp2; clear hp2 ha
      cases hr : blockP c.l F d k3 with
      | out => rw [hr] at HQ4; exact absurd HQ4.out HO.out
      | ok b2 k4 => exact (unhide HNO k3 b2 k4 hr s k1 k2 HR1.out HR2.out HR3.out).elim
      | bad er pl =>
       have HC := hide (rbraces_any HF.out HNN.out HKK.out false wm.drew d k3 _ hd hr.symm (by nofun) HP.out.drew); rw [hr] at HQ4; have hq : r = .bad er pl := unhide HQ4; have HQB := hide hq; clear hq; clear hr HQ4
       go_wp2_with fail; exact CONTB wm s ⟨er, pl, HQB.out, HC.out, HOP.out, HA.out⟩
  ·
   intro wm s hB; obtain ⟨er, pl, hq, hC, hO, hA⟩ := hB; subst hq; have HC := hide hC; have HOP2 := hide hO; have HA2 := hide hA; clear hC hO hA HA HP HQ1; clear HOP; have HOP := HOP2; have HA := HA2; clear HOP2 HA2
   obtain ⟨hc3, hcf, hcl⟩ := HOP.out.cell; refine via2 (H := CallBad c w (.mk 12 noText 0 [b]) (.slice (some ⟨wv.heap.size, 0, none⟩) 1 1) [q] er pl) (G := ?G2) (fun CONT => ?_) ?_; rotate_left
   ·
    exact zrca
   ·
    exact zrbw
 ) : G := h
theorem zrqet.zrhX {G : Prop} (h : G := by
  have HC3 := hide (rskip_yes c _ j tCatch (by decide) hx HP.out); exact zrdj
 ) : G := h
theorem zrqet.zreaX {G : Prop} (h : G := by
  exact zrh
 ) : G := h
theorem zrqet.zrsX {G : Prop} (h : G := by
  exact zrea
 ) : G := h
theorem zrqet.zraX {G : Prop} (h : G := by
  exact zrs
 ) : G := h
theorem zrqet.zrnX {G : Prop} (h : G := by
  have n4 : ¬ fx c.l i = tWhile := by rw [hf]; decide
  have n5 : ¬ fx c.l i = tWith := by rw [hf]; decide
  have HNO := hide hno; clear hno; have HQ := hide hs; clear hs; exact zra
 ) : G := h
theorem zrqeu.zrbuX {G : Prop} (h : G := by
  have HEV := hide (Open.push2 (x := .mk 14 noText 0 [b3]) HOn.out (HOP.out.apart2 HSZ.out (Nat.le_refl _) (NAts.cons (nv_at (nv_row HHY.out.nd HHY.out.sz (by simp [maxLen]) #[nPtr pc] rfl 1 rfl 14 noText 0 _ rfl).nv) NAts.nil)) rfl hown3 hgr3 (hg3.imp id fun e => by rw [e]; simp))
  have HBW : ∀ v, Hid (Below w.heap.size wc (w3.setCell ⟨w.heap.size, 3, none⟩ v)) := fun v => HHY.out.op.grows ((((Below.refl _ wc).alloc hsz _).alloc (by simp; omega) _).alloc (by simp; omega) _) (by simp; omega) hgr3
  have hB3 : Below wc.heap.size wc _ := (((Below.refl wc.heap.size wc).alloc (Nat.le_refl _) (.cells #[nPtr pc] 22)).alloc (by simp) (nodeObj 14 noText 0 (.slice (some ⟨wc.heap.size, 0, none⟩) 1 1))).alloc (by simp <;> omega) (.cells #[nPtr (wc.heap.size + 1)] 22)
  have hbb : w3.heap[w.heap.size]? = wc.heap[w.heap.size]? := (hgr3.block w.heap.size (by simp; omega) (fun e => HHY.out.op.own e.symm)).trans (hB3.block w.heap.size gcl)
  have HNW : ∀ v, Hid ((w3.setCell ⟨w.heap.size, 3, none⟩ v).heap[w.heap.size]? = some (nodeObj 12 noText 0 v)) := fun v => by
   show _ = _
   rw [heap_set (hbb.trans HHY.out.op.blk)]; rfl
  have hp3 : w3.cell? ⟨w.heap.size, 3, none⟩ = wc.cell? ⟨w.heap.size, 3, none⟩ ∧ w3.frozen? ⟨w.heap.size, 3, none⟩ = wc.frozen? ⟨w.heap.size, 3, none⟩ := ⟨World.cell?_of_block (w := wc) hbb, World.frozen?_of_block (w := wc) hbb⟩
  obtain ⟨hp3c, hp3f⟩ := hp3; rw [gc3] at hp3c; rw [gcf 3] at hp3f; clear hown3 hgr3 hg3 hB3 hbb; exact zbdr
 ) : G := h
theorem zrqeu.zrbpX {G : Prop} (h : G := by
  have hB3 : Below wc.heap.size wc _ := (((Below.refl wc.heap.size wc).alloc (Nat.le_refl _) (.cells #[nPtr pc] 22)).alloc (by simp) (nodeObj 14 noText 0 (.slice (some ⟨wc.heap.size, 0, none⟩) 1 1))).alloc (by simp <;> omega) (.cells #[nPtr (wc.heap.size + 1)] 22)
  have hbb : w3.heap[w.heap.size]? = wc.heap[w.heap.size]? := (hgr3.block w.heap.size (by simp; omega) (fun e => HHY.out.op.own e.symm)).trans (hB3.block w.heap.size gcl)
  have HNW : ∀ v, Hid ((w3.setCell ⟨w.heap.size, 3, none⟩ v).heap[w.heap.size]? = some (nodeObj 12 noText 0 v)) := fun v => by
   show _ = _
   rw [heap_set (hbb.trans HHY.out.op.blk)]; rfl
  have hp3 : w3.cell? ⟨w.heap.size, 3, none⟩ = wc.cell? ⟨w.heap.size, 3, none⟩ ∧ w3.frozen? ⟨w.heap.size, 3, none⟩ = wc.frozen? ⟨w.heap.size, 3, none⟩ := ⟨World.cell?_of_block (w := wc) hbb, World.frozen?_of_block (w := wc) hbb⟩
  obtain ⟨hp3c, hp3f⟩ := hp3; rw [gc3] at hp3c; rw [gcf 3] at hp3f; clear hown3 hgr3 hg3 hB3 hbb; exact zbdi
 ) : G := h
theorem zrqeu.zrchX {G : Prop} (h : G := by
  refine wr2 4 7 (fun K hK => ?_) fun K hK => ?_
  ·
   go_simp; refine hK _ _ ?_; clear hK K; refine wr1 7 fun K hK => ?_; go_simp; refine cm HC.out ?_; rintro e wc ⟨⟨vc, rfl, pc, rfl⟩, hpc, he, ha⟩; have HAc := hide (HA.out.drew.next ha)
   have HOc := hide (HOP.out.stay (((Ap.refl c.P wf.heap.size wf).drew).next ha) HLT.out); exact zcbd
  ·
   go_simp; refine cm HC.out ?_; rintro e wc ⟨⟨vc, rfl, pc, rfl⟩, hpc, he, ha⟩; have HAc := hide (HA.out.drew.next ha); have HOc := hide (HOP.out.stay (((Ap.refl c.P wf.heap.size wf).drew).next ha) HLT.out); exact zcbe
 ) : G := h
theorem zrqeu.zrbkX {G : Prop} (h : G := by
  have HPC := hide (HHY.out.ps.ap (unhide (HBW (.slice (some ⟨g, 0, none⟩) 2 cap))) HLO.out); have HAC := hide (HHY.out.ap.trans (Ap.of (unhide (HBW (.slice (some ⟨g, 0, none⟩) 2 cap)))))
  obtain ⟨qs, hOq⟩ := Open.of_ev HEV.out (unhide (HNW (.slice (some ⟨g, 0, none⟩) 2 cap))); obtain ⟨q1, q2, rfl⟩ : ∃ q1 q2, qs = [q1, q2] := by
   have hql : qs.length = 2 := NAts.length _ _ hOq.kids
   match qs, hql with
   | [a, b], _ => exact ⟨a, b, rfl⟩
  have HOQ : Hid (Open w.heap.size (w3.setCell ⟨w.heap.size, 3, none⟩ (.slice (some ⟨g, 0, none⟩) 2 cap)) (.mk 12 noText 0 [b, .mk 13 s 0 [b2]]) w.heap.size (.slice (some ⟨g, 0, none⟩) 2 cap) [q1, q2]) := hOq
  clear hOq HBW HNW hp3c hp3f HOP HP HA HSZ HOn HEV
  by_cases hf0 : fx c.l k4 = tFinally
  ·
   have HQ3 : Hid (r = (blockP c.l F d (k4 + 1)).bind fun b3 i6 => .ok (.mk 12 noText 0 [b, .mk 13 s 0 [b2], .mk 14 noText 0 [b3]]) i6) := by
    have h1 := unhide HQ2; unfold finallyP at h1; rw [if_pos hf0] at h1; rw [h1]
    cases blockP c.l F d (k4 + 1) <;> rfl
   have HC9 := hide (rskip_yes c _ k4 tFinally (by decide) hf0 HPC.out); clear hf0 HQ2 HHY hc3 hcf hcl; go_wp2_with fail; refine cm HC9.out ?_; rintro e wf ⟨rfl, hp6, ha6⟩; have HA := hide (HAC.out.next ha6)
   have HP := hide hp6; have HOP := hide (HOQ.out.stay ha6 HLT.out); clear hp6 ha6 HC9 HAC HPC HOQ; obtain ⟨hc3, hcf, hcl⟩ := HOP.out.cell
   cases hr : blockP c.l F d (k4 + 1) with
   | out => rw [hr] at HQ3; exact absurd HQ3.out HO.out
   | bad er pl =>
    have HC := hide (rbraces_any HF.out HNN.out HKK.out false wf.drew d (k4 + 1) _ hd hr.symm (by nofun) HP.out.drew); rw [hr] at HQ3; have hq : r = .bad er pl := unhide HQ3; subst hq; clear hr HQ3; go_wp2_with fail
    refine via2 (H := CallBad c w (.mk 12 noText 0 [b, .mk 13 s 0 [b2]]) (.slice (some ⟨g, 0, none⟩) 2 cap) [q1, q2] er pl) (G := ?G1) (fun CONT => ?_) ?_; rotate_left
    ·
     exact zrch
    ·
     exact zrbp
   | ok b3 k6 =>
    have HC := hide (rbraces_any HF.out HNN.out HKK.out false wf.drew d (k4 + 1) _ hd hr.symm (by nofun) HP.out.drew); rw [hr] at HQ3
    have hq : r = .ok (.mk 12 noText 0 [b, .mk 13 s 0 [b2], .mk 14 noText 0 [b3]]) k6 := unhide HQ3; subst hq; clear hr HQ3; go_wp2_with fail; have HSZ := hide HA.out.size
    refine via2 (H := CallOk c w wf.heap.size (.mk 12 noText 0 [b, .mk 13 s 0 [b2]]) (.slice (some ⟨g, 0, none⟩) 2 cap) [q1, q2] b3 k6) (G := ?G2) (fun CONT => ?_) ?_; rotate_left
    ·
     refine wp_region_any (by kernel_rfl) ?_; change wpAny _ _ _ _ _ _ _ (World.drew _); refine wt 0 (nPtr w.heap.size) ?_; refine wt 1 (nPtr w.heap.size) ?_; refine wt 2 (nPtr w.heap.size) ?_
     refine wt 3 (.pointer (some ⟨w.heap.size, 3, none⟩)) ?_; refine wt 5 (pPtr c) ?_; refine wt 6 (.int .i64 (d : Int)) ?_; refine wr2 4 7 (fun K hK => ?_) fun K hK => ?_
     ·
      go_simp; refine hK _ _ ?_; clear hK K; refine wr1 7 fun K hK => ?_; go_simp; refine cm HC.out ?_; rintro e wc ⟨⟨vc, rfl, pc, rfl, hnc⟩, hpc, ha⟩; have HAc := hide (HA.out.drew.next ha)
      have HOc := hide (HOP.out.stay (((Ap.refl c.P wf.heap.size wf).drew).next ha) HLT.out)
      have HHY : Hid (CallOk _ _ _ _ _ _ _ _ wc pc) := CallOk.mk (Z := wf.heap.size) HAc.out hpc HOc.out (NAts.cons hnc NAts.nil) ha.size; exact zcbk
     ·
      go_simp; refine cm HC.out ?_; rintro e wc ⟨⟨vc, rfl, pc, rfl, hnc⟩, hpc, ha⟩; have HAc := hide (HA.out.drew.next ha); have HOc := hide (HOP.out.stay (((Ap.refl c.P wf.heap.size wf).drew).next ha) HLT.out)
      have HHY : Hid (CallOk _ _ _ _ _ _ _ _ wc pc) := CallOk.mk (Z := wf.heap.size) HAc.out hpc HOc.out (NAts.cons hnc NAts.nil) ha.size; exact zcbl
    ·
     exact zrbu
  ·
   have hq : r = .ok (.mk 12 noText 0 [b, .mk 13 s 0 [b2]]) k4 := by
    have h1 := unhide HQ2; unfold finallyP at h1; rw [if_neg hf0] at h1; exact h1
   subst hq; have HC9 := hide (rskip_no c _ k4 tFinally (by decide) hf0 HPC.out); clear hf0 HQ2; go_wp2_with fail; refine cm HC9.out ?_; rintro e wy ⟨rfl, hb⟩; have HA2 := hide (HAC.out.next (Ap.of hb))
   have HP2 := hide (HPC.out.later hb); have HO2 := hide (HOQ.out.stay (Ap.of hb) HLT.out); clear hb HC9; obtain ⟨z3, zf, zl⟩ := HO2.out.cell; go_wp2_with fail; go_ret; exact ⟨⟨_, rfl, HO2.out.nv⟩, HP2.out, HA2.out⟩
 ) : G := h
theorem zrqeu.zrbwX {G : Prop} (h : G := by
  have HEV := hide (Open.push2 (x := .mk 13 s 0 [b2]) HOn.out (HOP.out.apart2 HSZ.out (Nat.le_refl _) (NAts.cons (nv_at (nv_row HHY.out.nd HHY.out.sz (by simp [maxLen]) #[nPtr pc] rfl 1 rfl 13 s 0 _ rfl).nv) NAts.nil)) rfl hown3 hgr3 (hg3.imp id fun e => by rw [e]; simp))
  exact zrbk
 ) : G := h
theorem zrqeu.zrcaX {G : Prop} (h : G := by
  refine wt 5 (.string s) ?_; refine wt 6 (pPtr c) ?_; refine wt 7 (.int .i64 (d : Int)) ?_; refine wr2 4 8 (fun K hK => ?_) fun K hK => ?_
  ·
   go_simp; refine hK _ _ ?_; clear hK K; refine wr1 8 fun K hK => ?_; go_simp; refine cm HC.out ?_; rintro e wc ⟨⟨vc, rfl, pc, rfl, hnc⟩, hpc, ha⟩; have HAc := hide (HA.out.drew.next ha)
   have HOc := hide (HOP.out.stay (((Ap.refl c.P wm.heap.size wm).drew).next ha) HLT.out); have HHY : Hid (CallOk _ _ _ _ _ _ _ _ wc pc) := CallOk.mk (Z := wm.heap.size) HAc.out hpc HOc.out (NAts.cons hnc NAts.nil) ha.size
   obtain ⟨gc3, gcf, gcl⟩ := HOc.out.cell; have gcl1 : w.heap.size < wc.heap.size + 1 := by omega
   have gcl2 : w.heap.size < wc.heap.size + 2 := by omega
   have gcl3 : w.heap.size < wc.heap.size + 1 + 1 := by omega
   clear ha hpc hnc; exact zbcz
  ·
   go_simp; refine cm HC.out ?_; rintro e wc ⟨⟨vc, rfl, pc, rfl, hnc⟩, hpc, ha⟩; have HAc := hide (HA.out.drew.next ha); have HOc := hide (HOP.out.stay (((Ap.refl c.P wm.heap.size wm).drew).next ha) HLT.out)
   have HHY : Hid (CallOk _ _ _ _ _ _ _ _ wc pc) := CallOk.mk (Z := wm.heap.size) HAc.out hpc HOc.out (NAts.cons hnc NAts.nil) ha.size; obtain ⟨gc3, gcf, gcl⟩ := HOc.out.cell
   have gcl1 : w.heap.size < wc.heap.size + 1 := by omega
   have gcl2 : w.heap.size < wc.heap.size + 2 := by omega
   have gcl3 : w.heap.size < wc.heap.size + 1 + 1 := by omega
   clear ha hpc hnc; exact zbaz
 ) : G := h
theorem zrqeu.zrdjX {G : Prop} (h : G := by
  clear c0 c1 c2 c3 cf cf3 hnl; clear hc0; have HC := hide (rmust_any c w6 (j + 1) tOpen (by decide) HP.out); go_wp2_with fail; refine cm HC.out ?_; intro e w8 hp; rw [hr1] at hp; obtain ⟨⟨v, rfl, rfl⟩, hp2, ha⟩ := hp
  clear HC; replace HOP := hide (HOP.out.stay ha HLT.out); replace HA := hide (HA.out.next ha); replace HP := hide hp2; clear hp2 ha; have HC := hide (rident_any c w8 k1 HP.out); go_wp2_with fail; refine cm HC.out ?_
  intro e w9 hp; rw [hr2] at hp; obtain ⟨⟨v, rfl, rfl⟩, hp2, ha⟩ := hp; clear HC; replace HOP := hide (HOP.out.stay ha HLT.out); replace HA := hide (HA.out.next ha); replace HP := hide hp2; clear hp2 ha
  have HC := hide (rmust_any c w9 k2 tShut (by decide) HP.out); go_wp2_with fail; refine cm HC.out ?_; intro e wm hp; rw [hr3] at hp; obtain ⟨⟨v, rfl, rfl⟩, hp2, ha⟩ := hp; clear HC
  replace HOP := hide (HOP.out.stay ha HLT.out); replace HA := hide (HA.out.next ha); replace HP := hide hp2; clear hp2 ha; obtain ⟨hc3, hcf, hcl⟩ := HOP.out.cell
  have HC := hide (rbraces_any HF.out HNN.out HKK.out false wm.drew d k3 _ hd hr4.symm (by nofun) HP.out.drew)
  have HQ2 : Hid (r = (finallyP c.l F d k4).bind fun f i5 => .ok (.mk 12 noText 0 (b :: .mk 13 s 0 [b2] :: f)) i5) := by
   have h1 := unhide HQ1; rw [hr1, bind_ok, hr2, bind_ok, hr3, bind_ok, hr4, bind_ok] at h1; exact h1
  clear HQ1 hr1 hr2 hr3 hr4; go_wp2_with fail; have HSZ := hide HA.out.size
  refine via2 (H := CallOk c w wm.heap.size (.mk 12 noText 0 [b]) (.slice (some ⟨wv.heap.size, 0, none⟩) 1 1) [q] b2 k4) (G := ?G3) (fun CONT => ?_) ?_; rotate_left
  ·
   exact zrca
  ·
   exact zrbw
 ) : G := h
theorem zrqeu.zrhX {G : Prop} (h : G := by
  have HC3 := hide (rskip_yes c _ j tCatch (by decide) hx HP.out); exact zrdj
 ) : G := h
theorem zrqeu.zreaX {G : Prop} (h : G := by
  exact zrh
 ) : G := h
theorem zrqeu.zrsX {G : Prop} (h : G := by
  exact zrea
 ) : G := h
theorem zrqeu.zraX {G : Prop} (h : G := by
  exact zrs
 ) : G := h
theorem zrqeu.zrnX {G : Prop} (h : G := by
  exact zeaf
 ) : G := h
theorem zrqev.zrbdX {G : Prop} (h : G := by
  have HP5 := hide (HP4.out.ap (((Below.refl w.heap.size w4).alloc hsz (.cells #[nPtr p4] 22)).grown hgrow (by simp; omega) (fun k hk => (unhide HOB k hk).2)) HLO.out)
  have HALL2 : Hid (∀ u ∈ acc ++ [t], u.kd = 15 → ∃ x y, u.kids = x :: y) := by
   exact zbgv
  clear hown' hgrow hg HKK HOWN; go_wp2_with fail
  go_roundg k
  case measure => omega
  case rel => exact Or.inl ⟨acc ++ [t], j2, HQQ.out, HK5.out, HP5.out, HA5.out, by simp; omega, HALL2.out⟩
 ) : G := h
theorem zrqev.zrdnX {G : Prop} (h : G := by
  have HOB := hide hOB; clear hown hk4 HK4 hOB hlen
  go_wp2_with (at_builtin; refine wpList_append_lies _ rfl _ _ 36 rfl w.heap.size 22 i0 (.pointer none) 1 8 Tryz.underlying36 hi0 hz0 hz1 hz2 rfl (by decide) _ _ _ rfl (HOWN.out.alloc _) ⟨w4.heap.size, 0, none⟩ 1 1 [nPtr p4] rfl rfl (one_cells w4 p4 _ rfl) (one_one p4) (by decide) (by unfold maxLen; omega) (by omega) (by simp; omega) (w4.heap.size + 1) (by simp) ?_)
  intro g cap w5 hown' hgrow hg _; have HA5 := hide ((HA4.out.alloc hsz (.cells #[nPtr p4] 22)).grown hgrow (by simp; omega) (fun k hk => (unhide HOB k hk).2))
  have HP5 : Hid (∃ j, Ps c w5 j er (pl : Int)) := by
   obtain ⟨j2, hp⟩ := unhide HP4; exact ⟨j2, hp.ap (((Below.refl w.heap.size w4).alloc hsz (.cells #[nPtr p4] 22)).grown hgrow (by simp; omega) (fun k hk => (unhide HOB k hk).2)) HLO.out⟩
  clear hown' hgrow hg HKK HOWN; go_wp2_with fail
  go_roundg k
  case measure => omega
  case rel => exact Or.inr ⟨er, pl, HQQ.out, he, HP5.out, HA5.out, _, _, _, rfl⟩
 ) : G := h
theorem zrqev.zrdxX {G : Prop} (h : G := by
  have HC3 := hide (rmust_any c w3 j tRBrace (by decide) (HP1.out.later hb3)); clear hb3 HC2 HP1 HA1 HK1; go_wp2_with fail; refine cm HC3.out ?_; intro e w4 hp
  have hmm : mustP c.l tRBrace j = .ok () (j + 1) := by unfold mustP; rw [if_pos HX.out]
  rw [hmm] at hp; obtain ⟨⟨v, rfl, rfl⟩, hp4, ha4⟩ := hp; have HP4 := hide hp4; have HA4 := hide (HA3.out.next ha4); have HK4 := hide (KV.later HK3.out ha4 HLT.out); clear hp4 ha4 hmm HC3 HP3 HA3 HK3
  cases body with
  | false =>
   have hq : r = .ok (.mk 6 noText 0 acc) (j + 1) := HQ.out.symm; subst hq; go_wp2_with fail; go_ret; refine ⟨⟨_, rfl, (EV.new HK4.out HA4.out.size 6 noText 0).nv⟩, HP4.out.alloc _, HA4.out.alloc HA4.out.size _⟩
  | true =>
   have hq : r = .ok (.mk 6 (strictS acc) 0 acc) (j + 1) := by rw [← codeT_block]; exact HQ.out.symm
   subst hq; have HC5 := hide (rok_new (HP4.out.alloc (nodeObj 6 noText 0 (.slice va acc.length vc))))
   have HC6 := hide (strict_any (KV.later HK4.out (Ap.of (R := c.P) ((Below.refl _ _).alloc (Nat.le_refl _) (nodeObj 6 noText 0 (.slice va acc.length vc)))) HLT.out) HALL.out (by omega))
   have hc1 : (w4.alloc (nodeObj 6 noText 0 (.slice va acc.length vc))).cell? ⟨w4.heap.size, 1, none⟩ = some (.string noText) := by rw [cell_of (heap_new _ _)]; rfl
   have hf1 : (w4.alloc (nodeObj 6 noText 0 (.slice va acc.length vc))).frozen? ⟨w4.heap.size, 1, none⟩ = false := frozen_of (heap_new _ _) 1; go_wp2_with fail; refine cm HC5.out ?_; rintro e w5 ⟨rfl, rfl⟩; clear HC5
   go_wp2_with fail; refine cm HC6.out ?_; rintro e w6 ⟨rfl, rfl⟩; clear HC6; go_wp2_with fail; go_ret; exact ⟨⟨_, rfl, (EV.new HK4.out HA4.out.size 6 (strictS acc) 0).nv⟩, HP4.out.alloc _, HA4.out.alloc HA4.out.size _⟩
 ) : G := h
theorem zrqew.zrdxX {G : Prop} (h : G := by
  have HKW3 := hide (HPC.out.stays _ _ HKW.out HP1.out.rlt (Ap.of hb3)); clear hb3 HC2 HP1 HA1 HK1 HKW
  by_cases h0 : acc.length = 0
  ·
   have hgt : decide ((0 : Int) < (acc.length : Int)) = false := by rw [h0]; rfl
   have hgt2 : decide (0 < acc.length) = false := by rw [h0]; rfl
   have h8 : ((acc.length : Int) == 8) = false := by rw [h0]; rfl
   rw [if_pos h0] at HQ; have HQ' : Hid ((if acc.length = 8 then badF c.l 4 j else (part j).bind fun t i2 => rlistLoop c.l s part k (acc ++ [t]) i2) = r) := unhide HQ; rw [if_neg (by omega)] at HQ'; clear HQ
   have HQ := HQ'; have HLE8 : Hid (acc.length < 8) := by show _ < _; omega
   clear HQ' h0; have HCo := hide (rok_new HP3.out); go_wp2_with fail; refine cm HCo.out ?_; rintro e wo ⟨rfl, rfl⟩; clear HCo
   cases hr : part j with
   | out =>
    rw [hr] at HQ; exact absurd HQ.out.symm HO.out
   | bad er pl =>
    have HRR := hide hr; rw [hr] at HQ; have hq : r = .bad er pl := HQ.out.symm; have HQQ := hide hq; have HC5 := hide (HPC.out.does wo j _ HKW3.out HRR.out.symm (by nofun) HP3.out); clear hr hq HQ; go_wp2_with fail
    refine cm HC5.out ?_; rintro e w4 ⟨⟨v, rfl, p4, rfl⟩, hp4, he, ha4⟩; have HP4 := hide hp4; have HA4 := hide (HA3.out.next ha4); have HK4 := hide (KV.later HK3.out ha4 HLT.out); clear hp4 ha4 HC5 HP3 HA3 HK3; exact zbbi
   | ok t j2 =>
    have HRR := hide hr; rw [hr] at HQ; have hq : rlistLoop c.l s part k (acc ++ [t]) j2 = r := unhide HQ; have HQQ := hide hq; have HC5 := hide (HPC.out.does wo j _ HKW3.out HRR.out.symm (by nofun) HP3.out)
    clear hr hq HQ; go_wp2_with fail; refine cm HC5.out ?_; rintro e w4 ⟨⟨v, rfl, p4, rfl, hn4⟩, hp4, ha4⟩; have HP4 := hide hp4; have HA4 := hide (HA3.out.next ha4); have HK4 := hide (KV.later HK3.out ha4 HLT.out)
    have HN4 := hide (apart_own HK3.out HA3.out.size hn4); have HKW4 := hide (HPC.out.stays _ _ HKW3.out HP3.out.rlt ha4); clear hn4; clear hp4 ha4 HC5 HP3 HA3 HK3; exact zbbj
  ·
   have hgt : decide ((acc.length : Int) > 0) = true := by simp; omega
   rw [if_neg h0] at HQ; have HC4 := hide (rmust_any c w3 j tComma (by decide) HP3.out); go_wp2_with fail; refine cm HC4.out ?_; intro e w6 hp
   cases hm : mustP c.l tComma j with
   | out => rw [hm] at HQ; exact absurd HQ.out.symm HO.out
   | bad er pl =>
    rw [hm] at hp HQ; have hq : r = .bad er pl := HQ.out.symm; obtain ⟨⟨v, rfl, rfl⟩, ⟨j6, hp6⟩, he, ha6⟩ := hp; have HQQ := hide hq; have HP6 := hide hp6; have HA6 := hide (HA3.out.next ha6)
    have HK6 := hide (KV.later HK3.out ha6 HLT.out); clear hp6 ha6 hm HC4 hq HQ
    by_cases h8 : acc.length = 8
    ·
     have h8' : ((acc.length : Int) == 8) = true := by rw [h8]; rfl
     have HC7 := hide (rfail_old c w6 j6 er pl 4 he HP6.out); go_wp2_with fail; refine cm HC7.out ?_; rintro e w7 ⟨⟨v, rfl, q, rfl⟩, ⟨j7, hp7⟩, _, ha7⟩; have HC8 := hide (rok_old he hp7); have HP7 := hide hp7
     have HA7 := hide (HA6.out.next ha7); have HK7 := hide (KV.later HK6.out ha7 HLT.out); clear hp7 ha7 HC7; go_wp2_with fail; refine cm HC8.out ?_; rintro e w8 ⟨rfl, rfl⟩; clear HC8; go_wp2_with fail
     go_roundg k
     case measure => omega
     case rel => exact Or.inr ⟨er, pl, HQQ.out, he, ⟨j7, HP7.out⟩, HA7.out, RowZ.of (by have hk := unhide HK7; rw [h8] at hk; exact hk) hle⟩
    ·
     have h8' : ((acc.length : Int) == 8) = false := beq_eq_false_iff_ne.2 (by omega); have HC8 := hide (rok_old he HP6.out); go_wp2_with fail; refine cm HC8.out ?_; rintro e w8 ⟨rfl, rfl⟩; clear HC8; go_wp2_with fail
     go_roundg k
     case measure => omega
     case rel => exact Or.inr ⟨er, pl, HQQ.out, he, ⟨j6, HP6.out⟩, HA6.out, RowZ.of HK6.out hle⟩
   | ok x6 j6 =>
    rw [hm] at hp HQ; obtain ⟨⟨v, rfl, rfl⟩, hp6, ha6⟩ := hp; have HQ' : Hid ((if acc.length = 8 then badF c.l 4 j6 else (part j6).bind fun t i2 => rlistLoop c.l s part k (acc ++ [t]) i2) = r) := unhide HQ; clear HQ
    have HQ := HQ'; clear HQ'; have HP6 := hide hp6; have HA6 := hide (HA3.out.next ha6); have HK6 := hide (KV.later HK3.out ha6 HLT.out); have HKW6 := hide (HPC.out.stays _ _ HKW3.out HP3.out.rlt ha6)
    clear hp6 ha6 hm HC4 HP3 HA3 HK3 HKW3
    by_cases h8 : acc.length = 8
    ·
     have h8' : ((acc.length : Int) == 8) = true := by rw [h8]; rfl
     rw [if_pos h8] at HQ; have HC7 := hide (rfail_new c w6 j6 4 (by decide) HP6.out); go_wp2_with fail; refine cm HC7.out ?_; rintro e w7 ⟨⟨v, rfl, q, rfl⟩, ⟨j7, hp7⟩, he, ha7⟩; have HC8 := hide (rok_old he hp7)
     have HP7 := hide hp7; have HA7 := hide (HA6.out.next ha7); have HK7 := hide (KV.later HK6.out ha7 HLT.out); clear hp7 ha7 HC7; go_wp2_with fail; refine cm HC8.out ?_; rintro e w8 ⟨rfl, rfl⟩; clear HC8
     go_wp2_with fail
     go_roundg k
     case measure => omega
     case rel => exact Or.inr ⟨4, (tkA c.l j6).pl, HQ.out.symm, by decide, ⟨j7, HP7.out⟩, HA7.out, RowZ.of (by have hk := unhide HK7; rw [h8] at hk; exact hk) hle⟩
    ·
     have h8' : ((acc.length : Int) == 8) = false := beq_eq_false_iff_ne.2 (by omega); rw [if_neg h8] at HQ; have HLE8 : Hid (acc.length < 8) := by show _ < _; omega
     have HCo := hide (rok_new HP6.out); go_wp2_with fail; refine cm HCo.out ?_; rintro e wo ⟨rfl, rfl⟩; clear HCo
     cases hr : part j6 with
     | out =>
      rw [hr] at HQ; exact absurd HQ.out.symm HO.out
     | bad er pl =>
      have HRR := hide hr; rw [hr] at HQ; have hq : r = .bad er pl := HQ.out.symm; have HQQ := hide hq; have HC5 := hide (HPC.out.does wo j6 _ HKW6.out HRR.out.symm (by nofun) HP6.out); clear hr hq HQ; go_wp2_with fail
      refine cm HC5.out ?_; rintro e w4 ⟨⟨v, rfl, p4, rfl⟩, hp4, he, ha4⟩; have HP4 := hide hp4; have HA4 := hide (HA6.out.next ha4); have HK4 := hide (KV.later HK6.out ha4 HLT.out); clear hp4 ha4 HC5 HP6 HA6 HK6
      exact zbbi
     | ok t j2 =>
      have HRR := hide hr; rw [hr] at HQ; have hq : rlistLoop c.l s part k (acc ++ [t]) j2 = r := unhide HQ; have HQQ := hide hq; have HC5 := hide (HPC.out.does wo j6 _ HKW6.out HRR.out.symm (by nofun) HP6.out)
      clear hr hq HQ; go_wp2_with fail; refine cm HC5.out ?_; rintro e w4 ⟨⟨v, rfl, p4, rfl, hn4⟩, hp4, ha4⟩; have HP4 := hide hp4; have HA4 := hide (HA6.out.next ha4); have HK4 := hide (KV.later HK6.out ha4 HLT.out)
      have HN4 := hide (apart_own HK6.out HA6.out.size hn4); have HKW4 := hide (HPC.out.stays _ _ HKW6.out HP6.out.rlt ha4); clear hn4; clear hp4 ha4 HC5 HP6 HA6 HK6; exact zbbj
 ) : G := h
theorem zdaa {G : Prop} (h : G := by
  have _h3 := hge; have _h4 := hes; clear _h3 _h4; have _h1 := hL; have _h2 := hal; clear _h1 _h2; obtain ⟨i0, hi, hz0, hz1, hz2⟩ := info_parts infoRT; have hps := pastN_stop gapB s j hlt hng; rw [hps] at he
  have HE := hide he; have hng2 := hng; simp only [gapB, Bool.or_eq_false_iff] at hng2; obtain ⟨g1, g2⟩ := hng2; have HI := hide hinv; obtain ⟨rc0, rc1, rf0, rf1⟩ := hinv.cells; have HLR := hide (hinv.lists hL)
  clear he hinv hng hps hL; have HST := hide ((toksR_go ws signsS s j acc (3) (n) (⟨#[]⟩) e hlt hrd (by omega)).symm.trans HE.out); have HEE := hide hee; have HLET := hide hlet; have HDIG := hide hdig; have HNN := hide hn
  clear hn; clear hee hlet hdig HE hrd; have hex2 : s.size ≤ e := by omega
  clear hex
  conv => arg 2; whnf
  unfold fr Q6; go_wp2_with fail; refine (isLetter_any _ _).mono ?_; rw [HLET.out]; rintro e1 w1 ⟨rfl, rfl⟩; go_wp2_with fail; refine (isDigit_any _ _).mono ?_; rw [HDIG.out]; rintro e1 w1 ⟨rfl, rfl⟩; go_wp2_with fail
  go_loop [5] (fun v => ∃ q : Nat, j ≤ q ∧ q ≤ e ∧ v = .int .i64 q ∧ pastN digB s q = e) (fun v => s.size - (intOf v).toNat)
  case atStart => exact ⟨j, Nat.le_refl _, by omega, rfl, HEE.out⟩
  case round =>
   obtain ⟨q, hq1, hq2, rfl, hqe⟩ := hrel
   by_cases hqs : q < s.size
   ·
    exact zeal
   ·
    have hqq : e = q := by have := pastN_end digB s q (by omega); omega
    subst hqq; clear hqe; exact zbae
 ) : G := h
theorem zdab {G : Prop} (h : G := by
  have _h3 := hge; have _h4 := hes; clear _h3 _h4; have _h1 := hL; have _h2 := hal; clear _h1 _h2; obtain ⟨i0, hi, hz0, hz1, hz2⟩ := info_parts infoRT; have hps := pastN_stop gapB s j hlt hng; rw [hps] at he
  have HE := hide he; have hng2 := hng; simp only [gapB, Bool.or_eq_false_iff] at hng2; obtain ⟨g1, g2⟩ := hng2; have HI := hide hinv; obtain ⟨rc0, rc1, rf0, rf1⟩ := hinv.cells; have HLR := hide (hinv.lists hL)
  clear he hinv hng hps hL; have hq : r = .bad 3 j := by rw [← HE.out, toksR_bad ws signsS s j acc 3 j hlt hrd]
  subst hq; have HEE := hide hee; have HLET := hide hlet; have HDIG := hide hdig; clear hee hlet hdig HE hrd; have hex2 : s.size ≤ e := by omega
  clear hex
  conv => arg 2; whnf
  unfold fr Q6; go_wp2_with fail; refine (isLetter_any _ _).mono ?_; rw [HLET.out]; rintro e1 w1 ⟨rfl, rfl⟩; go_wp2_with fail; refine (isDigit_any _ _).mono ?_; rw [HDIG.out]; rintro e1 w1 ⟨rfl, rfl⟩; go_wp2_with fail
  go_loop [5] (fun v => ∃ q : Nat, j ≤ q ∧ q ≤ e ∧ v = .int .i64 q ∧ pastN digB s q = e) (fun v => s.size - (intOf v).toNat)
  case atStart => exact ⟨j, Nat.le_refl _, by omega, rfl, HEE.out⟩
  case round =>
   obtain ⟨q, hq1, hq2, rfl, hqe⟩ := hrel
   by_cases hqs : q < s.size
   ·
    exact zeal
   ·
    have hqq : e = q := by have := pastN_end digB s q (by omega); omega
    subst hqq; clear hqe; exact zbcy
 ) : G := h
theorem zdac {G : Prop} (h : G := by
  have _h3 := hge; have _h4 := hes; clear _h3 _h4; have _h1 := hL; have _h2 := hal; clear _h1 _h2; obtain ⟨i0, hi, hz0, hz1, hz2⟩ := info_parts infoRT; have hps := pastN_stop gapB s j hlt hng; rw [hps] at he
  have HE := hide he; have hng2 := hng; simp only [gapB, Bool.or_eq_false_iff] at hng2; obtain ⟨g1, g2⟩ := hng2; have HI := hide hinv; obtain ⟨rc0, rc1, rf0, rf1⟩ := hinv.cells; have HLR := hide (hinv.lists hL)
  clear he hinv hng hps hL; have HST := hide ((toksR_go ws signsS s j acc (3) (n) (⟨#[]⟩) e hlt hrd (by omega)).symm.trans HE.out); have HEE := hide hee; have HLET := hide hlet; have HDIG := hide hdig; have HNN := hide hn
  clear hn; clear hee hlet hdig HE hrd
  conv => arg 2; whnf
  unfold fr Q6; go_wp2_with fail; refine (isLetter_any _ _).mono ?_; rw [HLET.out]; rintro e1 w1 ⟨rfl, rfl⟩; go_wp2_with fail; refine (isDigit_any _ _).mono ?_; rw [HDIG.out]; rintro e1 w1 ⟨rfl, rfl⟩; go_wp2_with fail
  go_loop [5] (fun v => ∃ q : Nat, j ≤ q ∧ q ≤ e ∧ v = .int .i64 q ∧ pastN digB s q = e) (fun v => s.size - (intOf v).toNat)
  case atStart => exact ⟨j, Nat.le_refl _, by omega, rfl, HEE.out⟩
  case round =>
   obtain ⟨q, hq1, hq2, rfl, hqe⟩ := hrel
   by_cases hqs : q < s.size
   ·
    cases hd : digB (s[q].toNat : Int)
    ·
     exact zcbp
    ·
     exact zcaa
   ·
    exfalso; omega
 ) : G := h
end Go.Proofs.YtodmgaikhbmlnaaGreatDoor
