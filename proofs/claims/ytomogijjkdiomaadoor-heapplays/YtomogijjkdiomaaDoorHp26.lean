/-
  What is done to both heaps: cut, declared, written, started, dropped.
-/
import Derived.Test.YtomogijjkdiomaaDoorHp25
set_option maxRecDepth 100000
set_option maxHeartbeats 16000000
namespace Go.Proofs.YtomogijjkdiomaaDoor
open Go.RowKit

section
variable {H R : Nat} {M M' : Mo} {k : Nat}
theorem Mo.setOb_self {i : Nat} {x : Ob} (h : M.objs[i]? = some x) : M.setOb i x = M := by
  obtain ⟨hx, rfl⟩ := List.getElem?_eq_some_iff.1 h
  simp [Mo.setOb, List.set_getElem_self hx]
theorem filter_erase {α : Type} {p : α → Bool} : ∀ {l : List α} {k : Nat}, l.findIdx? p = some k → (∀ j b, k < j → l[j]? = some b → p b = false) → l.filter (fun a => !p a) = l.eraseIdx k
  | [], k, h, _ => by simp at h
  | a :: l, k, h, hu => by
    rw [List.findIdx?_cons] at h
    by_cases ha : p a = true
    · rw [if_pos ha] at h
      cases h
      have : ∀ b ∈ l, (!p b) = true := fun b hb => by
        obtain ⟨j, hj⟩ := List.getElem?_of_mem hb
        have := hu (j + 1) b (by omega) (by simpa using hj)
        simp [this]
      simp [ha, List.filter_eq_self.2 this]
    · rw [if_neg ha] at h
      obtain ⟨k', h', rfl⟩ := Option.map_eq_some_iff.1 h
      have := filter_erase h' fun j b hj hb => hu (j + 1) b (by omega) (by simpa using hb)
      simp [ha, this]
theorem fP_prop {i : Nat} {x : Ob} {nm : ByteArray} (hx : M.objs[i]? = some x) (h : fP nm x.ps = none) : M.prop i nm = none := by
  have : x.ps.find? (fun p => isN nm p.name) = none := by
    rcases find_of (fun p => isN nm p.name) x.ps with ⟨_, f⟩ | ⟨j, p, f1, _⟩
    · exact f
    · unfold fP at h; rw [h] at f1; cases f1
  simp [Mo.prop, ob_nat hx, this]
theorem step_cut (hM : M.Inv k) (hk : k < 1000) (o : Int) (nm : ByteArray) :
    ∃ b M', M'.Inv (k + 1) ∧ Alike H R M M' 10 11 #[pH H, .int .i64 o, .string nm] #[pH R, .int .i64 o, .string nm] (.bool b) (.bool b) := by
  rcases ob_cases M o with ⟨e0, _⟩ | ⟨i, x, rfl, hx, _⟩
  · refine ⟨true, M, hM.more, fun W hW => ?_, fun W hW => ?_⟩
    · obtain ⟨a, b, c, d, h⟩ := hW
      exact stayH ⟨a, b, c, d, h⟩ (cut_no h hM.small (by omega) o nm (by simp [Mo.prop, e0]))
    · obtain ⟨a, b, c, d, e, h⟩ := hW
      exact stayR ⟨a, b, c, d, e, h⟩ (rcut_out h o nm e0)
  · have hxl := hM.small.ps x (List.mem_of_getElem? hx)
    have hu := hM.ok.up i x hx
    rcases find_of (fun p => isN nm p.name) x.ps with ⟨f1, _⟩ | ⟨j, p, f1, f2, _, f4⟩
    · have hn := List.findIdx?_eq_none_iff.1 f1
      refine ⟨true, M, hM.more, fun W hW => ?_, fun W hW => ?_⟩
      · obtain ⟨a, b, c, d, h⟩ := hW
        exact stayH ⟨a, b, c, d, h⟩ (cut_no h hM.small (by omega) i nm (fP_prop hx f1))
      · obtain ⟨a, b, c, d, e, h⟩ := hW
        have hfl : x.ps.filter (fun p => !isN nm p.name) = x.ps := List.filter_eq_self.2 fun q hq => by simp [hn q hq]
        have hc := rcut_ok h hM.small (by omega) i x hx nm fun q hq h1 => by rw [hn q hq] at h1; cases h1
        rw [hfl, show (⟨x.code, x.ps⟩ : Ob) = x from rfl, Mo.setOb_self hx] at hc
        exact hc.mono fun _ _ ⟨q, ⟨os', h'⟩, f⟩ => ⟨q, ⟨_, _, _, _, _, h'⟩, f⟩
    · by_cases hfx : p.fixed = true
      · refine ⟨false, M, hM.more, fun W hW => ?_, fun W hW => ?_⟩
        · obtain ⟨a, b, c, d, h⟩ := hW
          exact stayH ⟨a, b, c, d, h⟩ (cut_fixed h hM.small (by omega) i nm (prop_of hx f1 f2) hfx)
        · obtain ⟨a, b, c, d, e, h⟩ := hW
          exact stayR ⟨a, b, c, d, e, h⟩ (rcut_fixed h hM.small (by omega) i x hx nm j p f1 f2 hfx)
      · have hfx : p.fixed = false := by simpa using hfx
        have haft := uniq_after hu f1
        refine ⟨true, M.setOb i ⟨x.code, x.ps.eraseIdx j⟩, hM.setOb hx (uniq_erase hu) (Nat.le_trans (List.length_eraseIdx_le _ _) (by omega)) (fun q hq => hM.short i x hx q (List.mem_of_mem_eraseIdx hq)), fun W hW => ?_, fun W hW => ?_⟩
        · obtain ⟨a, b, c, d, h⟩ := hW
          exact (cut_ok h hM.small (by omega) i x hx nm j p f1 f2 hfx hu).mono fun _ _ ⟨q, ⟨os', h'⟩, f⟩ => ⟨q, ⟨_, _, _, _, h'⟩, f⟩
        · obtain ⟨a, b, c, d, e, h⟩ := hW
          have hc := rcut_ok h hM.small (by omega) i x hx nm fun q hq h1 => by
            obtain ⟨m, hm⟩ := List.getElem?_of_mem hq
            have : m = j := hu m j q p hm f2 (by
              have a1 : q.name.toList = nm.toList := by simpa [isN] using h1
              have a2 : p.name.toList = nm.toList := by simpa [isN] using f4
              rw [a1, a2])
            subst this
            rw [f2] at hm; cases hm; exact hfx
          rw [filter_erase f1 haft] at hc
          exact hc.mono fun _ _ ⟨q, ⟨os', h'⟩, f⟩ => ⟨q, ⟨_, _, _, _, _, h'⟩, f⟩
theorem step_decl (hM : M.Inv k) (hk : k < 1000) (s : Int) (nm : ByteArray) (kd n : Int) :
    ∃ e M', M'.Inv (k + 1) ∧ Alike H R M M' 12 13 #[pH H, .int .i64 s, .string nm, .int .i64 kd, vA n] #[pH R, .int .i64 s, .string nm, .int .i64 kd, .int .i64 n] (errW e) (.int .i64 e) := by
  rcases ro_cases M s with ⟨e0, _⟩ | ⟨i, x, rfl, hx, e1⟩
  · refine ⟨7, M, hM.more, fun W hW => ?_, fun W hW => ?_⟩
    · obtain ⟨a, b, c, d, h⟩ := hW
      exact stayH ⟨a, b, c, d, h⟩ (decl_out h s nm kd n e0)
    · obtain ⟨a, b, c, d, e, h⟩ := hW
      exact stayR ⟨a, b, c, d, e, h⟩ (rdecl_out h s nm kd n e0)
  · have hob := hM.ok.obj i x hx
    by_cases ho : 0 ≤ x.object
    · refine ⟨1, M, hM.more, fun W hW => ?_, fun W hW => ?_⟩
      · obtain ⟨a, b, c, d, h⟩ := hW
        exact stayH ⟨a, b, c, d, h⟩ (decl_obj h hM.small (by omega) i x hx nm kd n (by omega))
      · obtain ⟨a, b, c, d, e, h⟩ := hW
        exact stayR ⟨a, b, c, d, e, h⟩ (rdecl_obj h i x hx nm kd n ho)
    · have ho1 : x.object = -1 := by omega
      have hxl := hM.small.cs x (List.mem_of_getElem? hx)
      have hhas : M.has i nm = (x.cs.find? fun c => isN nm c.name).isSome := by
        simp [Mo.has, Mo.cel, Mo.objOf, e1, prop_neg M nm (show x.object < 0 by omega)]
      rcases find_of (fun p => isN nm p.name) x.cs with ⟨f1, f3⟩ | ⟨j, p, f1, f2, f3, _⟩
      · have hh : M.has i nm = false := by rw [hhas, f3]; rfl
        have hinv : ∀ r, (M.setRo i ⟨x.outer, x.object, x.cs ++ [⟨nm, n, kd, r⟩]⟩).Inv (k + 1) := fun r =>
          hM.setRo hx ⟨rfl, rfl⟩ (uniq_snoc (b := (⟨nm, n, kd, r⟩ : Ce)) (hM.ok.uc i x hx) (fC_new (nm := nm) f1)) (by simp; omega) (fun h => absurd h ho)
        by_cases q1 : kd = 1
        · refine ⟨0, _, hinv false, fun W hW => ?_, fun W hW => ?_⟩
          · obtain ⟨a, b, c, d, h⟩ := hW
            exact (decl_late h hM.small (by omega) i x hx nm kd n ho1 f1 q1).mono fun _ _ ⟨q, ⟨os', h'⟩, f⟩ => ⟨q, ⟨_, _, _, _, h'⟩, f⟩
          · obtain ⟨a, b, c, d, e, h⟩ := hW
            exact (rdecl_late h hM.small (by omega) hM.ok i x hx nm kd n (by omega) hh q1).mono fun _ _ ⟨q, ⟨os', h'⟩, f⟩ => ⟨q, ⟨_, _, _, _, _, h'⟩, f⟩
        · by_cases q2 : kd = 2
          · refine ⟨0, _, hinv false, fun W hW => ?_, fun W hW => ?_⟩
            · obtain ⟨a, b, c, d, h⟩ := hW
              exact (decl_final h hM.small (by omega) i x hx nm kd n ho1 f1 q2).mono fun _ _ ⟨q, ⟨os', h'⟩, f⟩ => ⟨q, ⟨_, _, _, _, h'⟩, f⟩
            · obtain ⟨a, b, c, d, e, h⟩ := hW
              exact (rdecl_final h hM.small (by omega) hM.ok i x hx nm kd n (by omega) hh q2).mono fun _ _ ⟨q, ⟨os', h'⟩, f⟩ => ⟨q, ⟨_, _, _, _, _, h'⟩, f⟩
          · refine ⟨0, _, hinv true, fun W hW => ?_, fun W hW => ?_⟩
            · obtain ⟨a, b, c, d, h⟩ := hW
              exact (decl_plain h hM.small (by omega) i x hx nm kd n ho1 f1 q1 q2).mono fun _ _ ⟨q, ⟨os', h'⟩, f⟩ => ⟨q, ⟨_, _, _, _, h'⟩, f⟩
            · obtain ⟨a, b, c, d, e, h⟩ := hW
              exact (rdecl_plain h hM.small (by omega) hM.ok i x hx nm kd n (by omega) hh q1 q2).mono fun _ _ ⟨q, ⟨os', h'⟩, f⟩ => ⟨q, ⟨_, _, _, _, _, h'⟩, f⟩
      · have hh : M.has i nm = true := by rw [hhas, f3]; rfl
        refine ⟨9, M, hM.more, fun W hW => ?_, fun W hW => ?_⟩
        · obtain ⟨a, b, c, d, h⟩ := hW
          exact stayH ⟨a, b, c, d, h⟩ (decl_twice h hM.small (by omega) i x hx nm kd n ho1 j p f1 f2)
        · obtain ⟨a, b, c, d, e, h⟩ := hW
          exact stayR ⟨a, b, c, d, e, h⟩ (rdecl_twice h hM.small (by omega) hM.ok i x hx nm kd n (by omega) hh)
theorem cel_emp (hM : M.Inv k) {i : Nat} {x : Ro} (hx : M.rooms[i]? = some x) {nm : ByteArray} {j : Nat} (f : fC nm x.cs = some j) : ¬ 0 ≤ x.object := fun h => by
  rw [hM.ok.emp i x hx h] at f
  simp [fC] at f
/-- Where a name is no cell's: it isn't there, or it is a property of the scope's object. -/
theorem no_cel (hM : M.Inv k) {s : Int} {nm : ByteArray} (hc : M.cel s nm = none) : M.has s nm = false ∨ ∃ (i : Nat) (y : Ro) (j : Nat) (x : Ob) (m : Nat) (p : Pr), s = i ∧ M.rooms[i]? = some y ∧ y.object = j ∧ M.objOf s = j ∧ M.objs[j]? = some x ∧ fP nm x.ps = some m ∧ x.ps[m]? = some p ∧ M.has s nm = true := by
  rcases has_cases hM.ok s nm with ⟨e0, e1, e2⟩ | ⟨i, y, rfl, hy, hob, e1, e2, e3⟩ | ⟨i, x, rfl, hx, hob, e1⟩
  · exact .inl e1
  · rcases ob_cases M y.object with ⟨o0, _⟩ | ⟨j, x, ej, hx, _⟩
    · left; rw [e3]; simp [Mo.prop, o0]
    · rcases find_of (fun p => isN nm p.name) x.ps with ⟨f1, f3⟩ | ⟨m, p, f1, f2, f3, _⟩
      · left; rw [e3, ej, fP_prop hx f1]; rfl
      · right
        refine ⟨i, y, j, x, m, p, rfl, hy, ej, by rw [e2, ej], hx, f1, f2, ?_⟩
        rw [e3, ej, prop_of hx f1 f2]; rfl
  · left; rw [e1, hc]; rfl
theorem step_write (hM : M.Inv k) (hk : k < 1000) (s : Int) (nm : ByteArray) (n : Int) :
    ∃ e M', M'.Inv (k + 1) ∧ Alike H R M M' 14 15 #[pH H, .int .i64 s, .string nm, vA n] #[pH R, .int .i64 s, .string nm, .int .i64 n] (errW e) (.int .i64 e) := by
  rcases plc_cel M s nm with ⟨_, hc⟩ | ⟨i, x, j, c, rfl, hx, f1, f2, _, hc⟩
  · rcases no_cel hM hc with hh | ⟨i, y, j, x, m, p, rfl, hy, ej, eo, hx, f1, f2, _⟩
    · refine ⟨7, M, hM.more, fun W hW => ?_, fun W hW => ?_⟩
      · obtain ⟨a, b, c, d, h⟩ := hW
        exact stayH ⟨a, b, c, d, h⟩ (write_no h hM.small (by omega) s nm n hh)
      · obtain ⟨a, b, c, d, e, h⟩ := hW
        exact stayR ⟨a, b, c, d, e, h⟩ (rwrite_no h hM.small (by omega) hM.ok s nm n hh)
    · have hxl := hM.small.ps x (List.mem_of_getElem? hx)
      refine ⟨0, M.setOb j ⟨x.code, x.ps.set m ⟨p.name, n, p.fixed⟩⟩, hM.setOb hx (uniq_set (hM.ok.up j x hx) f2 rfl) (by simp; omega) (fun q hq => ?_), fun W hW => ?_, fun W hW => ?_⟩
      · rcases List.mem_or_eq_of_mem_set hq with hq | rfl
        · exact hM.short j x hx q hq
        · exact hM.short j x hx p (List.mem_of_getElem? f2)
      · obtain ⟨a, b, c, d, h⟩ := hW
        exact (write_prop h hM.small (by omega) i nm n hc j x eo hx m p f1 f2).mono fun _ _ ⟨q, h', f⟩ => ⟨q, ⟨_, _, _, _, h'⟩, f⟩
      · obtain ⟨a, b, c, d, e, h⟩ := hW
        exact (rwrite_prop h hM.small (by omega) hM.ok i y hy nm n hc j x ej hx m p f1 f2).mono fun _ _ ⟨q, h', f⟩ => ⟨q, ⟨_, _, _, _, _, h'⟩, f⟩
  · have hxl := hM.small.cs x (List.mem_of_getElem? hx)
    by_cases hr : c.ready = true
    · by_cases q2 : c.kind = 2
      · refine ⟨1, M, hM.more, fun W hW => ?_, fun W hW => ?_⟩
        · obtain ⟨a, b, _, d, h⟩ := hW
          exact stayH ⟨a, b, _, d, h⟩ (write_final h hM.small (by omega) i x hx nm n j c f1 f2 hr q2)
        · obtain ⟨a, b, _, d, e, h⟩ := hW
          exact stayR ⟨a, b, _, d, e, h⟩ (rwrite_final h hM.small (by omega) hM.ok i x hx nm n j c f1 f2 hr q2)
      · by_cases q3 : c.kind = 3
        · refine ⟨5, M, hM.more, fun W hW => ?_, fun W hW => ?_⟩
          · obtain ⟨a, b, _, d, h⟩ := hW
            exact stayH ⟨a, b, _, d, h⟩ (write_own h hM.small (by omega) i x hx nm n j c f1 f2 hr q3)
          · obtain ⟨a, b, _, d, e, h⟩ := hW
            exact stayR ⟨a, b, _, d, e, h⟩ (rwrite_own h hM.small (by omega) hM.ok i x hx nm n j c f1 f2 hr q3)
        · refine ⟨0, M.setRo i ⟨x.outer, x.object, x.cs.set j ⟨c.name, n, c.kind, c.ready⟩⟩, hM.setRo hx ⟨rfl, rfl⟩ (uniq_set (hM.ok.uc i x hx) f2 rfl) (by simp; omega) (fun h => absurd h (cel_emp hM hx f1)), fun W hW => ?_, fun W hW => ?_⟩
          · obtain ⟨a, b, _, d, h⟩ := hW
            exact (write_ok h hM.small (by omega) i x hx nm n j c f1 f2 hr q2 q3).mono fun _ _ ⟨q, h', f⟩ => ⟨q, ⟨_, _, _, _, h'⟩, f⟩
          · obtain ⟨a, b, _, d, e, h⟩ := hW
            exact (rwrite_ok h hM.small (by omega) hM.ok i x hx nm n j c f1 f2 hr q2 q3).mono fun _ _ ⟨q, h', f⟩ => ⟨q, ⟨_, _, _, _, _, h'⟩, f⟩
    · have hr : c.ready = false := by simpa using hr
      refine ⟨6, M, hM.more, fun W hW => ?_, fun W hW => ?_⟩
      · obtain ⟨a, b, _, d, h⟩ := hW
        exact stayH ⟨a, b, _, d, h⟩ (write_state h hM.small (by omega) i x hx nm n j c f1 f2 hr)
      · obtain ⟨a, b, _, d, e, h⟩ := hW
        exact stayR ⟨a, b, _, d, e, h⟩ (rwrite_state h hM.small (by omega) hM.ok i x hx nm n j c f1 f2 hr)
theorem step_start (hM : M.Inv k) (hk : k < 1000) (s : Int) (nm : ByteArray) (n : Int) :
    ∃ e M', M'.Inv (k + 1) ∧ Alike H R M M' 16 17 #[pH H, .int .i64 s, .string nm, vA n] #[pH R, .int .i64 s, .string nm, .int .i64 n] (errW e) (.int .i64 e) := by
  rcases plc_cel M s nm with ⟨_, hc⟩ | ⟨i, x, j, c, rfl, hx, f1, f2, _, hc⟩
  · refine ⟨7, M, hM.more, fun W hW => ?_, fun W hW => ?_⟩
    · obtain ⟨a, b, _, d, h⟩ := hW
      exact stayH ⟨a, b, _, d, h⟩ (start_none h hM.small (by omega) s nm n hc)
    · obtain ⟨a, b, _, d, e, h⟩ := hW
      exact stayR ⟨a, b, _, d, e, h⟩ (rstart_none h hM.small (by omega) hM.ok s nm n hc)
  · have hxl := hM.small.cs x (List.mem_of_getElem? hx)
    refine ⟨0, M.setRo i ⟨x.outer, x.object, x.cs.set j ⟨c.name, n, c.kind, true⟩⟩, hM.setRo hx ⟨rfl, rfl⟩ (uniq_set (hM.ok.uc i x hx) f2 rfl) (by simp; omega) (fun h => absurd h (cel_emp hM hx f1)), fun W hW => ?_, fun W hW => ?_⟩
    · obtain ⟨a, b, _, d, h⟩ := hW
      exact (start_some h hM.small (by omega) i x hx nm n j c f1 f2).mono fun _ _ ⟨q, h', f⟩ => ⟨q, ⟨_, _, _, _, h'⟩, f⟩
    · obtain ⟨a, b, _, d, e, h⟩ := hW
      exact (rstart_some h hM.small (by omega) hM.ok i x hx nm n j c f1 f2).mono fun _ _ ⟨q, h', f⟩ => ⟨q, ⟨_, _, _, _, _, h'⟩, f⟩
theorem step_drop (hM : M.Inv k) (hk : k < 1000) (s : Int) (nm : ByteArray) :
    ∃ b M', M'.Inv (k + 1) ∧ Alike H R M M' 18 19 #[pH H, .int .i64 s, .string nm] #[pH R, .int .i64 s, .string nm] (.bool b) (.bool b) := by
  rcases plc_cel M s nm with ⟨_, hc⟩ | ⟨i, x, j, c, rfl, hx, f1, f2, _, hc⟩
  · rcases no_cel hM hc with hh | ⟨i, y, j, x, m, p, rfl, hy, ej, eo, hx, f1, f2, hh⟩
    · have hp : M.prop (M.objOf s) nm = none := by simpa [Mo.has, hc] using hh
      refine ⟨true, M, hM.more, fun W hW => ?_, fun W hW => ?_⟩
      · obtain ⟨a, b, _, d, h⟩ := hW
        exact drop_prop h hM.small (by omega) s nm hc true M fun W2 hW2 => stayH ⟨_, _, _, _, h.later hW2⟩ (cut_no (h.later hW2) hM.small (by omega) _ nm hp)
      · obtain ⟨a, b, _, d, e, h⟩ := hW
        exact stayR ⟨a, b, _, d, e, h⟩ (rdrop_no h hM.small (by omega) hM.ok s nm hh)
    · obtain ⟨b, M', hM', h1, h2⟩ := step_cut (H := H) (R := R) hM hk (M.objOf i) nm
      refine ⟨b, M', hM', fun W hW => ?_, fun W hW => ?_⟩
      · obtain ⟨_, _, _, _, h⟩ := hW
        exact drop_prop h hM.small (by omega) i nm hc b M' fun W2 hW2 => h1 W2 ⟨_, _, _, _, h.later hW2⟩
      · obtain ⟨_, _, _, _, _, h⟩ := hW
        refine rdrop_prop h hM.small (by omega) hM.ok i y hy nm hc hh b M' fun W2 hW2 => ?_
        have := h2 W2 ⟨_, _, _, _, _, h.later hW2⟩
        rw [eo, ← ej] at this
        exact this
  · have hxl := hM.small.cs x (List.mem_of_getElem? hx)
    by_cases q4 : c.kind = 4
    · refine ⟨true, M.setRo i ⟨x.outer, x.object, x.cs.eraseIdx j⟩, hM.setRo hx ⟨rfl, rfl⟩ (uniq_erase (hM.ok.uc i x hx)) (Nat.le_trans (List.length_eraseIdx_le _ _) (by omega)) (fun h => absurd h (cel_emp hM hx f1)), fun W hW => ?_, fun W hW => ?_⟩
      · obtain ⟨_, _, _, _, h⟩ := hW
        exact (drop_ok h hM.small (by omega) i x hx nm j c f1 f2 q4 (hM.ok.uc i x hx)).mono fun _ _ ⟨q, ⟨os', h'⟩, f⟩ => ⟨q, ⟨_, _, _, _, h'⟩, f⟩
      · obtain ⟨_, _, _, _, _, h⟩ := hW
        exact (rdrop_ok h hM.small (by omega) hM.ok i x hx nm j c f1 f2 q4).mono fun _ _ ⟨q, ⟨os', h'⟩, f⟩ => ⟨q, ⟨_, _, _, _, _, h'⟩, f⟩
    · refine ⟨false, M, hM.more, fun W hW => ?_, fun W hW => ?_⟩
      · obtain ⟨a, b, _, d, h⟩ := hW
        exact stayH ⟨a, b, _, d, h⟩ (drop_kind h hM.small (by omega) i nm hc q4)
      · obtain ⟨a, b, _, d, e, h⟩ := hW
        exact stayR ⟨a, b, _, d, e, h⟩ (rdrop_kind h hM.small (by omega) hM.ok i x hx nm j c f1 f2 q4)
end
end Go.Proofs.YtomogijjkdiomaaDoor
