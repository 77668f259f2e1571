/-
  The document's parser: all parts together, at every bound.
-/
import Derived.Test.YtodmgaikhbmlnaaGreatDoorTw21
import Derived.Test.YtodmgaikhbmlnaaGreatDoorTw23
import Derived.Test.YtodmgaikhbmlnaaGreatDoorTw25
import Derived.Test.YtodmgaikhbmlnaaGreatDoorTw26
import Derived.Test.YtodmgaikhbmlnaaGreatDoorTw27
import Derived.Test.YtodmgaikhbmlnaaGreatDoorTw28
import Derived.Test.YtodmgaikhbmlnaaGreatDoorTw29
import Derived.Test.YtodmgaikhbmlnaaGreatDoorTw30
import Derived.Test.YtodmgaikhbmlnaaGreatDoorTw31
import Derived.Test.YtodmgaikhbmlnaaGreatDoorTw32
set_option maxRecDepth 100000
set_option maxHeartbeats 16000000
namespace Go.Proofs.YtodmgaikhbmlnaaGreatDoor
open Go.RowKit
theorem rest_any {c : PC} {F : Fns} (hF : RCt c F) (hN : ∃ k, FNx c.l k F) (hK : FOk F) : RestC c F where
 choice := by
  intro w d i r hd hf hs ho h; unfold choiceP at hs; rw [tx_of (by decide) hf, show hdKind tIf = 7 from by decide +kernel] at hs; exact rst_if hF hN hK w d i r hd hf hs ho h
 attempt := by
  intro w d i r hd hf hs ho h; unfold attemptP at hs; have hm : mustP c.l tTry i = .ok () (i + 1) := by unfold mustP; rw [if_pos hf]
  rw [hm, bind_ok] at hs
  cases hb : blockP c.l F d (i + 1) with
  | out => rw [hb] at hs; exact absurd hs ho
  | bad er pl => exact rst_try_a hF hN hK w d i r hd er pl hf hb hs ho h
  | ok b j =>
   by_cases hc : fx c.l j = tCatch
   ·
    by_cases hno : ∃ k3 b2 k4, blockP c.l F d k3 = .ok b2 k4 ∧ ∃ s k1 k2, mustP c.l tOpen (j + 1) = .ok () k1 ∧ nameP c.l k1 = .ok s k2 ∧ mustP c.l tShut k2 = .ok () k3
    ·
     obtain ⟨k3, b2, k4, h4, s, k1, k2, h1, h2, h3⟩ := hno
     by_cases hf0 : fx c.l k4 = tFinally
     ·
      exact rst_try_f hF hN hK w d i r hd b j s k1 k2 k3 k4 b2 hf hb hc h1 h2 h3 h4 hf0 hs ho h
     ·
      exact rst_try_e hF hN hK w d i r hd b j s k1 k2 k3 k4 b2 hf hb hc h1 h2 h3 h4 hf0 hs ho h
    ·
     exact rst_try_d hF hN hK w d i r hd b j hf hb hc (fun k3 b2 k4 h4 s k1 k2 h1 h2 h3 => hno ⟨k3, b2, k4, h4, s, k1, k2, h1, h2, h3⟩) hs ho h
   ·
    by_cases hf0 : fx c.l j = tFinally
    ·
     exact rst_try_c hF hN hK w d i r hd b j hf hb hc hf0 hs ho h
    ·
     exact rst_try_b hF hN hK w d i r hd b j hf hb hc hf0 hs ho h
 decl := by
  intro w d i r hd hf hs ho h
  rcases hf with hf | hf | hf
  ·
   exact rst_var hF hN hK w d i r hd hf hs ho h
  ·
   exact rst_let hF hN hK w d i r hd hf hs ho h
  ·
   exact rst_const hF hN hK w d i r hd hf hs ho h
theorem rfns_all {c : PC} (hE : Ends c.l) (k : Nat) : RCt c (rfns c.l k) := rfns_does hE (fun _ hF hN hK => rest_any hF hN hK) k
end Go.Proofs.YtodmgaikhbmlnaaGreatDoor
