/-
  HartDoes: of every hart, every word and every word of lines: what Do answers, the hart and the access, is what the document says; what must come whatever the input is comes; the arguments stay. The conditions: inst's kinds and words, hart's operations on numbers and widths read as the program's text lays them, to which the card ties them.
-/
import Derived.Test.YtchjhpeogdkbmaaDoorJG
import Derived.Test.YtchjhpeogdkbmaaDoorJH
import Derived.Test.YtchjhpeogdkbmaaDoorJK
import Derived.Test.YtchjhpeogdkbmaaDoorHaAll
import Derived.Test.YtchjhpeogdkbmaaDoorCsMath
import Derived.Test.YtchjhpeogdkbmaaDoorJF
import Derived.Deep.RegionHeld3
import Derived.Test.YtchjhpeogdkbmaaDoorTk
import Derived.Test.YtchjhpeogdkbmaaDoorHaRow
import Derived.ProofKit
import Derived.OpenShut
import Derived.WideShapes
import Derived.Test.YtchjhpeogdkbmaaDoorRows
import Derived.LaidMore
import Derived.LaidLaws
import Derived.Test.YtchjhpeogdkbmaaDoorTie
import Derived.Test.YtchjhpeogdkbmaaDoorCards
import Derived.LaidHandle
import Derived.Stop.Joined
import Derived.SevenTiedAt
import Derived.SizedLaws
namespace Go.Proofs.YtchjhpeogdkbmaaDoor
open Go.RowKit
set_option linter.unusedVariables false

theorem half_and (x : Nat) (hx : x < 4294967296) : x / 2 * 2 = x &&& 4294967294 := by
  apply Nat.eq_of_testBit_eq
  intro i
  rw [Nat.testBit_and]
  rcases i with _ | i
  · rw [Nat.testBit_zero]; simp
  · rw [Nat.testBit_succ (x / 2 * 2), Nat.mul_div_cancel _ (by decide), ← Nat.testBit_succ]
    by_cases h : i + 1 < 32
    · have h1 : Nat.testBit 4294967294 (i + 1) = true := (by decide : ∀ i < 32, 1 ≤ i → Nat.testBit 4294967294 i = true) (i + 1) h (by omega)
      rw [h1, Bool.and_true]
    · rw [Nat.testBit_lt_two_pow (Nat.lt_of_lt_of_le hx (Nat.pow_le_pow_right (n := 2) (i := 32) (by decide) (by omega)))]; rfl
/-- Do, of an instruction that is told. -/
def RDoes (h : H) (v l op : Nat) (i : I6) (w : World) : Prop :=
  Told v i (nameN op) → Calls Tryd.prog 10 #[.agg h.cells, .int .u32 (v : Nat), .int .u32 (l : Nat)] w fun e w' => e = .returned (.tuple #[.agg (doOp h op i v l).1.cells, .agg (doOp h op i v l).2.cells]) ∧ Below w.heap.size w w'
theorem rdoes_0 (h : H) (ok : h.Ok) (rd s1 s2 : Nat) (im cs : Int) (hrd : rd < 32) (h1 : s1 < 32) (h2 : s2 < 32) (v l : Nat) (hv : v < 4294967296) (hl : l < 4294967296) (w : World) : RDoes h v l 0 ⟨0, (rd : Nat), (s1 : Nat), (s2 : Nat), im, cs⟩ w := by
  intro hT
  have e0 : doOp h 0 ⟨0, (rd : Nat), (s1 : Nat), (s2 : Nat), im, cs⟩ v l = (nextH (writeH h rd (immN im)), noA) := by first | rfl | simp [doOp, withinH, kindN, kindL]
  rw [e0, next_w]
  exact rdo_7 h ok 0 im cs rd s1 s2 hrd h1 h2 v l _ hT (by unfold MissL; decide +kernel) (by unfold MissL; decide +kernel) (by unfold MissL; decide +kernel) (by unfold MissL; decide +kernel) (by unfold MissL; decide +kernel) (by unfold MissL; decide +kernel) _ (fun w => rrest_lui h ok 0 (s1 : Nat) (s2 : Nat) im cs rd hrd (h.x s1) (immN im) (ok.x s1) (immN_lt im) w) w
theorem rdoes_1 (h : H) (ok : h.Ok) (rd s1 s2 : Nat) (im cs : Int) (hrd : rd < 32) (h1 : s1 < 32) (h2 : s2 < 32) (v l : Nat) (hv : v < 4294967296) (hl : l < 4294967296) (w : World) : RDoes h v l 1 ⟨1, (rd : Nat), (s1 : Nat), (s2 : Nat), im, cs⟩ w := by
  intro hT
  have e0 : doOp h 1 ⟨1, (rd : Nat), (s1 : Nat), (s2 : Nat), im, cs⟩ v l = (nextH (writeH h rd ((immN im + h.pc) % 4294967296)), noA) := by first | rfl | simp [doOp, withinH, kindN, kindL]
  rw [e0, next_w, Nat.add_comm (immN im) h.pc]
  exact rdo_7 h ok 1 im cs rd s1 s2 hrd h1 h2 v l _ hT (by unfold MissL; decide +kernel) (by unfold MissL; decide +kernel) (by unfold MissL; decide +kernel) (by unfold MissL; decide +kernel) (by unfold MissL; decide +kernel) (by unfold MissL; decide +kernel) _ (fun w => rrest_auipc h ok 1 (s1 : Nat) (s2 : Nat) im cs rd hrd (h.x s1) (immN im) (ok.x s1) (immN_lt im) w) w
theorem rdoes_2 (h : H) (ok : h.Ok) (rd s1 s2 : Nat) (im cs : Int) (hrd : rd < 32) (h1 : s1 < 32) (h2 : s2 < 32) (v l : Nat) (hv : v < 4294967296) (hl : l < 4294967296) (w : World) : RDoes h v l 2 ⟨2, (rd : Nat), (s1 : Nat), (s2 : Nat), im, cs⟩ w := by
  intro hT
  have e0 : doOp h 2 ⟨2, (rd : Nat), (s1 : Nat), (s2 : Nat), im, cs⟩ v l = (jumpH h rd ((h.pc + immN im) % 4294967296), noA) := by first | rfl | simp [doOp, withinH, kindN, kindL]
  rw [e0]
  unfold jumpH
  by_cases h4 : ((h.pc + immN im) % 4294967296) % 4 = 0
  · rw [if_pos h4]; exact rdo_7 h ok 2 im cs rd s1 s2 hrd h1 h2 v l _ hT (by unfold MissL; decide +kernel) (by unfold MissL; decide +kernel) (by unfold MissL; decide +kernel) (by unfold MissL; decide +kernel) (by unfold MissL; decide +kernel) (by unfold MissL; decide +kernel) _ (fun w => rrest_jal_yes h ok 2 (s1 : Nat) (s2 : Nat) im cs rd hrd (h.x s1) (immN im) (ok.x s1) (immN_lt im) h4 w) w
  · rw [if_neg h4]; exact rdo_7 h ok 2 im cs rd s1 s2 hrd h1 h2 v l _ hT (by unfold MissL; decide +kernel) (by unfold MissL; decide +kernel) (by unfold MissL; decide +kernel) (by unfold MissL; decide +kernel) (by unfold MissL; decide +kernel) (by unfold MissL; decide +kernel) _ (fun w => rrest_jal_no h ok 2 (s1 : Nat) (s2 : Nat) im cs rd hrd (h.x s1) (immN im) (ok.x s1) (immN_lt im) h4 w) w
theorem rdoes_3 (h : H) (ok : h.Ok) (rd s1 s2 : Nat) (im cs : Int) (hrd : rd < 32) (h1 : s1 < 32) (h2 : s2 < 32) (v l : Nat) (hv : v < 4294967296) (hl : l < 4294967296) (w : World) : RDoes h v l 3 ⟨3, (rd : Nat), (s1 : Nat), (s2 : Nat), im, cs⟩ w := by
  intro hT
  have e0 : doOp h 3 ⟨3, (rd : Nat), (s1 : Nat), (s2 : Nat), im, cs⟩ v l = (jumpH h rd ((h.x s1 + immN im) % 4294967296 &&& 4294967294), noA) := by first | rfl | simp [doOp, withinH, kindN, kindL]
  rw [e0, ← half_and _ (Nat.mod_lt _ (by decide))]
  unfold jumpH
  by_cases h4 : ((h.x s1 + immN im) % 4294967296 / 2 * 2) % 4 = 0
  · rw [if_pos h4]; exact rdo_7 h ok 3 im cs rd s1 s2 hrd h1 h2 v l _ hT (by unfold MissL; decide +kernel) (by unfold MissL; decide +kernel) (by unfold MissL; decide +kernel) (by unfold MissL; decide +kernel) (by unfold MissL; decide +kernel) (by unfold MissL; decide +kernel) _ (fun w => rrest_jalr_yes h ok 3 (s1 : Nat) (s2 : Nat) im cs rd hrd (h.x s1) (immN im) (ok.x s1) (immN_lt im) h4 w) w
  · rw [if_neg h4]; exact rdo_7 h ok 3 im cs rd s1 s2 hrd h1 h2 v l _ hT (by unfold MissL; decide +kernel) (by unfold MissL; decide +kernel) (by unfold MissL; decide +kernel) (by unfold MissL; decide +kernel) (by unfold MissL; decide +kernel) (by unfold MissL; decide +kernel) _ (fun w => rrest_jalr_no h ok 3 (s1 : Nat) (s2 : Nat) im cs rd hrd (h.x s1) (immN im) (ok.x s1) (immN_lt im) h4 w) w
theorem rdoes_4 (h : H) (ok : h.Ok) (rd s1 s2 : Nat) (im cs : Int) (hrd : rd < 32) (h1 : s1 < 32) (h2 : s2 < 32) (v l : Nat) (hv : v < 4294967296) (hl : l < 4294967296) (w : World) : RDoes h v l 4 ⟨4, (rd : Nat), (s1 : Nat), (s2 : Nat), im, cs⟩ w := by
  intro hT
  have e0 : doOp h 4 ⟨4, (rd : Nat), (s1 : Nat), (s2 : Nat), im, cs⟩ v l = ((if holdsN 0 (h.x s1) (h.x s2) then goH h ((h.pc + immN im) % 4294967296) else nextH h), noA) := rfl
  rw [e0]
  cases hh : holdsN 0 (h.x s1) (h.x s2) with
  | true => exact rdo_3y h ok 4 im cs rd s1 s2 hrd h1 h2 v l _ hT (by unfold MissL; decide +kernel) (by unfold MissL; decide +kernel) 0 ⟨by decide, by decide +kernel, by decide +kernel⟩ hh w
  | false => exact rdo_3n h ok 4 im cs rd s1 s2 hrd h1 h2 v l _ hT (by unfold MissL; decide +kernel) (by unfold MissL; decide +kernel) 0 ⟨by decide, by decide +kernel, by decide +kernel⟩ hh w
theorem rdoes_5 (h : H) (ok : h.Ok) (rd s1 s2 : Nat) (im cs : Int) (hrd : rd < 32) (h1 : s1 < 32) (h2 : s2 < 32) (v l : Nat) (hv : v < 4294967296) (hl : l < 4294967296) (w : World) : RDoes h v l 5 ⟨5, (rd : Nat), (s1 : Nat), (s2 : Nat), im, cs⟩ w := by
  intro hT
  have e0 : doOp h 5 ⟨5, (rd : Nat), (s1 : Nat), (s2 : Nat), im, cs⟩ v l = ((if holdsN 1 (h.x s1) (h.x s2) then goH h ((h.pc + immN im) % 4294967296) else nextH h), noA) := rfl
  rw [e0]
  cases hh : holdsN 1 (h.x s1) (h.x s2) with
  | true => exact rdo_3y h ok 5 im cs rd s1 s2 hrd h1 h2 v l _ hT (by unfold MissL; decide +kernel) (by unfold MissL; decide +kernel) 1 ⟨by decide, by decide +kernel, by decide +kernel⟩ hh w
  | false => exact rdo_3n h ok 5 im cs rd s1 s2 hrd h1 h2 v l _ hT (by unfold MissL; decide +kernel) (by unfold MissL; decide +kernel) 1 ⟨by decide, by decide +kernel, by decide +kernel⟩ hh w
theorem rdoes_6 (h : H) (ok : h.Ok) (rd s1 s2 : Nat) (im cs : Int) (hrd : rd < 32) (h1 : s1 < 32) (h2 : s2 < 32) (v l : Nat) (hv : v < 4294967296) (hl : l < 4294967296) (w : World) : RDoes h v l 6 ⟨6, (rd : Nat), (s1 : Nat), (s2 : Nat), im, cs⟩ w := by
  intro hT
  have e0 : doOp h 6 ⟨6, (rd : Nat), (s1 : Nat), (s2 : Nat), im, cs⟩ v l = ((if holdsN 2 (h.x s1) (h.x s2) then goH h ((h.pc + immN im) % 4294967296) else nextH h), noA) := rfl
  rw [e0]
  cases hh : holdsN 2 (h.x s1) (h.x s2) with
  | true => exact rdo_3y h ok 6 im cs rd s1 s2 hrd h1 h2 v l _ hT (by unfold MissL; decide +kernel) (by unfold MissL; decide +kernel) 2 ⟨by decide, by decide +kernel, by decide +kernel⟩ hh w
  | false => exact rdo_3n h ok 6 im cs rd s1 s2 hrd h1 h2 v l _ hT (by unfold MissL; decide +kernel) (by unfold MissL; decide +kernel) 2 ⟨by decide, by decide +kernel, by decide +kernel⟩ hh w
theorem rdoes_7 (h : H) (ok : h.Ok) (rd s1 s2 : Nat) (im cs : Int) (hrd : rd < 32) (h1 : s1 < 32) (h2 : s2 < 32) (v l : Nat) (hv : v < 4294967296) (hl : l < 4294967296) (w : World) : RDoes h v l 7 ⟨7, (rd : Nat), (s1 : Nat), (s2 : Nat), im, cs⟩ w := by
  intro hT
  have e0 : doOp h 7 ⟨7, (rd : Nat), (s1 : Nat), (s2 : Nat), im, cs⟩ v l = ((if holdsN 3 (h.x s1) (h.x s2) then goH h ((h.pc + immN im) % 4294967296) else nextH h), noA) := rfl
  rw [e0]
  cases hh : holdsN 3 (h.x s1) (h.x s2) with
  | true => exact rdo_3y h ok 7 im cs rd s1 s2 hrd h1 h2 v l _ hT (by unfold MissL; decide +kernel) (by unfold MissL; decide +kernel) 3 ⟨by decide, by decide +kernel, by decide +kernel⟩ hh w
  | false => exact rdo_3n h ok 7 im cs rd s1 s2 hrd h1 h2 v l _ hT (by unfold MissL; decide +kernel) (by unfold MissL; decide +kernel) 3 ⟨by decide, by decide +kernel, by decide +kernel⟩ hh w
theorem rdoes_8 (h : H) (ok : h.Ok) (rd s1 s2 : Nat) (im cs : Int) (hrd : rd < 32) (h1 : s1 < 32) (h2 : s2 < 32) (v l : Nat) (hv : v < 4294967296) (hl : l < 4294967296) (w : World) : RDoes h v l 8 ⟨8, (rd : Nat), (s1 : Nat), (s2 : Nat), im, cs⟩ w := by
  intro hT
  have e0 : doOp h 8 ⟨8, (rd : Nat), (s1 : Nat), (s2 : Nat), im, cs⟩ v l = ((if holdsN 4 (h.x s1) (h.x s2) then goH h ((h.pc + immN im) % 4294967296) else nextH h), noA) := rfl
  rw [e0]
  cases hh : holdsN 4 (h.x s1) (h.x s2) with
  | true => exact rdo_3y h ok 8 im cs rd s1 s2 hrd h1 h2 v l _ hT (by unfold MissL; decide +kernel) (by unfold MissL; decide +kernel) 4 ⟨by decide, by decide +kernel, by decide +kernel⟩ hh w
  | false => exact rdo_3n h ok 8 im cs rd s1 s2 hrd h1 h2 v l _ hT (by unfold MissL; decide +kernel) (by unfold MissL; decide +kernel) 4 ⟨by decide, by decide +kernel, by decide +kernel⟩ hh w
theorem rdoes_9 (h : H) (ok : h.Ok) (rd s1 s2 : Nat) (im cs : Int) (hrd : rd < 32) (h1 : s1 < 32) (h2 : s2 < 32) (v l : Nat) (hv : v < 4294967296) (hl : l < 4294967296) (w : World) : RDoes h v l 9 ⟨9, (rd : Nat), (s1 : Nat), (s2 : Nat), im, cs⟩ w := by
  intro hT
  have e0 : doOp h 9 ⟨9, (rd : Nat), (s1 : Nat), (s2 : Nat), im, cs⟩ v l = ((if holdsN 5 (h.x s1) (h.x s2) then goH h ((h.pc + immN im) % 4294967296) else nextH h), noA) := rfl
  rw [e0]
  cases hh : holdsN 5 (h.x s1) (h.x s2) with
  | true => exact rdo_3y h ok 9 im cs rd s1 s2 hrd h1 h2 v l _ hT (by unfold MissL; decide +kernel) (by unfold MissL; decide +kernel) 5 ⟨by decide, by decide +kernel, by decide +kernel⟩ hh w
  | false => exact rdo_3n h ok 9 im cs rd s1 s2 hrd h1 h2 v l _ hT (by unfold MissL; decide +kernel) (by unfold MissL; decide +kernel) 5 ⟨by decide, by decide +kernel, by decide +kernel⟩ hh w
theorem rdoes_10 (h : H) (ok : h.Ok) (rd s1 s2 : Nat) (im cs : Int) (hrd : rd < 32) (h1 : s1 < 32) (h2 : s2 < 32) (v l : Nat) (hv : v < 4294967296) (hl : l < 4294967296) (w : World) : RDoes h v l 10 ⟨10, (rd : Nat), (s1 : Nat), (s2 : Nat), im, cs⟩ w := by
  intro hT
  have e0 : doOp h 10 ⟨10, (rd : Nat), (s1 : Nat), (s2 : Nat), im, cs⟩ v l = if (h.x s1 + immN im) % 4294967296 % 1 = 0 then (h, ⟨1, (h.x s1 + immN im) % 4294967296, 1, true, (rd : Nat), 0⟩) else (trapH h 4 ((h.x s1 + immN im) % 4294967296), noA) := rfl
  rw [e0]
  rw [if_pos (by omega)]
  exact rdo_4t h ok 10 im cs rd s1 s2 hrd h1 h2 v l _ hT (by unfold MissL; decide +kernel) (by unfold MissL; decide +kernel) (by unfold MissL; decide +kernel) 0 1 (by decide) (by decide) ⟨by decide, by decide +kernel, by decide +kernel⟩ rfl (by omega) w
theorem rdoes_11 (h : H) (ok : h.Ok) (rd s1 s2 : Nat) (im cs : Int) (hrd : rd < 32) (h1 : s1 < 32) (h2 : s2 < 32) (v l : Nat) (hv : v < 4294967296) (hl : l < 4294967296) (w : World) : RDoes h v l 11 ⟨11, (rd : Nat), (s1 : Nat), (s2 : Nat), im, cs⟩ w := by
  intro hT
  have e0 : doOp h 11 ⟨11, (rd : Nat), (s1 : Nat), (s2 : Nat), im, cs⟩ v l = if (h.x s1 + immN im) % 4294967296 % 2 = 0 then (h, ⟨1, (h.x s1 + immN im) % 4294967296, 2, true, (rd : Nat), 0⟩) else (trapH h 4 ((h.x s1 + immN im) % 4294967296), noA) := rfl
  rw [e0]
  by_cases hm : (h.x s1 + immN im) % 4294967296 % 2 = 0
  · rw [if_pos hm]; exact rdo_4t h ok 11 im cs rd s1 s2 hrd h1 h2 v l _ hT (by unfold MissL; decide +kernel) (by unfold MissL; decide +kernel) (by unfold MissL; decide +kernel) 1 2 (by decide) (by decide) ⟨by decide, by decide +kernel, by decide +kernel⟩ rfl hm w
  · rw [if_neg hm]; exact rdo_4f h ok 11 im cs rd s1 s2 hrd h1 h2 v l _ hT (by unfold MissL; decide +kernel) (by unfold MissL; decide +kernel) (by unfold MissL; decide +kernel) 1 2 (by decide) (by decide) ⟨by decide, by decide +kernel, by decide +kernel⟩ rfl hm w
theorem rdoes_12 (h : H) (ok : h.Ok) (rd s1 s2 : Nat) (im cs : Int) (hrd : rd < 32) (h1 : s1 < 32) (h2 : s2 < 32) (v l : Nat) (hv : v < 4294967296) (hl : l < 4294967296) (w : World) : RDoes h v l 12 ⟨12, (rd : Nat), (s1 : Nat), (s2 : Nat), im, cs⟩ w := by
  intro hT
  have e0 : doOp h 12 ⟨12, (rd : Nat), (s1 : Nat), (s2 : Nat), im, cs⟩ v l = if (h.x s1 + immN im) % 4294967296 % 4 = 0 then (h, ⟨1, (h.x s1 + immN im) % 4294967296, 4, true, (rd : Nat), 0⟩) else (trapH h 4 ((h.x s1 + immN im) % 4294967296), noA) := rfl
  rw [e0]
  by_cases hm : (h.x s1 + immN im) % 4294967296 % 4 = 0
  · rw [if_pos hm]; exact rdo_4t h ok 12 im cs rd s1 s2 hrd h1 h2 v l _ hT (by unfold MissL; decide +kernel) (by unfold MissL; decide +kernel) (by unfold MissL; decide +kernel) 2 4 (by decide) (by decide) ⟨by decide, by decide +kernel, by decide +kernel⟩ rfl hm w
  · rw [if_neg hm]; exact rdo_4f h ok 12 im cs rd s1 s2 hrd h1 h2 v l _ hT (by unfold MissL; decide +kernel) (by unfold MissL; decide +kernel) (by unfold MissL; decide +kernel) 2 4 (by decide) (by decide) ⟨by decide, by decide +kernel, by decide +kernel⟩ rfl hm w
theorem rdoes_13 (h : H) (ok : h.Ok) (rd s1 s2 : Nat) (im cs : Int) (hrd : rd < 32) (h1 : s1 < 32) (h2 : s2 < 32) (v l : Nat) (hv : v < 4294967296) (hl : l < 4294967296) (w : World) : RDoes h v l 13 ⟨13, (rd : Nat), (s1 : Nat), (s2 : Nat), im, cs⟩ w := by
  intro hT
  have e0 : doOp h 13 ⟨13, (rd : Nat), (s1 : Nat), (s2 : Nat), im, cs⟩ v l = if (h.x s1 + immN im) % 4294967296 % 1 = 0 then (h, ⟨1, (h.x s1 + immN im) % 4294967296, 1, false, (rd : Nat), 0⟩) else (trapH h 4 ((h.x s1 + immN im) % 4294967296), noA) := rfl
  rw [e0]
  rw [if_pos (by omega)]
  exact rdo_4t h ok 13 im cs rd s1 s2 hrd h1 h2 v l _ hT (by unfold MissL; decide +kernel) (by unfold MissL; decide +kernel) (by unfold MissL; decide +kernel) 3 1 (by decide) (by decide) ⟨by decide, by decide +kernel, by decide +kernel⟩ rfl (by omega) w
theorem rdoes_14 (h : H) (ok : h.Ok) (rd s1 s2 : Nat) (im cs : Int) (hrd : rd < 32) (h1 : s1 < 32) (h2 : s2 < 32) (v l : Nat) (hv : v < 4294967296) (hl : l < 4294967296) (w : World) : RDoes h v l 14 ⟨14, (rd : Nat), (s1 : Nat), (s2 : Nat), im, cs⟩ w := by
  intro hT
  have e0 : doOp h 14 ⟨14, (rd : Nat), (s1 : Nat), (s2 : Nat), im, cs⟩ v l = if (h.x s1 + immN im) % 4294967296 % 2 = 0 then (h, ⟨1, (h.x s1 + immN im) % 4294967296, 2, false, (rd : Nat), 0⟩) else (trapH h 4 ((h.x s1 + immN im) % 4294967296), noA) := rfl
  rw [e0]
  by_cases hm : (h.x s1 + immN im) % 4294967296 % 2 = 0
  · rw [if_pos hm]; exact rdo_4t h ok 14 im cs rd s1 s2 hrd h1 h2 v l _ hT (by unfold MissL; decide +kernel) (by unfold MissL; decide +kernel) (by unfold MissL; decide +kernel) 4 2 (by decide) (by decide) ⟨by decide, by decide +kernel, by decide +kernel⟩ rfl hm w
  · rw [if_neg hm]; exact rdo_4f h ok 14 im cs rd s1 s2 hrd h1 h2 v l _ hT (by unfold MissL; decide +kernel) (by unfold MissL; decide +kernel) (by unfold MissL; decide +kernel) 4 2 (by decide) (by decide) ⟨by decide, by decide +kernel, by decide +kernel⟩ rfl hm w
theorem rdoes_15 (h : H) (ok : h.Ok) (rd s1 s2 : Nat) (im cs : Int) (hrd : rd < 32) (h1 : s1 < 32) (h2 : s2 < 32) (v l : Nat) (hv : v < 4294967296) (hl : l < 4294967296) (w : World) : RDoes h v l 15 ⟨15, (rd : Nat), (s1 : Nat), (s2 : Nat), im, cs⟩ w := by
  intro hT
  have e0 : doOp h 15 ⟨15, (rd : Nat), (s1 : Nat), (s2 : Nat), im, cs⟩ v l = if (h.x s1 + immN im) % 4294967296 % 1 = 0 then (h, ⟨2, (h.x s1 + immN im) % 4294967296, 1, false, 0, h.x s2⟩) else (trapH h 6 ((h.x s1 + immN im) % 4294967296), noA) := rfl
  rw [e0]
  rw [if_pos (by omega)]
  exact rdo_5t h ok 15 im cs rd s1 s2 hrd h1 h2 v l _ hT (by unfold MissL; decide +kernel) (by unfold MissL; decide +kernel) (by unfold MissL; decide +kernel) (by unfold MissL; decide +kernel) 0 1 (by decide) (by decide) ⟨by decide, by decide +kernel, by decide +kernel⟩ rfl (by omega) w
theorem rdoes_16 (h : H) (ok : h.Ok) (rd s1 s2 : Nat) (im cs : Int) (hrd : rd < 32) (h1 : s1 < 32) (h2 : s2 < 32) (v l : Nat) (hv : v < 4294967296) (hl : l < 4294967296) (w : World) : RDoes h v l 16 ⟨16, (rd : Nat), (s1 : Nat), (s2 : Nat), im, cs⟩ w := by
  intro hT
  have e0 : doOp h 16 ⟨16, (rd : Nat), (s1 : Nat), (s2 : Nat), im, cs⟩ v l = if (h.x s1 + immN im) % 4294967296 % 2 = 0 then (h, ⟨2, (h.x s1 + immN im) % 4294967296, 2, false, 0, h.x s2⟩) else (trapH h 6 ((h.x s1 + immN im) % 4294967296), noA) := rfl
  rw [e0]
  by_cases hm : (h.x s1 + immN im) % 4294967296 % 2 = 0
  · rw [if_pos hm]; exact rdo_5t h ok 16 im cs rd s1 s2 hrd h1 h2 v l _ hT (by unfold MissL; decide +kernel) (by unfold MissL; decide +kernel) (by unfold MissL; decide +kernel) (by unfold MissL; decide +kernel) 1 2 (by decide) (by decide) ⟨by decide, by decide +kernel, by decide +kernel⟩ rfl hm w
  · rw [if_neg hm]; exact rdo_5f h ok 16 im cs rd s1 s2 hrd h1 h2 v l _ hT (by unfold MissL; decide +kernel) (by unfold MissL; decide +kernel) (by unfold MissL; decide +kernel) (by unfold MissL; decide +kernel) 1 2 (by decide) (by decide) ⟨by decide, by decide +kernel, by decide +kernel⟩ rfl hm w
theorem rdoes_17 (h : H) (ok : h.Ok) (rd s1 s2 : Nat) (im cs : Int) (hrd : rd < 32) (h1 : s1 < 32) (h2 : s2 < 32) (v l : Nat) (hv : v < 4294967296) (hl : l < 4294967296) (w : World) : RDoes h v l 17 ⟨17, (rd : Nat), (s1 : Nat), (s2 : Nat), im, cs⟩ w := by
  intro hT
  have e0 : doOp h 17 ⟨17, (rd : Nat), (s1 : Nat), (s2 : Nat), im, cs⟩ v l = if (h.x s1 + immN im) % 4294967296 % 4 = 0 then (h, ⟨2, (h.x s1 + immN im) % 4294967296, 4, false, 0, h.x s2⟩) else (trapH h 6 ((h.x s1 + immN im) % 4294967296), noA) := rfl
  rw [e0]
  by_cases hm : (h.x s1 + immN im) % 4294967296 % 4 = 0
  · rw [if_pos hm]; exact rdo_5t h ok 17 im cs rd s1 s2 hrd h1 h2 v l _ hT (by unfold MissL; decide +kernel) (by unfold MissL; decide +kernel) (by unfold MissL; decide +kernel) (by unfold MissL; decide +kernel) 2 4 (by decide) (by decide) ⟨by decide, by decide +kernel, by decide +kernel⟩ rfl hm w
  · rw [if_neg hm]; exact rdo_5f h ok 17 im cs rd s1 s2 hrd h1 h2 v l _ hT (by unfold MissL; decide +kernel) (by unfold MissL; decide +kernel) (by unfold MissL; decide +kernel) (by unfold MissL; decide +kernel) 2 4 (by decide) (by decide) ⟨by decide, by decide +kernel, by decide +kernel⟩ rfl hm w
theorem rdoes_18 (h : H) (ok : h.Ok) (rd s1 s2 : Nat) (im cs : Int) (hrd : rd < 32) (h1 : s1 < 32) (h2 : s2 < 32) (v l : Nat) (hv : v < 4294967296) (hl : l < 4294967296) (w : World) : RDoes h v l 18 ⟨18, (rd : Nat), (s1 : Nat), (s2 : Nat), im, cs⟩ w := by
  intro hT
  have e0 : doOp h 18 ⟨18, (rd : Nat), (s1 : Nat), (s2 : Nat), im, cs⟩ v l = (nextH (writeH h rd (doN 0 (h.x s1) (immN im))), noA) := by first | rfl | simp [doOp, withinH, kindN, kindL]
  rw [e0, next_w]
  exact rdo_1 h ok 18 im cs rd s1 s2 hrd h1 h2 v l _ hT 0 ⟨by decide, by decide +kernel, by decide +kernel⟩ w
theorem rdoes_19 (h : H) (ok : h.Ok) (rd s1 s2 : Nat) (im cs : Int) (hrd : rd < 32) (h1 : s1 < 32) (h2 : s2 < 32) (v l : Nat) (hv : v < 4294967296) (hl : l < 4294967296) (w : World) : RDoes h v l 19 ⟨19, (rd : Nat), (s1 : Nat), (s2 : Nat), im, cs⟩ w := by
  intro hT
  have e0 : doOp h 19 ⟨19, (rd : Nat), (s1 : Nat), (s2 : Nat), im, cs⟩ v l = (nextH (writeH h rd (doN 3 (h.x s1) (immN im))), noA) := by first | rfl | simp [doOp, withinH, kindN, kindL]
  rw [e0, next_w]
  exact rdo_1 h ok 19 im cs rd s1 s2 hrd h1 h2 v l _ hT 3 ⟨by decide, by decide +kernel, by decide +kernel⟩ w
theorem rdoes_20 (h : H) (ok : h.Ok) (rd s1 s2 : Nat) (im cs : Int) (hrd : rd < 32) (h1 : s1 < 32) (h2 : s2 < 32) (v l : Nat) (hv : v < 4294967296) (hl : l < 4294967296) (w : World) : RDoes h v l 20 ⟨20, (rd : Nat), (s1 : Nat), (s2 : Nat), im, cs⟩ w := by
  intro hT
  have e0 : doOp h 20 ⟨20, (rd : Nat), (s1 : Nat), (s2 : Nat), im, cs⟩ v l = (nextH (writeH h rd (doN 4 (h.x s1) (immN im))), noA) := by first | rfl | simp [doOp, withinH, kindN, kindL]
  rw [e0, next_w]
  exact rdo_1 h ok 20 im cs rd s1 s2 hrd h1 h2 v l _ hT 4 ⟨by decide, by decide +kernel, by decide +kernel⟩ w
theorem rdoes_21 (h : H) (ok : h.Ok) (rd s1 s2 : Nat) (im cs : Int) (hrd : rd < 32) (h1 : s1 < 32) (h2 : s2 < 32) (v l : Nat) (hv : v < 4294967296) (hl : l < 4294967296) (w : World) : RDoes h v l 21 ⟨21, (rd : Nat), (s1 : Nat), (s2 : Nat), im, cs⟩ w := by
  intro hT
  have e0 : doOp h 21 ⟨21, (rd : Nat), (s1 : Nat), (s2 : Nat), im, cs⟩ v l = (nextH (writeH h rd (doN 5 (h.x s1) (immN im))), noA) := by first | rfl | simp [doOp, withinH, kindN, kindL]
  rw [e0, next_w]
  exact rdo_1 h ok 21 im cs rd s1 s2 hrd h1 h2 v l _ hT 5 ⟨by decide, by decide +kernel, by decide +kernel⟩ w
theorem rdoes_22 (h : H) (ok : h.Ok) (rd s1 s2 : Nat) (im cs : Int) (hrd : rd < 32) (h1 : s1 < 32) (h2 : s2 < 32) (v l : Nat) (hv : v < 4294967296) (hl : l < 4294967296) (w : World) : RDoes h v l 22 ⟨22, (rd : Nat), (s1 : Nat), (s2 : Nat), im, cs⟩ w := by
  intro hT
  have e0 : doOp h 22 ⟨22, (rd : Nat), (s1 : Nat), (s2 : Nat), im, cs⟩ v l = (nextH (writeH h rd (doN 8 (h.x s1) (immN im))), noA) := by first | rfl | simp [doOp, withinH, kindN, kindL]
  rw [e0, next_w]
  exact rdo_1 h ok 22 im cs rd s1 s2 hrd h1 h2 v l _ hT 8 ⟨by decide, by decide +kernel, by decide +kernel⟩ w
theorem rdoes_23 (h : H) (ok : h.Ok) (rd s1 s2 : Nat) (im cs : Int) (hrd : rd < 32) (h1 : s1 < 32) (h2 : s2 < 32) (v l : Nat) (hv : v < 4294967296) (hl : l < 4294967296) (w : World) : RDoes h v l 23 ⟨23, (rd : Nat), (s1 : Nat), (s2 : Nat), im, cs⟩ w := by
  intro hT
  have e0 : doOp h 23 ⟨23, (rd : Nat), (s1 : Nat), (s2 : Nat), im, cs⟩ v l = (nextH (writeH h rd (doN 9 (h.x s1) (immN im))), noA) := by first | rfl | simp [doOp, withinH, kindN, kindL]
  rw [e0, next_w]
  exact rdo_1 h ok 23 im cs rd s1 s2 hrd h1 h2 v l _ hT 9 ⟨by decide, by decide +kernel, by decide +kernel⟩ w
theorem rdoes_24 (h : H) (ok : h.Ok) (rd s1 s2 : Nat) (im cs : Int) (hrd : rd < 32) (h1 : s1 < 32) (h2 : s2 < 32) (v l : Nat) (hv : v < 4294967296) (hl : l < 4294967296) (w : World) : RDoes h v l 24 ⟨24, (rd : Nat), (s1 : Nat), (s2 : Nat), im, cs⟩ w := by
  intro hT
  have e0 : doOp h 24 ⟨24, (rd : Nat), (s1 : Nat), (s2 : Nat), im, cs⟩ v l = (nextH (writeH h rd (doN 2 (h.x s1) (immN im))), noA) := by first | rfl | simp [doOp, withinH, kindN, kindL]
  rw [e0, next_w]
  exact rdo_1 h ok 24 im cs rd s1 s2 hrd h1 h2 v l _ hT 2 ⟨by decide, by decide +kernel, by decide +kernel⟩ w
theorem rdoes_25 (h : H) (ok : h.Ok) (rd s1 s2 : Nat) (im cs : Int) (hrd : rd < 32) (h1 : s1 < 32) (h2 : s2 < 32) (v l : Nat) (hv : v < 4294967296) (hl : l < 4294967296) (w : World) : RDoes h v l 25 ⟨25, (rd : Nat), (s1 : Nat), (s2 : Nat), im, cs⟩ w := by
  intro hT
  have e0 : doOp h 25 ⟨25, (rd : Nat), (s1 : Nat), (s2 : Nat), im, cs⟩ v l = (nextH (writeH h rd (doN 6 (h.x s1) (immN im))), noA) := by first | rfl | simp [doOp, withinH, kindN, kindL]
  rw [e0, next_w]
  exact rdo_1 h ok 25 im cs rd s1 s2 hrd h1 h2 v l _ hT 6 ⟨by decide, by decide +kernel, by decide +kernel⟩ w
theorem rdoes_26 (h : H) (ok : h.Ok) (rd s1 s2 : Nat) (im cs : Int) (hrd : rd < 32) (h1 : s1 < 32) (h2 : s2 < 32) (v l : Nat) (hv : v < 4294967296) (hl : l < 4294967296) (w : World) : RDoes h v l 26 ⟨26, (rd : Nat), (s1 : Nat), (s2 : Nat), im, cs⟩ w := by
  intro hT
  have e0 : doOp h 26 ⟨26, (rd : Nat), (s1 : Nat), (s2 : Nat), im, cs⟩ v l = (nextH (writeH h rd (doN 7 (h.x s1) (immN im))), noA) := by first | rfl | simp [doOp, withinH, kindN, kindL]
  rw [e0, next_w]
  exact rdo_1 h ok 26 im cs rd s1 s2 hrd h1 h2 v l _ hT 7 ⟨by decide, by decide +kernel, by decide +kernel⟩ w
theorem rdoes_27 (h : H) (ok : h.Ok) (rd s1 s2 : Nat) (im cs : Int) (hrd : rd < 32) (h1 : s1 < 32) (h2 : s2 < 32) (v l : Nat) (hv : v < 4294967296) (hl : l < 4294967296) (w : World) : RDoes h v l 27 ⟨27, (rd : Nat), (s1 : Nat), (s2 : Nat), im, cs⟩ w := by
  intro hT
  have e0 : doOp h 27 ⟨27, (rd : Nat), (s1 : Nat), (s2 : Nat), im, cs⟩ v l = (nextH (writeH h rd (doN 0 (h.x s1) (h.x s2))), noA) := by first | rfl | simp [doOp, withinH, kindN, kindL]
  rw [e0, next_w]
  exact rdo_2 h ok 27 im cs rd s1 s2 hrd h1 h2 v l _ hT (by unfold MissL; decide +kernel) 0 ⟨by decide, by decide +kernel, by decide +kernel⟩ w
theorem rdoes_28 (h : H) (ok : h.Ok) (rd s1 s2 : Nat) (im cs : Int) (hrd : rd < 32) (h1 : s1 < 32) (h2 : s2 < 32) (v l : Nat) (hv : v < 4294967296) (hl : l < 4294967296) (w : World) : RDoes h v l 28 ⟨28, (rd : Nat), (s1 : Nat), (s2 : Nat), im, cs⟩ w := by
  intro hT
  have e0 : doOp h 28 ⟨28, (rd : Nat), (s1 : Nat), (s2 : Nat), im, cs⟩ v l = (nextH (writeH h rd (doN 1 (h.x s1) (h.x s2))), noA) := by first | rfl | simp [doOp, withinH, kindN, kindL]
  rw [e0, next_w]
  exact rdo_2 h ok 28 im cs rd s1 s2 hrd h1 h2 v l _ hT (by unfold MissL; decide +kernel) 1 ⟨by decide, by decide +kernel, by decide +kernel⟩ w
theorem rdoes_29 (h : H) (ok : h.Ok) (rd s1 s2 : Nat) (im cs : Int) (hrd : rd < 32) (h1 : s1 < 32) (h2 : s2 < 32) (v l : Nat) (hv : v < 4294967296) (hl : l < 4294967296) (w : World) : RDoes h v l 29 ⟨29, (rd : Nat), (s1 : Nat), (s2 : Nat), im, cs⟩ w := by
  intro hT
  have e0 : doOp h 29 ⟨29, (rd : Nat), (s1 : Nat), (s2 : Nat), im, cs⟩ v l = (nextH (writeH h rd (doN 2 (h.x s1) (h.x s2))), noA) := by first | rfl | simp [doOp, withinH, kindN, kindL]
  rw [e0, next_w]
  exact rdo_2 h ok 29 im cs rd s1 s2 hrd h1 h2 v l _ hT (by unfold MissL; decide +kernel) 2 ⟨by decide, by decide +kernel, by decide +kernel⟩ w
theorem rdoes_30 (h : H) (ok : h.Ok) (rd s1 s2 : Nat) (im cs : Int) (hrd : rd < 32) (h1 : s1 < 32) (h2 : s2 < 32) (v l : Nat) (hv : v < 4294967296) (hl : l < 4294967296) (w : World) : RDoes h v l 30 ⟨30, (rd : Nat), (s1 : Nat), (s2 : Nat), im, cs⟩ w := by
  intro hT
  have e0 : doOp h 30 ⟨30, (rd : Nat), (s1 : Nat), (s2 : Nat), im, cs⟩ v l = (nextH (writeH h rd (doN 3 (h.x s1) (h.x s2))), noA) := by first | rfl | simp [doOp, withinH, kindN, kindL]
  rw [e0, next_w]
  exact rdo_2 h ok 30 im cs rd s1 s2 hrd h1 h2 v l _ hT (by unfold MissL; decide +kernel) 3 ⟨by decide, by decide +kernel, by decide +kernel⟩ w
theorem rdoes_31 (h : H) (ok : h.Ok) (rd s1 s2 : Nat) (im cs : Int) (hrd : rd < 32) (h1 : s1 < 32) (h2 : s2 < 32) (v l : Nat) (hv : v < 4294967296) (hl : l < 4294967296) (w : World) : RDoes h v l 31 ⟨31, (rd : Nat), (s1 : Nat), (s2 : Nat), im, cs⟩ w := by
  intro hT
  have e0 : doOp h 31 ⟨31, (rd : Nat), (s1 : Nat), (s2 : Nat), im, cs⟩ v l = (nextH (writeH h rd (doN 4 (h.x s1) (h.x s2))), noA) := by first | rfl | simp [doOp, withinH, kindN, kindL]
  rw [e0, next_w]
  exact rdo_2 h ok 31 im cs rd s1 s2 hrd h1 h2 v l _ hT (by unfold MissL; decide +kernel) 4 ⟨by decide, by decide +kernel, by decide +kernel⟩ w
theorem rdoes_32 (h : H) (ok : h.Ok) (rd s1 s2 : Nat) (im cs : Int) (hrd : rd < 32) (h1 : s1 < 32) (h2 : s2 < 32) (v l : Nat) (hv : v < 4294967296) (hl : l < 4294967296) (w : World) : RDoes h v l 32 ⟨32, (rd : Nat), (s1 : Nat), (s2 : Nat), im, cs⟩ w := by
  intro hT
  have e0 : doOp h 32 ⟨32, (rd : Nat), (s1 : Nat), (s2 : Nat), im, cs⟩ v l = (nextH (writeH h rd (doN 5 (h.x s1) (h.x s2))), noA) := by first | rfl | simp [doOp, withinH, kindN, kindL]
  rw [e0, next_w]
  exact rdo_2 h ok 32 im cs rd s1 s2 hrd h1 h2 v l _ hT (by unfold MissL; decide +kernel) 5 ⟨by decide, by decide +kernel, by decide +kernel⟩ w
theorem rdoes_33 (h : H) (ok : h.Ok) (rd s1 s2 : Nat) (im cs : Int) (hrd : rd < 32) (h1 : s1 < 32) (h2 : s2 < 32) (v l : Nat) (hv : v < 4294967296) (hl : l < 4294967296) (w : World) : RDoes h v l 33 ⟨33, (rd : Nat), (s1 : Nat), (s2 : Nat), im, cs⟩ w := by
  intro hT
  have e0 : doOp h 33 ⟨33, (rd : Nat), (s1 : Nat), (s2 : Nat), im, cs⟩ v l = (nextH (writeH h rd (doN 6 (h.x s1) (h.x s2))), noA) := by first | rfl | simp [doOp, withinH, kindN, kindL]
  rw [e0, next_w]
  exact rdo_2 h ok 33 im cs rd s1 s2 hrd h1 h2 v l _ hT (by unfold MissL; decide +kernel) 6 ⟨by decide, by decide +kernel, by decide +kernel⟩ w
theorem rdoes_34 (h : H) (ok : h.Ok) (rd s1 s2 : Nat) (im cs : Int) (hrd : rd < 32) (h1 : s1 < 32) (h2 : s2 < 32) (v l : Nat) (hv : v < 4294967296) (hl : l < 4294967296) (w : World) : RDoes h v l 34 ⟨34, (rd : Nat), (s1 : Nat), (s2 : Nat), im, cs⟩ w := by
  intro hT
  have e0 : doOp h 34 ⟨34, (rd : Nat), (s1 : Nat), (s2 : Nat), im, cs⟩ v l = (nextH (writeH h rd (doN 7 (h.x s1) (h.x s2))), noA) := by first | rfl | simp [doOp, withinH, kindN, kindL]
  rw [e0, next_w]
  exact rdo_2 h ok 34 im cs rd s1 s2 hrd h1 h2 v l _ hT (by unfold MissL; decide +kernel) 7 ⟨by decide, by decide +kernel, by decide +kernel⟩ w
theorem rdoes_35 (h : H) (ok : h.Ok) (rd s1 s2 : Nat) (im cs : Int) (hrd : rd < 32) (h1 : s1 < 32) (h2 : s2 < 32) (v l : Nat) (hv : v < 4294967296) (hl : l < 4294967296) (w : World) : RDoes h v l 35 ⟨35, (rd : Nat), (s1 : Nat), (s2 : Nat), im, cs⟩ w := by
  intro hT
  have e0 : doOp h 35 ⟨35, (rd : Nat), (s1 : Nat), (s2 : Nat), im, cs⟩ v l = (nextH (writeH h rd (doN 8 (h.x s1) (h.x s2))), noA) := by first | rfl | simp [doOp, withinH, kindN, kindL]
  rw [e0, next_w]
  exact rdo_2 h ok 35 im cs rd s1 s2 hrd h1 h2 v l _ hT (by unfold MissL; decide +kernel) 8 ⟨by decide, by decide +kernel, by decide +kernel⟩ w
theorem rdoes_36 (h : H) (ok : h.Ok) (rd s1 s2 : Nat) (im cs : Int) (hrd : rd < 32) (h1 : s1 < 32) (h2 : s2 < 32) (v l : Nat) (hv : v < 4294967296) (hl : l < 4294967296) (w : World) : RDoes h v l 36 ⟨36, (rd : Nat), (s1 : Nat), (s2 : Nat), im, cs⟩ w := by
  intro hT
  have e0 : doOp h 36 ⟨36, (rd : Nat), (s1 : Nat), (s2 : Nat), im, cs⟩ v l = (nextH (writeH h rd (doN 9 (h.x s1) (h.x s2))), noA) := by first | rfl | simp [doOp, withinH, kindN, kindL]
  rw [e0, next_w]
  exact rdo_2 h ok 36 im cs rd s1 s2 hrd h1 h2 v l _ hT (by unfold MissL; decide +kernel) 9 ⟨by decide, by decide +kernel, by decide +kernel⟩ w
theorem rdoes_37 (h : H) (ok : h.Ok) (rd s1 s2 : Nat) (im cs : Int) (hrd : rd < 32) (h1 : s1 < 32) (h2 : s2 < 32) (v l : Nat) (hv : v < 4294967296) (hl : l < 4294967296) (w : World) : RDoes h v l 37 ⟨37, (rd : Nat), (s1 : Nat), (s2 : Nat), im, cs⟩ w := by
  intro hT
  have e0 : doOp h 37 ⟨37, (rd : Nat), (s1 : Nat), (s2 : Nat), im, cs⟩ v l = (nextH (writeH h rd (doN 10 (h.x s1) (h.x s2))), noA) := by first | rfl | simp [doOp, withinH, kindN, kindL]
  rw [e0, next_w]
  exact rdo_2 h ok 37 im cs rd s1 s2 hrd h1 h2 v l _ hT (by unfold MissL; decide +kernel) 10 ⟨by decide, by decide +kernel, by decide +kernel⟩ w
theorem rdoes_38 (h : H) (ok : h.Ok) (rd s1 s2 : Nat) (im cs : Int) (hrd : rd < 32) (h1 : s1 < 32) (h2 : s2 < 32) (v l : Nat) (hv : v < 4294967296) (hl : l < 4294967296) (w : World) : RDoes h v l 38 ⟨38, (rd : Nat), (s1 : Nat), (s2 : Nat), im, cs⟩ w := by
  intro hT
  have e0 : doOp h 38 ⟨38, (rd : Nat), (s1 : Nat), (s2 : Nat), im, cs⟩ v l = (nextH (writeH h rd (doN 11 (h.x s1) (h.x s2))), noA) := by first | rfl | simp [doOp, withinH, kindN, kindL]
  rw [e0, next_w]
  exact rdo_2 h ok 38 im cs rd s1 s2 hrd h1 h2 v l _ hT (by unfold MissL; decide +kernel) 11 ⟨by decide, by decide +kernel, by decide +kernel⟩ w
theorem rdoes_39 (h : H) (ok : h.Ok) (rd s1 s2 : Nat) (im cs : Int) (hrd : rd < 32) (h1 : s1 < 32) (h2 : s2 < 32) (v l : Nat) (hv : v < 4294967296) (hl : l < 4294967296) (w : World) : RDoes h v l 39 ⟨39, (rd : Nat), (s1 : Nat), (s2 : Nat), im, cs⟩ w := by
  intro hT
  have e0 : doOp h 39 ⟨39, (rd : Nat), (s1 : Nat), (s2 : Nat), im, cs⟩ v l = (nextH (writeH h rd (doN 12 (h.x s1) (h.x s2))), noA) := by first | rfl | simp [doOp, withinH, kindN, kindL]
  rw [e0, next_w]
  exact rdo_2 h ok 39 im cs rd s1 s2 hrd h1 h2 v l _ hT (by unfold MissL; decide +kernel) 12 ⟨by decide, by decide +kernel, by decide +kernel⟩ w
theorem rdoes_40 (h : H) (ok : h.Ok) (rd s1 s2 : Nat) (im cs : Int) (hrd : rd < 32) (h1 : s1 < 32) (h2 : s2 < 32) (v l : Nat) (hv : v < 4294967296) (hl : l < 4294967296) (w : World) : RDoes h v l 40 ⟨40, (rd : Nat), (s1 : Nat), (s2 : Nat), im, cs⟩ w := by
  intro hT
  have e0 : doOp h 40 ⟨40, (rd : Nat), (s1 : Nat), (s2 : Nat), im, cs⟩ v l = (nextH (writeH h rd (doN 13 (h.x s1) (h.x s2))), noA) := by first | rfl | simp [doOp, withinH, kindN, kindL]
  rw [e0, next_w]
  exact rdo_2 h ok 40 im cs rd s1 s2 hrd h1 h2 v l _ hT (by unfold MissL; decide +kernel) 13 ⟨by decide, by decide +kernel, by decide +kernel⟩ w
theorem rdoes_41 (h : H) (ok : h.Ok) (rd s1 s2 : Nat) (im cs : Int) (hrd : rd < 32) (h1 : s1 < 32) (h2 : s2 < 32) (v l : Nat) (hv : v < 4294967296) (hl : l < 4294967296) (w : World) : RDoes h v l 41 ⟨41, (rd : Nat), (s1 : Nat), (s2 : Nat), im, cs⟩ w := by
  intro hT
  have e0 : doOp h 41 ⟨41, (rd : Nat), (s1 : Nat), (s2 : Nat), im, cs⟩ v l = (nextH (writeH h rd (doN 14 (h.x s1) (h.x s2))), noA) := by first | rfl | simp [doOp, withinH, kindN, kindL]
  rw [e0, next_w]
  exact rdo_2 h ok 41 im cs rd s1 s2 hrd h1 h2 v l _ hT (by unfold MissL; decide +kernel) 14 ⟨by decide, by decide +kernel, by decide +kernel⟩ w
theorem rdoes_42 (h : H) (ok : h.Ok) (rd s1 s2 : Nat) (im cs : Int) (hrd : rd < 32) (h1 : s1 < 32) (h2 : s2 < 32) (v l : Nat) (hv : v < 4294967296) (hl : l < 4294967296) (w : World) : RDoes h v l 42 ⟨42, (rd : Nat), (s1 : Nat), (s2 : Nat), im, cs⟩ w := by
  intro hT
  have e0 : doOp h 42 ⟨42, (rd : Nat), (s1 : Nat), (s2 : Nat), im, cs⟩ v l = (nextH (writeH h rd (doN 15 (h.x s1) (h.x s2))), noA) := by first | rfl | simp [doOp, withinH, kindN, kindL]
  rw [e0, next_w]
  exact rdo_2 h ok 42 im cs rd s1 s2 hrd h1 h2 v l _ hT (by unfold MissL; decide +kernel) 15 ⟨by decide, by decide +kernel, by decide +kernel⟩ w
theorem rdoes_43 (h : H) (ok : h.Ok) (rd s1 s2 : Nat) (im cs : Int) (hrd : rd < 32) (h1 : s1 < 32) (h2 : s2 < 32) (v l : Nat) (hv : v < 4294967296) (hl : l < 4294967296) (w : World) : RDoes h v l 43 ⟨43, (rd : Nat), (s1 : Nat), (s2 : Nat), im, cs⟩ w := by
  intro hT
  have e0 : doOp h 43 ⟨43, (rd : Nat), (s1 : Nat), (s2 : Nat), im, cs⟩ v l = (nextH (writeH h rd (doN 16 (h.x s1) (h.x s2))), noA) := by first | rfl | simp [doOp, withinH, kindN, kindL]
  rw [e0, next_w]
  exact rdo_2 h ok 43 im cs rd s1 s2 hrd h1 h2 v l _ hT (by unfold MissL; decide +kernel) 16 ⟨by decide, by decide +kernel, by decide +kernel⟩ w
theorem rdoes_44 (h : H) (ok : h.Ok) (rd s1 s2 : Nat) (im cs : Int) (hrd : rd < 32) (h1 : s1 < 32) (h2 : s2 < 32) (v l : Nat) (hv : v < 4294967296) (hl : l < 4294967296) (w : World) : RDoes h v l 44 ⟨44, (rd : Nat), (s1 : Nat), (s2 : Nat), im, cs⟩ w := by
  intro hT
  have e0 : doOp h 44 ⟨44, (rd : Nat), (s1 : Nat), (s2 : Nat), im, cs⟩ v l = (nextH (writeH h rd (doN 17 (h.x s1) (h.x s2))), noA) := by first | rfl | simp [doOp, withinH, kindN, kindL]
  rw [e0, next_w]
  exact rdo_2 h ok 44 im cs rd s1 s2 hrd h1 h2 v l _ hT (by unfold MissL; decide +kernel) 17 ⟨by decide, by decide +kernel, by decide +kernel⟩ w
theorem rdoes_45 (h : H) (ok : h.Ok) (rd s1 s2 : Nat) (im cs : Int) (hrd : rd < 32) (h1 : s1 < 32) (h2 : s2 < 32) (v l : Nat) (hv : v < 4294967296) (hl : l < 4294967296) (w : World) : RDoes h v l 45 ⟨45, (rd : Nat), (s1 : Nat), (s2 : Nat), im, cs⟩ w := by
  intro hT
  have e0 : doOp h 45 ⟨45, (rd : Nat), (s1 : Nat), (s2 : Nat), im, cs⟩ v l = (nextH h, noA) := by first | rfl | simp [doOp, withinH, kindN, kindL]
  rw [e0]
  exact rdo_7 h ok 45 im cs rd s1 s2 hrd h1 h2 v l _ hT (by unfold MissL; decide +kernel) (by unfold MissL; decide +kernel) (by unfold MissL; decide +kernel) (by unfold MissL; decide +kernel) (by unfold MissL; decide +kernel) (by unfold MissL; decide +kernel) _ (fun w => rrest_fence h ok 45 (s1 : Nat) (s2 : Nat) im cs rd hrd (h.x s1) (immN im) (ok.x s1) (immN_lt im) w) w
theorem rdoes_46 (h : H) (ok : h.Ok) (rd s1 s2 : Nat) (im cs : Int) (hrd : rd < 32) (h1 : s1 < 32) (h2 : s2 < 32) (v l : Nat) (hv : v < 4294967296) (hl : l < 4294967296) (w : World) : RDoes h v l 46 ⟨46, (rd : Nat), (s1 : Nat), (s2 : Nat), im, cs⟩ w := by
  intro hT
  have e0 : doOp h 46 ⟨46, (rd : Nat), (s1 : Nat), (s2 : Nat), im, cs⟩ v l = (nextH h, noA) := by first | rfl | simp [doOp, withinH, kindN, kindL]
  rw [e0]
  exact rdo_7 h ok 46 im cs rd s1 s2 hrd h1 h2 v l _ hT (by unfold MissL; decide +kernel) (by unfold MissL; decide +kernel) (by unfold MissL; decide +kernel) (by unfold MissL; decide +kernel) (by unfold MissL; decide +kernel) (by unfold MissL; decide +kernel) _ (fun w => rrest_fencei h ok 46 (s1 : Nat) (s2 : Nat) im cs rd hrd (h.x s1) (immN im) (ok.x s1) (immN_lt im) w) w
theorem rdoes_47 (h : H) (ok : h.Ok) (rd s1 s2 : Nat) (im cs : Int) (hrd : rd < 32) (h1 : s1 < 32) (h2 : s2 < 32) (v l : Nat) (hv : v < 4294967296) (hl : l < 4294967296) (w : World) : RDoes h v l 47 ⟨47, (rd : Nat), (s1 : Nat), (s2 : Nat), im, cs⟩ w := by
  intro hT
  have e0 : doOp h 47 ⟨47, (rd : Nat), (s1 : Nat), (s2 : Nat), im, cs⟩ v l = (trapH h 11 0, noA) := by first | rfl | simp [doOp, withinH, kindN, kindL]
  rw [e0]
  exact rdo_7 h ok 47 im cs rd s1 s2 hrd h1 h2 v l _ hT (by unfold MissL; decide +kernel) (by unfold MissL; decide +kernel) (by unfold MissL; decide +kernel) (by unfold MissL; decide +kernel) (by unfold MissL; decide +kernel) (by unfold MissL; decide +kernel) _ (fun w => rrest_ecall h ok 47 (s1 : Nat) (s2 : Nat) im cs rd hrd (h.x s1) (immN im) (ok.x s1) (immN_lt im) w) w
theorem rdoes_48 (h : H) (ok : h.Ok) (rd s1 s2 : Nat) (im cs : Int) (hrd : rd < 32) (h1 : s1 < 32) (h2 : s2 < 32) (v l : Nat) (hv : v < 4294967296) (hl : l < 4294967296) (w : World) : RDoes h v l 48 ⟨48, (rd : Nat), (s1 : Nat), (s2 : Nat), im, cs⟩ w := by
  intro hT
  have e0 : doOp h 48 ⟨48, (rd : Nat), (s1 : Nat), (s2 : Nat), im, cs⟩ v l = (trapH h 3 h.pc, noA) := by first | rfl | simp [doOp, withinH, kindN, kindL]
  rw [e0]
  exact rdo_7 h ok 48 im cs rd s1 s2 hrd h1 h2 v l _ hT (by unfold MissL; decide +kernel) (by unfold MissL; decide +kernel) (by unfold MissL; decide +kernel) (by unfold MissL; decide +kernel) (by unfold MissL; decide +kernel) (by unfold MissL; decide +kernel) _ (fun w => rrest_ebreak h ok 48 (s1 : Nat) (s2 : Nat) im cs rd hrd (h.x s1) (immN im) (ok.x s1) (immN_lt im) w) w
theorem rdoes_49 (h : H) (ok : h.Ok) (rd s1 s2 : Nat) (im cs : Int) (hrd : rd < 32) (h1 : s1 < 32) (h2 : s2 < 32) (v l : Nat) (hv : v < 4294967296) (hl : l < 4294967296) (w : World) : RDoes h v l 49 ⟨49, (rd : Nat), (s1 : Nat), (s2 : Nat), im, cs⟩ w := by
  intro hT
  have e0 : doOp h 49 ⟨49, (rd : Nat), (s1 : Nat), (s2 : Nat), im, cs⟩ v l = (goH (withC h (retN h.c)) h.c.ep, noA) := by first | rfl | simp [doOp, withinH, kindN, kindL]
  rw [e0]
  exact rdo_7 h ok 49 im cs rd s1 s2 hrd h1 h2 v l _ hT (by unfold MissL; decide +kernel) (by unfold MissL; decide +kernel) (by unfold MissL; decide +kernel) (by unfold MissL; decide +kernel) (by unfold MissL; decide +kernel) (by unfold MissL; decide +kernel) _ (fun w => rrest_mret h ok 49 (s1 : Nat) (s2 : Nat) im cs rd hrd (h.x s1) (immN im) (ok.x s1) (immN_lt im) w) w
theorem rdoes_50 (h : H) (ok : h.Ok) (rd s1 s2 : Nat) (im cs : Int) (hrd : rd < 32) (h1 : s1 < 32) (h2 : s2 < 32) (v l : Nat) (hv : v < 4294967296) (hl : l < 4294967296) (w : World) : RDoes h v l 50 ⟨50, (rd : Nat), (s1 : Nat), (s2 : Nat), im, cs⟩ w := by
  intro hT
  have e0 : doOp h 50 ⟨50, (rd : Nat), (s1 : Nat), (s2 : Nat), im, cs⟩ v l = (nextH ⟨h.pc, h.x, true, h.c⟩, noA) := by first | rfl | simp [doOp, withinH, kindN, kindL]
  rw [e0]
  exact rdo_7 h ok 50 im cs rd s1 s2 hrd h1 h2 v l _ hT (by unfold MissL; decide +kernel) (by unfold MissL; decide +kernel) (by unfold MissL; decide +kernel) (by unfold MissL; decide +kernel) (by unfold MissL; decide +kernel) (by unfold MissL; decide +kernel) _ (fun w => rrest_wfi h ok 50 (s1 : Nat) (s2 : Nat) im cs rd hrd (h.x s1) (immN im) (ok.x s1) (immN_lt im) w) w
theorem rdoes_51 (h : H) (ok : h.Ok) (rd s1 s2 : Nat) (im cs : Int) (hrd : rd < 32) (h1 : s1 < 32) (h2 : s2 < 32) (v l : Nat) (hv : v < 4294967296) (hl : l < 4294967296) (w : World) : RDoes h v l 51 ⟨51, (rd : Nat), (s1 : Nat), (s2 : Nat), im, cs⟩ w := by
  intro hT
  have e0 : doOp h 51 ⟨51, (rd : Nat), (s1 : Nat), (s2 : Nat), im, cs⟩ v l = (controlH h 51 ⟨51, (rd : Nat), (s1 : Nat), (s2 : Nat), im, cs⟩ v l, noA) := rfl
  rw [e0]
  exact rdo_6 h ok 51 im cs rd s1 s2 hrd h1 h2 v l _ hT (by unfold MissL; decide +kernel) (by unfold MissL; decide +kernel) (by unfold MissL; decide +kernel) (by unfold MissL; decide +kernel) (by unfold MissL; decide +kernel) 0 ⟨by decide, by decide +kernel, by decide +kernel⟩ _ (fun w => rctl_at0 h ok 51 (s2 : Nat) im cs rd s1 hrd h1 v l hv hl w) w
theorem rdoes_52 (h : H) (ok : h.Ok) (rd s1 s2 : Nat) (im cs : Int) (hrd : rd < 32) (h1 : s1 < 32) (h2 : s2 < 32) (v l : Nat) (hv : v < 4294967296) (hl : l < 4294967296) (w : World) : RDoes h v l 52 ⟨52, (rd : Nat), (s1 : Nat), (s2 : Nat), im, cs⟩ w := by
  intro hT
  have e0 : doOp h 52 ⟨52, (rd : Nat), (s1 : Nat), (s2 : Nat), im, cs⟩ v l = (controlH h 52 ⟨52, (rd : Nat), (s1 : Nat), (s2 : Nat), im, cs⟩ v l, noA) := rfl
  rw [e0]
  exact rdo_6 h ok 52 im cs rd s1 s2 hrd h1 h2 v l _ hT (by unfold MissL; decide +kernel) (by unfold MissL; decide +kernel) (by unfold MissL; decide +kernel) (by unfold MissL; decide +kernel) (by unfold MissL; decide +kernel) 1 ⟨by decide, by decide +kernel, by decide +kernel⟩ _ (fun w => rctl_at1 h ok 52 (s2 : Nat) im cs rd s1 hrd h1 v l hv hl w) w
theorem rdoes_53 (h : H) (ok : h.Ok) (rd s1 s2 : Nat) (im cs : Int) (hrd : rd < 32) (h1 : s1 < 32) (h2 : s2 < 32) (v l : Nat) (hv : v < 4294967296) (hl : l < 4294967296) (w : World) : RDoes h v l 53 ⟨53, (rd : Nat), (s1 : Nat), (s2 : Nat), im, cs⟩ w := by
  intro hT
  have e0 : doOp h 53 ⟨53, (rd : Nat), (s1 : Nat), (s2 : Nat), im, cs⟩ v l = (controlH h 53 ⟨53, (rd : Nat), (s1 : Nat), (s2 : Nat), im, cs⟩ v l, noA) := rfl
  rw [e0]
  exact rdo_6 h ok 53 im cs rd s1 s2 hrd h1 h2 v l _ hT (by unfold MissL; decide +kernel) (by unfold MissL; decide +kernel) (by unfold MissL; decide +kernel) (by unfold MissL; decide +kernel) (by unfold MissL; decide +kernel) 2 ⟨by decide, by decide +kernel, by decide +kernel⟩ _ (fun w => rctl_at2 h ok 53 (s2 : Nat) im cs rd s1 hrd h1 v l hv hl w) w
theorem rdoes_54 (h : H) (ok : h.Ok) (rd s1 s2 : Nat) (im cs : Int) (hrd : rd < 32) (h1 : s1 < 32) (h2 : s2 < 32) (v l : Nat) (hv : v < 4294967296) (hl : l < 4294967296) (w : World) : RDoes h v l 54 ⟨54, (rd : Nat), (s1 : Nat), (s2 : Nat), im, cs⟩ w := by
  intro hT
  have e0 : doOp h 54 ⟨54, (rd : Nat), (s1 : Nat), (s2 : Nat), im, cs⟩ v l = (controlH h 54 ⟨54, (rd : Nat), (s1 : Nat), (s2 : Nat), im, cs⟩ v l, noA) := rfl
  rw [e0]
  exact rdo_6 h ok 54 im cs rd s1 s2 hrd h1 h2 v l _ hT (by unfold MissL; decide +kernel) (by unfold MissL; decide +kernel) (by unfold MissL; decide +kernel) (by unfold MissL; decide +kernel) (by unfold MissL; decide +kernel) 3 ⟨by decide, by decide +kernel, by decide +kernel⟩ _ (fun w => rctl_at3 h ok 54 (s2 : Nat) im cs rd s1 hrd h1 v l hv hl w) w
theorem rdoes_55 (h : H) (ok : h.Ok) (rd s1 s2 : Nat) (im cs : Int) (hrd : rd < 32) (h1 : s1 < 32) (h2 : s2 < 32) (v l : Nat) (hv : v < 4294967296) (hl : l < 4294967296) (w : World) : RDoes h v l 55 ⟨55, (rd : Nat), (s1 : Nat), (s2 : Nat), im, cs⟩ w := by
  intro hT
  have e0 : doOp h 55 ⟨55, (rd : Nat), (s1 : Nat), (s2 : Nat), im, cs⟩ v l = (controlH h 55 ⟨55, (rd : Nat), (s1 : Nat), (s2 : Nat), im, cs⟩ v l, noA) := rfl
  rw [e0]
  exact rdo_6 h ok 55 im cs rd s1 s2 hrd h1 h2 v l _ hT (by unfold MissL; decide +kernel) (by unfold MissL; decide +kernel) (by unfold MissL; decide +kernel) (by unfold MissL; decide +kernel) (by unfold MissL; decide +kernel) 4 ⟨by decide, by decide +kernel, by decide +kernel⟩ _ (fun w => rctl_at4 h ok 55 (s2 : Nat) im cs rd s1 hrd h1 v l hv hl w) w
theorem rdoes_56 (h : H) (ok : h.Ok) (rd s1 s2 : Nat) (im cs : Int) (hrd : rd < 32) (h1 : s1 < 32) (h2 : s2 < 32) (v l : Nat) (hv : v < 4294967296) (hl : l < 4294967296) (w : World) : RDoes h v l 56 ⟨56, (rd : Nat), (s1 : Nat), (s2 : Nat), im, cs⟩ w := by
  intro hT
  have e0 : doOp h 56 ⟨56, (rd : Nat), (s1 : Nat), (s2 : Nat), im, cs⟩ v l = (controlH h 56 ⟨56, (rd : Nat), (s1 : Nat), (s2 : Nat), im, cs⟩ v l, noA) := rfl
  rw [e0]
  exact rdo_6 h ok 56 im cs rd s1 s2 hrd h1 h2 v l _ hT (by unfold MissL; decide +kernel) (by unfold MissL; decide +kernel) (by unfold MissL; decide +kernel) (by unfold MissL; decide +kernel) (by unfold MissL; decide +kernel) 5 ⟨by decide, by decide +kernel, by decide +kernel⟩ _ (fun w => rctl_at5 h ok 56 (s2 : Nat) im cs rd s1 hrd h1 v l hv hl w) w
theorem rdoes_all (h : H) (ok : h.Ok) (op : Nat) (hop : op < 57) (rd s1 s2 : Nat) (im cs : Int) (hrd : rd < 32) (h1 : s1 < 32) (h2 : s2 < 32) (v l : Nat) (hv : v < 4294967296) (hl : l < 4294967296) (w : World) : RDoes h v l op ⟨(op : Nat), (rd : Nat), (s1 : Nat), (s2 : Nat), im, cs⟩ w :=
  match op, hop with
  | 0, _ => rdoes_0 h ok rd s1 s2 im cs hrd h1 h2 v l hv hl w
  | 1, _ => rdoes_1 h ok rd s1 s2 im cs hrd h1 h2 v l hv hl w
  | 2, _ => rdoes_2 h ok rd s1 s2 im cs hrd h1 h2 v l hv hl w
  | 3, _ => rdoes_3 h ok rd s1 s2 im cs hrd h1 h2 v l hv hl w
  | 4, _ => rdoes_4 h ok rd s1 s2 im cs hrd h1 h2 v l hv hl w
  | 5, _ => rdoes_5 h ok rd s1 s2 im cs hrd h1 h2 v l hv hl w
  | 6, _ => rdoes_6 h ok rd s1 s2 im cs hrd h1 h2 v l hv hl w
  | 7, _ => rdoes_7 h ok rd s1 s2 im cs hrd h1 h2 v l hv hl w
  | 8, _ => rdoes_8 h ok rd s1 s2 im cs hrd h1 h2 v l hv hl w
  | 9, _ => rdoes_9 h ok rd s1 s2 im cs hrd h1 h2 v l hv hl w
  | 10, _ => rdoes_10 h ok rd s1 s2 im cs hrd h1 h2 v l hv hl w
  | 11, _ => rdoes_11 h ok rd s1 s2 im cs hrd h1 h2 v l hv hl w
  | 12, _ => rdoes_12 h ok rd s1 s2 im cs hrd h1 h2 v l hv hl w
  | 13, _ => rdoes_13 h ok rd s1 s2 im cs hrd h1 h2 v l hv hl w
  | 14, _ => rdoes_14 h ok rd s1 s2 im cs hrd h1 h2 v l hv hl w
  | 15, _ => rdoes_15 h ok rd s1 s2 im cs hrd h1 h2 v l hv hl w
  | 16, _ => rdoes_16 h ok rd s1 s2 im cs hrd h1 h2 v l hv hl w
  | 17, _ => rdoes_17 h ok rd s1 s2 im cs hrd h1 h2 v l hv hl w
  | 18, _ => rdoes_18 h ok rd s1 s2 im cs hrd h1 h2 v l hv hl w
  | 19, _ => rdoes_19 h ok rd s1 s2 im cs hrd h1 h2 v l hv hl w
  | 20, _ => rdoes_20 h ok rd s1 s2 im cs hrd h1 h2 v l hv hl w
  | 21, _ => rdoes_21 h ok rd s1 s2 im cs hrd h1 h2 v l hv hl w
  | 22, _ => rdoes_22 h ok rd s1 s2 im cs hrd h1 h2 v l hv hl w
  | 23, _ => rdoes_23 h ok rd s1 s2 im cs hrd h1 h2 v l hv hl w
  | 24, _ => rdoes_24 h ok rd s1 s2 im cs hrd h1 h2 v l hv hl w
  | 25, _ => rdoes_25 h ok rd s1 s2 im cs hrd h1 h2 v l hv hl w
  | 26, _ => rdoes_26 h ok rd s1 s2 im cs hrd h1 h2 v l hv hl w
  | 27, _ => rdoes_27 h ok rd s1 s2 im cs hrd h1 h2 v l hv hl w
  | 28, _ => rdoes_28 h ok rd s1 s2 im cs hrd h1 h2 v l hv hl w
  | 29, _ => rdoes_29 h ok rd s1 s2 im cs hrd h1 h2 v l hv hl w
  | 30, _ => rdoes_30 h ok rd s1 s2 im cs hrd h1 h2 v l hv hl w
  | 31, _ => rdoes_31 h ok rd s1 s2 im cs hrd h1 h2 v l hv hl w
  | 32, _ => rdoes_32 h ok rd s1 s2 im cs hrd h1 h2 v l hv hl w
  | 33, _ => rdoes_33 h ok rd s1 s2 im cs hrd h1 h2 v l hv hl w
  | 34, _ => rdoes_34 h ok rd s1 s2 im cs hrd h1 h2 v l hv hl w
  | 35, _ => rdoes_35 h ok rd s1 s2 im cs hrd h1 h2 v l hv hl w
  | 36, _ => rdoes_36 h ok rd s1 s2 im cs hrd h1 h2 v l hv hl w
  | 37, _ => rdoes_37 h ok rd s1 s2 im cs hrd h1 h2 v l hv hl w
  | 38, _ => rdoes_38 h ok rd s1 s2 im cs hrd h1 h2 v l hv hl w
  | 39, _ => rdoes_39 h ok rd s1 s2 im cs hrd h1 h2 v l hv hl w
  | 40, _ => rdoes_40 h ok rd s1 s2 im cs hrd h1 h2 v l hv hl w
  | 41, _ => rdoes_41 h ok rd s1 s2 im cs hrd h1 h2 v l hv hl w
  | 42, _ => rdoes_42 h ok rd s1 s2 im cs hrd h1 h2 v l hv hl w
  | 43, _ => rdoes_43 h ok rd s1 s2 im cs hrd h1 h2 v l hv hl w
  | 44, _ => rdoes_44 h ok rd s1 s2 im cs hrd h1 h2 v l hv hl w
  | 45, _ => rdoes_45 h ok rd s1 s2 im cs hrd h1 h2 v l hv hl w
  | 46, _ => rdoes_46 h ok rd s1 s2 im cs hrd h1 h2 v l hv hl w
  | 47, _ => rdoes_47 h ok rd s1 s2 im cs hrd h1 h2 v l hv hl w
  | 48, _ => rdoes_48 h ok rd s1 s2 im cs hrd h1 h2 v l hv hl w
  | 49, _ => rdoes_49 h ok rd s1 s2 im cs hrd h1 h2 v l hv hl w
  | 50, _ => rdoes_50 h ok rd s1 s2 im cs hrd h1 h2 v l hv hl w
  | 51, _ => rdoes_51 h ok rd s1 s2 im cs hrd h1 h2 v l hv hl w
  | 52, _ => rdoes_52 h ok rd s1 s2 im cs hrd h1 h2 v l hv hl w
  | 53, _ => rdoes_53 h ok rd s1 s2 im cs hrd h1 h2 v l hv hl w
  | 54, _ => rdoes_54 h ok rd s1 s2 im cs hrd h1 h2 v l hv hl w
  | 55, _ => rdoes_55 h ok rd s1 s2 im cs hrd h1 h2 v l hv hl w
  | 56, _ => rdoes_56 h ok rd s1 s2 im cs hrd h1 h2 v l hv hl w
  | n + 57, hh => absurd hh (by omega)
theorem rdo_all (h : H) (ok : h.Ok) (v : Nat) (hv : v < 4294967296) (l : Nat) (hl : l < 4294967296) (w : World) :
    Calls Tryd.prog 10 #[.agg h.cells, .int .u32 v, .int .u32 l] w fun e w' => e = .returned (.tuple #[.agg (doH h v l).1.cells, .agg (doH h v l).2.cells]) ∧ Below w.heap.size w w' := by
  cases hd : decOp v with
  | none =>
    have e0 : doH h v l = (trapH h 2 v, noA) := by simp [doH, hd]
    rw [e0]
    exact rdo_none h ok v l (fun w => rdecode_none v hv (decOp_none hd) w) w
  | some op =>
    have e0 : doH h v l = doOp h op (toldN op v) v l := by simp [doH, hd]
    obtain ⟨rd, s1, s2, im, cs, hi, hrd, h1, h2⟩ := told_shape op v
    have hD := fun w => rdecode_hit v hv op (decOp_some hd).1 (decOp_some hd).2.1 (decOp_some hd).2.2 w
    rw [e0, hi]
    rw [hi] at hD
    exact rdoes_all h ok op (decOp_some hd).1 rd s1 s2 im cs hrd h1 h2 v l hv hl w ⟨hD, fun w => rname_yes op (decOp_some hd).1 w⟩
end Go.Proofs.YtchjhpeogdkbmaaDoor
namespace Go.Proofs.YtchjhpeogdkbmaaDoor
set_option linter.unusedVariables false

theorem trapSt_bit (st : Nat) (h : st < 4294967296) (i : Nat) (hi : i < 32) : (trapSt st).testBit i = if i = 3 then false else if i = 7 then st.testBit 3 else st.testBit i := by
  rw [← trap_st st h, setOne_bit _ _ _ _ hi, setOne_bit _ _ _ _ hi, fldOne_bit _ _ (by decide)]
  rw [show Nat.testBit 0 0 = false by decide]
theorem retSt_bit (st : Nat) (h : st < 4294967296) (i : Nat) (hi : i < 32) : (retSt st).testBit i = if i = 7 then true else if i = 3 then st.testBit 7 else st.testBit i := by
  rw [← ret_st st h, setOne_bit _ _ _ _ hi, setOne_bit _ _ _ _ hi, fldOne_bit _ _ (by decide)]
  rw [show Nat.testBit 1 0 = true by decide]

theorem mask_zero (x m : Nat) (hx : x < 4294967296) (h : ∀ i, i < 32 → (x.testBit i && m.testBit i) = false) : x &&& m = 0 := by
  apply word_ext
  · exact (and_lt (n := 4294967296) hx)
  · exact (show (0 : Nat) < 4294967296 by decide)
  intro i hi
  rw [Nat.testBit_and, h i hi, Nat.zero_testBit]
theorem zero_mask (x m : Nat) (h : x &&& m = 0) (i : Nat) : (x.testBit i && m.testBit i) = false := by
  rw [← Nat.testBit_and, h, Nat.zero_testBit]

theorem st_trap (st : Nat) (h : st < 4294967296) (hm : st &&& 4294967159 = 0) : trapSt st &&& 4294967159 = 0 := by
  apply mask_zero _ _ (trapSt_lt h)
  intro i hi
  have hz := zero_mask st 4294967159 hm i
  rw [mNot136 i hi] at hz ⊢
  rw [trapSt_bit st h i hi]
  by_cases h3 : i = 3
  · rw [if_pos h3]; rfl
  · rw [if_neg h3]
    by_cases h7 : i = 7
    · rw [decide_eq_true h7, Bool.not_true, Bool.and_false, Bool.and_false]
    · rw [if_neg h7]; exact hz
theorem st_ret (st : Nat) (h : st < 4294967296) (hm : st &&& 4294967159 = 0) : retSt st &&& 4294967159 = 0 := by
  apply mask_zero _ _ (retSt_lt h)
  intro i hi
  have hz := zero_mask st 4294967159 hm i
  rw [mNot136 i hi] at hz ⊢
  rw [retSt_bit st h i hi]
  by_cases h7 : i = 7
  · rw [decide_eq_true h7, Bool.not_true, Bool.and_false, Bool.and_false]
  · rw [if_neg h7]
    by_cases h3 : i = 3
    · rw [decide_eq_true h3, Bool.not_true, Bool.false_and, Bool.and_false]
    · rw [if_neg h3]; exact hz

theorem mayB_iff (s : S8) : mayB s = true ↔ s.st &&& 4294967159 = 0 ∧ s.en &&& 4294965111 = 0 ∧ s.ve &&& 2 = 0 ∧ s.ep &&& 3 = 0 := by
  unfold mayB
  rw [Bool.and_eq_true, Bool.and_eq_true, Bool.and_eq_true, beq_iff_eq, beq_iff_eq, beq_iff_eq, beq_iff_eq]

theorem may_trap (s : S8) (hs : s.Ok) (hm : mayB s = true) (c v p : Nat) : mayB (trapN s c v p) = true := by
  rw [mayB_iff] at hm ⊢
  refine ⟨st_trap _ hs.st hm.1, hm.2.1, hm.2.2.1, ?_⟩
  show (p &&& 4294967292) &&& 3 = 0
  rw [Nat.and_assoc, show (4294967292 &&& 3 : Nat) = 0 by decide +kernel, Nat.and_zero]
theorem may_ret (s : S8) (hs : s.Ok) (hm : mayB s = true) : mayB (retN s) = true := by
  rw [mayB_iff] at hm ⊢
  exact ⟨st_ret _ hs.st hm.1, hm.2⟩
theorem may_write (s : S8) (hm : mayB s = true) (a : Int) (v : Nat) (h0 : (writeN s a v).2 = 0) : mayB (writeN s a v).1 = true := by
  rw [mayB_iff] at hm ⊢
  obtain ⟨m0, m1, m2, m3⟩ := hm
  unfold writeN at h0 ⊢
  by_cases c : a = 768
  · rw [if_pos c]; refine ⟨?_, m1, m2, m3⟩
    show (v &&& 136) &&& 4294967159 = 0
    rw [Nat.and_assoc, show (136 &&& 4294967159 : Nat) = 0 by decide +kernel, Nat.and_zero]
  rw [if_neg c] at h0 ⊢; clear c
  by_cases c : a = 769 ∨ a = 836
  · rw [if_pos c]; exact ⟨m0, m1, m2, m3⟩
  rw [if_neg c] at h0 ⊢; clear c
  by_cases c : a = 772
  · rw [if_pos c]; refine ⟨m0, ?_, m2, m3⟩
    show (v &&& 2184) &&& 4294965111 = 0
    rw [Nat.and_assoc, show (2184 &&& 4294965111 : Nat) = 0 by decide +kernel, Nat.and_zero]
  rw [if_neg c] at h0 ⊢; clear c
  by_cases c : a = 773
  · rw [if_pos c]; refine ⟨m0, m1, ?_, m3⟩
    show (v &&& 4294967293) &&& 2 = 0
    rw [Nat.and_assoc, show (4294967293 &&& 2 : Nat) = 0 by decide +kernel, Nat.and_zero]
  rw [if_neg c] at h0 ⊢; clear c
  by_cases c : a = 832
  · rw [if_pos c]; exact ⟨m0, m1, m2, m3⟩
  rw [if_neg c] at h0 ⊢; clear c
  by_cases c : a = 833
  · rw [if_pos c]; refine ⟨m0, m1, m2, ?_⟩
    show (v &&& 4294967292) &&& 3 = 0
    rw [Nat.and_assoc, show (4294967292 &&& 3 : Nat) = 0 by decide +kernel, Nat.and_zero]
  rw [if_neg c] at h0 ⊢; clear c
  by_cases c : a = 834
  · rw [if_pos c]; exact ⟨m0, m1, m2, m3⟩
  rw [if_neg c] at h0 ⊢; clear c
  by_cases c : a = 835
  · rw [if_pos c]; exact ⟨m0, m1, m2, m3⟩
  rw [if_neg c] at h0 ⊢; clear c
  by_cases c : a = 2816 ∨ a = 2818
  · rw [if_pos c]; exact ⟨m0, m1, m2, m3⟩
  rw [if_neg c] at h0 ⊢; clear c
  by_cases c : a = 2944 ∨ a = 2946
  · rw [if_pos c]; exact ⟨m0, m1, m2, m3⟩
  rw [if_neg c] at h0 ⊢; clear c
  by_cases c : a = 3857 ∨ a = 3858 ∨ a = 3859 ∨ a = 3860
  · rw [if_pos c] at h0; exact absurd h0 (by decide)
  rw [if_neg c] at h0; exact absurd h0 (by decide)

theorem asks_trap (st en l : Nat) (h : st < 4294967296) : asksN (trapSt st) en l = 0 := by
  rw [asks_bits, trapSt_bit st h 3 (by decide), if_pos rfl, if_pos rfl]
theorem ret_trap_bit (st : Nat) (h : st < 4294967296) : (retSt (trapSt st)).testBit 3 = st.testBit 3 := by
  have h1 := retSt_bit _ (trapSt_lt h) 3 (by decide)
  rw [if_neg (show ¬ (3 : Nat) = 7 by decide), if_pos rfl, trapSt_bit st h 7 (by decide), if_neg (show ¬ (7 : Nat) = 3 by decide), if_pos rfl] at h1
  exact h1
theorem asks_ret (st en l : Nat) (h : st < 4294967296) : asksN (retSt (trapSt st)) en l = asksN st en l := by
  rw [asks_bits, asks_bits, ret_trap_bit st h]
end Go.Proofs.YtchjhpeogdkbmaaDoor
namespace Go.Proofs.YtchjhpeogdkbmaaDoor
open Go.RowKit
set_option linter.unusedVariables false

variable {ops : Array Oper} {rest : List Oper} {dst : Option Tmp} {ty : TypeId} {pos : String} {after : Array Edge} {a : Act} {w : World} {Q : Exit → Act → World → Prop} {x y : Operand} {gd : Option (Nat × Bool)}
theorem gl_xs (b : Nat) (h : H) (xs : Array Value) (t' : TypeId) (hr : RowAt w b h.cells t') (hxs : h.xs = xs) (hx : a.eval x = .pointer (some ⟨b, 1, none⟩)) (hw : Region.wanted ⟨dst, .load 23 x, ty, pos, after, gd⟩ (yielded ops a.tmps) = true)
    (k : wpList Tryd.prog ops Q rest (a.put dst (.agg xs)) w) : wpList Tryd.prog ops Q (⟨dst, .load 23 x, ty, pos, after, gd⟩ :: rest) a w := by
  subst hxs
  have hq := World.rangeAt_of_block hr 1 h.xs.size
  rw [ex_xs h] at hq
  exact BigFrame.wpList_want hw fun K hK => wp_load_mid 23 x rfl b 1 hx h.xs.toList _ hq Tryd.underlying23 rfl size_xs (hK _ _ k)
theorem and_fc (v : Nat) (hv : v < 4294967296) (h4 : v % 4 = 0) : v &&& 4294967292 = v := by
  apply Nat.eq_of_testBit_eq
  intro i
  rw [Nat.testBit_and]
  by_cases hi : i < 32
  · by_cases h2 : i < 2
    · have h0 : v.testBit i = false := by
        rw [Nat.testBit_eq_decide_div_mod_eq]
        rcases i with _ | _ | i
        · simp; omega
        · simp; omega
        · omega
      simp [h0]
    · have h1 : Nat.testBit 4294967292 i = true := (by decide : ∀ i < 32, 2 ≤ i → Nat.testBit 4294967292 i = true) i hi (by omega)
      simp [h1]
  · have h0 : v.testBit i = false := Nat.testBit_lt_two_pow (Nat.lt_of_lt_of_le hv (Nat.pow_le_pow_right (n := 2) (i := 32) (by decide) (by omega)))
    simp [h0]
theorem mod4_and (v : Nat) (h : v &&& 3 = 0) : v % 4 = 0 := by
  have := Nat.and_two_pow_sub_one_eq_mod v 2
  simp at this
  omega
theorem mayH_iff (h : H) : mayH h = true ↔ h.pc % 4 = 0 ∧ h.x 0 = 0 ∧ mayB h.c = true := by
  unfold mayH
  simp
end Go.Proofs.YtchjhpeogdkbmaaDoor
namespace Go.Proofs.YtchjhpeogdkbmaaDoor
open Go.RowKit
set_option linter.unusedVariables false

theorem s_alloc {P : Program} {dst : Option Tmp} {ty t : TypeId} {pos : String} {after : Array Edge} {a : Act} {w : World} {Q : Exit → Act → World → Prop} {K : Act → World → Prop} (N : Nat) (hN : w.heap.size = N) (cs : Array Value) (hz : ∀ w, (zeroValue t).run P w = .ok (.agg cs) w)
    (k : ∀ W, RowAt W N cs t → Below N w W → Hid (W.heap.size = N + 1) → K (a.put dst (.pointer (some ⟨N, 0, none⟩))) W) :
    Oper.wp P ⟨dst, .alloc t, ty, pos, after, none⟩ a w K Q := by
  subst hN
  have hrun : (execOp a.eval ⟨dst, .alloc t, ty, pos, after, none⟩).run P w = .ok (.value (.pointer (some ⟨w.heap.size, 0, none⟩))) (w.alloc (.cells cs t)) := by
    unfold execOp
    simp only [Instr.alloc, Sem.run_bind, hz, Result.andThen_ok, newVar, newRow, run_newObj_alloc, Sem.run_pure]
    rfl
  unfold Oper.wp
  rw [hrun, Oper.upon_value]
  exact k _ (RowAt.new w _ cs t rfl) (below_one w _) (hide (by simp))
set_option maxHeartbeats 1000000 in
theorem ne_h (h : H) (w : World) : (binOp .neq 31 (.agg h.cells) (.agg h.cells)).run Tryd.prog w = .ok (.bool false) w := by
  have hx : (Op.equalIn 9999 23 (.agg h.xs) (.agg h.xs)).run Tryd.prog w = .ok true w := eq_xs h 9997 w
  have e1 : h.cells.extract 1 33 = h.xs := by simp [H.cells, H.xs]
  have e2 : h.cells.extract 34 42 = h.c.cells := by simp [H.cells, S8.cells]
  simp [go_sem, e1, e2, hx, H.at0, H.at33, S8.cells]
variable {ops : Array Oper} {rest : List Oper} {dst : Option Tmp} {ty t2 : TypeId} {after : Array Edge} {a : Act} {w : World} {Q : Exit → Act → World → Prop} {x y : Operand} {gd : Option (Nat × Bool)}
theorem gl_h {pos : String} (b : Nat) (h : H) (hr : RowAt w b h.cells 31) (hx : a.eval x = .pointer (some ⟨b, 0, none⟩)) (hw : Region.wanted ⟨dst, .load 31 x, ty, pos, after, gd⟩ (yielded ops a.tmps) = true)
    (k : wpList Tryd.prog ops Q rest (a.put dst (.agg h.cells)) w) : wpList Tryd.prog ops Q (⟨dst, .load 31 x, ty, pos, after, gd⟩ :: rest) a w :=
  BigFrame.wpList_want hw fun K hK => wp_load_row 31 x rfl b hx _ h.cells (0, 0) _ hr Tryd.underlying31 rfl size_hart (hK _ _ k)
theorem no_guard : Tryd.prog.eqGuardType Tryd.prog.depth 31 = false := by kernel_rfl
theorem g_eqh {pos : String} (h : H) (hx : a.eval x = .agg h.cells) (hy : a.eval y = .agg h.cells) (hw : Region.wanted ⟨dst, .binOp .eql 31 x y t2, ty, pos, after, gd⟩ (yielded ops a.tmps) = true)
    (k : wpList Tryd.prog ops Q rest (a.put dst (.bool true)) w) : wpList Tryd.prog ops Q (⟨dst, .binOp .eql 31 x y t2, ty, pos, after, gd⟩ :: rest) a w :=
  BigFrame.wpList_want hw fun K hK => by
    have hrun : (execOp a.eval ⟨dst, .binOp .eql 31 x y t2, ty, pos, after, gd⟩).run Tryd.prog w = .ok (.value (.bool true)) w := by
      unfold execOp
      simp only [Sem.run_bind, hx, hy, run_eqGuard_agg w .eql 31 x y h.cells h.cells no_guard, eq_h h, Result.andThen_ok, Sem.run_pure]
    unfold Oper.wp
    rw [hrun, Oper.upon_value]
    exact hK _ _ k
theorem g_neh {pos : String} (h : H) (hx : a.eval x = .agg h.cells) (hy : a.eval y = .agg h.cells) (hw : Region.wanted ⟨dst, .binOp .neq 31 x y t2, ty, pos, after, gd⟩ (yielded ops a.tmps) = true)
    (k : wpList Tryd.prog ops Q rest (a.put dst (.bool false)) w) : wpList Tryd.prog ops Q (⟨dst, .binOp .neq 31 x y t2, ty, pos, after, gd⟩ :: rest) a w :=
  BigFrame.wpList_want hw fun K hK => by
    have hrun : (execOp a.eval ⟨dst, .binOp .neq 31 x y t2, ty, pos, after, gd⟩).run Tryd.prog w = .ok (.value (.bool false)) w := by
      unfold execOp
      simp only [Sem.run_bind, hx, hy, run_eqGuard_agg w .neq 31 x y h.cells h.cells no_guard, ne_h h, Result.andThen_ok, Sem.run_pure]
    unfold Oper.wp
    rw [hrun, Oper.upon_value]
    exact hK _ _ k
end Go.Proofs.YtchjhpeogdkbmaaDoor
namespace Go.Proofs.YtchjhpeogdkbmaaDoor
open Go.RowKit
set_option linter.unusedVariables false

end Go.Proofs.YtchjhpeogdkbmaaDoor
namespace Go.Proofs.YtchjhpeogdkbmaaDoor
open Go.RowKit
set_option linter.unusedVariables false
variable {ops : Array Oper} {dst : Option Tmp} {ty t2 : TypeId} {after : Array Edge} {a : Act} {x y : Operand} {gd : Option (Nat × Bool)} {pos : String} {S : World → Prop}
theorem y_row {t : TypeId} {d : TypeDesc} (hu : Tryd.prog.underlying t = some d) (hd : d.isRow = true) (cs : Array Value) (hi : (Tryd.prog.info? t).map (·.size) = some cs.size) (b : Nat) (hS : ∀ V, S V → RowAt V b cs t) (hx : a.eval x = .pointer (some ⟨b, 0, none⟩)) (hw : Region.wanted ⟨dst, .load t x, ty, pos, after, gd⟩ (yielded ops a.tmps) = true) :
    YieldsIf Tryd.prog ops S ⟨dst, .load t x, ty, pos, after, gd⟩ (.agg cs) a := by
  rcases y_load (ops := ops) (P := Tryd.prog) (t := t) (dst := dst) (ty := ty) (after := after) (a := a) (x := x) (pos := pos) (S := S) b cs _ hS d hu hd hi hx with ⟨_, h2⟩ | ⟨h1, _⟩
  · exact .inl ⟨hw, fun V hV => h2 V hV⟩
  · simp [Region.wanted] at h1
theorem y_eqh {h : H} (hx : a.eval x = .agg h.cells) (hy : a.eval y = .agg h.cells) (hw : Region.wanted ⟨dst, .binOp .eql 31 x y t2, ty, pos, after, gd⟩ (yielded ops a.tmps) = true) :
    YieldsIf Tryd.prog ops S ⟨dst, .binOp .eql 31 x y t2, ty, pos, after, gd⟩ (.bool true) a :=
  .inl ⟨hw, fun V hV => by
    unfold execOp
    simp only [Sem.run_bind, hx, hy, run_eqGuard_agg V .eql 31 x y h.cells h.cells no_guard, eq_h h, Result.andThen_ok, Sem.run_pure]⟩
theorem eq_acc (i : A6) (w : World) : (binOp .eql 33 (.agg i.cells) (.agg i.cells)).run Tryd.prog w = .ok (.bool true) w := by
  simp [go_sem, A6.at0, A6.at1, A6.at2, A6.at3, A6.at4, A6.at5]
theorem no_guard_a : Tryd.prog.eqGuardType Tryd.prog.depth 33 = false := by kernel_rfl
theorem y_eqa {i : A6} (hx : a.eval x = .agg i.cells) (hy : a.eval y = .agg i.cells) (hw : Region.wanted ⟨dst, .binOp .eql 33 x y t2, ty, pos, after, gd⟩ (yielded ops a.tmps) = true) :
    YieldsIf Tryd.prog ops S ⟨dst, .binOp .eql 33 x y t2, ty, pos, after, gd⟩ (.bool true) a :=
  .inl ⟨hw, fun V hV => by
    unfold execOp
    simp only [Sem.run_bind, hx, hy, run_eqGuard_agg V .eql 33 x y i.cells i.cells no_guard_a, eq_acc i, Result.andThen_ok, Sem.run_pure]⟩
end Go.Proofs.YtchjhpeogdkbmaaDoor
namespace Go.Proofs.YtchjhpeogdkbmaaDoor
open Go.RowKit
set_option linter.unusedVariables false
set_option maxHeartbeats 2000000 in
set_option maxRecDepth 20000 in
theorem does_walk (h : H) (ok : h.Ok) (v l : Nat) (hv : v < 4294967296) (hl : l < 4294967296) (w : World) (hA : HartAt w) :
    Calls Tryd.prog 3 #[.agg h.cells, .int .u32 v, .int .u32 l] w fun e w' => e = .returned (.bool true) ∧ Below w.heap.size w w' := by
  have HA := hide hA
  clear hA
  have HG := hide (fun h w => give_any h w)
  have HD := hide (fun w hw => do_all h ok v hv l hl w hw)
  have HRD := hide (fun w => rdo_all h ok v hv l hl w)
  have HS := hide (fun w hw => sure_any w hw)
  generalize doH h v l = zb at HD HRD
  obtain ⟨z, ac⟩ := zb
  simp only at HD HRD
  go_enter Tryd.func3, Tryd.ntmps3
  go_wp2_with (first | ((with_reducible refine bx_g w.heap.size h ?_ ?_ ?_); exact rfl; exact rfl; intro W hg hb hz) | ((with_reducible refine ld_g w.heap.size h hg ?_ ?_); exact rfl) | (go_at_call 9; (with_reducible refine (HG.out _ _).mono ?_); rintro e W ⟨rfl, hbc⟩; obtain ⟨hg, hb⟩ := bl1 hbc hg hb) | (go_at_call 8; (with_reducible refine (HD.out _ (HA.out.below hb)).mono ?_); rintro e W ⟨rfl, hbc⟩; replace hg := hg.bl hbc; obtain ⟨NX, hNX⟩ : ∃ n, W.heap.size = n := ⟨_, rfl⟩; have lNX : w.heap.size + 1 ≤ NX := (by (have := hg.lt; omega)); replace hNX := hide hNX; replace hb := below_bl rfl hb hbc) | ((with_reducible refine al_h NX ?_ ?_); exact hNX.out; intro W hx hb' hz2; obtain ⟨hg, hb⟩ := an1 hNX hb' hg hb) | ((with_reducible refine al_a (NX + 1) ?_ ?_); exact hz2.out; intro W hxa hb' hz2'; obtain ⟨hg, hx, hb⟩ := an2 hz2 hb' hg hx hb) | ((with_reducible refine st_h NX _ z hx ?_ ?_ ?_); exact rfl; exact rfl; intro W hnew ho; obtain ⟨hg, hxa, hb⟩ := on2 ho hg hxa hb; replace hx := hnew) | ((with_reducible refine st_a (NX + 1) _ ac hxa ?_ ?_ ?_); exact rfl; exact rfl; intro W hnew ho; obtain ⟨hg, hx, hb⟩ := on2 ho hg hx hb; replace hxa := hnew) | (go_at_call 10; (with_reducible refine (HRD.out _).mono ?_); rintro e W ⟨rfl, hbc⟩; replace hg := hg.bl hbc; replace hx := hx.bl hbc; replace hxa := hxa.bl hbc; obtain ⟨NY, hNY⟩ : ∃ n, W.heap.size = n := ⟨_, rfl⟩; have lNY : NX + 2 ≤ NY := (by (have := hxa.lt; omega)); replace hNY := hide hNY; replace hb := below_bl rfl hb hbc) | ((with_reducible refine al_g NY ?_ ?_); exact hNY.out; intro W hy hb' hz3; obtain ⟨hg, hx, hxa, hb⟩ := an3 hNY hb' hg hx hxa hb) | ((with_reducible refine al_ra (NY + 1) ?_ ?_); exact hz3.out; intro W hya hb' hz3'; obtain ⟨hg, hx, hxa, hy, hb⟩ := an4 hz3 hb' hg hx hxa hy hb) | ((with_reducible refine st_g NY _ z hy ?_ ?_ ?_); exact rfl; exact rfl; intro W hnew ho; obtain ⟨hg, hx, hxa, hya, hb⟩ := on4 ho hg hx hxa hya hb; replace hy := hnew) | ((with_reducible refine st_ra (NY + 1) _ ac hya ?_ ?_ ?_); exact rfl; exact rfl; intro W hnew ho; obtain ⟨hg, hx, hxa, hy, hb⟩ := on4 ho hg hx hxa hy hb; replace hya := hnew))
  refine wp_region_held_drew (S := (fun V => RowAt V NX z.cells 31 ∧ RowAt V (NX + 1) ac.cells 33 ∧ RowAt V NY z.cells 28 ∧ RowAt V (NY + 1) ac.cells 37 ∧ Below w.heap.size w V)) (by kernel_rfl) ?_ (fun hHeld => ?_)
  · exact ⟨hx.dr, hxa.dr, hy.dr, hya.dr, hb.drew⟩
  generalize W.drew = V at hHeld ⊢
  clear hx hxa hy hya hb hg
  refine tkO 0 (.agg z.cells) (by simp only [gT, gZ]; rfl) (y_row Tryd.underlying31 rfl z.cells size_hart NX (fun V hV => hV.1) rfl rfl) ?_
  simp only [Act.put, pA, pZ, pS]
  refine tkO 1 (.agg z.cells) (by simp only [gT, gZ, gS]; rfl) (y_row Tryd.underlying28 rfl z.cells size_g NY (fun V hV => hV.2.2.1) rfl rfl) ?_
  simp only [Act.put, pA, pZ, pS]
  refine skO 2 (by simp only [gT, gZ, gS]; rfl) (fun K hK => ?_)
  go_simp
  (with_reducible refine (HG.out _ _).mono ?_)
  rintro e V ⟨rfl, hbc⟩
  have hH2 := hide (And.intro (hHeld.1.bl hbc) (And.intro (hHeld.2.1.bl hbc) (And.intro (hHeld.2.2.1.bl hbc) (And.intro (hHeld.2.2.2.1.bl hbc) (below_bl rfl hHeld.2.2.2.2 hbc)))))
  clear hHeld hbc
  go_simp
  refine hK.out _ _ ?_ (fun hHeld => ?_)
  · exact hH2.out
  clear hK K
  clear hH2
  refine tkO 3 (.bool true) (by simp only [gT, gZ, gS]; rfl) (y_eqh (h := z) rfl rfl rfl) ?_
  simp only [Act.put, pA, pZ, pS]
  refine tkO 4 (.bool true) (by simp only [gT, gZ, gS]; rfl) (puO (by (intro w hSw; (try dsimp only at hSw); go_simp))) ?_
  simp only [Act.put, pA, pZ, pS]
  refine tkO 5 (.agg ac.cells) (by simp only [gT, gZ, gS]; rfl) (y_row Tryd.underlying33 rfl ac.cells size_acc (NX + 1) (fun V hV => hV.2.1) rfl rfl) ?_
  simp only [Act.put, pA, pZ, pS]
  refine tkO 6 (.agg ac.cells) (by simp only [gT, gZ, gS]; rfl) (y_row Tryd.underlying37 rfl ac.cells size_racc (NY + 1) (fun V hV => hV.2.2.2.1) rfl rfl) ?_
  simp only [Act.put, pA, pZ, pS]
  refine tkO 7 (.bool true) (by simp only [gT, gZ, gS]; rfl) (y_eqa (i := ac) rfl rfl rfl) ?_
  simp only [Act.put, pA, pZ, pS]
  refine tkO 8 (.bool true) (by simp only [gT, gZ, gS]; rfl) (puO (by (intro w hSw; (try dsimp only at hSw); go_simp))) ?_
  simp only [Act.put, pA, pZ, pS]
  refine tkO 9 (.bool true) (by simp only [gT, gZ, gS]; rfl) (puO (by (intro w hSw; (try dsimp only at hSw); go_simp))) ?_
  simp only [Act.put, pA, pZ, pS]
  refine skO 10 (by simp only [gT, gZ, gS]; rfl) (fun K hK => ?_)
  rw [if_pos (by rfl)]
  go_simp
  (with_reducible refine (HS.out _ (HA.out.below hHeld.2.2.2.2)).mono ?_)
  rintro e V ⟨rfl, hbc⟩
  have hH2 := hide (And.intro (hHeld.1.bl hbc) (And.intro (hHeld.2.1.bl hbc) (And.intro (hHeld.2.2.1.bl hbc) (And.intro (hHeld.2.2.2.1.bl hbc) (below_bl rfl hHeld.2.2.2.2 hbc)))))
  clear hHeld hbc
  go_simp
  refine hK.out _ _ ?_ (fun hHeld => ?_)
  · exact hH2.out
  clear hK K
  clear hH2
  refine tkO 11 (.bool true) (by simp only [gT, gZ, gS]; rfl) (puO (by (intro w hSw; (try dsimp only at hSw); go_simp))) ?_
  simp only [Act.put, pA, pZ, pS]
  refine tkO 12 (.bool true) (by simp only [gT, gZ, gS]; rfl) (puO (by (intro w hSw; (try dsimp only at hSw); go_simp))) ?_
  simp only [Act.put, pA, pZ, pS]
  refine wpAnyH_done (by kernel_rfl) ?_ _
  have hb := hHeld.2.2.2.2
  clear hHeld
  go_wp2
  go_ret
  exact ⟨rfl, hb⟩
end Go.Proofs.YtchjhpeogdkbmaaDoor
namespace Go.Proofs.YtchjhpeogdkbmaaDoor
open Go.ChangeShapes Go.WideShapes Go.ChangeAt Go.RowKit
set_option linter.unusedVariables false

theorem bounds_w {z : Int} (h : (Lit.int .u32 z).wf = true) : ∃ n : Nat, z = n ∧ n < 4294967296 := by
  have hb := bounds_u32 h
  exact ⟨z.toNat, by omega, by omega⟩
theorem bounds_c {z : Int} (h : (Lit.int .u64 z).wf = true) : ∃ n : Nat, z = n ∧ n < 18446744073709551616 := by
  have hb := bounds_u64 h
  exact ⟨z.toNat, by omega, by omega⟩
theorem one_at {l : List Value} {a : Nat} {v : Value} (h : (l.drop a).take 1 = [v]) : l[a]? = some v := by
  have e : ((l.drop a).take 1)[0]? = some v := by rw [h]; rfl
  simpa using e
theorem in_at {l : List Value} {a n i : Nat} {v : Value} (hi : i < n) (h : (((l.drop a).take n).drop i).take 1 = [v]) : l[a + i]? = some v := by
  have e := one_at h
  rw [List.getElem?_take_of_lt hi, List.getElem?_drop] at e
  exact e
theorem word_at {H : Type} {enc : TypeId × Value → H} {W : World} {base : Nat} {spare : Nat → Bool} {held : Bool} {fuel : Nat} {cs : List Value} {x : DataW H × List MemPlace}
    (h : DataW.trod enc Tryd.prog W base spare held fuel 22 cs = some x) : ∃ n : Nat, cs = [.int .u32 (n : Nat)] ∧ n < 4294967296 := by
  obtain ⟨z, e, _, hw⟩ := DataW.trod_int Tryd.underlying22 h
  obtain ⟨n, rfl, hn⟩ := bounds_w hw
  exact ⟨n, e, hn⟩
theorem cells_g : Tryd.prog.cellsOf 28 = 42 := by kernel_rfl
theorem cells_gx : Tryd.prog.cellsOf 23 = 32 := by kernel_rfl
theorem cells_gc : Tryd.prog.cellsOf 26 = 8 := by kernel_rfl
theorem cells_w : Tryd.prog.cellsOf 22 = 1 := by kernel_rfl
theorem cells_l : Tryd.prog.cellsOf 24 = 1 := by kernel_rfl
theorem cells_b : Tryd.prog.cellsOf 4 = 1 := by kernel_rfl
theorem some_of {α : Type} {l : List α} {i : Nat} (h : i < l.length) : l[i]? = some l[i] := List.getElem?_eq_getElem h

set_option maxRecDepth 100000 in
set_option maxHeartbeats 1000000 in
theorem open_hart {H' : Type} {enc : TypeId × Value → H'} {W : World} {base b0 : Nat} {spare : Nat → Bool} {held : Bool} {r : Reach} {v : Value} {d : DataW H'} {p : List MemPlace}
    (hv : Value.okWide Tryd.prog W r b0 28 v) (h : DataW.Trod enc Tryd.prog W base spare held 28 v d p) :
    ∃ s : H, s.Ok ∧ v = .agg s.cells := by
  have ht := Tryd.underlying28
  simp only [Value.okWide, ht] at hv
  obtain ⟨cs, rfl, hsz, _⟩ := hv
  obtain ⟨fuel, hfu⟩ := h
  obtain ⟨xs, m, _, _, hlen, hxl, hx⟩ := DataW.trod_struct ht hfu
  simp only [Value.cells] at hlen hx
  rw [cells_g] at hsz
  have hxs : xs.length = 4 := hxl
  have f0 : DataW.trod enc Tryd.prog W base spare held m 22 ((cs.toList.drop 0).take (Tryd.prog.cellsOf 22)) = xs[0]? := hx 0 _ rfl
  have f1 : DataW.trod enc Tryd.prog W base spare held m 23 ((cs.toList.drop 1).take (Tryd.prog.cellsOf 23)) = xs[1]? := hx 1 _ rfl
  have f2 : DataW.trod enc Tryd.prog W base spare held m 4 ((cs.toList.drop 33).take (Tryd.prog.cellsOf 4)) = xs[2]? := hx 2 _ rfl
  have f3 : DataW.trod enc Tryd.prog W base spare held m 26 ((cs.toList.drop 34).take (Tryd.prog.cellsOf 26)) = xs[3]? := hx 3 _ rfl
  rw [some_of (by omega)] at f0 f1 f2 f3
  rw [cells_w] at f0
  rw [cells_gx] at f1
  rw [cells_b] at f2
  rw [cells_gc] at f3
  obtain ⟨n0, e0, b0'⟩ := word_at f0
  have c0 := one_at e0
  obtain ⟨ys, m1, _, _, _, hyl, hy⟩ := DataW.trod_array Tryd.underlying23 f1
  have cx : ∀ i, ∃ n : Nat, n < 4294967296 ∧ (i < 32 → cs.toList[1 + i]? = some (.int .u32 (n : Nat))) := by
    intro i
    by_cases hi : i < 32
    · have g := hy i hi
      rw [cells_w, Nat.mul_one, some_of (by omega)] at g
      obtain ⟨n, e, hn⟩ := word_at g
      exact ⟨n, hn, fun _ => in_at hi e⟩
    · exact ⟨0, by decide, fun h => absurd h hi⟩
  obtain ⟨bw, e2, _⟩ := DataW.trod_bool Tryd.underlying4 f2
  have c33 := one_at e2
  obtain ⟨zs, m3, _, _, _, hzl, hz⟩ := DataW.trod_struct Tryd.underlying26 f3
  have hzs : zs.length = 8 := hzl
  have g0 : DataW.trod enc Tryd.prog W base spare held m3 22 ((((cs.toList.drop 34).take 8).drop 0).take (Tryd.prog.cellsOf 22)) = zs[0]? := hz 0 _ rfl
  have g1 : DataW.trod enc Tryd.prog W base spare held m3 22 ((((cs.toList.drop 34).take 8).drop 1).take (Tryd.prog.cellsOf 22)) = zs[1]? := hz 1 _ rfl
  have g2 : DataW.trod enc Tryd.prog W base spare held m3 22 ((((cs.toList.drop 34).take 8).drop 2).take (Tryd.prog.cellsOf 22)) = zs[2]? := hz 2 _ rfl
  have g3 : DataW.trod enc Tryd.prog W base spare held m3 22 ((((cs.toList.drop 34).take 8).drop 3).take (Tryd.prog.cellsOf 22)) = zs[3]? := hz 3 _ rfl
  have g4 : DataW.trod enc Tryd.prog W base spare held m3 22 ((((cs.toList.drop 34).take 8).drop 4).take (Tryd.prog.cellsOf 22)) = zs[4]? := hz 4 _ rfl
  have g5 : DataW.trod enc Tryd.prog W base spare held m3 22 ((((cs.toList.drop 34).take 8).drop 5).take (Tryd.prog.cellsOf 22)) = zs[5]? := hz 5 _ rfl
  have g6 : DataW.trod enc Tryd.prog W base spare held m3 22 ((((cs.toList.drop 34).take 8).drop 6).take (Tryd.prog.cellsOf 22)) = zs[6]? := hz 6 _ rfl
  have g7 : DataW.trod enc Tryd.prog W base spare held m3 24 ((((cs.toList.drop 34).take 8).drop 7).take (Tryd.prog.cellsOf 24)) = zs[7]? := hz 7 _ rfl
  rw [some_of (by omega)] at g0 g1 g2 g3 g4 g5 g6 g7
  rw [cells_w] at g0 g1 g2 g3 g4 g5 g6
  rw [cells_l] at g7
  obtain ⟨s0, k0, l0⟩ := word_at g0
  obtain ⟨s1, k1, l1⟩ := word_at g1
  obtain ⟨s2, k2, l2⟩ := word_at g2
  obtain ⟨s3, k3, l3⟩ := word_at g3
  obtain ⟨s4, k4, l4⟩ := word_at g4
  obtain ⟨s5, k5, l5⟩ := word_at g5
  obtain ⟨s6, k6, l6⟩ := word_at g6
  obtain ⟨z7, k7, _, w7⟩ := DataW.trod_int Tryd.underlying24 g7
  obtain ⟨s7, rfl, l7⟩ := bounds_c w7
  have q0 := in_at (by decide) k0
  have q1 := in_at (by decide) k1
  have q2 := in_at (by decide) k2
  have q3 := in_at (by decide) k3
  have q4 := in_at (by decide) k4
  have q5 := in_at (by decide) k5
  have q6 := in_at (by decide) k6
  have q7 := in_at (by decide) k7
  refine ⟨⟨n0, fun i => Classical.choose (cx i), bw, ⟨s0, s1, s2, s3, s4, s5, s6, s7⟩⟩, ⟨b0', fun i => (Classical.choose_spec (cx i)).1, ⟨l0, l1, l2, l3, l4, l5, l6, l7⟩⟩, ?_⟩
  congr 1
  apply Array.ext_getElem?
  intro j
  rw [← Array.getElem?_toList]
  by_cases j0 : j = 0
  · subst j0; exact c0
  by_cases j1 : j < 33
  · obtain ⟨i, rfl⟩ : ∃ i, j = 1 + i := ⟨j - 1, by omega⟩
    rw [(Classical.choose_spec (cx i)).2 (by omega), H.cell_x _ i (by omega)]
  by_cases j2 : j = 33
  · subst j2; exact c33
  by_cases j3 : j < 42
  · obtain ⟨i, rfl⟩ : ∃ i, j = 34 + i := ⟨j - 34, by omega⟩
    match i, j3 with
    | 0, _ => exact q0
    | 1, _ => exact q1
    | 2, _ => exact q2
    | 3, _ => exact q3
    | 4, _ => exact q4
    | 5, _ => exact q5
    | 6, _ => exact q6
    | 7, _ => exact q7
    | k + 8, h => exact absurd h (by omega)
  · rw [List.getElem?_eq_none (by simp; omega), Array.getElem?_eq_none (by show 42 ≤ j; omega)]
end Go.Proofs.YtchjhpeogdkbmaaDoor
namespace Go.Proofs.YtchjhpeogdkbmaaDoor
open Go.ChangeShapes Go.WideShapes Go.ChangeAt Go.RowKit

theorem tab_elem {P : Program} {W : World} {t e : TypeId} {n fuel : Nat} {cs : Array Value} {ds : List (DataW Unit)} {p : List MemPlace}
    (ht : P.underlying t = some (.array n e)) (hce : P.cellsOf e = 1) (hC : P.cellsOf t = n)
    (hd : DataW.trod (fun _ => ()) P W 0 (fun _ => true) false fuel t cs.toList = some (.agg ds, p)) (j : Nat) (hj : j < n) :
    ∃ m v q d, cs[j]? = some v ∧ ds[j]? = some d ∧ DataW.trod (fun _ => ()) P W 0 (fun _ => true) false m e [v] = some (d, q) := by
  obtain ⟨xs, m, _, hx, hlen, hn, hel⟩ := DataW.trod_array ht hd
  rw [hC] at hlen
  simp only [Prod.mk.injEq] at hx
  have h1 := hel j hj
  have hxj : j < xs.length := by omega
  rw [hce, List.getElem?_eq_getElem hxj] at h1
  have hjl : j < cs.toList.length := by omega
  have e3 : (cs.toList.drop (j * 1)).take 1 = [cs.toList[j]] := by rw [Nat.mul_one, List.drop_eq_getElem_cons hjl]; simp
  rw [e3] at h1
  refine ⟨m, cs.toList[j], xs[j].2, xs[j].1, ?_, ?_, h1⟩
  · rw [← Array.getElem?_toList, List.getElem?_eq_getElem hjl]
  · have e7 : ds = xs.map (·.1) := by have := hx.1; injection this
    rw [e7, List.getElem?_map, List.getElem?_eq_getElem hxj]; rfl

theorem tab_int {P : Program} {W : World} {name : String} {g : Nat} {t e : TypeId} {n fuel : Nat} {k : IntKind} {cs : Array Value} {L : List Nat} {p : List MemPlace}
    (hg : P.globalNamed name = some g) (hv : W.var? P name = some cs)
    (ht : P.underlying t = some (.array n e)) (he : P.underlying e = some (.int k)) (hce : P.cellsOf e = 1) (hC : P.cellsOf t = n) (hL : L.length = n)
    (hd : DataW.trod (fun _ => ()) P W 0 (fun _ => true) false fuel t cs.toList = some (.agg (L.map fun x : Nat => .lit (.int k (x : Int))), p)) (j : Nat) (hj : j < n) :
    W.cell? ⟨g, j, none⟩ = some (.int k (L.getD j 0 : Nat)) := by
  obtain ⟨m, v, q, d, h1, h2, h3⟩ := tab_elem ht hce hC hd j hj
  have hjL : j < L.length := by omega
  rw [List.getElem?_map, List.getElem?_eq_getElem hjL] at h2
  obtain ⟨z, e1, e2, _⟩ := DataW.trod_int he h3
  simp only [Option.map_some, Option.some.injEq] at h2
  simp only [Prod.mk.injEq] at e2
  rw [← h2] at e2
  have e5 := e2.1
  simp only [DataW.lit.injEq, Lit.int.injEq, true_and] at e5
  rw [World.var?_cell hg hv j, h1]
  simp only [List.cons.injEq, and_true] at e1
  rw [e1, ← e5, List.getD_eq_getElem?_getD, List.getElem?_eq_getElem hjL]
  rfl

theorem tab_str {P : Program} {W : World} {name : String} {g : Nat} {t e : TypeId} {n fuel : Nat} {cs : Array Value} {L : List (List UInt8)} {p : List MemPlace}
    (hg : P.globalNamed name = some g) (hv : W.var? P name = some cs)
    (ht : P.underlying t = some (.array n e)) (he : P.underlying e = some .string) (hce : P.cellsOf e = 1) (hC : P.cellsOf t = n) (hL : L.length = n)
    (hd : DataW.trod (fun _ => ()) P W 0 (fun _ => true) false fuel t cs.toList = some (.agg (L.map fun x => .lit (.string x)), p)) (j : Nat) (hj : j < n) :
    W.cell? ⟨g, j, none⟩ = some (.string ⟨(L.getD j []).toArray⟩) := by
  obtain ⟨m, v, q, d, h1, h2, h3⟩ := tab_elem ht hce hC hd j hj
  have hjL : j < L.length := by omega
  rw [List.getElem?_map, List.getElem?_eq_getElem hjL] at h2
  obtain ⟨z, e1, e2, _⟩ := DataW.trod_string he h3
  simp only [Option.map_some, Option.some.injEq] at h2
  simp only [Prod.mk.injEq] at e2
  rw [← h2] at e2
  have e5 := e2.1
  simp only [DataW.lit.injEq, Lit.string.injEq] at e5
  rw [World.var?_cell hg hv j, h1]
  simp only [List.cons.injEq, and_true] at e1
  rw [e1, List.getD_eq_getElem?_getD, List.getElem?_eq_getElem hjL]
  simp only [Option.getD_some]
  rw [e5]
end Go.Proofs.YtchjhpeogdkbmaaDoor
namespace Go.Proofs.YtchjhpeogdkbmaaDoor
open Go.ChangeShapes Go.WideShapes Go.ChangeAt Go.RowKit
set_option linter.unusedVariables false

theorem own : ownKnob Tryd.prog.godebug = none := by kernel_rfl
theorem laidOut : laidOutB Tryd.prog = true := by kernel_rfl
theorem gKinds : Tryd.prog.globalNamed "pinnace/inst.kinds" = some 0 := by kernel_rfl
theorem gWords : Tryd.prog.globalNamed "pinnace/inst.words" = some 1 := by kernel_rfl
theorem gOns : Tryd.prog.globalNamed "pinnace/hart.onNumbers" = some 3 := by kernel_rfl
theorem gWids : Tryd.prog.globalNamed "pinnace/hart.widths" = some 2 := by kernel_rfl
theorem tKinds : (Tryd.prog.globals[0]?).map (·.type) = some 98 := by kernel_rfl
theorem tWords : (Tryd.prog.globals[1]?).map (·.type) = some 99 := by kernel_rfl
theorem tOns : (Tryd.prog.globals[3]?).map (·.type) = some 111 := by kernel_rfl
theorem tWids : (Tryd.prog.globals[2]?).map (·.type) = some 103 := by kernel_rfl
theorem dKinds : (Rows.laid_pinnace_inst_kinds : DataW Unit) = .agg (kindL.map fun x : Nat => .lit (.int .u8 (x : Int))) := rfl
theorem dWords : (Rows.laid_pinnace_inst_words : DataW Unit) = .agg (wordL.map fun x : Nat => .lit (.int .u32 (x : Int))) := rfl
theorem dOns : (Rows.laid_pinnace_hart_onNumbers : DataW Unit) = .agg (onL.map fun x : Nat => .lit (.int .i64 (x : Int))) := rfl
theorem dWids : (Rows.laid_pinnace_hart_widths : DataW Unit) = .agg (widL.map fun x : Nat => .lit (.int .i64 (x : Int))) := rfl
theorem widN_at (j : Nat) (hj : j < 5) : widL.getD j 0 = widN j := by
  rcases j with _ | _ | _ | _ | _ | j
  all_goals first | rfl | omega

abbrev laid4 : List (String × DataW Unit) := [("pinnace/inst.kinds", Rows.laid_pinnace_inst_kinds), ("pinnace/inst.words", Rows.laid_pinnace_inst_words), ("pinnace/hart.onNumbers", Rows.laid_pinnace_hart_onNumbers), ("pinnace/hart.widths", Rows.laid_pinnace_hart_widths)]

theorem hart_of_laid {W : World} (h0 : laidMetH Tryd.prog laid4 W) : HartAt W := by
  have h := h0
  rw [MakeChecks.laidMetH_plain _ _ _ (by kernel_rfl)] at h
  obtain ⟨ps, ⟨g0, t0, cs0, f0, p0, q0, hg0, ht0, hv0, hd0, ⟨g1, t1, cs1, f1, p1, q1, hg1, ht1, hv1, hd1, ⟨g2, t2, cs2, f2, p2, q2, hg2, ht2, hv2, hd2, ⟨g3, t3, cs3, f3, p3, q3, hg3, ht3, hv3, hd3, _, _⟩, _⟩, _⟩, _⟩, _, _⟩ := h
  obtain rfl := Option.some.inj (gKinds.symm.trans hg0)
  obtain rfl := Option.some.inj (gWords.symm.trans hg1)
  obtain rfl := Option.some.inj (gOns.symm.trans hg2)
  obtain rfl := Option.some.inj (gWids.symm.trans hg3)
  obtain rfl := Option.some.inj (tKinds.symm.trans ht0)
  obtain rfl := Option.some.inj (tWords.symm.trans ht1)
  obtain rfl := Option.some.inj (tOns.symm.trans ht2)
  obtain rfl := Option.some.inj (tWids.symm.trans ht3)
  rw [dKinds] at hd0
  rw [dWords] at hd1
  rw [dOns] at hd2
  rw [dWids] at hd3
  refine ⟨tab_int hg0 hv0 Tryd.underlying98 Tryd.underlying5 (by kernel_rfl) (by kernel_rfl) rfl hd0, tab_int hg1 hv1 Tryd.underlying99 Tryd.underlying22 (by kernel_rfl) (by kernel_rfl) rfl hd1, tab_int hg2 hv2 Tryd.underlying111 Tryd.underlying3 (by kernel_rfl) (by kernel_rfl) rfl hd2, fun j hj => ?_⟩
  have := tab_int hg3 hv3 Tryd.underlying103 Tryd.underlying3 (by kernel_rfl) (by kernel_rfl) rfl hd3 j hj
  rw [widN_at j hj] at this
  exact this

theorem door4 (os : Os) (args : Array Value) : laidMetH Tryd.prog laid4 ((World.doorLaid Tryd.prog 600 os).forCall (fun _ _ => 0) ⟨#[], args, []⟩).memory :=
  laidMetH_of_parts3 (fuel := 8) (laidMet_of_run' 8 (by kernel_rfl) (by kernel_rfl)) (by kernel_rfl) (by kernel_rfl)
end Go.Proofs.YtchjhpeogdkbmaaDoor
namespace Go.Proofs.YtchjhpeogdkbmaaDoor
open Go.ChangeShapes Go.WideShapes Go.ChangeAt Go.RowKit
set_option linter.unusedVariables false

theorem does_at (h : H) (ok : h.Ok) (z0 z1 : Int) (h0 : (Lit.int .u32 z0).wf = true) (h1 : (Lit.int .u32 z1).wf = true) (w : World) (hA : HartAt w) :
    Calls Tryd.prog 3 #[.agg h.cells, .int .u32 z0, .int .u32 z1] w fun e w' => e = .returned (.bool true) ∧ Below w.heap.size w w' := by
  obtain ⟨n0, rfl, m0⟩ := bounds_w h0
  obtain ⟨n1, rfl, m1⟩ := bounds_w h1
  exact does_walk h ok n0 n1 m0 m1 w hA

set_option maxRecDepth 100000 in
theorem hartDoes_lifted (os : Os) (started : os.Started) (H : Type) (enc : TypeId × Value → H) :
    ReturnsInHanded {} Tryd.checked os 3 .any (fun w args => (Rows.hartDoesSpec.pre enc Tryd.prog Tryd.f3 [] false w args ∧ laidMetH Tryd.prog laid4 w) ∧ sizedMet enc Tryd.prog Tryd.f3 (OpenSpec.ofChange Rows.hartDoesSpec) false w args)
      (Rows.hartDoesSpec.post enc Tryd.prog Tryd.f3 false true false false) := by
  refine returnsInHanded_of_change_and (C := Tryd.checked) (X := fun w _ => laidMetH Tryd.prog laid4 w) (fun _ _ _ hh h => h.of_heap hh) own started (by kernel_rfl) Tryd.func3
    (ChangeSpec.witness_shaped (enc := enc) (C := Tryd.checked) (os := os) (X := fun w _ => laidMetH Tryd.prog laid4 w) false (World.doorLaid Tryd.prog 600 os) #[.agg #[.int .u32 0, .int .u32 0, .int .u32 0, .int .u32 0, .int .u32 0, .int .u32 0, .int .u32 0, .int .u32 0, .int .u32 0, .int .u32 0, .int .u32 0, .int .u32 0, .int .u32 0, .int .u32 0, .int .u32 0, .int .u32 0, .int .u32 0, .int .u32 0, .int .u32 0, .int .u32 0, .int .u32 0, .int .u32 0, .int .u32 0, .int .u32 0, .int .u32 0, .int .u32 0, .int .u32 0, .int .u32 0, .int .u32 0, .int .u32 0, .int .u32 0, .int .u32 0, .int .u32 0, .bool false, .int .u32 0, .int .u32 0, .int .u32 0, .int .u32 0, .int .u32 0, .int .u32 0, .int .u32 0, .int .u64 0], .int .u32 0, .int .u32 0] 8 rfl (World.shaped_of_RefB (by kernel_rfl) (by kernel_rfl)) (by kernel_rfl) (by kernel_rfl) (by kernel_rfl) (door4 os _)) ?_
  intro W base args ds gs before hval0 hW _ _ hL _
  have hval : ∀ (j : Nat) t v, Tryd.f3.params[j]? = some t → args[j]? = some v → Value.okWide Tryd.prog W .any base t v := hval0
  have hW' := hW
  obtain ⟨p, q, hA0, hV, rfl, hfz, hnd⟩ := hW
  have hA : DataW.TrodAll enc Tryd.prog W 0 (fun _ => true) true Tryd.f3.params.toList args.toList ds p := hA0
  rw [Tryd.params3] at hA hval
  obtain ⟨v0, vs0, d0, ds0, p0, q0, hargs, rfl, rfl, h0, r0⟩ := trodAll_cons hA
  obtain ⟨v1, vs1, d1, ds1, p1, q1, rfl, rfl, rfl, h1, r1⟩ := trodAll_cons r0
  obtain ⟨v2, vs2, d2, ds2, p2, q2, rfl, rfl, rfl, h2, r2⟩ := trodAll_cons r1
  obtain ⟨rfl, rfl, rfl⟩ := trodAll_nil r2
  obtain rfl : args = #[v0, v1, v2] := by cases args; simp_all
  obtain ⟨rfl, rfl⟩ := trodVars_none hV
  have lt0 : ∀ x ∈ p0, x.block < W.heap.size := by obtain ⟨m, hm⟩ := h0; exact DataW.trod_lt m _ _ _ hm
  obtain ⟨i0, hi0, rfl⟩ := open_hart (hval 0 28 v0 rfl rfl) h0
  obtain ⟨a1, rfl, rfl, rfl, w1⟩ := open_int Tryd.underlying22 (hval 1 22 v1 rfl rfl) h1
  obtain ⟨a2, rfl, rfl, rfl, w2⟩ := open_int Tryd.underlying22 (hval 2 22 v2 rfl rfl) h2
  clear hA0 hval0
  refine (does_at i0 hi0 a1 a2 w1 w2 W (hart_of_laid hL)).mono fun e W' ⟨he, bel⟩ => ?_
  subst he
  exact ⟨_, rfl, _, _, _, [], _, [], hW', trodAll_mk1 (shut_bool Tryd.underlying4 _), (trodAll_cons_mk (Below.trod laidOut (by kernel_rfl) (of_decide_eq_true (by kernel_rfl)) h0 bel lt0) (trodAll_cons_mk (shut_int Tryd.underlying22 w1) (trodAll_cons_mk (shut_int Tryd.underlying22 w2) trodAll_mk0))), rfl, bel.frame _, fun h => by cases h⟩

theorem hartDoes_over : Rows.HartDoesSaid :=
  OpenClaim.holds_of_wide 3 Tryd.f3 rfl rfl rfl rfl rfl rfl rfl ⟨rfl, rfl, rfl, rfl, rfl⟩ rfl rfl rfl rfl rfl (by kernel_rfl) Tryd.func3 (by kernel_rfl)
    (of_decide_eq_true (by kernel_rfl)) (by unfold Func.isWrapper; first | (rw [if_pos (by decide +kernel)]; kernel_rfl) | (rw [if_neg (by decide +kernel)]; exact ⟨rfl, rfl⟩))
    (fun os started H enc _ => hartDoes_lifted os started H enc)

theorem hartDoes_proved : Rows.HartDoesCardSaid :=
  Claim7.holds_tied_plain_at .later [] [.data, .data, .data, .data] true (true, "9b8d3b12b0cf3918b4e2dc8ef2e603fbca73158cf774431451e5baba7a0cac7b") true
    hartDoes_over (fun _ h => by cases h) (by kernel_rfl) (fun _ h => by cases h) hartDoes_row_tie rfl ⟨rfl, rfl⟩ (by kernel_rfl) rfl
    (fun f fn hf hfn => by
      obtain rfl : f = 3 := Option.some.inj ((show Tryd.prog.funcNamed Rows.hartDoesRow.func = some 3 by kernel_rfl).symm.trans hf) |>.symm
      obtain rfl : fn = Tryd.f3 := (Option.some.inj (Tryd.func3.symm.trans hfn)).symm
      exact ⟨by kernel_rfl, fun j t ht => by
        rw [Tryd.params3] at ht
        have hm : t ∈ [28, 22, 22] := by simpa using Array.mem_of_getElem? ht
        have hall : ([28, 22, 22].all fun u => !Tryd.prog.wantsStandIn u) = true := by kernel_rfl
        exact (show Tryd.prog.wantsStandIn t = false by simpa using List.all_eq_true.1 hall t hm)⟩)
    (by kernel_rfl)
#print axioms hartDoes_proved
end Go.Proofs.YtchjhpeogdkbmaaDoor
