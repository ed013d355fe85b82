/-
  Plain numbers: what stays true of a state that may be.
-/
import Derived.Test.YtelakpogochifaaDoorCsMath
namespace Go.Proofs.YtelakpogochifaaDoor
set_option linter.unusedVariables false

theorem trapSt_bit (st : Nat) (h : st < 4294967296) (i : Nat) (hi : i < 32) : (trapSt st).testBit i = if i = 3 then false else if i = 7 then st.testBit 3 else st.testBit i := by
  rw [← trap_st st h, setOne_bit _ _ _ _ hi, setOne_bit _ _ _ _ hi, fldOne_bit _ _ (by decide)]
  rw [show Nat.testBit 0 0 = false by decide]
theorem retSt_bit (st : Nat) (h : st < 4294967296) (i : Nat) (hi : i < 32) : (retSt st).testBit i = if i = 7 then true else if i = 3 then st.testBit 7 else st.testBit i := by
  rw [← ret_st st h, setOne_bit _ _ _ _ hi, setOne_bit _ _ _ _ hi, fldOne_bit _ _ (by decide)]
  rw [show Nat.testBit 1 0 = true by decide]

theorem mask_zero (x m : Nat) (hx : x < 4294967296) (h : ∀ i, i < 32 → (x.testBit i && m.testBit i) = false) : x &&& m = 0 := by
  apply word_ext
  · exact (and_lt (n := 4294967296) hx)
  · exact (show (0 : Nat) < 4294967296 by decide)
  intro i hi
  rw [Nat.testBit_and, h i hi, Nat.zero_testBit]
theorem zero_mask (x m : Nat) (h : x &&& m = 0) (i : Nat) : (x.testBit i && m.testBit i) = false := by
  rw [← Nat.testBit_and, h, Nat.zero_testBit]

theorem st_trap (st : Nat) (h : st < 4294967296) (hm : st &&& 4294967159 = 0) : trapSt st &&& 4294967159 = 0 := by
  apply mask_zero _ _ (trapSt_lt h)
  intro i hi
  have hz := zero_mask st 4294967159 hm i
  rw [mNot136 i hi] at hz ⊢
  rw [trapSt_bit st h i hi]
  by_cases h3 : i = 3
  · rw [if_pos h3]; rfl
  · rw [if_neg h3]
    by_cases h7 : i = 7
    · rw [decide_eq_true h7, Bool.not_true, Bool.and_false, Bool.and_false]
    · rw [if_neg h7]; exact hz
theorem st_ret (st : Nat) (h : st < 4294967296) (hm : st &&& 4294967159 = 0) : retSt st &&& 4294967159 = 0 := by
  apply mask_zero _ _ (retSt_lt h)
  intro i hi
  have hz := zero_mask st 4294967159 hm i
  rw [mNot136 i hi] at hz ⊢
  rw [retSt_bit st h i hi]
  by_cases h7 : i = 7
  · rw [decide_eq_true h7, Bool.not_true, Bool.and_false, Bool.and_false]
  · rw [if_neg h7]
    by_cases h3 : i = 3
    · rw [decide_eq_true h3, Bool.not_true, Bool.false_and, Bool.and_false]
    · rw [if_neg h3]; exact hz

theorem mayB_iff (s : S8) : mayB s = true ↔ s.st &&& 4294967159 = 0 ∧ s.en &&& 4294965111 = 0 ∧ s.ve &&& 2 = 0 ∧ s.ep &&& 3 = 0 := by
  unfold mayB
  rw [Bool.and_eq_true, Bool.and_eq_true, Bool.and_eq_true, beq_iff_eq, beq_iff_eq, beq_iff_eq, beq_iff_eq]

theorem may_trap (s : S8) (hs : s.Ok) (hm : mayB s = true) (c v p : Nat) : mayB (trapN s c v p) = true := by
  rw [mayB_iff] at hm ⊢
  refine ⟨st_trap _ hs.st hm.1, hm.2.1, hm.2.2.1, ?_⟩
  show (p &&& 4294967292) &&& 3 = 0
  rw [Nat.and_assoc, show (4294967292 &&& 3 : Nat) = 0 by decide +kernel, Nat.and_zero]
theorem may_ret (s : S8) (hs : s.Ok) (hm : mayB s = true) : mayB (retN s) = true := by
  rw [mayB_iff] at hm ⊢
  exact ⟨st_ret _ hs.st hm.1, hm.2⟩
theorem may_write (s : S8) (hm : mayB s = true) (a : Int) (v : Nat) (h0 : (writeN s a v).2 = 0) : mayB (writeN s a v).1 = true := by
  rw [mayB_iff] at hm ⊢
  obtain ⟨m0, m1, m2, m3⟩ := hm
  unfold writeN at h0 ⊢
  by_cases c : a = 768
  · rw [if_pos c]; refine ⟨?_, m1, m2, m3⟩
    show (v &&& 136) &&& 4294967159 = 0
    rw [Nat.and_assoc, show (136 &&& 4294967159 : Nat) = 0 by decide +kernel, Nat.and_zero]
  rw [if_neg c] at h0 ⊢; clear c
  by_cases c : a = 769 ∨ a = 836
  · rw [if_pos c]; exact ⟨m0, m1, m2, m3⟩
  rw [if_neg c] at h0 ⊢; clear c
  by_cases c : a = 772
  · rw [if_pos c]; refine ⟨m0, ?_, m2, m3⟩
    show (v &&& 2184) &&& 4294965111 = 0
    rw [Nat.and_assoc, show (2184 &&& 4294965111 : Nat) = 0 by decide +kernel, Nat.and_zero]
  rw [if_neg c] at h0 ⊢; clear c
  by_cases c : a = 773
  · rw [if_pos c]; refine ⟨m0, m1, ?_, m3⟩
    show (v &&& 4294967293) &&& 2 = 0
    rw [Nat.and_assoc, show (4294967293 &&& 2 : Nat) = 0 by decide +kernel, Nat.and_zero]
  rw [if_neg c] at h0 ⊢; clear c
  by_cases c : a = 832
  · rw [if_pos c]; exact ⟨m0, m1, m2, m3⟩
  rw [if_neg c] at h0 ⊢; clear c
  by_cases c : a = 833
  · rw [if_pos c]; refine ⟨m0, m1, m2, ?_⟩
    show (v &&& 4294967292) &&& 3 = 0
    rw [Nat.and_assoc, show (4294967292 &&& 3 : Nat) = 0 by decide +kernel, Nat.and_zero]
  rw [if_neg c] at h0 ⊢; clear c
  by_cases c : a = 834
  · rw [if_pos c]; exact ⟨m0, m1, m2, m3⟩
  rw [if_neg c] at h0 ⊢; clear c
  by_cases c : a = 835
  · rw [if_pos c]; exact ⟨m0, m1, m2, m3⟩
  rw [if_neg c] at h0 ⊢; clear c
  by_cases c : a = 2816 ∨ a = 2818
  · rw [if_pos c]; exact ⟨m0, m1, m2, m3⟩
  rw [if_neg c] at h0 ⊢; clear c
  by_cases c : a = 2944 ∨ a = 2946
  · rw [if_pos c]; exact ⟨m0, m1, m2, m3⟩
  rw [if_neg c] at h0 ⊢; clear c
  by_cases c : a = 3857 ∨ a = 3858 ∨ a = 3859 ∨ a = 3860
  · rw [if_pos c] at h0; exact absurd h0 (by decide)
  rw [if_neg c] at h0; exact absurd h0 (by decide)

theorem asks_trap (st en l : Nat) (h : st < 4294967296) : asksN (trapSt st) en l = 0 := by
  rw [asks_bits, trapSt_bit st h 3 (by decide), if_pos rfl, if_pos rfl]
theorem ret_trap_bit (st : Nat) (h : st < 4294967296) : (retSt (trapSt st)).testBit 3 = st.testBit 3 := by
  have h1 := retSt_bit _ (trapSt_lt h) 3 (by decide)
  rw [if_neg (show ¬ (3 : Nat) = 7 by decide), if_pos rfl, trapSt_bit st h 7 (by decide), if_neg (show ¬ (7 : Nat) = 3 by decide), if_pos rfl] at h1
  exact h1
theorem asks_ret (st en l : Nat) (h : st < 4294967296) : asksN (retSt (trapSt st)) en l = asksN st en l := by
  rw [asks_bits, asks_bits, ret_trap_bit st h]
end Go.Proofs.YtelakpogochifaaDoor
