/-
  Plain numbers: the document's answers are the program's. No Go in sight.
-/
import Derived.Test.YtadgdgjmadchjaaDoorPlBestM
import Derived.Test.YtadgdgjmadchjaaDoorPlOnceM
namespace Go.Proofs.YtadgdgjmadchjaaDoor
set_option linter.unusedVariables false

/-- Whether a source may be served. -/
def fitP (s : P5) (n : Nat) : Prop := wants s n = true ∧ s.th < s.pr n
/-- The document's best, when the sources above 7 - m were looked at. -/
def dB (s : P5) : Nat → Nat
  | 0 => 0
  | m + 1 => if (wants s (7 - m) = true ∧ s.th < s.pr (7 - m)) ∧ (dB s m = 0 ∨ s.pr (dB s m) ≤ s.pr (7 - m)) then 7 - m else dB s m
structure DBest (s : P5) (m : Nat) : Prop where
  is : dB s m = 0 ∨ (7 - m < dB s m ∧ dB s m ≤ 7 ∧ fitP s (dB s m))
  no : ∀ n, 7 - m < n → n ≤ 7 → fitP s n → dB s m ≠ 0 ∧ s.pr n ≤ s.pr (dB s m) ∧ (n < dB s m → s.pr n < s.pr (dB s m))
theorem dBest (s : P5) : ∀ m, m ≤ 7 → DBest s m
  | 0, _ => ⟨.inl rfl, fun n h1 h2 => absurd h1 (by omega)⟩
  | m + 1, hm => by
    obtain ⟨hi, hn⟩ := dBest s m (by omega)
    have hN : dB s (m + 1) = if (wants s (7 - m) = true ∧ s.th < s.pr (7 - m)) ∧ (dB s m = 0 ∨ s.pr (dB s m) ≤ s.pr (7 - m)) then 7 - m else dB s m := rfl
    generalize dB s m = x at *
    by_cases c : (wants s (7 - m) = true ∧ s.th < s.pr (7 - m)) ∧ (x = 0 ∨ s.pr x ≤ s.pr (7 - m))
    · rw [if_pos c] at hN
      refine ⟨?_, ?_⟩
      · rw [hN]; exact .inr ⟨by omega, by omega, c.1⟩
      · rw [hN]
        intro n h1 h2 hf
        refine ⟨by omega, ?_, fun h => absurd h (by omega)⟩
        by_cases e : n = 7 - m
        · rw [e]; exact Nat.le_refl _
        · have h3 := hn n (by omega) h2 hf
          rcases c.2 with h | h
          · exact absurd h h3.1
          · omega
    · rw [if_neg c] at hN
      refine ⟨?_, ?_⟩
      · rw [hN]
        rcases hi with h | ⟨h1, h2⟩
        · exact .inl h
        · exact .inr ⟨by omega, h2⟩
      · rw [hN]
        intro n h1 h2 hf
        by_cases e : n = 7 - m
        · subst e
          have hx : ¬ (x = 0 ∨ s.pr x ≤ s.pr (7 - m)) := fun h => c ⟨hf, h⟩
          have h0 : x ≠ 0 := fun h => hx (.inl h)
          have h4 : s.pr (7 - m) < s.pr x := Nat.lt_of_not_le fun h => hx (.inr h)
          exact ⟨h0, by omega, fun _ => h4⟩
        · exact hn n (by omega) h2 hf
theorem dB_best (s : P5) : dB s 7 = bestV s := by
  obtain ⟨hi, hn⟩ := dBest s 7 (by omega)
  rcases best_is s with h0 | ⟨h1, h2, h3, h4⟩
  · rcases hi with h | ⟨h5, h6, h7⟩
    · omega
    · exact absurd h0 (best_no s _ (by omega) h7.1 h7.2).1
  · have h8 := hn (bestV s) (by omega) (by omega) ⟨h3, h4⟩
    rcases hi with h | ⟨h5, h6, h7⟩
    · exact absurd h h8.1
    · have h9 := best_no s (dB s 7) (by omega) h7.1 h7.2
      rcases Nat.lt_trichotomy (dB s 7) (bestV s) with h | h | h
      · have := h9.2.2 h; omega
      · exact h
      · have := h8.2.2 h; omega
/-- A word of sources: even, and below 256. -/
theorem srcs_num (x : Nat) : Srcs x ↔ x % 2 = 0 ∧ x ≤ 255 := by
  constructor
  · intro h
    constructor
    · have : x.testBit 0 = false := by
        cases h0 : x.testBit 0 with
        | false => rfl
        | true => have := (h 0 h0).1; omega
      rw [Nat.testBit_zero] at this
      simp at this
      exact this
    · have : x < 2 ^ 8 := Nat.lt_pow_two_of_testBit x fun i hi => by
        cases h0 : x.testBit i with
        | false => rfl
        | true => have := (h i h0).2; omega
      omega
  · intro ⟨h1, h2⟩ i hi
    constructor
    · rcases i with _ | i
      · rw [Nat.testBit_zero, h1] at hi; simp at hi
      · omega
    · rcases Nat.lt_or_ge i 8 with h | h
      · omega
      · rw [Nat.testBit_lt_two_pow (Nat.lt_of_lt_of_le (by omega : x < 2 ^ 8) (Nat.pow_le_pow_right (by decide) h))] at hi; cases hi
theorem and7 (v : Nat) : v &&& 7 = v % 8 := by
  have := Nat.and_two_pow_sub_one_eq_mod v 3
  simpa using this
theorem and254 (v : Nat) : v &&& 254 = v % 256 / 2 * 2 := by
  apply Nat.eq_of_testBit_eq
  intro i
  rw [Nat.testBit_and, tb_src]
  rcases i with _ | i
  · rw [Nat.testBit_zero, Nat.testBit_zero]; simp
  · rw [Nat.testBit_succ (v % 256 / 2 * 2), Nat.mul_div_cancel _ (by decide), ← Nat.testBit_succ, show (256 : Nat) = 2 ^ 8 from rfl, Nat.testBit_mod_two_pow]
    by_cases h : i + 1 < 8
    · rw [decide_eq_true h, decide_eq_true (show i + 1 ≤ 7 by omega)]; simp
    · rw [decide_eq_false h, decide_eq_false (show ¬ i + 1 ≤ 7 by omega)]; simp
end Go.Proofs.YtadgdgjmadchjaaDoor
