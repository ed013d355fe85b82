/-
  Plain numbers: no source that waits, is enabled and above the threshold comes ahead of the one that is served next. No Go in sight.
-/
import Derived.Test.YtadgdgjmadchjaaDoorPlMath
namespace Go.Proofs.YtadgdgjmadchjaaDoor
set_option linter.unusedVariables false

/-- What is known of the best of the sources below k. -/
structure BestOf (s : P5) (k : Nat) : Prop where
  is : ((bK s k).1 = 0 ∧ (bK s k).2 = s.th) ∨ ((bK s k).1 ≠ 0 ∧ (bK s k).1 < k ∧ (bK s k).2 = s.pr (bK s k).1 ∧ wants s (bK s k).1 = true ∧ s.th < s.pr (bK s k).1)
  no : ∀ n, n < k → wants s n = true → s.th < s.pr n → (bK s k).1 ≠ 0 ∧ s.pr n ≤ (bK s k).2 ∧ (n < (bK s k).1 → s.pr n < (bK s k).2)
theorem bestOf (s : P5) : ∀ k, BestOf s k
  | 0 => ⟨.inl ⟨rfl, rfl⟩, fun n h => absurd h (by omega)⟩
  | k + 1 => by
    obtain ⟨hi, hn⟩ := bestOf s k
    have hN : bK s (k + 1) = if wants s k = true ∧ (bK s k).2 < s.pr k then (k, s.pr k) else bK s k := rfl
    have hw0 : wants s k = true → k ≠ 0 := fun h e => by subst e; simp [wants] at h
    generalize hq : bK s k = xy at *
    obtain ⟨x, y⟩ := xy
    dsimp only at hi hn hN
    by_cases c : wants s k = true ∧ y < s.pr k
    · rw [if_pos c] at hN
      have hth : s.th < s.pr k := by rcases hi with ⟨_, h⟩ | ⟨_, _, h, _, h'⟩ <;> omega
      refine ⟨?_, ?_⟩
      · rw [hN]; exact .inr ⟨hw0 c.1, Nat.lt_succ_self k, rfl, c.1, hth⟩
      · rw [hN]
        intro n hlt hw ht
        refine ⟨hw0 c.1, ?_, ?_⟩
        · show s.pr n ≤ s.pr k
          by_cases e : n = k
          · subst e; omega
          · have := (hn n (by omega) hw ht).2.1; omega
        · show n < k → s.pr n < s.pr k
          intro hlt
          have := (hn n hlt hw ht).2.1; omega
    · rw [if_neg c] at hN
      refine ⟨?_, ?_⟩
      · rw [hN]
        rcases hi with h | ⟨h1, h2, h3⟩
        · exact .inl h
        · exact .inr ⟨h1, by omega, h3⟩
      · rw [hN]
        intro n hlt hw ht
        by_cases e : n = k
        · subst e
          have hle : s.pr n ≤ y := by
            rcases Nat.lt_or_ge y (s.pr n) with h | h
            · exact absurd ⟨hw, h⟩ c
            · exact h
          rcases hi with ⟨_, h⟩ | ⟨h1, h2, h3, _⟩
          · omega
          · exact ⟨h1, hle, fun h => absurd h (by show ¬ n < x; omega)⟩
        · exact hn n (by omega) hw ht
theorem best_no (s : P5) (n : Nat) (hn : n < 8) (hw : wants s n = true) (ht : s.th < s.pr n) :
    bestV s ≠ 0 ∧ s.pr n ≤ s.pr (bestV s) ∧ (n < bestV s → s.pr n ≠ s.pr (bestV s)) := by
  have h := bestOf s 8
  have h2 := h.no n hn hw ht
  unfold bestV
  rcases h.is with ⟨h0, _⟩ | ⟨_, _, he, _⟩
  · exact absurd h0 h2.1
  · rw [he] at h2
    exact ⟨h2.1, h2.2.1, fun hl => by have := h2.2.2 hl; omega⟩
theorem best_is (s : P5) : bestV s = 0 ∨ (bestV s ≠ 0 ∧ bestV s < 8 ∧ wants s (bestV s) = true ∧ s.th < s.pr (bestV s)) := by
  have h := bestOf s 8
  unfold bestV
  rcases h.is with ⟨h0, _⟩ | ⟨h1, h2, _, h4, h5⟩
  · exact .inl h0
  · exact .inr ⟨h1, h2, h4, h5⟩
end Go.Proofs.YtadgdgjmadchjaaDoor
