/-
  TlvOrder's sections, plain: do they ascend, which is found.
-/
import Derived.Test.YtkahkkcbigifiaaDoorTvSec
namespace Go.Proofs.YtkahkkcbigifiaaDoor
set_option linter.unusedVariables false

/-- What the law lays of the first k tags. -/
def ordL (tags : List Nat) : Nat → List Sct
  | 0 => []
  | k + 1 => ordL tags k ++ [⟨tags.getD k 0, [k % 256]⟩]
theorem ord_len (tags : List Nat) : ∀ k, (ordL tags k).length = k
  | 0 => rfl
  | k + 1 => by rw [ordL, List.length_append, ord_len tags k]; rfl
theorem ord_at (tags : List Nat) : ∀ (k j : Nat) (h : j < k), (ordL tags k)[j]? = some ⟨tags.getD j 0, [j % 256]⟩
  | 0, j, h => absurd h (by omega)
  | k + 1, j, h => by
    rw [ordL]
    by_cases hj : j < k
    · rw [List.getElem?_append_left (by rw [ord_len]; exact hj)]
      exact ord_at tags k j hj
    · have : j = k := by omega
      subst this
      rw [List.getElem?_append_right (by rw [ord_len]; exact Nat.le_refl _), ord_len, Nat.sub_self]
      rfl
theorem ord_get (tags : List Nat) (k j : Nat) (h : j < (ordL tags k).length) : (ordL tags k)[j] = ⟨tags.getD j 0, [j % 256]⟩ := by
  have := ord_at tags k j (by rw [ord_len] at h; exact h)
  rw [List.getElem?_eq_getElem h] at this
  exact Option.some.inj this
/-- Do the first k ascend? -/
def riseB (tags : List Nat) : Nat → Bool
  | 0 => true
  | k + 1 => riseB tags k && (decide (k = 0) || decide (tags.getD (k - 1) 0 < tags.getD k 0))
theorem rise_iff (tags : List Nat) : ∀ k, riseB tags k = true ↔ ∀ j, j + 1 < k → tags.getD j 0 < tags.getD (j + 1) 0
  | 0 => by simp [riseB]
  | k + 1 => by
    rw [riseB, Bool.and_eq_true, rise_iff tags k, Bool.or_eq_true, decide_eq_true_eq, decide_eq_true_eq]
    constructor
    · rintro ⟨h1, h2⟩ j hj
      by_cases hj2 : j + 1 < k
      · exact h1 j hj2
      · have : k = j + 1 := by omega
        subst this
        rcases h2 with h2 | h2
        · omega
        · exact h2
    · intro h
      refine ⟨fun j hj => h j (by omega), ?_⟩
      rcases k with _ | k
      · exact Or.inl rfl
      · exact Or.inr (h k (by omega))
theorem size_ord (tags : List Nat) : ∀ k, sizeL (ordL tags k) = 16 + 13 * k := by
  have app : ∀ (L : List Sct) (s : Sct), sizeL (L ++ [s]) = sizeL L + 12 + s.b.length := fun L s => by
    induction L with
    | nil => simp [sizeL]; omega
    | cons t L ih => simp only [List.cons_append, sizeL, ih]; omega
  intro k
  induction k with
  | zero => rfl
  | succ k ih =>
    rw [ordL, app, ih]
    simp only [List.length_singleton]
    omega
theorem asc_ord (tags : List Nat) (k : Nat) : ascF none (ordL tags k) = riseB tags k := by
  have h : ascF none (ordL tags k) = true ↔ riseB tags k = true := by
    rw [asc_iff, rise_iff]
    constructor
    · intro h j hj
      have := h j (by rw [ord_len]; exact hj)
      rw [ord_get, ord_get] at this
      exact this
    · intro h j hj
      rw [ord_get, ord_get]
      rw [ord_len] at hj
      exact h j hj
  cases h1 : ascF none (ordL tags k) <;> cases h2 : riseB tags k <;> simp_all
theorem enc_ord (tags : List Nat) (k : Nat) (hk : k ≤ 50) : encE (ordL tags k) = if riseB tags k = true then 0 else 31 := by
  unfold encE
  rw [asc_ord, ord_len, size_ord]
  cases riseB tags k
  · rfl
  · rw [if_neg (by decide), if_neg (by omega), if_pos rfl]
theorem find_from (tag : Nat) (L : List Sct) : ∀ i, i ≤ L.length → (∀ j (h : j < L.length), j < i → L[j].tag ≠ tag) → findF tag L = findF tag (L.drop i)
  | 0, _, _ => by rw [List.drop_zero]
  | i + 1, hi, h => by
    rw [find_from tag L i (by omega) (fun j hj hji => h j hj (by omega)), find_drop tag L i (by omega), if_neg (h i (by omega) (by omega))]
theorem find_at (tag : Nat) (L : List Sct) (i : Nat) (hi : i < L.length) (h : ∀ j (hj : j < L.length), j < i → L[j].tag ≠ tag) (ht : L[i].tag = tag) : findE tag L = 0 ∧ findB tag L = L[i].b := by
  have : findF tag L = some L[i].b := by rw [find_from tag L i (by omega) h, find_drop tag L i hi, if_pos ht]
  unfold findE findB
  rw [this]
  exact ⟨rfl, rfl⟩
theorem find_not (tag : Nat) (L : List Sct) (h : ∀ j (hj : j < L.length), L[j].tag ≠ tag) : findE tag L = 8 := by
  have : findF tag L = none := by
    rw [find_from tag L L.length (Nat.le_refl _) (fun j hj _ => h j hj), List.drop_length]
    rfl
  unfold findE
  rw [this]
end Go.Proofs.YtkahkkcbigifiaaDoor
