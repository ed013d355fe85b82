/-
  Numerals: the digits of a number, and the number of digits: plain mathematics.
-/
import Derived.Lib.ItoaNum
import Derived.Lib.AtoiAllCases
namespace Go.Proofs.YtoekcfbjdcibpaaGreatDoor
open Go.Lib
set_option linter.unusedVariables false

abbrev Str := List UInt8

def isDig (c : UInt8) : Bool := decide (48 ≤ c.toNat ∧ c.toNat ≤ 57)

/-- One digit more. -/
def dstep (acc : Nat) (c : UInt8) : Nat := 10 * acc + (c.toNat - 48)
/-- The number of digits, behind another one. -/
def valFrom (acc : Nat) (l : Str) : Nat := l.foldl dstep acc

theorem valFrom_nil (acc : Nat) : valFrom acc [] = acc := rfl
theorem valFrom_step (acc : Nat) (c : UInt8) (r : Str) : valFrom acc (c :: r) = valFrom (dstep acc c) r := by unfold valFrom; rw [List.foldl_cons]
theorem valFrom_cons (acc : Nat) (c : UInt8) (r : Str) : valFrom acc (c :: r) = valFrom (10 * acc + (c.toNat - 48)) r := by rw [valFrom_step, dstep]

theorem valFrom_ge : ∀ (l : Str) (acc : Nat), acc ≤ valFrom acc l
  | [], _ => Nat.le_refl _
  | c :: r, acc => by
    have := valFrom_ge r (10 * acc + (c.toNat - 48))
    rw [valFrom_cons]; omega
theorem valFrom_snoc : ∀ (l : Str) (acc : Nat) (c : UInt8), valFrom acc (l ++ [c]) = 10 * valFrom acc l + (c.toNat - 48)
  | [], _, _ => rfl
  | d :: r, acc, c => by rw [List.cons_append, valFrom_cons, valFrom_cons]; exact valFrom_snoc r _ c

theorem dig_ofNat (u : Nat) (h : u < 10) : (UInt8.ofNat (48 + u)).toNat = 48 + u := by simp; omega

theorem decDigits_small {u : Nat} (h : u < 10) : decDigits u = [UInt8.ofNat (48 + u)] := by rw [decDigits, dif_pos h]
theorem decDigits_big {u : Nat} (h : ¬ u < 10) : decDigits u = decDigits (u / 10) ++ [UInt8.ofNat (48 + u % 10)] := by rw [decDigits, dif_neg h]

theorem decDigits_dig (u : Nat) : ∀ c ∈ decDigits u, isDig c = true := by
  induction u using Nat.strongRecOn with
  | _ u ih =>
    intro c hc
    by_cases h : u < 10
    · rw [decDigits_small h] at hc
      obtain rfl := List.mem_singleton.1 hc
      simp only [isDig, dig_ofNat u h, decide_eq_true_eq]; omega
    · rw [decDigits_big h] at hc
      rcases List.mem_append.1 hc with hc | hc
      · exact ih (u / 10) (by omega) c hc
      · obtain rfl := List.mem_singleton.1 hc
        simp only [isDig, dig_ofNat (u % 10) (by omega), decide_eq_true_eq]; omega

theorem decDigits_ne (u : Nat) : decDigits u ≠ [] := by
  by_cases h : u < 10
  · rw [decDigits_small h]; simp
  · rw [decDigits_big h]; simp

theorem val_decDigits (u : Nat) : valFrom 0 (decDigits u) = u := by
  induction u using Nat.strongRecOn with
  | _ u ih =>
    by_cases h : u < 10
    · rw [decDigits_small h, valFrom_cons, valFrom_nil, dig_ofNat u h]; omega
    · rw [decDigits_big h, valFrom_snoc, ih (u / 10) (by omega), dig_ofNat (u % 10) (by omega)]; omega

/-- No nought stands ahead but alone. -/
theorem decDigits_head (u : Nat) (h : 10 ≤ u) : ∃ c r, decDigits u = c :: r ∧ c.toNat ≠ 48 ∧ r ≠ [] := by
  induction u using Nat.strongRecOn with
  | _ u ih =>
    rw [decDigits_big (by omega)]
    by_cases h2 : u / 10 < 10
    · rw [decDigits_small h2]
      exact ⟨_, _, rfl, by rw [dig_ofNat _ h2]; omega, by simp⟩
    · obtain ⟨c, r, e, hc, hr⟩ := ih (u / 10) (by omega) (by omega)
      rw [e]
      exact ⟨c, _, rfl, hc, by simp⟩

theorem val_pos : ∀ (l : Str) (c : UInt8) (acc : Nat), (0 < acc ∨ 48 < c.toNat) → 0 < valFrom acc (c :: l)
  | l, c, acc, h => by
    rw [valFrom_cons]
    have := valFrom_ge l (10 * acc + (c.toNat - 48))
    omega

/-- Digits with no needless nought are those of their number. -/
theorem digits_val : ∀ (n : Nat) (l : Str), l.length = n → l ≠ [] → (∀ c ∈ l, isDig c = true) → (l.length ≤ 1 ∨ l.head? ≠ some 48) → decDigits (valFrom 0 l) = l
  | 0, l, hn, hne, _, _ => absurd (List.length_eq_zero_iff.1 hn) hne
  | n + 1, l, hn, hne, hd, hz => by
    rcases List.eq_nil_or_concat l with h | ⟨l', c, h⟩
    · exact absurd h hne
    rw [List.concat_eq_append] at h
    subst h
    have hc : 48 ≤ c.toNat ∧ c.toNat ≤ 57 := by simpa [isDig] using hd c (by simp)
    have hback : UInt8.ofNat (48 + (c.toNat - 48)) = c := by rw [show 48 + (c.toNat - 48) = c.toNat by omega]; simp
    rw [valFrom_snoc]
    by_cases hl : l' = []
    · subst hl
      rw [valFrom_nil, decDigits_small (by omega), Nat.mul_zero, Nat.zero_add, hback]; rfl
    · have hln : l'.length = n := by simpa using hn
      have h1 : 1 ≤ l'.length := by cases l' with | nil => exact absurd rfl hl | cons _ _ => simp
      have hz' : l'.head? ≠ some 48 := by
        rcases hz with hz | hz
        · exfalso; rw [List.length_append, List.length_singleton] at hz; omega
        · cases l' with
          | nil => exact absurd rfl hl
          | cons a t => simpa using hz
      have ih := digits_val n l' hln hl (fun x hx => hd x (by simp [hx])) (Or.inr hz')
      have hv : 0 < valFrom 0 l' := by
        cases l' with
        | nil => exact absurd rfl hl
        | cons a t =>
          refine val_pos t a 0 (Or.inr ?_)
          have ha : 48 ≤ a.toNat ∧ a.toNat ≤ 57 := by simpa [isDig] using hd a (by simp)
          have : a ≠ 48 := fun e => hz' (by rw [e]; rfl)
          have : a.toNat ≠ 48 := fun e => this (UInt8.toNat_inj.1 (by simpa using e))
          omega
      rw [decDigits_big (by omega), show (10 * valFrom 0 l' + (c.toNat - 48)) / 10 = valFrom 0 l' by omega, ih, show (10 * valFrom 0 l' + (c.toNat - 48)) % 10 = c.toNat - 48 by omega, hback]

/-- What Go reads of digits. -/
theorem parse_digits : ∀ (l : Str) (acc : Nat), (∀ c ∈ l, isDig c = true) → valFrom acc l < 9223372036854775808 → parseUint10 acc l = .ok (valFrom acc l)
  | [], _, _, _ => rfl
  | c :: r, acc, hd, hv => by
    have hc : 48 ≤ c.toNat ∧ c.toNat ≤ 57 := by simpa [isDig] using hd c (by simp)
    rw [valFrom_cons] at hv ⊢
    have := valFrom_ge r (10 * acc + (c.toNat - 48))
    have e : acc * 10 + (c.toNat - 48) = 10 * acc + (c.toNat - 48) := by omega
    simp only [parseUint10]
    rw [if_pos hc, if_neg (by omega), if_neg (by omega), e]
    exact parse_digits r _ (fun x hx => hd x (by simp [hx])) hv

theorem atoi_itoa (n : Int) (h0 : -9223372036854775808 < n) (h1 : n < 9223372036854775808) : atoiAll (itoa n) = .ok n := by
  unfold itoa
  by_cases h : n < 0
  · rw [if_pos h]
    rw [atoiAll_minus]
    have hp : parseMag (decDigits n.natAbs) = .ok n.natAbs := by
      unfold parseMag
      rw [if_neg (decDigits_ne _), parse_digits _ 0 (decDigits_dig _) (by rw [val_decDigits]; omega), val_decDigits]
    rw [hp]
    simp only [signed]
    rw [if_neg (by omega)]
    congr 1
    omega
  · rw [if_neg h]
    have hp : parseMag (decDigits n.toNat) = .ok n.toNat := by
      unfold parseMag
      rw [if_neg (decDigits_ne _), parse_digits _ 0 (decDigits_dig _) (by rw [val_decDigits]; omega), val_decDigits]
    cases hd : decDigits n.toNat with
    | nil => exact absurd hd (decDigits_ne _)
    | cons c r =>
      have hc : 48 ≤ c.toNat ∧ c.toNat ≤ 57 := by simpa [isDig] using decDigits_dig n.toNat c (by rw [hd]; simp)
      rw [atoiAll_plain c r (by omega) (by omega), ← hd, hp]
      simp only [signless]
      rw [if_neg (by omega)]
      congr 1
      omega

/-- What the document reads of a number's text. -/
def numberL (s : Str) : Option Int :=
  let m := s.head? = some 45
  let t := if m then s.tail else s
  if t ≠ [] ∧ (∀ c ∈ t, isDig c = true) ∧ t.length ≤ 10 ∧ (t.length ≤ 1 ∨ t.head? ≠ some 48) ∧ ¬ (m ∧ valFrom 0 t = 0) ∧ valFrom 0 t ≤ 4294967296 then
    some (if m then -(valFrom 0 t : Int) else (valFrom 0 t : Int))
  else none

theorem decDigits_len10 (u : Nat) (h : u ≤ 4294967296) : (decDigits u).length ≤ 10 := by
  rw [decDigits_length]
  by_cases h0 : u = 0
  · subst h0; rw [nDigits_small (by omega)]; omega
  rcases Nat.lt_or_ge 10 (nDigits u) with hk | hk
  · exfalso
    have : ∀ k v, nDigits v = k + 1 → k ≠ 0 → 10 ^ k ≤ v := by
      intro k
      induction k with
      | zero => intro v _ h; exact absurd rfl h
      | succ k ih =>
        intro v hv _
        have hb : ¬ v < 10 := fun hs => by rw [nDigits_small hs] at hv; omega
        rw [nDigits_big hb] at hv
        by_cases hk0 : k = 0
        · subst hk0; simp; omega
        · have := ih (v / 10) (by omega) hk0
          rw [Nat.pow_succ]; omega
    have h2 := this (nDigits u - 1) u (by omega) (by omega)
    have h3 : 10 ^ 10 ≤ 10 ^ (nDigits u - 1) := Nat.pow_le_pow_right (by omega) (by omega)
    omega
  · exact hk

theorem head_dig (u : Nat) : (decDigits u).head? ≠ some 45 := by
  cases hd : decDigits u with
  | nil => simp
  | cons c r =>
    have hc : 48 ≤ c.toNat ∧ c.toNat ≤ 57 := by simpa [isDig] using decDigits_dig u c (by rw [hd]; simp)
    simp only [List.head?_cons, Option.some.injEq, ne_eq]
    intro e; subst e; revert hc; decide

theorem noNought (u : Nat) : (decDigits u).length ≤ 1 ∨ (decDigits u).head? ≠ some 48 := by
  by_cases h : u < 10
  · left; rw [decDigits_small h]; simp
  · right
    obtain ⟨c, r, e, hc, _⟩ := decDigits_head u (by omega)
    rw [e]
    simp only [List.head?_cons, Option.some.injEq, ne_eq]
    intro e; subst e; exact hc rfl

theorem cons_of_head {s : Str} {c : UInt8} (h : s.head? = some c) : s = c :: s.tail := by
  cases s with
  | nil => simp at h
  | cons a t => simp at h; subst h; rfl

theorem number_iff (s : Str) (n : Int) : numberL s = some n ↔ s = itoa n ∧ -4294967296 ≤ n ∧ n ≤ 4294967296 := by
  unfold numberL
  constructor
  · intro h
    by_cases hm : s.head? = some 45
    · simp only [hm, if_true] at h
      by_cases hc : s.tail ≠ [] ∧ (∀ c ∈ s.tail, isDig c = true) ∧ s.tail.length ≤ 10 ∧ (s.tail.length ≤ 1 ∨ s.tail.head? ≠ some 48) ∧ ¬ (True ∧ valFrom 0 s.tail = 0) ∧ valFrom 0 s.tail ≤ 4294967296
      · rw [if_pos hc] at h
        obtain ⟨h1, h2, h3, h4, h5, h6⟩ := hc
        have e := digits_val _ s.tail rfl h1 h2 h4
        injection h with h
        have hv : 0 < valFrom 0 s.tail := by
          rcases Nat.eq_zero_or_pos (valFrom 0 s.tail) with h0 | h0
          · exact absurd ⟨trivial, h0⟩ h5
          · exact h0
        refine ⟨?_, by omega, by omega⟩
        unfold itoa
        rw [if_pos (by omega), show n.natAbs = valFrom 0 s.tail by omega, e]
        exact cons_of_head hm
      · rw [if_neg hc] at h
        exact absurd h.symm (Option.some_ne_none n)
    · simp only [hm, if_false] at h
      by_cases hc : s ≠ [] ∧ (∀ c ∈ s, isDig c = true) ∧ s.length ≤ 10 ∧ (s.length ≤ 1 ∨ s.head? ≠ some 48) ∧ ¬ (False ∧ valFrom 0 s = 0) ∧ valFrom 0 s ≤ 4294967296
      · rw [if_pos hc] at h
        obtain ⟨h1, h2, h3, h4, h5, h6⟩ := hc
        have e := digits_val _ s rfl h1 h2 h4
        injection h with h
        refine ⟨?_, by omega, by omega⟩
        unfold itoa
        rw [if_neg (by omega), show n.toNat = valFrom 0 s by omega, e]
      · rw [if_neg hc] at h
        exact absurd h.symm (Option.some_ne_none n)
  · rintro ⟨rfl, h0, h1⟩
    dsimp only
    unfold itoa
    by_cases h : n < 0
    · rw [if_pos h]
      simp only [List.head?_cons, if_true, List.tail_cons]
      rw [if_pos ⟨decDigits_ne _, decDigits_dig _, decDigits_len10 _ (by omega), noNought _, by rw [val_decDigits]; omega, by rw [val_decDigits]; omega⟩, val_decDigits]
      congr 1; omega
    · rw [if_neg h]
      have hm := head_dig n.toNat
      simp only [hm, if_false]
      rw [if_pos ⟨decDigits_ne _, decDigits_dig _, decDigits_len10 _ (by omega), noNought _, by simp, by rw [val_decDigits]; omega⟩, val_decDigits]
      congr 1; omega
end Go.Proofs.YtoekcfbjdcibpaaGreatDoor
