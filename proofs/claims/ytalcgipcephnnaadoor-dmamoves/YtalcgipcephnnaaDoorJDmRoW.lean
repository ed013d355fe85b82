/-
  A list that goes round: what each tick makes.
-/
import Derived.Test.YtalcgipcephnnaaDoorJDmStopW
namespace Go.Proofs.YtalcgipcephnnaaDoor
open Go.RowKit
set_option linter.unusedVariables false
set_option linter.unusedSimpArgs false

theorem numF_before {f : Nat → Nat} {a b k : Nat} {l : List Nat} (h : a + k ≤ b) : numF (wroteF f b l) a k = numF f a k :=
  numF_congr (fun j hj => by unfold wroteF; rw [if_neg (by omega)])
theorem numF_behind {f : Nat → Nat} {a b k : Nat} {l : List Nat} (h : b + l.length ≤ a) : numF (wroteF f b l) a k = numF f a k :=
  numF_congr (fun j hj => by unfold wroteF; rw [if_neg (by omega)])
theorem numF_here (f : Nat → Nat) (a v : Nat) (hv : v < 4294967296) : numF (wroteF f a (numB v 4)) a 4 = v := by
  have e : ∀ j, j < 4 → wroteF f a (numB v 4) (a + j) = v / 256 ^ j % 256 := by
    intro j hj
    unfold wroteF
    rw [numB_len, if_pos (by omega), show a + j - a = j by omega]
    unfold numB
    rw [List.getElem?_map, List.getElem?_range hj]
    rfl
  simp only [numF]
  rw [show wroteF f a (numB v 4) (a + 0) = _ from e 0 (by decide), e 1 (by decide), e 2 (by decide), e 3 (by decide)]
  simp only [Nat.pow_zero, Nat.div_one, Nat.pow_one, Nat.reducePow, Nat.mul_one]
  omega
/-- The order i of a list that goes round. -/
structure OrdOk (f : Nat → Nat) (k L i : Nat) : Prop where
  fr : numF f (16 * i) 4 = 2147484672
  tt : numF f (16 * i + 4) 4 = 2147485696
  lf : numF f (16 * i + 8) 4 = L
  nx : numF f (16 * i + 12) 4 = 2147483648 + 16 * ((i + 1) % k)
theorem OrdOk.past {f : Nat → Nat} {k L i b : Nat} {l : List Nat} (h : OrdOk f k L i) (hb : 16 * i + 16 ≤ b) : OrdOk (wroteF f b l) k L i :=
  ⟨(numF_before (by omega)).trans h.fr, (numF_before (by omega)).trans h.tt, (numF_before (by omega)).trans h.lf, (numF_before (by omega)).trans h.nx⟩
def perO (L : Nat) : Nat := 1 + (L + 63) / 64
def rdS (k L q rr : Nat) : E :=
  if rr = 0 then ⟨1, 2147483648, 2147483648 + 16 * (q % k), q, q * L, false, 0, 0, 0, 0, false⟩
  else ⟨1, 2147483648, 2147483648 + 16 * (q % k), q + 1, q * L + 64 * (rr - 1), true, 2147484672 + 64 * (rr - 1), 2147485696 + 64 * (rr - 1), L - 64 * (rr - 1), 2147483648 + 16 * ((q + 1) % k), false⟩
theorem rdS_0 (k L q : Nat) : rdS k L q 0 = ⟨1, 2147483648, 2147483648 + 16 * (q % k), q, q * L, false, 0, 0, 0, 0, false⟩ := rfl
theorem rdS_cd (k L q rr : Nat) : (rdS k L q rr).cd = 1 := by unfold rdS; split <;> rfl
theorem rdS_may {k L q rr : Nat} (hL : 1 ≤ L) (hL2 : L ≤ 100) (hq : q ≤ 64) (hr : rr < perO L) (hr2 : q = 64 → rr = 0) : mayE (rdS k L q rr) = true := by
  unfold perO at hr
  rw [mayE_iff]
  unfold rdS
  split
  · exact ⟨(by show 1 ≤ 3; decide), hq, fun h => (by cases h), fun h => (by cases h), fun _ => ⟨rfl, rfl, rfl, rfl⟩⟩
  · refine ⟨(by show 1 ≤ 3; decide), ?_, fun h => (by cases h), fun _ => ⟨rfl, ?_, ?_⟩, fun h => (by cases h)⟩
    · show q + 1 ≤ 64; omega
    · show 1 ≤ L - 64 * (rr - 1); omega
    · show L - 64 * (rr - 1) ≤ 65536; omega
theorem mul_le {q L : Nat} (hq : q ≤ 64) (hL : L ≤ 100) : q * L ≤ 6400 := Nat.mul_le_mul hq hL
theorem rdS_ok {k L q rr : Nat} (hk : 1 ≤ k) (hk4 : k ≤ 4) (hL2 : L ≤ 100) (hq : q ≤ 64) (hr : rr < perO L) : (rdS k L q rr).Ok := by
  have h1 := mul_le hq hL2
  have h2 : q % k < k := Nat.mod_lt _ hk
  have h3 : (q + 1) % k < k := Nat.mod_lt _ hk
  unfold perO at hr
  unfold rdS
  split
  · exact ⟨(by show 1 < 4294967296; decide), (by show 2147483648 < 4294967296; decide), (by show 2147483648 + 16 * (q % k) < _; omega), (by show q < _; omega), (by show q * L < _; omega), (by show 0 < 4294967296; decide), (by show 0 < 4294967296; decide), (by show 0 < 4294967296; decide), (by show 0 < 4294967296; decide)⟩
  · exact ⟨(by show 1 < 4294967296; decide), (by show 2147483648 < 4294967296; decide), (by show 2147483648 + 16 * (q % k) < _; omega), (by show q + 1 < _; omega), (by show q * L + 64 * (rr - 1) < _; omega), (by show 2147484672 + 64 * (rr - 1) < _; omega), (by show 2147485696 + 64 * (rr - 1) < _; omega), (by show L - 64 * (rr - 1) < _; omega), (by show 2147483648 + 16 * ((q + 1) % k) < _; omega)⟩
theorem rd_tickF {k L q rr : Nat} (hL : 1 ≤ L) (hL2 : L ≤ 100) (hr : rr < perO L) (f : Nat → Nat) {i : Nat} (hi : i < 4) (h : OrdOk f k L i) : OrdOk (tickF (rdS k L q rr) f 2) k L i := by
  unfold tickF moveF
  split
  · split
    · exact h
    · rename_i hg _
      have hv : (rdS k L q rr).hv = true := by
        have := hg; rw [Bool.and_eq_true] at this; exact this.2
      have hrr : rr ≠ 0 := by
        intro e; subst e; rw [rdS_0] at hv; cases hv
      have ht : (rdS k L q rr).tt = 2147485696 + 64 * (rr - 1) := by unfold rdS; rw [if_neg hrr]
      rw [ht]
      exact h.past (by omega)
  · exact h
theorem rd_take {k L q : Nat} (hk : 1 ≤ k) (hk4 : k ≤ 4) (hL : 1 ≤ L) (hL2 : L ≤ 100) (hq : q < 64) (f : Nat → Nat) (h : ∀ i, i < k → OrdOk f k L i) : tickE (rdS k L q 0) f 2 = rdS k L q 1 := by
  have hm := rdS_may (k := k) (rr := 0) hL hL2 (Nat.le_of_lt hq) (by unfold perO; omega) (fun _ => rfl)
  have hg := goes_of hm (rdS_cd k L q 0)
  have hi : q % k < k := Nat.mod_lt _ hk
  obtain ⟨i, hie⟩ : ∃ i, q % k = i := ⟨_, rfl⟩
  have hi2 : (i + 1) % k = (q + 1) % k := by rw [← hie, Nat.mod_add_mod]
  rw [hie] at hi
  have ho := h i hi
  unfold tickE
  rw [hg, if_pos rfl, rdS_0, hie, if_neg (show ¬ (false = true) by decide)]
  unfold takeE
  dsimp only
  rw [show 2147483648 + 16 * i - 2147483648 = 16 * i by omega, ho.fr, ho.tt, ho.lf, ho.nx]
  rw [if_neg (by omega), if_neg (by rintro (e | e); (· omega); (· have := of_decide_eq_false e; omega)), if_neg (by omega)]
  unfold rdS
  rw [if_neg (by decide), hie, hi2]
  simp only [Nat.sub_self, Nat.mul_zero, Nat.add_zero, Nat.sub_zero]
theorem rd_move {k L q rr : Nat} (hk : 1 ≤ k) (hk4 : k ≤ 4) (hL : 1 ≤ L) (hL2 : L ≤ 100) (hq : q < 64) (hr0 : rr ≠ 0) (hr : rr < perO L) (f : Nat → Nat) : tickE (rdS k L q rr) f 2 = if rr + 1 < perO L then rdS k L q (rr + 1) else rdS k L (q + 1) 0 := by
  have hm := rdS_may (k := k) (rr := rr) hL hL2 (Nat.le_of_lt hq) hr (fun e => absurd e (by omega))
  have hg := goes_of hm (rdS_cd k L q rr)
  have h1 := mul_le (Nat.le_of_lt hq) hL2
  have h3 : (q + 1) % k < k := Nat.mod_lt _ hk
  unfold perO at hr ⊢
  unfold tickE
  rw [hg, if_pos rfl]
  have hS : rdS k L q rr = ⟨1, 2147483648, 2147483648 + 16 * (q % k), q + 1, q * L + 64 * (rr - 1), true, 2147484672 + 64 * (rr - 1), 2147485696 + 64 * (rr - 1), L - 64 * (rr - 1), 2147483648 + 16 * ((q + 1) % k), false⟩ := by unfold rdS; rw [if_neg hr0]
  rw [hS, if_pos rfl]
  obtain ⟨r1, hr1⟩ : ∃ x, 64 * (rr - 1) = x := ⟨_, rfl⟩
  rw [hr1]
  have hq1 : (q + 1) * L = q * L + L := Nat.succ_mul q L
  obtain ⟨qL, hqL⟩ : ∃ x, q * L = x := ⟨_, rfl⟩
  obtain ⟨nx, hnx⟩ : ∃ x, (q + 1) % k = x := ⟨_, rfl⟩
  rw [hqL] at h1 hq1
  rw [hqL, hnx]
  rw [hnx] at h3
  by_cases hc : rr + 1 < 1 + (L + 63) / 64
  · rw [if_pos hc]
    have hb : ∀ a b c d, burst ⟨1, 2147483648, a, q + 1, qL + r1, true, b, c, L - r1, d, false⟩ = 64 := by
      intro a b c d; unfold burst; dsimp only; rw [if_neg (by omega)]
    unfold moveE canE onE
    rw [hb]
    dsimp only
    rw [if_neg (by rw [show inB 2 (2147484672 + r1) 64 = true from decide_eq_true (by omega), show inB 2 (2147485696 + r1) 64 = true from decide_eq_true (by omega)]; decide), if_pos (by omega)]
    unfold rdS
    rw [if_neg (by omega), hqL, hnx]
    unfold m32
    rw [show 64 * (rr + 1 - 1) = r1 + 64 by omega, show (2147484672 + r1 + 64) % 4294967296 = 2147484672 + (r1 + 64) by omega, show (2147485696 + r1 + 64) % 4294967296 = 2147485696 + (r1 + 64) by omega, show (qL + r1 + 64) % 4294967296 = qL + (r1 + 64) by omega, show L - r1 - 64 = L - (r1 + 64) by omega]
  · rw [if_neg hc]
    have hb : ∀ a b c d, burst ⟨1, 2147483648, a, q + 1, qL + r1, true, b, c, L - r1, d, false⟩ = L - r1 := by
      intro a b c d; unfold burst; dsimp only; rw [if_pos (by omega)]
    unfold moveE canE onE
    rw [hb]
    dsimp only
    rw [if_neg (by rw [show inB 2 (2147484672 + r1) (L - r1) = true from decide_eq_true (by omega), show inB 2 (2147485696 + r1) (L - r1) = true from decide_eq_true (by omega)]; decide), if_neg (by omega), if_neg (by omega)]
    rw [rdS_0, hnx, hq1]
    unfold noOrd m32
    dsimp only
    rw [show (qL + r1 + (L - r1)) % 4294967296 = qL + L by omega]
theorem rd_last {k L : Nat} (hk : 1 ≤ k) (hL : 1 ≤ L) (hL2 : L ≤ 100) (f : Nat → Nat) : tickE (rdS k L 64 0) f 2 = endE (rdS k L 64 0) 3 := by
  have hm := rdS_may (k := k) (rr := 0) hL hL2 (Nat.le_refl 64) (by unfold perO; omega) (fun _ => rfl)
  have hg := goes_of hm (rdS_cd k L 64 0)
  unfold tickE
  rw [hg, if_pos rfl, rdS_0, if_neg (show ¬ (false = true) by decide)]
  unfold takeE
  rw [if_pos rfl]
theorem rd_first (k L : Nat) : rdS k L 0 0 = ⟨1, 2147483648, 2147483648, 0, 0, false, 0, 0, 0, 0, false⟩ := by rw [rdS_0, Nat.zero_mod, Nat.zero_mul]
end Go.Proofs.YtalcgipcephnnaaDoor
