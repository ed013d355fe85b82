/-
  The sum of bits, plain: a step is linear and takes nothing but nought to nought; so what is changed within 32 bits is seen.
-/
namespace Go.Proofs.YtkahkkcbigifiaaDoor
/-- A bit 0 taken in. -/
def zs (s : Nat) : Nat := if 2147483648 ≤ s then (s * 2 % 4294967296) ^^^ 79764919 else s * 2 % 4294967296
def topS (b : Bool) : Nat := if b = true then 2147483648 else 0
def zN : Nat → Nat → Nat
  | 0, s => s
  | n + 1, s => zs (zN n s)
/-- n bits taken in, the k-th is g k. -/
def crcF (g : Nat → Bool) : Nat → Nat → Nat
  | 0, s => s
  | n + 1, s => zs (crcF g n s ^^^ topS (g n))
theorem xor_lt32 {a b : Nat} (ha : a < 4294967296) (hb : b < 4294967296) : a ^^^ b < 4294967296 := Nat.xor_lt_two_pow (n := 32) ha hb
theorem topS_lt (b : Bool) : topS b < 4294967296 := by unfold topS; split <;> decide
theorem zs_lt (s : Nat) : zs s < 4294967296 := by
  unfold zs
  split
  · exact xor_lt32 (Nat.mod_lt _ (by decide)) (by decide)
  · exact Nat.mod_lt _ (by decide)
theorem zN_lt (n : Nat) {s : Nat} (h : s < 4294967296) : zN n s < 4294967296 := by
  cases n with
  | zero => exact h
  | succ n => exact zs_lt _
theorem crcF_lt (g : Nat → Bool) (n : Nat) {s : Nat} (h : s < 4294967296) : crcF g n s < 4294967296 := by
  cases n with
  | zero => exact h
  | succ n => exact zs_lt _
theorem top_iff {s : Nat} (h : s < 4294967296) : 2147483648 ≤ s ↔ s.testBit 31 = true := by
  rw [Nat.testBit_eq_decide_div_mod_eq]
  simp only [decide_eq_true_eq]
  show _ ↔ s / 2147483648 % 2 = 1
  omega
theorem zs_bit {s : Nat} (h : s < 4294967296) : zs s = (s * 2 % 4294967296) ^^^ (if s.testBit 31 = true then 79764919 else 0) := by
  unfold zs
  by_cases e : 2147483648 ≤ s
  · rw [if_pos e, if_pos ((top_iff h).1 e)]
  · rw [if_neg e, if_neg (fun k => e ((top_iff h).2 k)), Nat.xor_zero]
theorem xor4 (a b c d : Nat) : (a ^^^ b) ^^^ (c ^^^ d) = (a ^^^ c) ^^^ (b ^^^ d) := by
  rw [Nat.xor_assoc, Nat.xor_assoc, ← Nat.xor_assoc b c d, Nat.xor_comm b c, Nat.xor_assoc c b d]
theorem dbl_xor (a b : Nat) : (a ^^^ b) * 2 % 4294967296 = (a * 2 % 4294967296) ^^^ (b * 2 % 4294967296) := by
  have h : ∀ x, x * 2 = x <<< 1 := fun x => by rw [Nat.shiftLeft_eq]
  rw [h, h, h, Nat.shiftLeft_xor_distrib]
  exact Nat.xor_mod_two_pow (n := 32)
theorem zs_xor {a b : Nat} (ha : a < 4294967296) (hb : b < 4294967296) : zs (a ^^^ b) = zs a ^^^ zs b := by
  rw [zs_bit (xor_lt32 ha hb), zs_bit ha, zs_bit hb, dbl_xor, Nat.testBit_xor, xor4]
  cases a.testBit 31 <;> cases b.testBit 31 <;> simp
theorem zN_xor (n : Nat) {a b : Nat} (ha : a < 4294967296) (hb : b < 4294967296) : zN n (a ^^^ b) = zN n a ^^^ zN n b := by
  induction n with
  | zero => rfl
  | succ n ih => show zs _ = zs _ ^^^ zs _; rw [ih, zs_xor (zN_lt n ha) (zN_lt n hb)]
theorem zs_zero : zs 0 = 0 := rfl
theorem zN_zero (n : Nat) : zN n 0 = 0 := by
  induction n with
  | zero => rfl
  | succ n ih => show zs _ = 0; rw [ih]; rfl
theorem zs_nil {s : Nat} (h : s < 4294967296) (e : zs s = 0) : s = 0 := by
  unfold zs at e
  split at e
  · have h1 : (s * 2 % 4294967296) = 79764919 := by
      have := congrArg (· ^^^ 79764919) e
      simp only [Nat.xor_assoc, Nat.xor_self, Nat.xor_zero, Nat.zero_xor] at this
      exact this
    omega
  · omega
theorem zN_nil (n : Nat) {s : Nat} (h : s < 4294967296) (e : zN n s = 0) : s = 0 := by
  induction n with
  | zero => exact e
  | succ n ih => exact ih (zs_nil (zN_lt n h) e)
theorem zN_add (m n s : Nat) : zN (m + n) s = zN n (zN m s) := by
  induction n with
  | zero => rfl
  | succ n ih => exact congrArg zs ih
theorem topS_xor (a b : Bool) : topS (xor a b) = topS a ^^^ topS b := by cases a <;> cases b <;> rfl
theorem crcF_xor (g h : Nat → Bool) (n : Nat) {s t : Nat} (hs : s < 4294967296) (ht : t < 4294967296) : crcF (fun k => xor (g k) (h k)) n (s ^^^ t) = crcF g n s ^^^ crcF h n t := by
  induction n with
  | zero => rfl
  | succ n ih =>
    show zs _ = zs _ ^^^ zs _
    rw [ih, topS_xor, xor4, zs_xor (xor_lt32 (crcF_lt g n hs) (topS_lt _)) (xor_lt32 (crcF_lt h n ht) (topS_lt _))]
theorem crcF_add (g : Nat → Bool) (m n s : Nat) : crcF g (m + n) s = crcF (fun k => g (m + k)) n (crcF g m s) := by
  induction n with
  | zero => rfl
  | succ n ih => exact congrArg (fun y => zs (y ^^^ topS (g (m + n)))) ih
theorem crcF_congr {g h : Nat → Bool} {n : Nat} (e : ∀ k, k < n → g k = h k) (s : Nat) : crcF g n s = crcF h n s := by
  induction n with
  | zero => rfl
  | succ n ih => show zs _ = zs _; rw [ih (fun k hk => e k (by omega)), e n (by omega)]
theorem crcF_none {g : Nat → Bool} {n : Nat} (e : ∀ k, k < n → g k = false) (s : Nat) : crcF g n s = zN n s := by
  induction n with
  | zero => rfl
  | succ n ih => show zs _ = zs _; rw [ih (fun k hk => e k (by omega)), e n (by omega)]; show zs (_ ^^^ 0) = _; rw [Nat.xor_zero]
/-- n bits as a word, the first of them the highest. -/
def winF (g : Nat → Bool) : Nat → Nat
  | 0 => 0
  | n + 1 => winF g n ^^^ (if g n = true then 2 ^ (31 - n) else 0)
theorem pow_lt32 {k : Nat} (h : k ≤ 31) : 2 ^ k < 4294967296 := Nat.pow_lt_pow_right (by decide) (by omega : k < 32)
theorem winF_lt (g : Nat → Bool) (n : Nat) : winF g n < 4294967296 := by
  induction n with
  | zero => exact (by decide : 0 < 4294967296)
  | succ n ih =>
    refine xor_lt32 ih ?_
    split
    · exact pow_lt32 (by omega)
    · decide
theorem zN_pow : ∀ (n : Nat), n ≤ 31 → ∀ m, m + n ≤ 31 → zN n (2 ^ m) = 2 ^ (m + n)
  | 0, _, _, _ => rfl
  | n + 1, h, m, hm => by
    show zs (zN n (2 ^ m)) = _
    rw [zN_pow n (by omega) m (by omega)]
    have h1 : 2 ^ (m + n) < 2147483648 := Nat.pow_lt_pow_right (by decide) (by omega : m + n < 31)
    unfold zs
    rw [if_neg (by omega), Nat.mod_eq_of_lt (by omega), ← Nat.pow_succ]
    rfl
theorem crcF_win (g : Nat → Bool) : ∀ (n : Nat), n ≤ 32 → crcF g n 0 = zN n (winF g n)
  | 0, _ => rfl
  | n + 1, h => by
    show zs (crcF g n 0 ^^^ topS (g n)) = zs (zN n (winF g n ^^^ (if g n = true then 2 ^ (31 - n) else 0)))
    rw [crcF_win g n (by omega)]
    congr 1
    cases g n with
    | false => rw [if_neg (by decide), Nat.xor_zero]; exact Nat.xor_zero _
    | true =>
      rw [if_pos rfl, zN_xor n (winF_lt g n) (pow_lt32 (by omega)), zN_pow n (by omega) (31 - n) (by omega), show 31 - n + n = 31 by omega]
      rfl
theorem crcF_winS (g : Nat → Bool) (n : Nat) (hn : n ≤ 32) {s : Nat} (hs : s < 4294967296) : crcF g n s = zN n (s ^^^ winF g n) := by
  have h1 := crcF_xor (fun _ => false) g n hs (show (0 : Nat) < 4294967296 by decide)
  rw [Nat.xor_zero, crcF_none (g := fun _ => false) (fun _ _ => rfl), crcF_win g n hn] at h1
  rw [zN_xor n hs (winF_lt g n), ← h1]
  exact crcF_congr (fun k _ => (Bool.false_xor (g k)).symm) s
theorem winF_bit (g : Nat → Bool) : ∀ (n : Nat), n ≤ 32 → ∀ i, i < 32 → (winF g n).testBit (31 - i) = (decide (i < n) && g i)
  | 0, _, i, hi => by rw [show winF g 0 = 0 from rfl, Nat.zero_testBit]; rfl
  | n + 1, h, i, hi => by
    show (winF g n ^^^ _).testBit _ = _
    rw [Nat.testBit_xor, winF_bit g n (by omega) i hi]
    by_cases e : i = n
    · subst e
      cases hg : g i with
      | false => simp
      | true => simp [Nat.testBit_two_pow_self]
    · have h2 : (if g n = true then 2 ^ (31 - n) else 0 : Nat).testBit (31 - i) = false := by
        split
        · rw [Nat.testBit_two_pow]; simp; omega
        · exact Nat.zero_testBit _
      rw [h2, Bool.xor_false]
      congr 1
      simp; omega
theorem winF_nil {g : Nat → Bool} {n : Nat} (hn : n ≤ 32) (h : winF g n = 0) : ∀ k, k < n → g k = false := fun k hk => by
  have := winF_bit g n hn k (by omega)
  rw [h, Nat.zero_testBit, decide_eq_true hk, Bool.true_and] at this
  exact this.symm
theorem winF_of {g : Nat → Bool} {s : Nat} (hs : s < 4294967296) (h : ∀ k, k < 32 → g k = s.testBit (31 - k)) : winF g 32 = s := by
  refine Nat.eq_of_testBit_eq fun i => ?_
  by_cases hi : i < 32
  · have := winF_bit g 32 (by decide) (31 - i) (by omega)
    rw [show 31 - (31 - i) = i by omega] at this
    rw [this, decide_eq_true (by omega), Bool.true_and, h _ (by omega), show 31 - (31 - i) = i by omega]
  · rw [Nat.testBit_lt_two_pow (Nat.lt_of_lt_of_le (winF_lt g 32) (Nat.pow_le_pow_right (n := 2) (by decide) (by omega : 32 ≤ i))), Nat.testBit_lt_two_pow (Nat.lt_of_lt_of_le hs (Nat.pow_le_pow_right (n := 2) (by decide) (by omega : 32 ≤ i)))]
/-- What lies within 32 bits and is not nought is seen. -/
theorem burst_seen {d : Nat → Bool} {n a : Nat} (h : ∀ k, k < n → d k = true → a ≤ k ∧ k < a + 32) (e : crcF d n 0 = 0) : ∀ k, k < n → d k = false := by
  by_cases ha : a < n
  · obtain ⟨r, hr⟩ : ∃ r, n = a + r := ⟨n - a, by omega⟩
    subst hr
    have h0 : ∀ k, k < a → d k = false := fun k hk => by
      cases q : d k with
      | false => rfl
      | true => have := (h k (by omega) q).1; omega
    rw [crcF_add, crcF_none h0, zN_zero] at e
    have h2 : ∀ k, k < r → d (a + k) = false := by
      by_cases hr : r ≤ 32
      · rw [crcF_win _ r hr] at e
        exact winF_nil hr (zN_nil r (winF_lt _ _) e)
      · obtain ⟨q, hq⟩ : ∃ q, r = 32 + q := ⟨r - 32, by omega⟩
        subst hq
        have h3 : ∀ k, k < q → d (a + (32 + k)) = false := fun k hk => by
          cases q : d (a + (32 + k)) with
          | false => rfl
          | true => have := (h _ (by omega) q).2; omega
        rw [crcF_add, crcF_none h3, crcF_win _ 32 (by decide)] at e
        have h4 := winF_nil (by decide) (zN_nil 32 (winF_lt _ _) (zN_nil q (zN_lt 32 (winF_lt _ _)) e))
        intro k hk
        by_cases hk2 : k < 32
        · exact h4 k hk2
        · have := h3 (k - 32) (by omega)
          rwa [show 32 + (k - 32) = k by omega] at this
    intro k hk
    by_cases hk2 : k < a
    · exact h0 k hk2
    · have := h2 (k - a) (by omega)
      rwa [show a + (k - a) = k by omega] at this
  · intro k hk
    cases q : d k with
    | false => rfl
    | true => have := (h k hk q).1; omega
end Go.Proofs.YtkahkkcbigifiaaDoor
