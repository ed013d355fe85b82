/-
  Plain numbers: words with their signs, products, quotients and rests, gates and moves. No Go in sight.
-/
namespace Go.Proofs.YtchjhpeogdkbmaaDoor
set_option linter.unusedVariables false

/-- A word with its sign. -/
def sgn (v : Nat) : Int := if v < 2147483648 then (v : Int) else (v : Int) - 4294967296
/-- A word with its sign, or without. -/
def aInt (v : Nat) (s : Bool) : Int := if s then sgn v else (v : Int)
/-- The product of two words, as 64 bits. -/
def prodN (a b : Nat) (sa sb : Bool) : Nat := (aInt a sa * aInt b sb % 18446744073709551616).toNat
def hiN (a b : Nat) (sa sb : Bool) : Nat := prodN a b sa sb / 4294967296
def loN (a b : Nat) (sa sb : Bool) : Nat := prodN a b sa sb % 4294967296

theorem sgn_lo (v : Nat) (hv : v < 4294967296) : -2147483648 ≤ sgn v := by unfold sgn; split <;> omega
theorem sgn_hi (v : Nat) (hv : v < 4294967296) : sgn v < 2147483648 := by unfold sgn; split <;> omega
theorem aInt_lo (v : Nat) (hv : v < 4294967296) (s : Bool) : -2147483648 ≤ aInt v s := by
  have := sgn_lo v hv; unfold aInt; split <;> omega
theorem aInt_hi (v : Nat) (hv : v < 4294967296) (s : Bool) : aInt v s < 4294967296 := by
  have := sgn_hi v hv; unfold aInt; split <;> omega
theorem asInt_mod (v : Nat) (hv : v < 4294967296) (s : Bool) : aInt v s % 4294967296 = v := by
  unfold aInt sgn; split
  · split <;> omega
  · omega

theorem prodN_lt (a b : Nat) (sa sb : Bool) : prodN a b sa sb < 18446744073709551616 := by
  unfold prodN
  have h1 := Int.emod_nonneg (aInt a sa * aInt b sb) (show (18446744073709551616 : Int) ≠ 0 by decide)
  have h2 := Int.emod_lt_of_pos (aInt a sa * aInt b sb) (show (0 : Int) < 18446744073709551616 by decide)
  omega
theorem prodN_cast (a b : Nat) (sa sb : Bool) : ((prodN a b sa sb : Nat) : Int) = aInt a sa * aInt b sb % 18446744073709551616 := by
  unfold prodN
  have h1 := Int.emod_nonneg (aInt a sa * aInt b sb) (show (18446744073709551616 : Int) ≠ 0 by decide)
  omega
theorem hiN_lt (a b : Nat) (sa sb : Bool) : hiN a b sa sb < 4294967296 := by
  have := prodN_lt a b sa sb; unfold hiN; omega
theorem loN_lt (a b : Nat) (sa sb : Bool) : loN a b sa sb < 4294967296 := by
  unfold loN; omega
theorem prodN_comm (a b : Nat) (sa sb : Bool) : prodN a b sa sb = prodN b a sb sa := by
  unfold prodN; rw [Int.mul_comm]

/-- The program's product: of words in 64 bits. -/
theorem prod_wrapped (a b : Nat) (sa sb : Bool) :
    (aInt a sa % 18446744073709551616) * (aInt b sb % 18446744073709551616) % 18446744073709551616 = ((prodN a b sa sb : Nat) : Int) := by
  rw [prodN_cast, ← Int.mul_emod]

/-- The document's product: by halves of words. -/
theorem halves (a b : Nat) :
    a * b = (a / 65536 * (b / 65536) + (a / 65536 * (b % 65536) + a % 65536 * (b / 65536) + a % 65536 * (b % 65536) / 65536) / 65536) * 4294967296
      + (a / 65536 * (b % 65536) + a % 65536 * (b / 65536) + a % 65536 * (b % 65536) / 65536) % 65536 * 65536 + a % 65536 * (b % 65536) % 65536 := by
  have ea : a = a / 65536 * 65536 + a % 65536 := by omega
  have eb : b = b / 65536 * 65536 + b % 65536 := by omega
  have e : a * b = (a / 65536 * 65536 + a % 65536) * (b / 65536 * 65536 + b % 65536) := by rw [← ea, ← eb]
  rw [e]
  generalize a / 65536 = p
  generalize a % 65536 = q
  generalize b / 65536 = r
  generalize b % 65536 = s
  rw [Nat.add_mul, Nat.mul_add, Nat.mul_add]
  have e1 : p * 65536 * (r * 65536) = p * r * 4294967296 := by
    rw [Nat.mul_mul_mul_comm]
  have e2 : p * 65536 * s = p * s * 65536 := by rw [Nat.mul_right_comm]
  have e3 : q * (r * 65536) = q * r * 65536 := by rw [Nat.mul_assoc]
  rw [e1, e2, e3]
  generalize p * r = x
  generalize p * s = y
  generalize q * r = z
  generalize q * s = t
  omega

/-- What the document's halves make: the high word without signs. -/
def highN (a b : Nat) : Nat := a / 65536 * (b / 65536) + (a / 65536 * (b % 65536) + a % 65536 * (b / 65536) + a % 65536 * (b % 65536) / 65536) / 65536
def lowN (a b : Nat) : Nat := (a / 65536 * (b % 65536) + a % 65536 * (b / 65536) + a % 65536 * (b % 65536) / 65536) % 65536 * 65536 + a % 65536 * (b % 65536) % 65536

theorem lowN_lt (a b : Nat) : lowN a b < 4294967296 := by unfold lowN; omega
theorem high_low (a b : Nat) : a * b = highN a b * 4294967296 + lowN a b := by
  rw [halves a b]; unfold highN lowN; omega
theorem highN_lt (a b : Nat) (ha : a < 4294967296) (hb : b < 4294967296) : highN a b < 4294967296 := by
  have h := high_low a b
  have h1 : a * b ≤ 4294967295 * 4294967295 := Nat.mul_le_mul (by omega) (by omega)
  omega

theorem lo_doc (a b : Nat) (sa sb : Bool) (ha : a < 4294967296) (hb : b < 4294967296) : loN a b sa sb = lowN a b := by
  have h := high_low a b
  have hl := lowN_lt a b
  have hp := prodN_cast a b sa sb
  have e1 : aInt a sa * aInt b sb % 4294967296 = ((a * b : Nat) : Int) % 4294967296 := by
    rw [Int.mul_emod, asInt_mod a ha, asInt_mod b hb]; simp
  unfold loN
  generalize aInt a sa * aInt b sb = x at *
  generalize a * b = y at *
  omega

/-- 1 where a word with a sign is below 0. -/
def neg (v : Nat) (s : Bool) : Nat := if s && decide (2147483648 ≤ v) then 1 else 0
theorem asInt_neg (v : Nat) (s : Bool) : aInt v s = (v : Int) - 4294967296 * (neg v s : Int) := by
  unfold aInt sgn neg
  cases s <;> simp
  split <;> split <;> omega

theorem hi_doc (a b : Nat) (sa sb : Bool) (ha : a < 4294967296) (hb : b < 4294967296) :
    ((hiN a b sa sb : Nat) : Int) = ((highN a b : Int) - neg a sa * b - neg b sb * a) % 4294967296 := by
  have h := high_low a b
  have hl := lowN_lt a b
  have hp := prodN_cast a b sa sb
  have hlt := prodN_lt a b sa sb
  rw [asInt_neg a sa, asInt_neg b sb] at hp
  have e : ((a : Int) - 4294967296 * (neg a sa : Int)) * ((b : Int) - 4294967296 * (neg b sb : Int))
      = ((a * b : Nat) : Int) - 4294967296 * ((neg a sa : Int) * b + (neg b sb : Int) * a) + 18446744073709551616 * ((neg a sa : Int) * (neg b sb : Int)) := by
    rw [Int.sub_mul, Int.mul_sub, Int.mul_sub]
    have e1 : (a : Int) * (4294967296 * (neg b sb : Int)) = 4294967296 * ((neg b sb : Int) * a) := by
      rw [Int.mul_left_comm, Int.mul_comm (a : Int)]
    have e2 : 4294967296 * (neg a sa : Int) * b = 4294967296 * ((neg a sa : Int) * b) := by rw [Int.mul_assoc]
    have e3 : 4294967296 * (neg a sa : Int) * (4294967296 * (neg b sb : Int)) = 18446744073709551616 * ((neg a sa : Int) * (neg b sb : Int)) := by
      rw [Int.mul_assoc, Int.mul_left_comm (neg a sa : Int), ← Int.mul_assoc 4294967296 4294967296]; rfl
    rw [e1, e2, e3]
    simp only [Int.natCast_mul]
    omega
  rw [e] at hp
  unfold hiN
  generalize (neg a sa : Int) * (neg b sb : Int) = x at *
  generalize (neg a sa : Int) * (b : Int) = y at *
  generalize (neg b sb : Int) * (a : Int) = z at *
  generalize a * b = u at *
  generalize prodN a b sa sb = p at *
  omega

/-- Quotient and rest. -/
def quoN (a b : Nat) (s : Bool) : Nat := if b = 0 then 4294967295 else ((aInt a s).tdiv (aInt b s) % 4294967296).toNat
def remN (a b : Nat) (s : Bool) : Nat := if b = 0 then a else ((aInt a s).tmod (aInt b s) % 4294967296).toNat

theorem wordOf_lt (x : Int) : (x % 4294967296).toNat < 4294967296 := by
  have h1 := Int.emod_nonneg x (show (4294967296 : Int) ≠ 0 by decide)
  have h2 := Int.emod_lt_of_pos x (show (0 : Int) < 4294967296 by decide)
  omega
theorem wordOf_cast (x : Int) : (((x % 4294967296).toNat : Nat) : Int) = x % 4294967296 := by omega
/-- A number modulo 2^32. -/
def aWrd (n : Int) : Nat := (n % 4294967296).toNat
theorem aWrd_lt (n : Int) : aWrd n < 4294967296 := wordOf_lt n
theorem wordN_cast (n : Int) : (aWrd n : Int) = n % 4294967296 := wordOf_cast n

theorem quoN_lt (a b : Nat) (s : Bool) : quoN a b s < 4294967296 := by
  unfold quoN; split
  · decide
  · exact wordOf_lt _
theorem remN_lt (a b : Nat) (s : Bool) (ha : a < 4294967296) : remN a b s < 4294967296 := by
  unfold remN; split
  · exact ha
  · exact wordOf_lt _

theorem asInt_zero (b : Nat) (hb : b < 4294967296) (s : Bool) : aInt b s = 0 ↔ b = 0 := by
  unfold aInt sgn
  cases s <;> simp
  split <;> omega

/-- By signs and times: the document's way. -/
theorem tdiv_doc (x y : Int) : x.tdiv y = if (decide (x < 0) != decide (y < 0)) then -((x.natAbs / y.natAbs : Nat) : Int) else ((x.natAbs / y.natAbs : Nat) : Int) := by
  rcases Int.lt_or_le x 0 with hx | hx <;> rcases Int.lt_or_le y 0 with hy | hy
  · rw [if_neg (by simp [hx, hy])]
    obtain ⟨u, rfl⟩ : ∃ u : Nat, x = -(u : Int) := ⟨x.natAbs, by omega⟩
    obtain ⟨v, rfl⟩ : ∃ v : Nat, y = -(v : Int) := ⟨y.natAbs, by omega⟩
    simp
  · rw [if_pos (by simp [hx]; omega)]
    obtain ⟨u, rfl⟩ : ∃ u : Nat, x = -(u : Int) := ⟨x.natAbs, by omega⟩
    obtain ⟨v, rfl⟩ := Int.eq_ofNat_of_zero_le hy
    simp
  · rw [if_pos (by simp [hy]; omega)]
    obtain ⟨u, rfl⟩ := Int.eq_ofNat_of_zero_le hx
    obtain ⟨v, rfl⟩ : ∃ v : Nat, y = -(v : Int) := ⟨y.natAbs, by omega⟩
    simp
  · rw [if_neg (by simp; omega)]
    obtain ⟨u, rfl⟩ := Int.eq_ofNat_of_zero_le hx
    obtain ⟨v, rfl⟩ := Int.eq_ofNat_of_zero_le hy
    simp

theorem tmod_nat (u v : Nat) : (u : Int).tmod (v : Int) = ((u % v : Nat) : Int) := rfl

theorem tmod_doc (x y : Int) : x.tmod y = if x < 0 then -((x.natAbs % y.natAbs : Nat) : Int) else ((x.natAbs % y.natAbs : Nat) : Int) := by
  rcases Int.lt_or_le x 0 with hx | hx <;> rcases Int.lt_or_le y 0 with hy | hy
  · rw [if_pos hx]
    obtain ⟨u, rfl⟩ : ∃ u : Nat, x = -(u : Int) := ⟨x.natAbs, by omega⟩
    obtain ⟨v, rfl⟩ : ∃ v : Nat, y = -(v : Int) := ⟨y.natAbs, by omega⟩
    rw [Int.tmod_neg, Int.neg_tmod, tmod_nat]; simp
  · rw [if_pos hx]
    obtain ⟨u, rfl⟩ : ∃ u : Nat, x = -(u : Int) := ⟨x.natAbs, by omega⟩
    obtain ⟨v, rfl⟩ := Int.eq_ofNat_of_zero_le hy
    rw [Int.neg_tmod, tmod_nat]; simp
  · rw [if_neg (by omega)]
    obtain ⟨u, rfl⟩ := Int.eq_ofNat_of_zero_le hx
    obtain ⟨v, rfl⟩ : ∃ v : Nat, y = -(v : Int) := ⟨y.natAbs, by omega⟩
    rw [Int.tmod_neg, tmod_nat]; simp
  · rw [if_neg (by omega)]
    obtain ⟨u, rfl⟩ := Int.eq_ofNat_of_zero_le hx
    obtain ⟨v, rfl⟩ := Int.eq_ofNat_of_zero_le hy
    rw [tmod_nat]; simp

/-- A round of the document's division. -/
theorem div_round (m v c : Nat) (hv : 0 < v) (hc : c ≤ 1) :
    (2 * m + c) / v = (if v ≤ 2 * (m % v) + c then 2 * (m / v) + 1 else 2 * (m / v)) ∧ (2 * m + c) % v = (if v ≤ 2 * (m % v) + c then 2 * (m % v) + c - v else 2 * (m % v) + c) := by
  have hm : 2 * m + c = v * (2 * (m / v)) + (2 * (m % v) + c) := by
    have := Nat.div_add_mod m v
    have e : v * (2 * (m / v)) = 2 * (v * (m / v)) := by rw [Nat.mul_left_comm]
    rw [e]; omega
  have hr := Nat.mod_lt m hv
  rw [hm, Nat.mul_add_div hv, Nat.mul_add_mod]
  generalize m / v = q at *
  generalize m % v = r at *
  clear hm
  split
  · rename_i h
    have : 2 * r + c = v * 1 + (2 * r + c - v) := by omega
    rw [this, Nat.mul_add_div hv, Nat.mul_add_mod, Nat.div_eq_of_lt (by omega), Nat.mod_eq_of_lt (by omega)]
    omega
  · rw [Nat.div_eq_of_lt (by omega), Nat.mod_eq_of_lt (by omega)]
    omega

theorem div_step (v k : Nat) : v / 2 ^ k / 2 = v / 2 ^ (k + 1) := by rw [Nat.div_div_eq_div_mul, ← Nat.pow_succ]
theorem down_step (u i : Nat) : u / 2 ^ i = 2 * (u / 2 ^ (i + 1)) + u / 2 ^ i % 2 := by rw [← div_step]; omega

/-- Quotient times divisor and rest are the dividend, modulo 2^32. -/
theorem whole (a b : Nat) (s : Bool) (ha : a < 4294967296) (hb : b < 4294967296) (h0 : b ≠ 0) :
    (quoN a b s * b + remN a b s) % 4294967296 = a := by
  have e1 : (quoN a b s : Int) = (aInt a s).tdiv (aInt b s) % 4294967296 := by unfold quoN; rw [if_neg h0, wordOf_cast]
  have e2 : (remN a b s : Int) = (aInt a s).tmod (aInt b s) % 4294967296 := by unfold remN; rw [if_neg h0, wordOf_cast]
  have e3 := asInt_mod b hb s
  have e4 := asInt_mod a ha s
  have e5 := Int.tdiv_mul_add_tmod (aInt a s) (aInt b s)
  have : (((quoN a b s * b + remN a b s) % 4294967296 : Nat) : Int) = (a : Int) := by
    rw [← e4, ← e5]
    simp only [Int.natCast_emod, Int.natCast_add, Int.natCast_mul]
    rw [e1, e2]
    conv => lhs; rw [← e3]
    show (_ : Int) % 4294967296 = _
    rw [Int.add_emod, ← Int.mul_emod, Int.emod_emod, ← Int.add_emod]
  omega

/-- The rest is nearer to 0 than the divisor. -/
theorem nearer (a b : Nat) (s : Bool) (ha : a < 4294967296) (hb : b < 4294967296) (h0 : b ≠ 0) :
    (aInt (remN a b s) s).natAbs < (aInt b s).natAbs := by
  have hz : aInt b s ≠ 0 := fun h => h0 ((asInt_zero b hb s).1 h)
  have hr : aInt (remN a b s) s = (aInt a s).tmod (aInt b s) := by
    have e : (remN a b s : Int) = (aInt a s).tmod (aInt b s) % 4294967296 := by unfold remN; rw [if_neg h0, wordOf_cast]
    have hl := tmod_doc (aInt a s) (aInt b s)
    have hlt := Nat.mod_lt (aInt a s).natAbs (show 0 < (aInt b s).natAbs by omega)
    have ha1 := aInt_lo a ha s
    have ha2 := aInt_hi a ha s
    have hb1 := aInt_lo b hb s
    have hb2 := aInt_hi b hb s
    generalize remN a b s = r at *
    cases s with
    | true =>
      have hb3 := sgn_hi b hb
      have e3 : aInt b true = sgn b := rfl
      have e4 : aInt r true = sgn r := rfl
      rw [e4]
      generalize (aInt a true).natAbs % (aInt b true).natAbs = t at *
      generalize (aInt a true).tmod (aInt b true) = m at *
      unfold sgn at *
      split at hl <;> split <;> omega
    | false =>
      have e3 : aInt a false = (a : Int) := rfl
      have e4 : aInt r false = (r : Int) := rfl
      rw [e4]
      generalize (aInt a false).natAbs % (aInt b false).natAbs = t at *
      generalize (aInt a false).tmod (aInt b false) = m at *
      split at hl <;> omega
  rw [hr, tmod_doc]
  have hlt := Nat.mod_lt (aInt a s).natAbs (show 0 < (aInt b s).natAbs by omega)
  split <;> omega

/-- 1 of true, 0 of false. -/
def oneN (s : Bool) : Nat := if s then 1 else 0
/-- What two words make, by the operation's number. -/
def doN : Nat → Nat → Nat → Nat
  | 0, a, b => (a + b) % 4294967296
  | 1, a, b => aWrd ((a : Int) - b)
  | 2, a, b => a * 2 ^ (b % 32) % 4294967296
  | 3, a, b => oneN (decide (sgn a < sgn b))
  | 4, a, b => oneN (decide (a < b))
  | 5, a, b => a ^^^ b
  | 6, a, b => a / 2 ^ (b % 32)
  | 7, a, b => aWrd (sgn a / 2 ^ (b % 32))
  | 8, a, b => a ||| b
  | 9, a, b => a &&& b
  | 10, a, b => loN a b false false
  | 11, a, b => hiN a b true true
  | 12, a, b => hiN a b true false
  | 13, a, b => hiN a b false false
  | 14, a, b => quoN a b true
  | 15, a, b => quoN a b false
  | 16, a, b => remN a b true
  | _, a, b => remN a b false
end Go.Proofs.YtchjhpeogdkbmaaDoor
