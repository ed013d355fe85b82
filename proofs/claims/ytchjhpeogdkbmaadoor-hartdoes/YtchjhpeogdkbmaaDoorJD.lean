/-
  What the document's Holds answers.
-/
import Derived.Test.YtchjhpeogdkbmaaDoorHAlu
import Derived.Test.YtchjhpeogdkbmaaDoorHAluDo
import Derived.Laws.BitsAllLaws
import Derived.Test.YtchjhpeogdkbmaaDoorHAluHolds
namespace Go.Proofs.YtchjhpeogdkbmaaDoor
open Go.RowKit
set_option linter.unusedVariables false
set_option maxRecDepth 100000

set_option maxHeartbeats 400000 in
theorem signed_lo (x : Int) (h0 : 0 ≤ x) (h : x < 2147483648) (w : World) :
    Calls Tryd.prog 69 #[.int .u32 x] w fun e w' => e = .returned (.int .i64 x) ∧ w' = w := by
  go_enter Tryd.func69, Tryd.ntmps69
  go_wp2
  go_ret
  exact ⟨rfl, rfl⟩

set_option maxHeartbeats 400000 in
theorem signed_hi (x : Int) (h0 : 2147483648 ≤ x) (h : x < 4294967296) (w : World) :
    Calls Tryd.prog 69 #[.int .u32 x] w fun e w' => e = .returned (.int .i64 (x - 4294967296)) ∧ w' = w := by
  go_enter Tryd.func69, Tryd.ntmps69
  go_wp2
  go_ret
  exact ⟨rfl, rfl⟩

theorem signed_any (a : Nat) (ha : a < 4294967296) (w : World) :
    Calls Tryd.prog 69 #[.int .u32 a] w fun e w' => e = .returned (.int .i64 (sgn a)) ∧ w' = w := by
  by_cases h : a < 2147483648
  · have e : sgn a = a := by unfold sgn; rw [if_pos h]
    rw [e]
    exact signed_lo a (by omega) (by omega) w
  · have e : sgn a = a - 4294967296 := by unfold sgn; rw [if_neg h]
    rw [e]
    exact signed_hi a (by omega) (by omega) w

set_option maxHeartbeats 400000 in
theorem word_any (n : Int) (h1 : -9223372036854775808 ≤ n) (h2 : n ≤ 9223372036854775807) (w : World) :
    Calls Tryd.prog 67 #[.int .i64 n] w fun e w' => e = .returned (.int .u32 (aWrd n : Nat)) ∧ w' = w := by
  have HE : Hid (n.tmod 4294967296 % 4294967296 = (aWrd n : Int)) := by
    show _ = _; unfold aWrd; rw [wordOf_cast, Int.tmod_eq_emod]; split <;> omega
  have HE2 : Hid ((n.tmod 4294967296 + 4294967296) % 4294967296 = (aWrd n : Int)) := by
    show _ = _; unfold aWrd; rw [wordOf_cast, Int.tmod_eq_emod]; split <;> omega
  have hb1 : -4294967296 < n.tmod 4294967296 := Int.lt_tmod_of_pos n (by decide)
  have hb2 : n.tmod 4294967296 < 4294967296 := Int.tmod_lt_of_pos n (by decide)
  generalize hm : n.tmod 4294967296 = m at *
  generalize aWrd n = z at *
  by_cases h0 : m < 0
  · go_enter Tryd.func67, Tryd.ntmps67
    go_wp2
    go_ret
    exact ⟨ret_int (by have := HE2.out; omega), rfl⟩
  · go_enter Tryd.func67, Tryd.ntmps67
    go_wp2
    go_ret
    exact ⟨ret_int (by have := HE.out; omega), rfl⟩

theorem prod_le (x y : Int) (hx : 0 ≤ x) (hx2 : x ≤ 65535) (hy : 0 ≤ y) (hy2 : y ≤ 65535) : 0 ≤ x * y ∧ x * y ≤ 4294836225 := by
  constructor
  · exact Int.mul_nonneg hx hy
  · exact Int.le_trans (Int.mul_le_mul hx2 hy2 hy (by decide)) (by decide)

set_option maxHeartbeats 4000000 in
theorem refwide_at (x y : Int) (hx : 0 ≤ x) (hx2 : x < 4294967296) (hy : 0 ≤ y) (hy2 : y < 4294967296) (sa sb : Bool) (na nb H L : Int)
    (hna : (na = 0 ∧ sa = false) ∨ (na = 0 ∧ sa = true ∧ x < 2147483648) ∨ (na = 1 ∧ sa = true ∧ 2147483648 ≤ x))
    (hnb : (nb = 0 ∧ sb = false) ∨ (nb = 0 ∧ sb = true ∧ y < 2147483648) ∨ (nb = 1 ∧ sb = true ∧ 2147483648 ≤ y))
    (HH : H = (x / 65536 * (y / 65536) + (x / 65536 * (y % 65536) + x % 65536 * (y / 65536) + x % 65536 * (y % 65536) / 65536) / 65536 - na * y - nb * x) % 4294967296)
    (HL : (x / 65536 * (y % 65536) + x % 65536 * (y / 65536) + x % 65536 * (y % 65536) / 65536) % 65536 * 65536 + x % 65536 * (y % 65536) % 65536 = L) (w : World) :
    Calls Tryd.prog 65 #[.int .u32 x, .int .u32 y, .bool sa, .bool sb] w fun e w' => e = .returned (.tuple #[.int .u32 H, .int .u32 L]) ∧ w' = w := by
  have m1 := prod_le (x / 65536) (y / 65536) (by omega) (by omega) (by omega) (by omega)
  have m2 := prod_le (x / 65536) (y % 65536) (by omega) (by omega) (by omega) (by omega)
  have m3 := prod_le (x % 65536) (y / 65536) (by omega) (by omega) (by omega) (by omega)
  have m4 := prod_le (x % 65536) (y % 65536) (by omega) (by omega) (by omega) (by omega)
  obtain ⟨m11, m12⟩ := m1
  obtain ⟨m21, m22⟩ := m2
  obtain ⟨m31, m32⟩ := m3
  obtain ⟨m41, m42⟩ := m4
  have HHH := hide HH
  have HLL := hide HL
  clear HH HL
  rcases hna with ⟨rfl, rfl⟩ | ⟨rfl, rfl, ha⟩ | ⟨rfl, rfl, ha⟩ <;> rcases hnb with ⟨rfl, rfl⟩ | ⟨rfl, rfl, hb⟩ | ⟨rfl, rfl, hb⟩
  all_goals
    go_enter Tryd.func65, Tryd.ntmps65
    go_wp2
    go_ret2
    refine ⟨ret_int2 ?_ HLL.out, rfl⟩
    have hh := HHH.out
    generalize x / 65536 * (y / 65536) = p1 at *
    generalize x / 65536 * (y % 65536) = p2 at *
    generalize x % 65536 * (y / 65536) = p3 at *
    generalize x % 65536 * (y % 65536) = p4 at *
    first | omega | (simp only [IntKind.wrap_u32']; omega)

theorem neg_is (v : Nat) (s : Bool) : ((neg v s : Int) = 0 ∧ s = false) ∨ ((neg v s : Int) = 0 ∧ s = true ∧ (v : Int) < 2147483648) ∨ ((neg v s : Int) = 1 ∧ s = true ∧ 2147483648 ≤ (v : Int)) := by
  cases s
  · left; exact ⟨rfl, rfl⟩
  · right
    by_cases h : 2147483648 ≤ v
    · right; exact ⟨by simp [neg, h], rfl, by omega⟩
    · left; exact ⟨by simp [neg, h], rfl, by omega⟩

theorem refwide_any (a b : Nat) (ha : a < 4294967296) (hb : b < 4294967296) (sa sb : Bool) (w : World) :
    Calls Tryd.prog 65 #[.int .u32 a, .int .u32 b, .bool sa, .bool sb] w fun e w' => e = .returned (.tuple #[.int .u32 (hiN a b sa sb : Nat), .int .u32 (loN a b sa sb : Nat)]) ∧ w' = w := by
  refine refwide_at a b (by omega) (by omega) (by omega) (by omega) sa sb (neg a sa) (neg b sb) _ _ (neg_is a sa) (neg_is b sb) ?_ ?_ w
  · rw [hi_doc a b sa sb ha hb]; simp [highN]
  · rw [lo_doc a b sa sb ha hb]; unfold lowN; simp only [Int.natCast_add, Int.natCast_mul, Int.natCast_emod, Int.natCast_ediv]; rfl
end Go.Proofs.YtchjhpeogdkbmaaDoor
namespace Go.Proofs.YtchjhpeogdkbmaaDoor
open Go.RowKit
set_option linter.unusedVariables false

set_option maxHeartbeats 400000 in
theorem truth_any (s : Bool) (w : World) :
    Calls Tryd.prog 68 #[.bool s] w fun e w' => e = .returned (.int .u32 (oneN s : Nat)) ∧ w' = w := by
  cases s
  all_goals
    go_enter Tryd.func68, Tryd.ntmps68
    go_wp2
    go_ret
    exact ⟨rfl, rfl⟩

/-- A gate's bit, of two bits' number. -/
def gateN (op : Nat) (n : Nat) : Nat := if (op = 5 ∧ n = 1) ∨ (op = 8 ∧ 0 < n) ∨ (op = 9 ∧ n = 2) then 1 else 0
theorem gateN_le (op n : Nat) : gateN op n ≤ 1 := by unfold gateN; split <;> omega
/-- The bit at a place. -/
def gateB (op a b j : Nat) : Nat := gateN op (a / 2 ^ j % 2 + b / 2 ^ j % 2)

theorem gateB_le (op a b j : Nat) : gateB op a b j ≤ 1 := gateN_le _ _

theorem gates_xor (a b : Nat) (ha : a < 4294967296) (hb : b < 4294967296) : num (gateB 5 a b) 32 = a ^^^ b := by
  apply word_ext
  · exact num_lt _ (gateB_le 5 a b) 32
  · exact Nat.xor_lt_two_pow ha hb
  · intro i hi
    rw [num_bit _ (gateB_le 5 a b), Nat.testBit_xor, Nat.testBit_eq_decide_div_mod_eq, Nat.testBit_eq_decide_div_mod_eq]
    have h1 : a / 2 ^ i % 2 < 2 := Nat.mod_lt _ (by decide)
    have h2 : b / 2 ^ i % 2 < 2 := Nat.mod_lt _ (by decide)
    unfold gateB
    generalize a / 2 ^ i % 2 = x at *
    generalize b / 2 ^ i % 2 = y at *
    have hx : x = 0 ∨ x = 1 := by omega
    have hy : y = 0 ∨ y = 1 := by omega
    rcases hx with rfl | rfl <;> rcases hy with rfl | rfl <;> simp [gateN, hi]

theorem gates_or (a b : Nat) (ha : a < 4294967296) (hb : b < 4294967296) : num (gateB 8 a b) 32 = a ||| b := by
  apply word_ext
  · exact num_lt _ (gateB_le 8 a b) 32
  · exact Nat.or_lt_two_pow ha hb
  · intro i hi
    rw [num_bit _ (gateB_le 8 a b), Nat.testBit_or, Nat.testBit_eq_decide_div_mod_eq, Nat.testBit_eq_decide_div_mod_eq]
    have h1 : a / 2 ^ i % 2 < 2 := Nat.mod_lt _ (by decide)
    have h2 : b / 2 ^ i % 2 < 2 := Nat.mod_lt _ (by decide)
    unfold gateB
    generalize a / 2 ^ i % 2 = x at *
    generalize b / 2 ^ i % 2 = y at *
    have hx : x = 0 ∨ x = 1 := by omega
    have hy : y = 0 ∨ y = 1 := by omega
    rcases hx with rfl | rfl <;> rcases hy with rfl | rfl <;> simp [gateN, hi]

theorem gates_and (a b : Nat) (ha : a < 4294967296) (hb : b < 4294967296) : num (gateB 9 a b) 32 = a &&& b := by
  apply word_ext
  · exact num_lt _ (gateB_le 9 a b) 32
  · exact Nat.lt_of_le_of_lt Nat.and_le_left ha
  · intro i hi
    rw [num_bit _ (gateB_le 9 a b), Nat.testBit_and, Nat.testBit_eq_decide_div_mod_eq, Nat.testBit_eq_decide_div_mod_eq]
    have h1 : a / 2 ^ i % 2 < 2 := Nat.mod_lt _ (by decide)
    have h2 : b / 2 ^ i % 2 < 2 := Nat.mod_lt _ (by decide)
    unfold gateB
    generalize a / 2 ^ i % 2 = x at *
    generalize b / 2 ^ i % 2 = y at *
    have hx : x = 0 ∨ x = 1 := by omega
    have hy : y = 0 ∨ y = 1 := by omega
    rcases hx with rfl | rfl <;> rcases hy with rfl | rfl <;> simp [gateN, hi]

/-- A power of two as a word: 0 of 2^32. -/
def powW (k : Nat) : Nat := 2 ^ k % 4294967296
theorem powW_lt (k : Nat) : powW k < 4294967296 := Nat.mod_lt _ (by decide)
theorem powW_succ (k : Nat) : 2 * powW k % 4294967296 = powW (k + 1) := by unfold powW; rw [Nat.pow_succ]; omega
theorem powW_small (k : Nat) (h : k < 32) : powW k = 2 ^ k := by
  unfold powW
  have : 2 ^ k < 2 ^ 32 := Nat.pow_lt_pow_right (by decide) h
  exact Nat.mod_eq_of_lt this

theorem gate500 : gateN 5 (0 + 0) = 0 := rfl
theorem gate501 : gateN 5 (0 + 1) = 1 := rfl
theorem gate510 : gateN 5 (1 + 0) = 1 := rfl
theorem gate511 : gateN 5 (1 + 1) = 0 := rfl
theorem gate800 : gateN 8 (0 + 0) = 0 := rfl
theorem gate801 : gateN 8 (0 + 1) = 1 := rfl
theorem gate810 : gateN 8 (1 + 0) = 1 := rfl
theorem gate811 : gateN 8 (1 + 1) = 1 := rfl
theorem gate900 : gateN 9 (0 + 0) = 0 := rfl
theorem gate901 : gateN 9 (0 + 1) = 0 := rfl
theorem gate910 : gateN 9 (1 + 0) = 0 := rfl
theorem gate911 : gateN 9 (1 + 1) = 1 := rfl

set_option maxHeartbeats 2000000 in
theorem gates_any (op a b : Nat) (hop : op = 5 ∨ op = 8 ∨ op = 9) (ha : a < 4294967296) (hb : b < 4294967296) (w : World) :
    Calls Tryd.prog 70 #[.int .i64 op, .int .u32 a, .int .u32 b] w fun e w' => e = .returned (.int .u32 (num (gateB op a b) 32 : Nat)) ∧ w' = w := by
  have HB := hide (gateB_le op a b)
  have HN := hide (fun k (hlt : k < 32) => (show num (gateB op a b) (k + 1) = num (gateB op a b) k + gateN op (a / 2 ^ k % 2 + b / 2 ^ k % 2) * powW k by rw [powW_small k hlt]; rfl))
  generalize hG : gateB op a b = G at *
  clear hG
  rcases hop with rfl | rfl | rfl
  all_goals
    go_enter Tryd.func70, Tryd.ntmps70
    go_wp2
    go_loop [1, 2, 7, 8, 9] (fun x y o p i => ∃ k : Nat, k ≤ 32 ∧ i = .int .i64 k ∧ x = .int .u32 ((a / 2 ^ k : Nat) : Int) ∧ y = .int .u32 ((b / 2 ^ k : Nat) : Int) ∧ o = .int .u32 ((num G k : Nat) : Int) ∧ p = .int .u32 ((powW k : Nat) : Int)) (fun _ _ _ _ i => 32 - (intOf i).toNat)
    case atStart => exact ⟨0, by omega, rfl, by simp, by simp, rfl, rfl⟩
    case round =>
      obtain ⟨k, hk, rfl, rfl, rfl, rfl, rfl⟩ := hrel
      by_cases hlt : k < 32
      · have h1 : a / 2 ^ k ≤ a := Nat.div_le_self _ _
        have h2 : b / 2 ^ k ≤ b := Nat.div_le_self _ _
        have H3 := hide (div_step a k)
        have H4 := hide (div_step b k)
        have H5 := hide (powW_succ k)
        have h6 := powW_small k hlt
        have h7 := num_lt G HB.out k
        have h8 : 2 ^ k ≤ 2 ^ 31 := Nat.pow_le_pow_right (by decide) (by omega)
        have HNk := hide (HN.out k hlt)
        have h9 : num G k < 2147483648 := by omega
        have h10 : powW k ≤ 2147483648 := by omega
        clear h6 h7 h8 HN HB
        generalize a / 2 ^ k = x at *
        generalize b / 2 ^ k = y at *
        generalize num G k = o at *
        generalize powW k = p at *
        have hxy : (x % 2 = 0 ∧ y % 2 = 0) ∨ (x % 2 = 0 ∧ y % 2 = 1) ∨ (x % 2 = 1 ∧ y % 2 = 0) ∨ (x % 2 = 1 ∧ y % 2 = 1) := by omega
        rcases hxy with ⟨hx, hy⟩ | ⟨hx, hy⟩ | ⟨hx, hy⟩ | ⟨hx, hy⟩
        all_goals
          rw [hx, hy] at HNk
          first | rw [gate500] at HNk | rw [gate501] at HNk | rw [gate510] at HNk | rw [gate511] at HNk | rw [gate800] at HNk | rw [gate801] at HNk | rw [gate810] at HNk | rw [gate811] at HNk | rw [gate900] at HNk | rw [gate901] at HNk | rw [gate910] at HNk | rw [gate911] at HNk
          have hx' : (x : Int) % 2 = ((x % 2 : Nat) : Int) := by omega
          have hy' : (y : Int) % 2 = ((y % 2 : Nat) : Int) := by omega
          rw [hx] at hx'
          rw [hy] at hy'
          go_wp2
          refine ⟨⟨k + 1, by omega, rfl, ?_, ?_, ?_, ?_⟩, by simp [intOf]; omega⟩
          · rw [← H3.out]; simp
          · rw [← H4.out]; simp
          · rw [HNk.out]; simp
          · rw [← H5.out]; simp
      · obtain rfl : k = 32 := by omega
        go_wp2
        go_ret
        exact ⟨rfl, rfl⟩
end Go.Proofs.YtchjhpeogdkbmaaDoor
namespace Go.Proofs.YtchjhpeogdkbmaaDoor
open Go.RowKit
set_option linter.unusedVariables false
set_option maxRecDepth 100000

theorem low_bit (u k : Nat) (hu : u ≤ 4294967296) : bits BinOp.and IntKind.u64 ((u : Int) / 2 ^ k) 1 = ((u / 2 ^ k % 2 : Nat) : Int) := by
  have h : u / 2 ^ k ≤ u := Nat.div_le_self _ _
  have e : ((u : Int) / 2 ^ k) = ((u / 2 ^ k : Nat) : Int) := by simp
  rw [e]
  have := u64_and_nat (u / 2 ^ k) 1 (by omega) (by decide)
  rw [Nat.and_one_is_mod] at this
  exact this

theorem w64_in (x : Int) (h1 : -9223372036854775808 ≤ x) (h2 : x ≤ 9223372036854775807) : wrap64 x = x := by unfold wrap64; omega

theorem minus_a {p q : Prop} [Decidable p] [Decidable q] (h : (!(decide p == decide q)) = false) (hp : p) (hq : ¬ q) : False := by simp [hp, hq] at h
theorem minus_b {p q : Prop} [Decidable p] [Decidable q] (h : (!(decide p == decide q)) = false) (hp : ¬ p) (hq : q) : False := by simp [hp, hq] at h
theorem minus_c {p q : Prop} [Decidable p] [Decidable q] (h : (!(decide p == decide q)) = true) (hp : p) (hq : q) : False := by simp [hp, hq] at h

theorem parts_step (u v c Q R q r : Nat) (hv : v ≤ 4294967296) (hc : c ≤ 1) (hlt : R < v)
    (hq : q = if v ≤ 2 * R + c then 2 * Q + 1 else 2 * Q) (hr : r = if v ≤ 2 * R + c then 2 * R + c - v else 2 * R + c) :
    ((v : Int) ≤ wrap64 (2 * (R : Int) + wrap64 (c : Int)) → (2 * (Q : Int) + 1) = (q : Int) ∧ wrap64 (wrap64 (2 * (R : Int) + wrap64 (c : Int)) - v) = (r : Int)) ∧
    (wrap64 (2 * (R : Int) + wrap64 (c : Int)) < (v : Int) → (2 * (Q : Int)) = (q : Int) ∧ wrap64 (2 * (R : Int) + wrap64 (c : Int)) = (r : Int)) := by
  rw [w64_in (c : Int) (by omega) (by omega), w64_in (2 * (R : Int) + (c : Int)) (by omega) (by omega)]
  constructor
  · intro h
    rw [if_pos (by omega)] at hq hr
    rw [w64_in (2 * (R : Int) + (c : Int) - v) (by omega) (by omega)]
    omega
  · intro h
    rw [if_neg (by omega)] at hq hr
    omega

theorem parts_round (u v k Q R : Nat) (hu : u ≤ 4294967296) (hv : v ≤ 4294967296) (h1 : 1 ≤ v) (hQ : u / 2 ^ (k + 1) / v = Q) (hR : u / 2 ^ (k + 1) % v = R) :
    ((v : Int) ≤ wrap64 (2 * (R : Int) + wrap64 (bits BinOp.and IntKind.u64 ((u : Int) / 2 ^ k) 1)) → (2 * (Q : Int) + 1) = ((u / 2 ^ k / v : Nat) : Int) ∧ wrap64 (wrap64 (2 * (R : Int) + wrap64 (bits BinOp.and IntKind.u64 ((u : Int) / 2 ^ k) 1)) - v) = ((u / 2 ^ k % v : Nat) : Int)) ∧
    (wrap64 (2 * (R : Int) + wrap64 (bits BinOp.and IntKind.u64 ((u : Int) / 2 ^ k) 1)) < (v : Int) → (2 * (Q : Int)) = ((u / 2 ^ k / v : Nat) : Int) ∧ wrap64 (2 * (R : Int) + wrap64 (bits BinOp.and IntKind.u64 ((u : Int) / 2 ^ k) 1)) = ((u / 2 ^ k % v : Nat) : Int)) := by
  rw [low_bit u k hu]
  have hd := down_step u k
  have hc : u / 2 ^ k % 2 ≤ 1 := Nat.le_of_lt_succ (Nat.mod_lt _ (by decide))
  have hr := div_round (u / 2 ^ (k + 1)) v (u / 2 ^ k % 2) h1 hc
  rw [← hd, hQ, hR] at hr
  have hlt : R < v := by rw [← hR]; exact Nat.mod_lt _ h1
  exact parts_step u v _ Q R _ _ hv hc hlt hr.1 hr.2

set_option maxHeartbeats 400000 in
theorem refparts_zero (a : Nat) (ha : a < 4294967296) (s : Bool) (w : World) :
    Calls Tryd.prog 66 #[.int .u32 a, .int .u32 0, .bool s] w fun e w' => e = .returned (.tuple #[.int .u32 4294967295, .int .u32 a]) ∧ w' = w := by
  go_enter Tryd.func66, Tryd.ntmps66
  go_wp2
  go_ret2
  exact ⟨rfl, rfl⟩

set_option maxHeartbeats 4000000 in
theorem refparts_at (a b u v : Nat) (ha : a < 4294967296) (hb : b < 4294967296) (h0 : 1 ≤ b) (hu : u ≤ 4294967296) (hv : v ≤ 4294967296) (h1 : 1 ≤ v) (s : Bool) (qq rr : Nat)
    (hs : (s = false ∧ u = a ∧ v = b ∧ aWrd ((u / v : Nat) : Int) = qq ∧ aWrd ((u % v : Nat) : Int) = rr)
      ∨ (s = true ∧ sgn a = (u : Int) ∧ sgn b = (v : Int) ∧ aWrd ((u / v : Nat) : Int) = qq ∧ aWrd ((u % v : Nat) : Int) = rr)
      ∨ (s = true ∧ sgn a = -(u : Int) ∧ 1 ≤ u ∧ sgn b = (v : Int) ∧ aWrd (-((u / v : Nat) : Int)) = qq ∧ aWrd (-((u % v : Nat) : Int)) = rr)
      ∨ (s = true ∧ sgn a = (u : Int) ∧ sgn b = -(v : Int) ∧ aWrd (-((u / v : Nat) : Int)) = qq ∧ aWrd ((u % v : Nat) : Int) = rr)
      ∨ (s = true ∧ sgn a = -(u : Int) ∧ 1 ≤ u ∧ sgn b = -(v : Int) ∧ aWrd ((u / v : Nat) : Int) = qq ∧ aWrd (-((u % v : Nat) : Int)) = rr)) (w : World) :
    Calls Tryd.prog 66 #[.int .u32 a, .int .u32 b, .bool s] w fun e w' => e = .returned (.tuple #[.int .u32 (qq : Nat), .int .u32 (rr : Nat)]) ∧ w' = w := by
  have HS := hide (fun (v : Nat) (hv : v < 4294967296) (x : Int) (hx : sgn v = x) (w : World) => (hx ▸ signed_any v hv w : Calls Tryd.prog 69 #[.int .u32 v] w fun e w' => e = .returned (.int .i64 x) ∧ w' = w))
  have HW := hide word_any
  have hQ1 : u / v ≤ u := Nat.div_le_self _ _
  have hR1 : u % v < v := Nat.mod_lt _ (by omega)
  have HR := hide (fun k Q R hQ hR => parts_round u v k Q R hu hv h1 hQ hR)
  have HQ0 : Hid (u / 2 ^ 0 / v = u / v) := by show _ = _; simp
  have HR0 : Hid (u / 2 ^ 0 % v = u % v) := by show _ = _; simp
  have HSq : Hid (u / 2 ^ 33 / v = 0) := by show _ = _; rw [Nat.div_eq_of_lt (show u < 2 ^ 33 by omega)]; simp
  have HSr : Hid (u / 2 ^ 33 % v = 0) := by show _ = _; rw [Nat.div_eq_of_lt (show u < 2 ^ 33 by omega)]; simp
  generalize u / v = Q0 at *
  generalize u % v = R0 at *
  rcases hs with ⟨rfl, rfl, rfl, rfl, rfl⟩ | ⟨rfl, sa, sb, rfl, rfl⟩ | ⟨rfl, sa, hu1, sb, rfl, rfl⟩ | ⟨rfl, sa, sb, rfl, rfl⟩ | ⟨rfl, sa, hu1, sb, rfl, rfl⟩
  all_goals
    go_enter Tryd.func66, Tryd.ntmps66
    go_wp2_with (first | (go_at_call 69; refine (HS.out _ (by assumption) _ (by assumption) _).mono ?_; rintro e w' ⟨rfl, rfl⟩))
    go_loop [13, 14, 15] (fun q r i => ∃ k : Nat, k ≤ 33 ∧ i = .int .i64 ((k : Int) - 1) ∧ q = .int .i64 ((u / 2 ^ k / v : Nat) : Int) ∧ r = .int .i64 ((u / 2 ^ k % v : Nat) : Int)) (fun _ _ i => (intOf i + 1).toNat)
    case atStart => exact ⟨33, Nat.le_refl _, rfl, by rw [HSq.out]; rfl, by rw [HSr.out]; rfl⟩
    case round =>
      obtain ⟨k, hk, rfl, rfl, rfl⟩ := hrel
      cases k with
      | zero =>
        rw [HQ0.out, HR0.out]
        clear HS HR HSq HSr HQ0 HR0
        go_wp2_with (first | (go_at_call 67; refine (HW.out _ (by omega) (by omega) _).mono ?_; rintro e w' ⟨rfl, rfl⟩))
        all_goals first
          | (exfalso; exact minus_a (by assumption) (by omega) (by omega))
          | (exfalso; exact minus_b (by assumption) (by omega) (by omega))
          | (exfalso; exact minus_c (by assumption) (by omega) (by omega))
          | (go_ret2; exact ⟨rfl, rfl⟩)
      | succ k =>
        have hd : u / 2 ^ (k + 1) / v ≤ u / 2 ^ (k + 1) := Nat.div_le_self _ _
        have hd2 : u / 2 ^ (k + 1) ≤ u := Nat.div_le_self _ _
        have hm : u / 2 ^ (k + 1) % v < v := Nat.mod_lt _ (by omega)
        have hk' : k ≤ 32 := by omega
        have HRk := hide (HR.out k _ _ rfl rfl)
        have hQ2 : u / 2 ^ (k + 1) / v ≤ u := Nat.le_trans hd hd2
        clear HS HR HSq HSr HQ0 HR0 HW hd hd2
        generalize u / 2 ^ (k + 1) / v = Q at *
        generalize u / 2 ^ (k + 1) % v = R at *
        go_wp2
        · rename_i hcmp
          obtain ⟨e1, e2⟩ := HRk.out.1 hcmp
          go_round
          case rel => exact ⟨k, by omega, rfl, by rw [e1], by rw [e2]⟩
          case measure => simp [intOf]
        · rename_i hcmp
          obtain ⟨e1, e2⟩ := HRk.out.2 hcmp
          go_round
          case rel => exact ⟨k, by omega, rfl, by rw [e1], by rw [e2]⟩
          case measure => simp [intOf]

theorem refparts_any (a b : Nat) (ha : a < 4294967296) (hb : b < 4294967296) (s : Bool) (w : World) :
    Calls Tryd.prog 66 #[.int .u32 a, .int .u32 b, .bool s] w fun e w' => e = .returned (.tuple #[.int .u32 (quoN a b s : Nat), .int .u32 (remN a b s : Nat)]) ∧ w' = w := by
  by_cases h0 : b = 0
  · subst h0
    have e1 : quoN a 0 s = 4294967295 := by unfold quoN; rw [if_pos rfl]
    have e2 : remN a 0 s = a := by unfold remN; rw [if_pos rfl]
    rw [e1, e2]
    exact refparts_zero a ha s w
  · have hz : aInt b s ≠ 0 := fun h => h0 ((asInt_zero b hb s).1 h)
    have a1 := aInt_lo a ha s
    have a2 := aInt_hi a ha s
    have b1 := aInt_lo b hb s
    have b2 := aInt_hi b hb s
    have eq : quoN a b s = aWrd ((aInt a s).tdiv (aInt b s)) := by unfold quoN aWrd; rw [if_neg h0]
    have er : remN a b s = aWrd ((aInt a s).tmod (aInt b s)) := by unfold remN aWrd; rw [if_neg h0]
    rw [tdiv_doc] at eq
    rw [tmod_doc] at er
    refine refparts_at a b (aInt a s).natAbs (aInt b s).natAbs ha hb (by omega) (by omega) (by omega) (by omega) s _ _ ?_ w
    cases s with
    | false =>
      have na : ¬ (aInt a false < 0) := by show ¬ ((a : Int) < 0); omega
      have nb : ¬ (aInt b false < 0) := by show ¬ ((b : Int) < 0); omega
      exact .inl ⟨rfl, rfl, rfl, by rw [eq, if_neg (by rw [decide_eq_false na, decide_eq_false nb]; decide)], by rw [er, if_neg na]⟩
    | true =>
      have ea : aInt a true = sgn a := rfl
      have eb : aInt b true = sgn b := rfl
      rw [ea, eb] at eq er
      rw [eb] at hz b1 b2
      rw [ea] at a1 a2
      rw [ea, eb]
      right
      by_cases hx : sgn a < 0 <;> by_cases hy : sgn b < 0
      · right; right; right
        exact ⟨rfl, by omega, by omega, by omega, by rw [eq, if_neg (by rw [decide_eq_true hx, decide_eq_true hy]; decide)], by rw [er, if_pos hx]⟩
      · right; left
        exact ⟨rfl, by omega, by omega, by omega, by rw [eq, if_pos (by rw [decide_eq_true hx, decide_eq_false hy]; rfl)], by rw [er, if_pos hx]⟩
      · right; right; left
        exact ⟨rfl, by omega, by omega, by rw [eq, if_pos (by rw [decide_eq_false hx, decide_eq_true hy]; rfl)], by rw [er, if_neg hx]⟩
      · left
        exact ⟨rfl, by omega, by omega, by rw [eq, if_neg (by rw [decide_eq_false hx, decide_eq_false hy]; decide)], by rw [er, if_neg hx]⟩
end Go.Proofs.YtchjhpeogdkbmaaDoor
namespace Go.Proofs.YtchjhpeogdkbmaaDoor
open Go.RowKit
set_option linter.unusedVariables false

theorem ret_zero {k : IntKind} {a b : Int} (h : a = b) : Ending.returned (.tuple #[.int k a, .int .i64 0]) = .returned (.tuple #[.int k b, .int .i64 0]) := by rw [h]

theorem pow_le31 (k : Nat) (h : k ≤ 31) : 2 ^ k ≤ 2147483648 := Nat.pow_le_pow_right (n := 2) (by decide) h
theorem pow_one (k : Nat) : 1 ≤ 2 ^ k := Nat.pow_pos (by decide)

theorem mod_at (n : Nat) (hn : n ≤ 31) : (4294967296 : Int) / ((2 ^ n : Nat) : Int) = ((2 ^ (32 - n) : Nat) : Int) := by
  have e : (4294967296 : Nat) = 2 ^ (32 - n) * 2 ^ n := by rw [← Nat.pow_add, show 32 - n + n = 32 by omega]
  have h : 4294967296 / 2 ^ n = 2 ^ (32 - n) := by rw [e]; exact Nat.mul_div_cancel _ (Nat.pow_pos (by decide))
  rw [← h]; rfl

/-- Moved higher, the document's way. -/
theorem sll_doc (a b : Nat) : (a : Int) % (4294967296 / ((2 ^ (b % 32) : Nat) : Int)) * ((2 ^ (b % 32) : Nat) : Int) = (doN 2 a b : Int) := by
  rw [mod_at _ (by omega)]
  have e : (4294967296 : Nat) = 2 ^ (32 - b % 32) * 2 ^ (b % 32) := by rw [← Nat.pow_add, show 32 - b % 32 + b % 32 = 32 by omega]
  show _ = ((a * 2 ^ (b % 32) % 4294967296 : Nat) : Int)
  rw [e, Nat.mul_mod_mul_right]
  rfl

theorem div_lo (x : Int) (P : Nat) (hP : 1 ≤ P) (hx : -2147483648 ≤ x) : -2147483648 ≤ x / (P : Int) := by
  rw [Int.le_ediv_iff_mul_le (by omega)]; omega
theorem div_hi (x : Int) (P : Nat) (hP : 1 ≤ P) (hx : x < 2147483648) : x / (P : Int) < 2147483648 := by
  rw [Int.ediv_lt_iff_lt_mul (by omega)]; omega

/-- Moved lower with the sign, the document's way. -/
theorem sra_doc (x : Int) (P : Nat) (hP : 1 ≤ P) (hx : x < 0) : -((-x + P - 1) / (P : Int)) = x / (P : Int) := by
  obtain ⟨m, r, hr0, hr1, e⟩ : ∃ m r : Int, 0 ≤ r ∧ r < P ∧ x = P * m + r := ⟨x / P, x % P, Int.emod_nonneg _ (by omega), Int.emod_lt_of_pos _ (by omega), (Int.mul_ediv_add_emod x P).symm⟩
  have e1 : x / (P : Int) = m := by
    rw [e, Int.add_comm, Int.add_mul_ediv_left _ _ (by omega), Int.ediv_eq_zero_of_lt hr0 hr1]; omega
  have e2 : (-x + P - 1) / (P : Int) = -m := by
    have : -x + P - 1 = (P - 1 - r) + P * (-m) := by rw [e, Int.mul_neg]; omega
    rw [this, Int.add_mul_ediv_left _ _ (by omega), Int.ediv_eq_zero_of_lt (by omega) (by omega)]; omega
  rw [e1, e2]; omega

set_option maxHeartbeats 1000000 in
theorem refdo_0 (a b : Nat) (ha : a < 4294967296) (hb : b < 4294967296) (w : World) :
    Calls Tryd.prog 32 #[.int .i64 0, .int .u32 a, .int .u32 b] w fun e w' => e = .returned (.tuple #[.int .u32 (doN 0 a b : Nat), .int .i64 0]) ∧ w' = w := by
  have HW := hide refwide_any
  have HP := hide refparts_any
  have HWd := hide word_any
  have HX : Hid (((aWrd ((a : Int) + (b : Int)) : Nat) : Int) = (doN 0 a b : Int)) := by show _ = _; rw [wordN_cast]; rfl
  go_enter Tryd.func32, Tryd.ntmps32
  go_wp2
  have hn : b % 32 ≤ 31 := by omega
  go_loop [9, 10] (fun p i => ∃ k : Nat, k ≤ b % 32 ∧ i = .int .i64 k ∧ p = .int .i64 ((2 ^ k : Nat) : Int)) (fun _ i => b % 32 - (intOf i).toNat)
  case atStart => exact ⟨0, Nat.zero_le _, rfl, rfl⟩
  case round =>
    obtain ⟨k, hk, rfl, rfl⟩ := hrel
    have hp := pow_le31 k (by omega)
    have hp1 := pow_one k
    by_cases hlt : k < b % 32
    · have HS : Hid (2 ^ k * 2 = 2 ^ (k + 1)) := by show _ = _; rw [← Nat.pow_succ]
      generalize 2 ^ k = p at *
      go_wp2
      refine ⟨⟨k + 1, by omega, rfl, ?_⟩, by simp [intOf]; omega⟩
      rw [← HS.out]; go_num
    · obtain rfl : k = b % 32 := by omega
      generalize 2 ^ (b % 32) = P at *
      go_wp2_with (first | (go_at_call 65; refine (HW.out _ _ (by assumption) (by assumption) _ _ _).mono ?_; rintro e w1 ⟨rfl, rfl⟩) | (go_at_call 66; refine (HP.out _ _ (by assumption) (by assumption) _ _).mono ?_; rintro e w2 ⟨rfl, rfl⟩) | (go_at_call 67; refine (HWd.out _ (by first | assumption | omega) (by first | assumption | omega) _).mono ?_; rintro e w3 ⟨rfl, rfl⟩))
      go_ret2
      exact ⟨ret_zero HX.out, rfl⟩
set_option maxHeartbeats 1000000 in
theorem refdo_1 (a b : Nat) (ha : a < 4294967296) (hb : b < 4294967296) (w : World) :
    Calls Tryd.prog 32 #[.int .i64 1, .int .u32 a, .int .u32 b] w fun e w' => e = .returned (.tuple #[.int .u32 (doN 1 a b : Nat), .int .i64 0]) ∧ w' = w := by
  have HW := hide refwide_any
  have HP := hide refparts_any
  have HWd := hide word_any
  go_enter Tryd.func32, Tryd.ntmps32
  go_wp2
  have hn : b % 32 ≤ 31 := by omega
  go_loop [9, 10] (fun p i => ∃ k : Nat, k ≤ b % 32 ∧ i = .int .i64 k ∧ p = .int .i64 ((2 ^ k : Nat) : Int)) (fun _ i => b % 32 - (intOf i).toNat)
  case atStart => exact ⟨0, Nat.zero_le _, rfl, rfl⟩
  case round =>
    obtain ⟨k, hk, rfl, rfl⟩ := hrel
    have hp := pow_le31 k (by omega)
    have hp1 := pow_one k
    by_cases hlt : k < b % 32
    · have HS : Hid (2 ^ k * 2 = 2 ^ (k + 1)) := by show _ = _; rw [← Nat.pow_succ]
      generalize 2 ^ k = p at *
      go_wp2
      refine ⟨⟨k + 1, by omega, rfl, ?_⟩, by simp [intOf]; omega⟩
      rw [← HS.out]; go_num
    · obtain rfl : k = b % 32 := by omega
      generalize 2 ^ (b % 32) = P at *
      go_wp2_with (first | (go_at_call 65; refine (HW.out _ _ (by assumption) (by assumption) _ _ _).mono ?_; rintro e w1 ⟨rfl, rfl⟩) | (go_at_call 66; refine (HP.out _ _ (by assumption) (by assumption) _ _).mono ?_; rintro e w2 ⟨rfl, rfl⟩) | (go_at_call 67; refine (HWd.out _ (by first | assumption | omega) (by first | assumption | omega) _).mono ?_; rintro e w3 ⟨rfl, rfl⟩))
      go_ret2
      exact ⟨rfl, rfl⟩
set_option maxHeartbeats 1000000 in
theorem refdo_2 (a b : Nat) (ha : a < 4294967296) (hb : b < 4294967296) (w : World) :
    Calls Tryd.prog 32 #[.int .i64 2, .int .u32 a, .int .u32 b] w fun e w' => e = .returned (.tuple #[.int .u32 (doN 2 a b : Nat), .int .i64 0]) ∧ w' = w := by
  have HW := hide refwide_any
  have HP := hide refparts_any
  have HWd := hide word_any
  have hd := sll_doc a b
  have hz : doN 2 a b < 4294967296 := Nat.mod_lt _ (by decide)
  have HX : Hid ((aWrd (doN 2 a b : Int) : Int) = (doN 2 a b : Int)) := by show _ = _; rw [wordN_cast]; omega
  have hq : ¬ ((4294967296 : Int) / ((2 ^ (b % 32) : Nat) : Int) = 0) := by rw [mod_at _ (by omega)]; have := pow_one (32 - b % 32); omega
  generalize doN 2 a b = z at *
  go_enter Tryd.func32, Tryd.ntmps32
  go_wp2
  have hn : b % 32 ≤ 31 := by omega
  go_loop [9, 10] (fun p i => ∃ k : Nat, k ≤ b % 32 ∧ i = .int .i64 k ∧ p = .int .i64 ((2 ^ k : Nat) : Int)) (fun _ i => b % 32 - (intOf i).toNat)
  case atStart => exact ⟨0, Nat.zero_le _, rfl, rfl⟩
  case round =>
    obtain ⟨k, hk, rfl, rfl⟩ := hrel
    have hp := pow_le31 k (by omega)
    have hp1 := pow_one k
    by_cases hlt : k < b % 32
    · have HS : Hid (2 ^ k * 2 = 2 ^ (k + 1)) := by show _ = _; rw [← Nat.pow_succ]
      generalize 2 ^ k = p at *
      go_wp2
      refine ⟨⟨k + 1, by omega, rfl, ?_⟩, by simp [intOf]; omega⟩
      rw [← HS.out]; go_num
    · obtain rfl : k = b % 32 := by omega
      generalize 2 ^ (b % 32) = P at *
      go_wp2_with (first | (go_at_call 65; refine (HW.out _ _ (by assumption) (by assumption) _ _ _).mono ?_; rintro e w1 ⟨rfl, rfl⟩) | (go_at_call 66; refine (HP.out _ _ (by assumption) (by assumption) _ _).mono ?_; rintro e w2 ⟨rfl, rfl⟩) | (go_at_call 67; refine (HWd.out _ (by first | assumption | omega) (by first | assumption | omega) _).mono ?_; rintro e w3 ⟨rfl, rfl⟩))
      go_ret2
      exact ⟨ret_zero HX.out, rfl⟩
set_option maxHeartbeats 1000000 in
theorem refdo_3 (a b : Nat) (ha : a < 4294967296) (hb : b < 4294967296) (w : World) :
    Calls Tryd.prog 32 #[.int .i64 3, .int .u32 a, .int .u32 b] w fun e w' => e = .returned (.tuple #[.int .u32 (doN 3 a b : Nat), .int .i64 0]) ∧ w' = w := by
  have HW := hide refwide_any
  have HP := hide refparts_any
  have HG := hide (fun (v : Nat) (hv : v < 4294967296) (x : Int) (hx : sgn v = x) (w : World) => (hx ▸ signed_any v hv w : Calls Tryd.prog 69 #[.int .u32 v] w fun e w' => e = .returned (.int .i64 x) ∧ w' = w))
  have HT := hide truth_any
  obtain ⟨x, hx⟩ : ∃ x, sgn a = x := ⟨_, rfl⟩
  obtain ⟨y, hy⟩ : ∃ y, sgn b = y := ⟨_, rfl⟩
  have HX : Hid (((oneN (decide (x < y)) : Nat) : Int) = (doN 3 a b : Int)) := by show _ = _; rw [← hx, ← hy]; rfl
  go_enter Tryd.func32, Tryd.ntmps32
  go_wp2
  have hn : b % 32 ≤ 31 := by omega
  go_loop [9, 10] (fun p i => ∃ k : Nat, k ≤ b % 32 ∧ i = .int .i64 k ∧ p = .int .i64 ((2 ^ k : Nat) : Int)) (fun _ i => b % 32 - (intOf i).toNat)
  case atStart => exact ⟨0, Nat.zero_le _, rfl, rfl⟩
  case round =>
    obtain ⟨k, hk, rfl, rfl⟩ := hrel
    have hp := pow_le31 k (by omega)
    have hp1 := pow_one k
    by_cases hlt : k < b % 32
    · have HS : Hid (2 ^ k * 2 = 2 ^ (k + 1)) := by show _ = _; rw [← Nat.pow_succ]
      generalize 2 ^ k = p at *
      go_wp2
      refine ⟨⟨k + 1, by omega, rfl, ?_⟩, by simp [intOf]; omega⟩
      rw [← HS.out]; go_num
    · obtain rfl : k = b % 32 := by omega
      generalize 2 ^ (b % 32) = P at *
      go_wp2_with (first | (go_at_call 65; refine (HW.out _ _ (by assumption) (by assumption) _ _ _).mono ?_; rintro e w1 ⟨rfl, rfl⟩) | (go_at_call 66; refine (HP.out _ _ (by assumption) (by assumption) _ _).mono ?_; rintro e w2 ⟨rfl, rfl⟩) | (go_at_call 69; refine (HG.out _ (by assumption) _ (by assumption) _).mono ?_; rintro e w3 ⟨rfl, rfl⟩) | (go_at_call 68; refine (HT.out _ _).mono ?_; rintro e w3 ⟨rfl, rfl⟩))
      go_ret2
      exact ⟨ret_zero HX.out, rfl⟩
set_option maxHeartbeats 1000000 in
theorem refdo_4 (a b : Nat) (ha : a < 4294967296) (hb : b < 4294967296) (w : World) :
    Calls Tryd.prog 32 #[.int .i64 4, .int .u32 a, .int .u32 b] w fun e w' => e = .returned (.tuple #[.int .u32 (doN 4 a b : Nat), .int .i64 0]) ∧ w' = w := by
  have HW := hide refwide_any
  have HP := hide refparts_any
  have HT := hide truth_any
  go_enter Tryd.func32, Tryd.ntmps32
  go_wp2
  have hn : b % 32 ≤ 31 := by omega
  go_loop [9, 10] (fun p i => ∃ k : Nat, k ≤ b % 32 ∧ i = .int .i64 k ∧ p = .int .i64 ((2 ^ k : Nat) : Int)) (fun _ i => b % 32 - (intOf i).toNat)
  case atStart => exact ⟨0, Nat.zero_le _, rfl, rfl⟩
  case round =>
    obtain ⟨k, hk, rfl, rfl⟩ := hrel
    have hp := pow_le31 k (by omega)
    have hp1 := pow_one k
    by_cases hlt : k < b % 32
    · have HS : Hid (2 ^ k * 2 = 2 ^ (k + 1)) := by show _ = _; rw [← Nat.pow_succ]
      generalize 2 ^ k = p at *
      go_wp2
      refine ⟨⟨k + 1, by omega, rfl, ?_⟩, by simp [intOf]; omega⟩
      rw [← HS.out]; go_num
    · obtain rfl : k = b % 32 := by omega
      generalize 2 ^ (b % 32) = P at *
      go_wp2_with (first | (go_at_call 65; refine (HW.out _ _ (by assumption) (by assumption) _ _ _).mono ?_; rintro e w1 ⟨rfl, rfl⟩) | (go_at_call 66; refine (HP.out _ _ (by assumption) (by assumption) _ _).mono ?_; rintro e w2 ⟨rfl, rfl⟩) | (go_at_call 68; refine (HT.out _ _).mono ?_; rintro e w3 ⟨rfl, rfl⟩))
      go_ret2
      exact ⟨rfl, rfl⟩
set_option maxHeartbeats 1000000 in
theorem refdo_5 (a b : Nat) (ha : a < 4294967296) (hb : b < 4294967296) (w : World) :
    Calls Tryd.prog 32 #[.int .i64 5, .int .u32 a, .int .u32 b] w fun e w' => e = .returned (.tuple #[.int .u32 (doN 5 a b : Nat), .int .i64 0]) ∧ w' = w := by
  have HW := hide refwide_any
  have HP := hide refparts_any
  have HQ := hide (gates_any 5 a b (by decide) ha hb)
  rw [gates_xor a b ha hb] at HQ
  rw [show ((5 : Nat) : Int) = 5 from rfl] at HQ
  go_enter Tryd.func32, Tryd.ntmps32
  go_wp2
  have hn : b % 32 ≤ 31 := by omega
  go_loop [9, 10] (fun p i => ∃ k : Nat, k ≤ b % 32 ∧ i = .int .i64 k ∧ p = .int .i64 ((2 ^ k : Nat) : Int)) (fun _ i => b % 32 - (intOf i).toNat)
  case atStart => exact ⟨0, Nat.zero_le _, rfl, rfl⟩
  case round =>
    obtain ⟨k, hk, rfl, rfl⟩ := hrel
    have hp := pow_le31 k (by omega)
    have hp1 := pow_one k
    by_cases hlt : k < b % 32
    · have HS : Hid (2 ^ k * 2 = 2 ^ (k + 1)) := by show _ = _; rw [← Nat.pow_succ]
      generalize 2 ^ k = p at *
      go_wp2
      refine ⟨⟨k + 1, by omega, rfl, ?_⟩, by simp [intOf]; omega⟩
      rw [← HS.out]; go_num
    · obtain rfl : k = b % 32 := by omega
      generalize 2 ^ (b % 32) = P at *
      go_wp2_with (first | (go_at_call 65; refine (HW.out _ _ (by assumption) (by assumption) _ _ _).mono ?_; rintro e w1 ⟨rfl, rfl⟩) | (go_at_call 66; refine (HP.out _ _ (by assumption) (by assumption) _ _).mono ?_; rintro e w2 ⟨rfl, rfl⟩) | (go_at_call 70; refine (HQ.out _).mono ?_; rintro e w3 ⟨rfl, rfl⟩))
      go_ret2
      exact ⟨rfl, rfl⟩
set_option maxHeartbeats 1000000 in
theorem refdo_6 (a b : Nat) (ha : a < 4294967296) (hb : b < 4294967296) (w : World) :
    Calls Tryd.prog 32 #[.int .i64 6, .int .u32 a, .int .u32 b] w fun e w' => e = .returned (.tuple #[.int .u32 (doN 6 a b : Nat), .int .i64 0]) ∧ w' = w := by
  have HW := hide refwide_any
  have HP := hide refparts_any
  have HWd := hide word_any
  have hd : (a : Int) / ((2 ^ (b % 32) : Nat) : Int) = (doN 6 a b : Int) := rfl
  have hz : doN 6 a b ≤ a := Nat.div_le_self _ _
  have HX : Hid ((aWrd (doN 6 a b : Int) : Int) = (doN 6 a b : Int)) := by show _ = _; rw [wordN_cast]; omega
  generalize doN 6 a b = z at *
  go_enter Tryd.func32, Tryd.ntmps32
  go_wp2
  have hn : b % 32 ≤ 31 := by omega
  go_loop [9, 10] (fun p i => ∃ k : Nat, k ≤ b % 32 ∧ i = .int .i64 k ∧ p = .int .i64 ((2 ^ k : Nat) : Int)) (fun _ i => b % 32 - (intOf i).toNat)
  case atStart => exact ⟨0, Nat.zero_le _, rfl, rfl⟩
  case round =>
    obtain ⟨k, hk, rfl, rfl⟩ := hrel
    have hp := pow_le31 k (by omega)
    have hp1 := pow_one k
    by_cases hlt : k < b % 32
    · have HS : Hid (2 ^ k * 2 = 2 ^ (k + 1)) := by show _ = _; rw [← Nat.pow_succ]
      generalize 2 ^ k = p at *
      go_wp2
      refine ⟨⟨k + 1, by omega, rfl, ?_⟩, by simp [intOf]; omega⟩
      rw [← HS.out]; go_num
    · obtain rfl : k = b % 32 := by omega
      generalize 2 ^ (b % 32) = P at *
      go_wp2_with (first | (go_at_call 65; refine (HW.out _ _ (by assumption) (by assumption) _ _ _).mono ?_; rintro e w1 ⟨rfl, rfl⟩) | (go_at_call 66; refine (HP.out _ _ (by assumption) (by assumption) _ _).mono ?_; rintro e w2 ⟨rfl, rfl⟩) | (go_at_call 67; refine (HWd.out _ (by first | assumption | omega) (by first | assumption | omega) _).mono ?_; rintro e w3 ⟨rfl, rfl⟩))
      go_ret2
      exact ⟨ret_zero HX.out, rfl⟩
set_option maxHeartbeats 1000000 in
theorem refdo_7n (a b : Nat) (ha : a < 4294967296) (hb : b < 4294967296) (hs : sgn a < 0) (w : World) :
    Calls Tryd.prog 32 #[.int .i64 7, .int .u32 a, .int .u32 b] w fun e w' => e = .returned (.tuple #[.int .u32 (doN 7 a b : Nat), .int .i64 0]) ∧ w' = w := by
  have HW := hide refwide_any
  have HP := hide refparts_any
  have HG := hide (fun (v : Nat) (hv : v < 4294967296) (x : Int) (hx : sgn v = x) (w : World) => (hx ▸ signed_any v hv w : Calls Tryd.prog 69 #[.int .u32 v] w fun e w' => e = .returned (.int .i64 x) ∧ w' = w))
  have HWd := hide word_any
  obtain ⟨x, hx⟩ : ∃ x, sgn a = x := ⟨_, rfl⟩
  have s1 := sgn_lo a ha
  have s2 := sgn_hi a ha
  rw [hx] at s1 s2 hs
  have hb1 := div_lo x (2 ^ (b % 32)) (pow_one _) (by omega)
  have hb2 := div_hi x (2 ^ (b % 32)) (pow_one _) (by omega)
  have hd := sra_doc x (2 ^ (b % 32)) (pow_one _)
  obtain ⟨t, ht⟩ : ∃ t, x / ((2 ^ (b % 32) : Nat) : Int) = t := ⟨_, rfl⟩
  have HX : Hid ((aWrd t : Int) = (doN 7 a b : Int)) := by show _ = _; rw [← ht, ← hx]; simp [doN]
  rw [ht] at hd hb1 hb2
  generalize doN 7 a b = z at *
  replace hd : (-x + ((2 ^ (b % 32) : Nat) : Int) - 1) / ((2 ^ (b % 32) : Nat) : Int) = -t := by rw [← hd hs, Int.neg_neg]
  clear ht
  go_enter Tryd.func32, Tryd.ntmps32
  go_wp2
  have hn : b % 32 ≤ 31 := by omega
  go_loop [9, 10] (fun p i => ∃ k : Nat, k ≤ b % 32 ∧ i = .int .i64 k ∧ p = .int .i64 ((2 ^ k : Nat) : Int)) (fun _ i => b % 32 - (intOf i).toNat)
  case atStart => exact ⟨0, Nat.zero_le _, rfl, rfl⟩
  case round =>
    obtain ⟨k, hk, rfl, rfl⟩ := hrel
    have hp := pow_le31 k (by omega)
    have hp1 := pow_one k
    by_cases hlt : k < b % 32
    · have HS : Hid (2 ^ k * 2 = 2 ^ (k + 1)) := by show _ = _; rw [← Nat.pow_succ]
      generalize 2 ^ k = p at *
      go_wp2
      refine ⟨⟨k + 1, by omega, rfl, ?_⟩, by simp [intOf]; omega⟩
      rw [← HS.out]; go_num
    · obtain rfl : k = b % 32 := by omega
      generalize 2 ^ (b % 32) = P at *
      go_wp2_with (first | (go_at_call 65; refine (HW.out _ _ (by assumption) (by assumption) _ _ _).mono ?_; rintro e w1 ⟨rfl, rfl⟩) | (go_at_call 66; refine (HP.out _ _ (by assumption) (by assumption) _ _).mono ?_; rintro e w2 ⟨rfl, rfl⟩) | (go_at_call 69; refine (HG.out _ (by assumption) _ (by assumption) _).mono ?_; rintro e w3 ⟨rfl, rfl⟩) | (go_at_call 67; refine (HWd.out _ (by first | assumption | omega) (by first | assumption | omega) _).mono ?_; rintro e w3 ⟨rfl, rfl⟩))
      go_ret2
      exact ⟨ret_zero HX.out, rfl⟩
set_option maxHeartbeats 1000000 in
theorem refdo_7p (a b : Nat) (ha : a < 4294967296) (hb : b < 4294967296) (hs : 0 ≤ sgn a) (w : World) :
    Calls Tryd.prog 32 #[.int .i64 7, .int .u32 a, .int .u32 b] w fun e w' => e = .returned (.tuple #[.int .u32 (doN 7 a b : Nat), .int .i64 0]) ∧ w' = w := by
  have HW := hide refwide_any
  have HP := hide refparts_any
  have HG := hide (fun (v : Nat) (hv : v < 4294967296) (x : Int) (hx : sgn v = x) (w : World) => (hx ▸ signed_any v hv w : Calls Tryd.prog 69 #[.int .u32 v] w fun e w' => e = .returned (.int .i64 x) ∧ w' = w))
  have HWd := hide word_any
  obtain ⟨x, hx⟩ : ∃ x, sgn a = x := ⟨_, rfl⟩
  have s1 := sgn_lo a ha
  have s2 := sgn_hi a ha
  rw [hx] at s1 s2 hs
  have hb1 := div_lo x (2 ^ (b % 32)) (pow_one _) (by omega)
  have hb2 := div_hi x (2 ^ (b % 32)) (pow_one _) (by omega)
  have hd := sra_doc x (2 ^ (b % 32)) (pow_one _)
  obtain ⟨t, ht⟩ : ∃ t, x / ((2 ^ (b % 32) : Nat) : Int) = t := ⟨_, rfl⟩
  have HX : Hid ((aWrd t : Int) = (doN 7 a b : Int)) := by show _ = _; rw [← ht, ← hx]; simp [doN]
  rw [ht] at hd hb1 hb2
  generalize doN 7 a b = z at *
  clear hd
  go_enter Tryd.func32, Tryd.ntmps32
  go_wp2
  have hn : b % 32 ≤ 31 := by omega
  go_loop [9, 10] (fun p i => ∃ k : Nat, k ≤ b % 32 ∧ i = .int .i64 k ∧ p = .int .i64 ((2 ^ k : Nat) : Int)) (fun _ i => b % 32 - (intOf i).toNat)
  case atStart => exact ⟨0, Nat.zero_le _, rfl, rfl⟩
  case round =>
    obtain ⟨k, hk, rfl, rfl⟩ := hrel
    have hp := pow_le31 k (by omega)
    have hp1 := pow_one k
    by_cases hlt : k < b % 32
    · have HS : Hid (2 ^ k * 2 = 2 ^ (k + 1)) := by show _ = _; rw [← Nat.pow_succ]
      generalize 2 ^ k = p at *
      go_wp2
      refine ⟨⟨k + 1, by omega, rfl, ?_⟩, by simp [intOf]; omega⟩
      rw [← HS.out]; go_num
    · obtain rfl : k = b % 32 := by omega
      generalize 2 ^ (b % 32) = P at *
      go_wp2_with (first | (go_at_call 65; refine (HW.out _ _ (by assumption) (by assumption) _ _ _).mono ?_; rintro e w1 ⟨rfl, rfl⟩) | (go_at_call 66; refine (HP.out _ _ (by assumption) (by assumption) _ _).mono ?_; rintro e w2 ⟨rfl, rfl⟩) | (go_at_call 69; refine (HG.out _ (by assumption) _ (by assumption) _).mono ?_; rintro e w3 ⟨rfl, rfl⟩) | (go_at_call 67; refine (HWd.out _ (by first | assumption | omega) (by first | assumption | omega) _).mono ?_; rintro e w3 ⟨rfl, rfl⟩))
      go_ret2
      exact ⟨ret_zero HX.out, rfl⟩
theorem refdo_7 (a b : Nat) (ha : a < 4294967296) (hb : b < 4294967296) (w : World) :
    Calls Tryd.prog 32 #[.int .i64 7, .int .u32 a, .int .u32 b] w fun e w' => e = .returned (.tuple #[.int .u32 (doN 7 a b : Nat), .int .i64 0]) ∧ w' = w := by
  by_cases h : sgn a < 0
  · exact refdo_7n a b ha hb h w
  · exact refdo_7p a b ha hb (by omega) w

set_option maxHeartbeats 1000000 in
theorem refdo_8 (a b : Nat) (ha : a < 4294967296) (hb : b < 4294967296) (w : World) :
    Calls Tryd.prog 32 #[.int .i64 8, .int .u32 a, .int .u32 b] w fun e w' => e = .returned (.tuple #[.int .u32 (doN 8 a b : Nat), .int .i64 0]) ∧ w' = w := by
  have HW := hide refwide_any
  have HP := hide refparts_any
  have HQ := hide (gates_any 8 a b (by decide) ha hb)
  rw [gates_or a b ha hb] at HQ
  rw [show ((8 : Nat) : Int) = 8 from rfl] at HQ
  go_enter Tryd.func32, Tryd.ntmps32
  go_wp2
  have hn : b % 32 ≤ 31 := by omega
  go_loop [9, 10] (fun p i => ∃ k : Nat, k ≤ b % 32 ∧ i = .int .i64 k ∧ p = .int .i64 ((2 ^ k : Nat) : Int)) (fun _ i => b % 32 - (intOf i).toNat)
  case atStart => exact ⟨0, Nat.zero_le _, rfl, rfl⟩
  case round =>
    obtain ⟨k, hk, rfl, rfl⟩ := hrel
    have hp := pow_le31 k (by omega)
    have hp1 := pow_one k
    by_cases hlt : k < b % 32
    · have HS : Hid (2 ^ k * 2 = 2 ^ (k + 1)) := by show _ = _; rw [← Nat.pow_succ]
      generalize 2 ^ k = p at *
      go_wp2
      refine ⟨⟨k + 1, by omega, rfl, ?_⟩, by simp [intOf]; omega⟩
      rw [← HS.out]; go_num
    · obtain rfl : k = b % 32 := by omega
      generalize 2 ^ (b % 32) = P at *
      go_wp2_with (first | (go_at_call 65; refine (HW.out _ _ (by assumption) (by assumption) _ _ _).mono ?_; rintro e w1 ⟨rfl, rfl⟩) | (go_at_call 66; refine (HP.out _ _ (by assumption) (by assumption) _ _).mono ?_; rintro e w2 ⟨rfl, rfl⟩) | (go_at_call 70; refine (HQ.out _).mono ?_; rintro e w3 ⟨rfl, rfl⟩))
      go_ret2
      exact ⟨rfl, rfl⟩
set_option maxHeartbeats 1000000 in
theorem refdo_9 (a b : Nat) (ha : a < 4294967296) (hb : b < 4294967296) (w : World) :
    Calls Tryd.prog 32 #[.int .i64 9, .int .u32 a, .int .u32 b] w fun e w' => e = .returned (.tuple #[.int .u32 (doN 9 a b : Nat), .int .i64 0]) ∧ w' = w := by
  have HW := hide refwide_any
  have HP := hide refparts_any
  have HQ := hide (gates_any 9 a b (by decide) ha hb)
  rw [gates_and a b ha hb] at HQ
  rw [show ((9 : Nat) : Int) = 9 from rfl] at HQ
  go_enter Tryd.func32, Tryd.ntmps32
  go_wp2
  have hn : b % 32 ≤ 31 := by omega
  go_loop [9, 10] (fun p i => ∃ k : Nat, k ≤ b % 32 ∧ i = .int .i64 k ∧ p = .int .i64 ((2 ^ k : Nat) : Int)) (fun _ i => b % 32 - (intOf i).toNat)
  case atStart => exact ⟨0, Nat.zero_le _, rfl, rfl⟩
  case round =>
    obtain ⟨k, hk, rfl, rfl⟩ := hrel
    have hp := pow_le31 k (by omega)
    have hp1 := pow_one k
    by_cases hlt : k < b % 32
    · have HS : Hid (2 ^ k * 2 = 2 ^ (k + 1)) := by show _ = _; rw [← Nat.pow_succ]
      generalize 2 ^ k = p at *
      go_wp2
      refine ⟨⟨k + 1, by omega, rfl, ?_⟩, by simp [intOf]; omega⟩
      rw [← HS.out]; go_num
    · obtain rfl : k = b % 32 := by omega
      generalize 2 ^ (b % 32) = P at *
      go_wp2_with (first | (go_at_call 65; refine (HW.out _ _ (by assumption) (by assumption) _ _ _).mono ?_; rintro e w1 ⟨rfl, rfl⟩) | (go_at_call 66; refine (HP.out _ _ (by assumption) (by assumption) _ _).mono ?_; rintro e w2 ⟨rfl, rfl⟩) | (go_at_call 70; refine (HQ.out _).mono ?_; rintro e w3 ⟨rfl, rfl⟩))
      go_ret2
      exact ⟨rfl, rfl⟩
set_option maxHeartbeats 1000000 in
theorem refdo_10 (a b : Nat) (ha : a < 4294967296) (hb : b < 4294967296) (w : World) :
    Calls Tryd.prog 32 #[.int .i64 10, .int .u32 a, .int .u32 b] w fun e w' => e = .returned (.tuple #[.int .u32 (doN 10 a b : Nat), .int .i64 0]) ∧ w' = w := by
  have HW := hide refwide_any
  have HP := hide refparts_any
  go_enter Tryd.func32, Tryd.ntmps32
  go_wp2
  have hn : b % 32 ≤ 31 := by omega
  go_loop [9, 10] (fun p i => ∃ k : Nat, k ≤ b % 32 ∧ i = .int .i64 k ∧ p = .int .i64 ((2 ^ k : Nat) : Int)) (fun _ i => b % 32 - (intOf i).toNat)
  case atStart => exact ⟨0, Nat.zero_le _, rfl, rfl⟩
  case round =>
    obtain ⟨k, hk, rfl, rfl⟩ := hrel
    have hp := pow_le31 k (by omega)
    have hp1 := pow_one k
    by_cases hlt : k < b % 32
    · have HS : Hid (2 ^ k * 2 = 2 ^ (k + 1)) := by show _ = _; rw [← Nat.pow_succ]
      generalize 2 ^ k = p at *
      go_wp2
      refine ⟨⟨k + 1, by omega, rfl, ?_⟩, by simp [intOf]; omega⟩
      rw [← HS.out]; go_num
    · obtain rfl : k = b % 32 := by omega
      generalize 2 ^ (b % 32) = P at *
      go_wp2_with (first | (go_at_call 65; refine (HW.out _ _ (by assumption) (by assumption) _ _ _).mono ?_; rintro e w1 ⟨rfl, rfl⟩) | (go_at_call 66; refine (HP.out _ _ (by assumption) (by assumption) _ _).mono ?_; rintro e w2 ⟨rfl, rfl⟩))
      go_ret2
      exact ⟨rfl, rfl⟩
set_option maxHeartbeats 1000000 in
theorem refdo_11 (a b : Nat) (ha : a < 4294967296) (hb : b < 4294967296) (w : World) :
    Calls Tryd.prog 32 #[.int .i64 11, .int .u32 a, .int .u32 b] w fun e w' => e = .returned (.tuple #[.int .u32 (doN 11 a b : Nat), .int .i64 0]) ∧ w' = w := by
  have HW := hide refwide_any
  have HP := hide refparts_any
  go_enter Tryd.func32, Tryd.ntmps32
  go_wp2
  have hn : b % 32 ≤ 31 := by omega
  go_loop [9, 10] (fun p i => ∃ k : Nat, k ≤ b % 32 ∧ i = .int .i64 k ∧ p = .int .i64 ((2 ^ k : Nat) : Int)) (fun _ i => b % 32 - (intOf i).toNat)
  case atStart => exact ⟨0, Nat.zero_le _, rfl, rfl⟩
  case round =>
    obtain ⟨k, hk, rfl, rfl⟩ := hrel
    have hp := pow_le31 k (by omega)
    have hp1 := pow_one k
    by_cases hlt : k < b % 32
    · have HS : Hid (2 ^ k * 2 = 2 ^ (k + 1)) := by show _ = _; rw [← Nat.pow_succ]
      generalize 2 ^ k = p at *
      go_wp2
      refine ⟨⟨k + 1, by omega, rfl, ?_⟩, by simp [intOf]; omega⟩
      rw [← HS.out]; go_num
    · obtain rfl : k = b % 32 := by omega
      generalize 2 ^ (b % 32) = P at *
      go_wp2_with (first | (go_at_call 65; refine (HW.out _ _ (by assumption) (by assumption) _ _ _).mono ?_; rintro e w1 ⟨rfl, rfl⟩) | (go_at_call 66; refine (HP.out _ _ (by assumption) (by assumption) _ _).mono ?_; rintro e w2 ⟨rfl, rfl⟩))
      go_ret2
      exact ⟨rfl, rfl⟩
set_option maxHeartbeats 1000000 in
theorem refdo_12 (a b : Nat) (ha : a < 4294967296) (hb : b < 4294967296) (w : World) :
    Calls Tryd.prog 32 #[.int .i64 12, .int .u32 a, .int .u32 b] w fun e w' => e = .returned (.tuple #[.int .u32 (doN 12 a b : Nat), .int .i64 0]) ∧ w' = w := by
  have HW := hide refwide_any
  have HP := hide refparts_any
  go_enter Tryd.func32, Tryd.ntmps32
  go_wp2
  have hn : b % 32 ≤ 31 := by omega
  go_loop [9, 10] (fun p i => ∃ k : Nat, k ≤ b % 32 ∧ i = .int .i64 k ∧ p = .int .i64 ((2 ^ k : Nat) : Int)) (fun _ i => b % 32 - (intOf i).toNat)
  case atStart => exact ⟨0, Nat.zero_le _, rfl, rfl⟩
  case round =>
    obtain ⟨k, hk, rfl, rfl⟩ := hrel
    have hp := pow_le31 k (by omega)
    have hp1 := pow_one k
    by_cases hlt : k < b % 32
    · have HS : Hid (2 ^ k * 2 = 2 ^ (k + 1)) := by show _ = _; rw [← Nat.pow_succ]
      generalize 2 ^ k = p at *
      go_wp2
      refine ⟨⟨k + 1, by omega, rfl, ?_⟩, by simp [intOf]; omega⟩
      rw [← HS.out]; go_num
    · obtain rfl : k = b % 32 := by omega
      generalize 2 ^ (b % 32) = P at *
      go_wp2_with (first | (go_at_call 65; refine (HW.out _ _ (by assumption) (by assumption) _ _ _).mono ?_; rintro e w1 ⟨rfl, rfl⟩) | (go_at_call 66; refine (HP.out _ _ (by assumption) (by assumption) _ _).mono ?_; rintro e w2 ⟨rfl, rfl⟩))
      go_ret2
      exact ⟨rfl, rfl⟩
set_option maxHeartbeats 1000000 in
theorem refdo_13 (a b : Nat) (ha : a < 4294967296) (hb : b < 4294967296) (w : World) :
    Calls Tryd.prog 32 #[.int .i64 13, .int .u32 a, .int .u32 b] w fun e w' => e = .returned (.tuple #[.int .u32 (doN 13 a b : Nat), .int .i64 0]) ∧ w' = w := by
  have HW := hide refwide_any
  have HP := hide refparts_any
  go_enter Tryd.func32, Tryd.ntmps32
  go_wp2
  have hn : b % 32 ≤ 31 := by omega
  go_loop [9, 10] (fun p i => ∃ k : Nat, k ≤ b % 32 ∧ i = .int .i64 k ∧ p = .int .i64 ((2 ^ k : Nat) : Int)) (fun _ i => b % 32 - (intOf i).toNat)
  case atStart => exact ⟨0, Nat.zero_le _, rfl, rfl⟩
  case round =>
    obtain ⟨k, hk, rfl, rfl⟩ := hrel
    have hp := pow_le31 k (by omega)
    have hp1 := pow_one k
    by_cases hlt : k < b % 32
    · have HS : Hid (2 ^ k * 2 = 2 ^ (k + 1)) := by show _ = _; rw [← Nat.pow_succ]
      generalize 2 ^ k = p at *
      go_wp2
      refine ⟨⟨k + 1, by omega, rfl, ?_⟩, by simp [intOf]; omega⟩
      rw [← HS.out]; go_num
    · obtain rfl : k = b % 32 := by omega
      generalize 2 ^ (b % 32) = P at *
      go_wp2_with (first | (go_at_call 65; refine (HW.out _ _ (by assumption) (by assumption) _ _ _).mono ?_; rintro e w1 ⟨rfl, rfl⟩) | (go_at_call 66; refine (HP.out _ _ (by assumption) (by assumption) _ _).mono ?_; rintro e w2 ⟨rfl, rfl⟩))
      go_ret2
      exact ⟨rfl, rfl⟩
set_option maxHeartbeats 1000000 in
theorem refdo_14 (a b : Nat) (ha : a < 4294967296) (hb : b < 4294967296) (w : World) :
    Calls Tryd.prog 32 #[.int .i64 14, .int .u32 a, .int .u32 b] w fun e w' => e = .returned (.tuple #[.int .u32 (doN 14 a b : Nat), .int .i64 0]) ∧ w' = w := by
  have HW := hide refwide_any
  have HP := hide refparts_any
  go_enter Tryd.func32, Tryd.ntmps32
  go_wp2
  have hn : b % 32 ≤ 31 := by omega
  go_loop [9, 10] (fun p i => ∃ k : Nat, k ≤ b % 32 ∧ i = .int .i64 k ∧ p = .int .i64 ((2 ^ k : Nat) : Int)) (fun _ i => b % 32 - (intOf i).toNat)
  case atStart => exact ⟨0, Nat.zero_le _, rfl, rfl⟩
  case round =>
    obtain ⟨k, hk, rfl, rfl⟩ := hrel
    have hp := pow_le31 k (by omega)
    have hp1 := pow_one k
    by_cases hlt : k < b % 32
    · have HS : Hid (2 ^ k * 2 = 2 ^ (k + 1)) := by show _ = _; rw [← Nat.pow_succ]
      generalize 2 ^ k = p at *
      go_wp2
      refine ⟨⟨k + 1, by omega, rfl, ?_⟩, by simp [intOf]; omega⟩
      rw [← HS.out]; go_num
    · obtain rfl : k = b % 32 := by omega
      generalize 2 ^ (b % 32) = P at *
      go_wp2_with (first | (go_at_call 65; refine (HW.out _ _ (by assumption) (by assumption) _ _ _).mono ?_; rintro e w1 ⟨rfl, rfl⟩) | (go_at_call 66; refine (HP.out _ _ (by assumption) (by assumption) _ _).mono ?_; rintro e w2 ⟨rfl, rfl⟩))
      go_ret2
      exact ⟨rfl, rfl⟩
set_option maxHeartbeats 1000000 in
theorem refdo_15 (a b : Nat) (ha : a < 4294967296) (hb : b < 4294967296) (w : World) :
    Calls Tryd.prog 32 #[.int .i64 15, .int .u32 a, .int .u32 b] w fun e w' => e = .returned (.tuple #[.int .u32 (doN 15 a b : Nat), .int .i64 0]) ∧ w' = w := by
  have HW := hide refwide_any
  have HP := hide refparts_any
  go_enter Tryd.func32, Tryd.ntmps32
  go_wp2
  have hn : b % 32 ≤ 31 := by omega
  go_loop [9, 10] (fun p i => ∃ k : Nat, k ≤ b % 32 ∧ i = .int .i64 k ∧ p = .int .i64 ((2 ^ k : Nat) : Int)) (fun _ i => b % 32 - (intOf i).toNat)
  case atStart => exact ⟨0, Nat.zero_le _, rfl, rfl⟩
  case round =>
    obtain ⟨k, hk, rfl, rfl⟩ := hrel
    have hp := pow_le31 k (by omega)
    have hp1 := pow_one k
    by_cases hlt : k < b % 32
    · have HS : Hid (2 ^ k * 2 = 2 ^ (k + 1)) := by show _ = _; rw [← Nat.pow_succ]
      generalize 2 ^ k = p at *
      go_wp2
      refine ⟨⟨k + 1, by omega, rfl, ?_⟩, by simp [intOf]; omega⟩
      rw [← HS.out]; go_num
    · obtain rfl : k = b % 32 := by omega
      generalize 2 ^ (b % 32) = P at *
      go_wp2_with (first | (go_at_call 65; refine (HW.out _ _ (by assumption) (by assumption) _ _ _).mono ?_; rintro e w1 ⟨rfl, rfl⟩) | (go_at_call 66; refine (HP.out _ _ (by assumption) (by assumption) _ _).mono ?_; rintro e w2 ⟨rfl, rfl⟩))
      go_ret2
      exact ⟨rfl, rfl⟩
set_option maxHeartbeats 1000000 in
theorem refdo_16 (a b : Nat) (ha : a < 4294967296) (hb : b < 4294967296) (w : World) :
    Calls Tryd.prog 32 #[.int .i64 16, .int .u32 a, .int .u32 b] w fun e w' => e = .returned (.tuple #[.int .u32 (doN 16 a b : Nat), .int .i64 0]) ∧ w' = w := by
  have HW := hide refwide_any
  have HP := hide refparts_any
  go_enter Tryd.func32, Tryd.ntmps32
  go_wp2
  have hn : b % 32 ≤ 31 := by omega
  go_loop [9, 10] (fun p i => ∃ k : Nat, k ≤ b % 32 ∧ i = .int .i64 k ∧ p = .int .i64 ((2 ^ k : Nat) : Int)) (fun _ i => b % 32 - (intOf i).toNat)
  case atStart => exact ⟨0, Nat.zero_le _, rfl, rfl⟩
  case round =>
    obtain ⟨k, hk, rfl, rfl⟩ := hrel
    have hp := pow_le31 k (by omega)
    have hp1 := pow_one k
    by_cases hlt : k < b % 32
    · have HS : Hid (2 ^ k * 2 = 2 ^ (k + 1)) := by show _ = _; rw [← Nat.pow_succ]
      generalize 2 ^ k = p at *
      go_wp2
      refine ⟨⟨k + 1, by omega, rfl, ?_⟩, by simp [intOf]; omega⟩
      rw [← HS.out]; go_num
    · obtain rfl : k = b % 32 := by omega
      generalize 2 ^ (b % 32) = P at *
      go_wp2_with (first | (go_at_call 65; refine (HW.out _ _ (by assumption) (by assumption) _ _ _).mono ?_; rintro e w1 ⟨rfl, rfl⟩) | (go_at_call 66; refine (HP.out _ _ (by assumption) (by assumption) _ _).mono ?_; rintro e w2 ⟨rfl, rfl⟩))
      go_ret2
      exact ⟨rfl, rfl⟩
set_option maxHeartbeats 1000000 in
theorem refdo_17 (a b : Nat) (ha : a < 4294967296) (hb : b < 4294967296) (w : World) :
    Calls Tryd.prog 32 #[.int .i64 17, .int .u32 a, .int .u32 b] w fun e w' => e = .returned (.tuple #[.int .u32 (doN 17 a b : Nat), .int .i64 0]) ∧ w' = w := by
  have HW := hide refwide_any
  have HP := hide refparts_any
  go_enter Tryd.func32, Tryd.ntmps32
  go_wp2
  have hn : b % 32 ≤ 31 := by omega
  go_loop [9, 10] (fun p i => ∃ k : Nat, k ≤ b % 32 ∧ i = .int .i64 k ∧ p = .int .i64 ((2 ^ k : Nat) : Int)) (fun _ i => b % 32 - (intOf i).toNat)
  case atStart => exact ⟨0, Nat.zero_le _, rfl, rfl⟩
  case round =>
    obtain ⟨k, hk, rfl, rfl⟩ := hrel
    have hp := pow_le31 k (by omega)
    have hp1 := pow_one k
    by_cases hlt : k < b % 32
    · have HS : Hid (2 ^ k * 2 = 2 ^ (k + 1)) := by show _ = _; rw [← Nat.pow_succ]
      generalize 2 ^ k = p at *
      go_wp2
      refine ⟨⟨k + 1, by omega, rfl, ?_⟩, by simp [intOf]; omega⟩
      rw [← HS.out]; go_num
    · obtain rfl : k = b % 32 := by omega
      generalize 2 ^ (b % 32) = P at *
      go_wp2_with (first | (go_at_call 65; refine (HW.out _ _ (by assumption) (by assumption) _ _ _).mono ?_; rintro e w1 ⟨rfl, rfl⟩) | (go_at_call 66; refine (HP.out _ _ (by assumption) (by assumption) _ _).mono ?_; rintro e w2 ⟨rfl, rfl⟩))
      go_ret2
      exact ⟨rfl, rfl⟩
theorem refdo_any (op : Nat) (hop : op < 18) (a b : Nat) (ha : a < 4294967296) (hb : b < 4294967296) (w : World) :
    Calls Tryd.prog 32 #[.int .i64 (op : Nat), .int .u32 a, .int .u32 b] w fun e w' => e = .returned (.tuple #[.int .u32 (doN op a b : Nat), .int .i64 0]) ∧ w' = w :=
  match op, hop with
  | 0, _ => refdo_0 a b ha hb w
  | 1, _ => refdo_1 a b ha hb w
  | 2, _ => refdo_2 a b ha hb w
  | 3, _ => refdo_3 a b ha hb w
  | 4, _ => refdo_4 a b ha hb w
  | 5, _ => refdo_5 a b ha hb w
  | 6, _ => refdo_6 a b ha hb w
  | 7, _ => refdo_7 a b ha hb w
  | 8, _ => refdo_8 a b ha hb w
  | 9, _ => refdo_9 a b ha hb w
  | 10, _ => refdo_10 a b ha hb w
  | 11, _ => refdo_11 a b ha hb w
  | 12, _ => refdo_12 a b ha hb w
  | 13, _ => refdo_13 a b ha hb w
  | 14, _ => refdo_14 a b ha hb w
  | 15, _ => refdo_15 a b ha hb w
  | 16, _ => refdo_16 a b ha hb w
  | 17, _ => refdo_17 a b ha hb w
  | n + 18, h => absurd h (by omega)

set_option maxHeartbeats 1000000 in
theorem refdo_lo (op : Int) (h : op < 0) (a b : Nat) (ha : a < 4294967296) (hb : b < 4294967296) (w : World) :
    Calls Tryd.prog 32 #[.int .i64 op, .int .u32 a, .int .u32 b] w fun e w' => e = .returned (.tuple #[.int .u32 0, .int .i64 1]) ∧ w' = w := by
  have HW := hide refwide_any
  have HP := hide refparts_any
  go_enter Tryd.func32, Tryd.ntmps32
  go_wp2
  have hn : b % 32 ≤ 31 := by omega
  go_loop [9, 10] (fun p i => ∃ k : Nat, k ≤ b % 32 ∧ i = .int .i64 k ∧ p = .int .i64 ((2 ^ k : Nat) : Int)) (fun _ i => b % 32 - (intOf i).toNat)
  case atStart => exact ⟨0, Nat.zero_le _, rfl, rfl⟩
  case round =>
    obtain ⟨k, hk, rfl, rfl⟩ := hrel
    have hp := pow_le31 k (by omega)
    have hp1 := pow_one k
    by_cases hlt : k < b % 32
    · have HS : Hid (2 ^ k * 2 = 2 ^ (k + 1)) := by show _ = _; rw [← Nat.pow_succ]
      generalize 2 ^ k = p at *
      go_wp2
      refine ⟨⟨k + 1, by omega, rfl, ?_⟩, by simp [intOf]; omega⟩
      rw [← HS.out]; go_num
    · obtain rfl : k = b % 32 := by omega
      generalize 2 ^ (b % 32) = P at *
      go_wp2_with (first | (go_at_call 65; refine (HW.out _ _ (by assumption) (by assumption) _ _ _).mono ?_; rintro e w1 ⟨rfl, rfl⟩) | (go_at_call 66; refine (HP.out _ _ (by assumption) (by assumption) _ _).mono ?_; rintro e w2 ⟨rfl, rfl⟩))
      go_ret2
      exact ⟨rfl, rfl⟩
set_option maxHeartbeats 1000000 in
theorem refdo_hi (op : Int) (h : 17 < op) (a b : Nat) (ha : a < 4294967296) (hb : b < 4294967296) (w : World) :
    Calls Tryd.prog 32 #[.int .i64 op, .int .u32 a, .int .u32 b] w fun e w' => e = .returned (.tuple #[.int .u32 0, .int .i64 1]) ∧ w' = w := by
  have HW := hide refwide_any
  have HP := hide refparts_any
  go_enter Tryd.func32, Tryd.ntmps32
  go_wp2
  have hn : b % 32 ≤ 31 := by omega
  go_loop [9, 10] (fun p i => ∃ k : Nat, k ≤ b % 32 ∧ i = .int .i64 k ∧ p = .int .i64 ((2 ^ k : Nat) : Int)) (fun _ i => b % 32 - (intOf i).toNat)
  case atStart => exact ⟨0, Nat.zero_le _, rfl, rfl⟩
  case round =>
    obtain ⟨k, hk, rfl, rfl⟩ := hrel
    have hp := pow_le31 k (by omega)
    have hp1 := pow_one k
    by_cases hlt : k < b % 32
    · have HS : Hid (2 ^ k * 2 = 2 ^ (k + 1)) := by show _ = _; rw [← Nat.pow_succ]
      generalize 2 ^ k = p at *
      go_wp2
      refine ⟨⟨k + 1, by omega, rfl, ?_⟩, by simp [intOf]; omega⟩
      rw [← HS.out]; go_num
    · obtain rfl : k = b % 32 := by omega
      generalize 2 ^ (b % 32) = P at *
      go_wp2_with (first | (go_at_call 65; refine (HW.out _ _ (by assumption) (by assumption) _ _ _).mono ?_; rintro e w1 ⟨rfl, rfl⟩) | (go_at_call 66; refine (HP.out _ _ (by assumption) (by assumption) _ _).mono ?_; rintro e w2 ⟨rfl, rfl⟩))
      go_ret2
      exact ⟨rfl, rfl⟩
end Go.Proofs.YtchjhpeogdkbmaaDoor
namespace Go.Proofs.YtchjhpeogdkbmaaDoor
open Go.RowKit
set_option linter.unusedVariables false

theorem ret_boolz {a b : Bool} (h : a = b) : Ending.returned (.tuple #[.bool a, .int .i64 0]) = .returned (.tuple #[.bool b, .int .i64 0]) := by rw [h]

set_option maxHeartbeats 400000 in
theorem refholds_0 (a b : Nat) (ha : a < 4294967296) (hb : b < 4294967296) (w : World) :
    Calls Tryd.prog 35 #[.int .i64 0, .int .u32 a, .int .u32 b] w fun e w' => e = .returned (.tuple #[.bool (holdsN 0 a b), .int .i64 0]) ∧ w' = w := by
  have HX : Hid (((a : Int) == (b : Int)) = holdsN 0 a b) := by show _ = _; rw [Bool.eq_iff_iff]; simp [holdsN]; omega
  generalize holdsN 0 a b = z at *
  go_enter Tryd.func35, Tryd.ntmps35
  go_wp2
  go_ret2
  exact ⟨ret_boolz HX.out, rfl⟩

set_option maxHeartbeats 400000 in
theorem refholds_1 (a b : Nat) (ha : a < 4294967296) (hb : b < 4294967296) (w : World) :
    Calls Tryd.prog 35 #[.int .i64 1, .int .u32 a, .int .u32 b] w fun e w' => e = .returned (.tuple #[.bool (holdsN 1 a b), .int .i64 0]) ∧ w' = w := by
  have HX : Hid (((a : Int) != (b : Int)) = holdsN 1 a b) := by show _ = _; rw [Bool.eq_iff_iff]; simp [holdsN]; omega
  generalize holdsN 1 a b = z at *
  go_enter Tryd.func35, Tryd.ntmps35
  go_wp2
  go_ret2
  exact ⟨ret_boolz HX.out, rfl⟩

set_option maxHeartbeats 400000 in
theorem refholds_2 (a b : Nat) (ha : a < 4294967296) (hb : b < 4294967296) (w : World) :
    Calls Tryd.prog 35 #[.int .i64 2, .int .u32 a, .int .u32 b] w fun e w' => e = .returned (.tuple #[.bool (holdsN 2 a b), .int .i64 0]) ∧ w' = w := by
  have HG := hide (fun (v : Nat) (hv : v < 4294967296) (x : Int) (hx : sgn v = x) (w : World) => (hx ▸ signed_any v hv w : Calls Tryd.prog 69 #[.int .u32 v] w fun e w' => e = .returned (.int .i64 x) ∧ w' = w))
  obtain ⟨x, hx⟩ : ∃ x, sgn a = x := ⟨_, rfl⟩
  obtain ⟨y, hy⟩ : ∃ y, sgn b = y := ⟨_, rfl⟩
  have HX : Hid ((decide (x < y)) = holdsN 2 a b) := by show _ = _; rw [← hx, ← hy]; rfl
  generalize holdsN 2 a b = z at *
  go_enter Tryd.func35, Tryd.ntmps35
  go_wp2_with (first | (go_at_call 69; refine (HG.out _ (by assumption) _ (by assumption) _).mono ?_; rintro e w' ⟨rfl, rfl⟩))
  go_ret2
  exact ⟨ret_boolz HX.out, rfl⟩

set_option maxHeartbeats 400000 in
theorem refholds_3 (a b : Nat) (ha : a < 4294967296) (hb : b < 4294967296) (w : World) :
    Calls Tryd.prog 35 #[.int .i64 3, .int .u32 a, .int .u32 b] w fun e w' => e = .returned (.tuple #[.bool (holdsN 3 a b), .int .i64 0]) ∧ w' = w := by
  have HG := hide (fun (v : Nat) (hv : v < 4294967296) (x : Int) (hx : sgn v = x) (w : World) => (hx ▸ signed_any v hv w : Calls Tryd.prog 69 #[.int .u32 v] w fun e w' => e = .returned (.int .i64 x) ∧ w' = w))
  obtain ⟨x, hx⟩ : ∃ x, sgn a = x := ⟨_, rfl⟩
  obtain ⟨y, hy⟩ : ∃ y, sgn b = y := ⟨_, rfl⟩
  have HX : Hid ((decide (y ≤ x)) = holdsN 3 a b) := by show _ = _; rw [← hx, ← hy]; simp only [holdsN]; rw [Bool.eq_iff_iff]; simp
  generalize holdsN 3 a b = z at *
  go_enter Tryd.func35, Tryd.ntmps35
  go_wp2_with (first | (go_at_call 69; refine (HG.out _ (by assumption) _ (by assumption) _).mono ?_; rintro e w' ⟨rfl, rfl⟩))
  go_ret2
  exact ⟨ret_boolz HX.out, rfl⟩

set_option maxHeartbeats 400000 in
theorem refholds_4 (a b : Nat) (ha : a < 4294967296) (hb : b < 4294967296) (w : World) :
    Calls Tryd.prog 35 #[.int .i64 4, .int .u32 a, .int .u32 b] w fun e w' => e = .returned (.tuple #[.bool (holdsN 4 a b), .int .i64 0]) ∧ w' = w := by
  have HX : Hid ((decide (a < b)) = holdsN 4 a b) := by show _ = _; rfl
  generalize holdsN 4 a b = z at *
  go_enter Tryd.func35, Tryd.ntmps35
  go_wp2
  go_ret2
  exact ⟨ret_boolz HX.out, rfl⟩

set_option maxHeartbeats 400000 in
theorem refholds_5 (a b : Nat) (ha : a < 4294967296) (hb : b < 4294967296) (w : World) :
    Calls Tryd.prog 35 #[.int .i64 5, .int .u32 a, .int .u32 b] w fun e w' => e = .returned (.tuple #[.bool (holdsN 5 a b), .int .i64 0]) ∧ w' = w := by
  have HX : Hid ((decide (b ≤ a)) = holdsN 5 a b) := by show _ = _; rfl
  generalize holdsN 5 a b = z at *
  go_enter Tryd.func35, Tryd.ntmps35
  go_wp2
  go_ret2
  exact ⟨ret_boolz HX.out, rfl⟩

theorem refholds_any (k : Nat) (hk : k < 6) (a b : Nat) (ha : a < 4294967296) (hb : b < 4294967296) (w : World) :
    Calls Tryd.prog 35 #[.int .i64 k, .int .u32 a, .int .u32 b] w fun e w' => e = .returned (.tuple #[.bool (holdsN k a b), .int .i64 0]) ∧ w' = w := by
  match k, hk with
  | 0, _ => exact refholds_0 a b ha hb w
  | 1, _ => exact refholds_1 a b ha hb w
  | 2, _ => exact refholds_2 a b ha hb w
  | 3, _ => exact refholds_3 a b ha hb w
  | 4, _ => exact refholds_4 a b ha hb w
  | 5, _ => exact refholds_5 a b ha hb w
  | n + 6, h => exact absurd h (by omega)

set_option maxHeartbeats 1000000 in
theorem refholds_bad (c : Int) (h : c < 0 ∨ 5 < c) (a b : Nat) (w : World) :
    Calls Tryd.prog 35 #[.int .i64 c, .int .u32 a, .int .u32 b] w fun e w' => e = .returned (.tuple #[.bool false, .int .i64 1]) ∧ w' = w := by
  rcases h with h | h
  all_goals
    go_enter Tryd.func35, Tryd.ntmps35
    go_wp2
    go_ret2
    exact ⟨rfl, rfl⟩
end Go.Proofs.YtchjhpeogdkbmaaDoor
