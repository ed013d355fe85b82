/-
  What the document's Wide, Signed, word and truth answer, as plain numbers.
-/
import Derived.Test.YtcojghmanpcedaaDoorAlu
namespace Go.Proofs.YtcojghmanpcedaaDoor
open Go.RowKit
set_option linter.unusedVariables false
set_option maxRecDepth 100000

set_option maxHeartbeats 400000 in
theorem signed_lo (x : Int) (h0 : 0 ≤ x) (h : x < 2147483648) (w : World) :
    Calls Tryd.prog 20 #[.int .u32 x] w fun e w' => e = .returned (.int .i64 x) ∧ w' = w := by
  go_enter Tryd.func20, Tryd.ntmps20
  go_wp2
  go_ret
  exact ⟨rfl, rfl⟩

set_option maxHeartbeats 400000 in
theorem signed_hi (x : Int) (h0 : 2147483648 ≤ x) (h : x < 4294967296) (w : World) :
    Calls Tryd.prog 20 #[.int .u32 x] w fun e w' => e = .returned (.int .i64 (x - 4294967296)) ∧ w' = w := by
  go_enter Tryd.func20, Tryd.ntmps20
  go_wp2
  go_ret
  exact ⟨rfl, rfl⟩

theorem signed_any (a : Nat) (ha : a < 4294967296) (w : World) :
    Calls Tryd.prog 20 #[.int .u32 a] w fun e w' => e = .returned (.int .i64 (sgn a)) ∧ w' = w := by
  by_cases h : a < 2147483648
  · have e : sgn a = a := by unfold sgn; rw [if_pos h]
    rw [e]
    exact signed_lo a (by omega) (by omega) w
  · have e : sgn a = a - 4294967296 := by unfold sgn; rw [if_neg h]
    rw [e]
    exact signed_hi a (by omega) (by omega) w

set_option maxHeartbeats 400000 in
theorem word_any (n : Int) (h1 : -9223372036854775808 ≤ n) (h2 : n ≤ 9223372036854775807) (w : World) :
    Calls Tryd.prog 18 #[.int .i64 n] w fun e w' => e = .returned (.int .u32 (wordN n : Nat)) ∧ w' = w := by
  have HE : Hid (n.tmod 4294967296 % 4294967296 = (wordN n : Int)) := by
    show _ = _; unfold wordN; rw [wordOf_cast, Int.tmod_eq_emod]; split <;> omega
  have HE2 : Hid ((n.tmod 4294967296 + 4294967296) % 4294967296 = (wordN n : Int)) := by
    show _ = _; unfold wordN; rw [wordOf_cast, Int.tmod_eq_emod]; split <;> omega
  have hb1 : -4294967296 < n.tmod 4294967296 := Int.lt_tmod_of_pos n (by decide)
  have hb2 : n.tmod 4294967296 < 4294967296 := Int.tmod_lt_of_pos n (by decide)
  generalize hm : n.tmod 4294967296 = m at *
  generalize wordN n = z at *
  by_cases h0 : m < 0
  · go_enter Tryd.func18, Tryd.ntmps18
    go_wp2
    go_ret
    exact ⟨ret_int (by have := HE2.out; omega), rfl⟩
  · go_enter Tryd.func18, Tryd.ntmps18
    go_wp2
    go_ret
    exact ⟨ret_int (by have := HE.out; omega), rfl⟩

theorem prod_le (x y : Int) (hx : 0 ≤ x) (hx2 : x ≤ 65535) (hy : 0 ≤ y) (hy2 : y ≤ 65535) : 0 ≤ x * y ∧ x * y ≤ 4294836225 := by
  constructor
  · exact Int.mul_nonneg hx hy
  · exact Int.le_trans (Int.mul_le_mul hx2 hy2 hy (by decide)) (by decide)

set_option maxHeartbeats 4000000 in
theorem refwide_at (x y : Int) (hx : 0 ≤ x) (hx2 : x < 4294967296) (hy : 0 ≤ y) (hy2 : y < 4294967296) (sa sb : Bool) (na nb H L : Int)
    (hna : (na = 0 ∧ sa = false) ∨ (na = 0 ∧ sa = true ∧ x < 2147483648) ∨ (na = 1 ∧ sa = true ∧ 2147483648 ≤ x))
    (hnb : (nb = 0 ∧ sb = false) ∨ (nb = 0 ∧ sb = true ∧ y < 2147483648) ∨ (nb = 1 ∧ sb = true ∧ 2147483648 ≤ y))
    (HH : H = (x / 65536 * (y / 65536) + (x / 65536 * (y % 65536) + x % 65536 * (y / 65536) + x % 65536 * (y % 65536) / 65536) / 65536 - na * y - nb * x) % 4294967296)
    (HL : (x / 65536 * (y % 65536) + x % 65536 * (y / 65536) + x % 65536 * (y % 65536) / 65536) % 65536 * 65536 + x % 65536 * (y % 65536) % 65536 = L) (w : World) :
    Calls Tryd.prog 16 #[.int .u32 x, .int .u32 y, .bool sa, .bool sb] w fun e w' => e = .returned (.tuple #[.int .u32 H, .int .u32 L]) ∧ w' = w := by
  have m1 := prod_le (x / 65536) (y / 65536) (by omega) (by omega) (by omega) (by omega)
  have m2 := prod_le (x / 65536) (y % 65536) (by omega) (by omega) (by omega) (by omega)
  have m3 := prod_le (x % 65536) (y / 65536) (by omega) (by omega) (by omega) (by omega)
  have m4 := prod_le (x % 65536) (y % 65536) (by omega) (by omega) (by omega) (by omega)
  obtain ⟨m11, m12⟩ := m1
  obtain ⟨m21, m22⟩ := m2
  obtain ⟨m31, m32⟩ := m3
  obtain ⟨m41, m42⟩ := m4
  have HHH := hide HH
  have HLL := hide HL
  clear HH HL
  rcases hna with ⟨rfl, rfl⟩ | ⟨rfl, rfl, ha⟩ | ⟨rfl, rfl, ha⟩ <;> rcases hnb with ⟨rfl, rfl⟩ | ⟨rfl, rfl, hb⟩ | ⟨rfl, rfl, hb⟩
  all_goals
    go_enter Tryd.func16, Tryd.ntmps16
    go_wp2
    go_ret2
    refine ⟨ret_int2 ?_ HLL.out, rfl⟩
    have hh := HHH.out
    generalize x / 65536 * (y / 65536) = p1 at *
    generalize x / 65536 * (y % 65536) = p2 at *
    generalize x % 65536 * (y / 65536) = p3 at *
    generalize x % 65536 * (y % 65536) = p4 at *
    first | omega | (simp only [IntKind.wrap_u32']; omega)

theorem neg_is (v : Nat) (s : Bool) : ((neg v s : Int) = 0 ∧ s = false) ∨ ((neg v s : Int) = 0 ∧ s = true ∧ (v : Int) < 2147483648) ∨ ((neg v s : Int) = 1 ∧ s = true ∧ 2147483648 ≤ (v : Int)) := by
  cases s
  · left; exact ⟨rfl, rfl⟩
  · right
    by_cases h : 2147483648 ≤ v
    · right; exact ⟨by simp [neg, h], rfl, by omega⟩
    · left; exact ⟨by simp [neg, h], rfl, by omega⟩

theorem refwide_any (a b : Nat) (ha : a < 4294967296) (hb : b < 4294967296) (sa sb : Bool) (w : World) :
    Calls Tryd.prog 16 #[.int .u32 a, .int .u32 b, .bool sa, .bool sb] w fun e w' => e = .returned (.tuple #[.int .u32 (hiN a b sa sb : Nat), .int .u32 (loN a b sa sb : Nat)]) ∧ w' = w := by
  refine refwide_at a b (by omega) (by omega) (by omega) (by omega) sa sb (neg a sa) (neg b sb) _ _ (neg_is a sa) (neg_is b sb) ?_ ?_ w
  · rw [hi_doc a b sa sb ha hb]; simp [highN]
  · rw [lo_doc a b sa sb ha hb]; unfold lowN; simp only [Int.natCast_add, Int.natCast_mul, Int.natCast_emod, Int.natCast_ediv]; rfl
end Go.Proofs.YtcojghmanpcedaaDoor
