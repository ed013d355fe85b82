/-
  What the document's truth and gates answer.
-/
import Derived.Test.YtcojghmanpcedaaDoorAluDo
import Derived.Test.YtcojghmanpcedaaDoorAluRW
namespace Go.Proofs.YtcojghmanpcedaaDoor
open Go.RowKit
set_option linter.unusedVariables false

set_option maxHeartbeats 400000 in
theorem truth_any (s : Bool) (w : World) :
    Calls Tryd.prog 19 #[.bool s] w fun e w' => e = .returned (.int .u32 (oneN s : Nat)) ∧ w' = w := by
  cases s
  all_goals
    go_enter Tryd.func19, Tryd.ntmps19
    go_wp2
    go_ret
    exact ⟨rfl, rfl⟩

/-- A gate's bit, of two bits' number. -/
def gateN (op : Nat) (n : Nat) : Nat := if (op = 5 ∧ n = 1) ∨ (op = 8 ∧ 0 < n) ∨ (op = 9 ∧ n = 2) then 1 else 0
theorem gateN_le (op n : Nat) : gateN op n ≤ 1 := by unfold gateN; split <;> omega
/-- The bit at a place. -/
def gateB (op a b j : Nat) : Nat := gateN op (a / 2 ^ j % 2 + b / 2 ^ j % 2)

theorem gateB_le (op a b j : Nat) : gateB op a b j ≤ 1 := gateN_le _ _

theorem gates_xor (a b : Nat) (ha : a < 4294967296) (hb : b < 4294967296) : num (gateB 5 a b) 32 = a ^^^ b := by
  apply word_ext
  · exact num_lt _ (gateB_le 5 a b) 32
  · exact Nat.xor_lt_two_pow ha hb
  · intro i hi
    rw [num_bit _ (gateB_le 5 a b), Nat.testBit_xor, Nat.testBit_eq_decide_div_mod_eq, Nat.testBit_eq_decide_div_mod_eq]
    have h1 : a / 2 ^ i % 2 < 2 := Nat.mod_lt _ (by decide)
    have h2 : b / 2 ^ i % 2 < 2 := Nat.mod_lt _ (by decide)
    unfold gateB
    generalize a / 2 ^ i % 2 = x at *
    generalize b / 2 ^ i % 2 = y at *
    have hx : x = 0 ∨ x = 1 := by omega
    have hy : y = 0 ∨ y = 1 := by omega
    rcases hx with rfl | rfl <;> rcases hy with rfl | rfl <;> simp [gateN, hi]

theorem gates_or (a b : Nat) (ha : a < 4294967296) (hb : b < 4294967296) : num (gateB 8 a b) 32 = a ||| b := by
  apply word_ext
  · exact num_lt _ (gateB_le 8 a b) 32
  · exact Nat.or_lt_two_pow ha hb
  · intro i hi
    rw [num_bit _ (gateB_le 8 a b), Nat.testBit_or, Nat.testBit_eq_decide_div_mod_eq, Nat.testBit_eq_decide_div_mod_eq]
    have h1 : a / 2 ^ i % 2 < 2 := Nat.mod_lt _ (by decide)
    have h2 : b / 2 ^ i % 2 < 2 := Nat.mod_lt _ (by decide)
    unfold gateB
    generalize a / 2 ^ i % 2 = x at *
    generalize b / 2 ^ i % 2 = y at *
    have hx : x = 0 ∨ x = 1 := by omega
    have hy : y = 0 ∨ y = 1 := by omega
    rcases hx with rfl | rfl <;> rcases hy with rfl | rfl <;> simp [gateN, hi]

theorem gates_and (a b : Nat) (ha : a < 4294967296) (hb : b < 4294967296) : num (gateB 9 a b) 32 = a &&& b := by
  apply word_ext
  · exact num_lt _ (gateB_le 9 a b) 32
  · exact Nat.lt_of_le_of_lt Nat.and_le_left ha
  · intro i hi
    rw [num_bit _ (gateB_le 9 a b), Nat.testBit_and, Nat.testBit_eq_decide_div_mod_eq, Nat.testBit_eq_decide_div_mod_eq]
    have h1 : a / 2 ^ i % 2 < 2 := Nat.mod_lt _ (by decide)
    have h2 : b / 2 ^ i % 2 < 2 := Nat.mod_lt _ (by decide)
    unfold gateB
    generalize a / 2 ^ i % 2 = x at *
    generalize b / 2 ^ i % 2 = y at *
    have hx : x = 0 ∨ x = 1 := by omega
    have hy : y = 0 ∨ y = 1 := by omega
    rcases hx with rfl | rfl <;> rcases hy with rfl | rfl <;> simp [gateN, hi]

/-- A power of two as a word: 0 of 2^32. -/
def powW (k : Nat) : Nat := 2 ^ k % 4294967296
theorem powW_lt (k : Nat) : powW k < 4294967296 := Nat.mod_lt _ (by decide)
theorem powW_succ (k : Nat) : 2 * powW k % 4294967296 = powW (k + 1) := by unfold powW; rw [Nat.pow_succ]; omega
theorem powW_small (k : Nat) (h : k < 32) : powW k = 2 ^ k := by
  unfold powW
  have : 2 ^ k < 2 ^ 32 := Nat.pow_lt_pow_right (by decide) h
  exact Nat.mod_eq_of_lt this

theorem gate500 : gateN 5 (0 + 0) = 0 := rfl
theorem gate501 : gateN 5 (0 + 1) = 1 := rfl
theorem gate510 : gateN 5 (1 + 0) = 1 := rfl
theorem gate511 : gateN 5 (1 + 1) = 0 := rfl
theorem gate800 : gateN 8 (0 + 0) = 0 := rfl
theorem gate801 : gateN 8 (0 + 1) = 1 := rfl
theorem gate810 : gateN 8 (1 + 0) = 1 := rfl
theorem gate811 : gateN 8 (1 + 1) = 1 := rfl
theorem gate900 : gateN 9 (0 + 0) = 0 := rfl
theorem gate901 : gateN 9 (0 + 1) = 0 := rfl
theorem gate910 : gateN 9 (1 + 0) = 0 := rfl
theorem gate911 : gateN 9 (1 + 1) = 1 := rfl

set_option maxHeartbeats 2000000 in
theorem gates_any (op a b : Nat) (hop : op = 5 ∨ op = 8 ∨ op = 9) (ha : a < 4294967296) (hb : b < 4294967296) (w : World) :
    Calls Tryd.prog 21 #[.int .i64 op, .int .u32 a, .int .u32 b] w fun e w' => e = .returned (.int .u32 (num (gateB op a b) 32 : Nat)) ∧ w' = w := by
  have HB := hide (gateB_le op a b)
  have HN := hide (fun k (hlt : k < 32) => (show num (gateB op a b) (k + 1) = num (gateB op a b) k + gateN op (a / 2 ^ k % 2 + b / 2 ^ k % 2) * powW k by rw [powW_small k hlt]; rfl))
  generalize hG : gateB op a b = G at *
  clear hG
  rcases hop with rfl | rfl | rfl
  all_goals
    go_enter Tryd.func21, Tryd.ntmps21
    go_wp2
    go_loop [1, 2, 7, 8, 9] (fun x y o p i => ∃ k : Nat, k ≤ 32 ∧ i = .int .i64 k ∧ x = .int .u32 ((a / 2 ^ k : Nat) : Int) ∧ y = .int .u32 ((b / 2 ^ k : Nat) : Int) ∧ o = .int .u32 ((num G k : Nat) : Int) ∧ p = .int .u32 ((powW k : Nat) : Int)) (fun _ _ _ _ i => 32 - (intOf i).toNat)
    case atStart => exact ⟨0, by omega, rfl, by simp, by simp, rfl, rfl⟩
    case round =>
      obtain ⟨k, hk, rfl, rfl, rfl, rfl, rfl⟩ := hrel
      by_cases hlt : k < 32
      · have h1 : a / 2 ^ k ≤ a := Nat.div_le_self _ _
        have h2 : b / 2 ^ k ≤ b := Nat.div_le_self _ _
        have H3 := hide (div_step a k)
        have H4 := hide (div_step b k)
        have H5 := hide (powW_succ k)
        have h6 := powW_small k hlt
        have h7 := num_lt G HB.out k
        have h8 : 2 ^ k ≤ 2 ^ 31 := Nat.pow_le_pow_right (by decide) (by omega)
        have HNk := hide (HN.out k hlt)
        have h9 : num G k < 2147483648 := by omega
        have h10 : powW k ≤ 2147483648 := by omega
        clear h6 h7 h8 HN HB
        generalize a / 2 ^ k = x at *
        generalize b / 2 ^ k = y at *
        generalize num G k = o at *
        generalize powW k = p at *
        have hxy : (x % 2 = 0 ∧ y % 2 = 0) ∨ (x % 2 = 0 ∧ y % 2 = 1) ∨ (x % 2 = 1 ∧ y % 2 = 0) ∨ (x % 2 = 1 ∧ y % 2 = 1) := by omega
        rcases hxy with ⟨hx, hy⟩ | ⟨hx, hy⟩ | ⟨hx, hy⟩ | ⟨hx, hy⟩
        all_goals
          rw [hx, hy] at HNk
          first | rw [gate500] at HNk | rw [gate501] at HNk | rw [gate510] at HNk | rw [gate511] at HNk | rw [gate800] at HNk | rw [gate801] at HNk | rw [gate810] at HNk | rw [gate811] at HNk | rw [gate900] at HNk | rw [gate901] at HNk | rw [gate910] at HNk | rw [gate911] at HNk
          have hx' : (x : Int) % 2 = ((x % 2 : Nat) : Int) := by omega
          have hy' : (y : Int) % 2 = ((y % 2 : Nat) : Int) := by omega
          rw [hx] at hx'
          rw [hy] at hy'
          go_wp2
          refine ⟨⟨k + 1, by omega, rfl, ?_, ?_, ?_, ?_⟩, by simp [intOf]; omega⟩
          · rw [← H3.out]; simp
          · rw [← H4.out]; simp
          · rw [HNk.out]; simp
          · rw [← H5.out]; simp
      · obtain rfl : k = 32 := by omega
        go_wp2
        go_ret
        exact ⟨rfl, rfl⟩
end Go.Proofs.YtcojghmanpcedaaDoor
