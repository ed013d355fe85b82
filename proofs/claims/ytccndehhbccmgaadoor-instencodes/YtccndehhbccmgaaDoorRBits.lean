/-
  What the document's bits answers.
-/
import Derived.Test.YtccndehhbccmgaaDoorRDown
import Derived.Deep.QuietTactic
import Derived.BigQuiet
namespace Go.Proofs.YtccndehhbccmgaaDoor
open Go.RowKit
set_option linter.unusedVariables false

theorem bitsF_in (v : Nat) (ps : List Nat) (k : Nat) (h : k ≤ 20) : -1048576 ≤ bitsF v ps k ∧ bitsF v ps k ≤ 1048576 := by
  have := bitsF_bound v ps k
  have hp : 2 ^ k ≤ 2 ^ 20 := Nat.pow_le_pow_right (by decide) h
  omega

theorem pow_in (z : Int) (k : Nat) (hz : -1048576 ≤ z ∧ z ≤ 1048576) (h : k ≤ 12) : -4294967296 ≤ z * 2 ^ k ∧ z * 2 ^ k ≤ 4294967296 := by
  have h1 : (2 : Int) ^ k ≤ 4096 := by
    have : (2 : Nat) ^ k ≤ 2 ^ 12 := Nat.pow_le_pow_right (by decide) h
    have e : ((2 ^ k : Nat) : Int) = (2 : Int) ^ k := by simp
    omega
  have h0 : (0 : Int) < 2 ^ k := Int.pow_pos (by decide)
  generalize (2 : Int) ^ k = q at *
  constructor
  · have := Int.mul_le_mul_of_nonneg_right hz.1 (Int.le_of_lt h0)
    have := Int.mul_le_mul_of_nonneg_left h1 (show (0 : Int) ≤ 1048576 by decide)
    omega
  · have := Int.mul_le_mul_of_nonneg_right hz.2 (Int.le_of_lt h0)
    have := Int.mul_le_mul_of_nonneg_left h1 (show (0 : Int) ≤ 1048576 by decide)
    omega

set_option maxHeartbeats 2000000 in
set_option maxRecDepth 100000 in
theorem bits_any (v : Nat) (hv : v < 4294967296) (ps : List Nat) (hps : ps ≠ []) (hl : ps.length ≤ 20) (c : Nat) (hc : c ≤ 12) (base : Nat) (p : Value) (w : World) (hown : Own base w p ps) :
    Calls Tryd.prog 36 #[.int .u32 v, p, .int .i64 c] w fun e w' => e = .returned (.int .i64 (bitsF v ps ps.length * 2 ^ c)) ∧ Below w.heap.size w w' := by
  obtain ⟨g, cap, rfl, hcap, hmax, hcell⟩ := hown.cells hps
  have HC := hide hcell
  have HB := hide (bit_any v hv)
  have HFB := hide (bitsF_in v ps)
  clear hcell hown hmax
  go_enter Tryd.func36, Tryd.ntmps36
  go_wp2
  go_loop [7, 8] (fun nv iv => ∃ k : Nat, k ≤ ps.length ∧ iv = .int .i64 k ∧ nv = .int .i64 (bitsF v ps k)) (fun _ iv => ps.length - (intOf iv).toNat)
  case atStart => exact ⟨0, by omega, rfl, rfl⟩
  case round =>
    obtain ⟨k, hk, rfl, rfl⟩ := hrel
    have hF := HFB.out k (by omega)
    by_cases hlt : k < ps.length
    · have hcl := HC.out k hlt
      have hbl := bitN_le v (ps.getD k 0 : Nat)
      have hF1 : Hid (bitsF v ps (k + 1) = if k = 0 then -(2 * bitsF v ps k + ((bitN v (ps.getD k 0 : Nat) : Nat) : Int)) else 2 * bitsF v ps k + ((bitN v (ps.getD k 0 : Nat) : Nat) : Int)) := by
        show _ = _
        cases k with
        | zero => simp [bitsF]
        | succ m => rfl
      by_cases h0 : k = 0
      · subst h0
        have hF2 : Hid (bitsF v ps (0 + 1) = -(2 * bitsF v ps 0 + ((bitN v (ps.getD 0 0 : Nat) : Nat) : Int))) := hF1.out.trans (if_pos rfl)
        clear hF1
        generalize bitsF v ps 0 = z at *
        generalize ps.getD 0 0 = q at *
        go_wp2_with (first | (go_at_call 33; refine (HB.out _ _).mono ?_; rintro e w3 ⟨rfl, rfl⟩))
        go_round
        case rel => exact ⟨0 + 1, by omega, by go_num, by rw [hF2.out]⟩
        case measure => simp [intOf]; omega
      · have hF2 : Hid (bitsF v ps (k + 1) = 2 * bitsF v ps k + ((bitN v (ps.getD k 0 : Nat) : Nat) : Int)) := hF1.out.trans (if_neg h0)
        clear hF1
        generalize bitsF v ps k = z at *
        generalize ps.getD k 0 = q at *
        go_wp2_with (first | (go_at_call 33; refine (HB.out _ _).mono ?_; rintro e w3 ⟨rfl, rfl⟩))
        go_round
        case rel => exact ⟨k + 1, by omega, by go_num, by rw [hF2.out]⟩
        case measure => simp [intOf]; omega
    · obtain rfl : k = ps.length := by omega
      generalize hz : bitsF v ps ps.length = z at *
      have HZ := hide hz
      clear hz
      have HP := hide (fun k (h : k ≤ 12) => pow_in z k hF h)
      go_wp2
      go_loop [7, 9] (fun nv iv => ∃ k : Nat, k ≤ c ∧ iv = .int .i64 k ∧ nv = .int .i64 (z * 2 ^ k)) (fun _ iv => c - (intOf iv).toNat)
      case atStart => exact ⟨0, by omega, rfl, by simp⟩
      case round =>
        obtain ⟨k, hk2, rfl, rfl⟩ := hrel
        have hq := HP.out k (by omega)
        by_cases hlt2 : k < c
        · have hq2 : Hid (z * 2 ^ (k + 1) = 2 * (z * 2 ^ k)) := by show _ = _; rw [Int.pow_succ, ← Int.mul_assoc, Int.mul_comm]
          generalize z * 2 ^ k = y at *
          go_wp2
          go_round
          case rel => exact ⟨k + 1, by omega, by go_num, by rw [hq2.out]⟩
          case measure => simp [intOf]; omega
        · obtain rfl : k = c := by omega
          generalize hy : z * 2 ^ k = y at *
          have HY := hide hy
          clear hy
          go_wp2
          go_ret
          exact ⟨ret_int (by rw [← HY.out, ← HZ.out]), Below.refl _ _⟩
end Go.Proofs.YtccndehhbccmgaaDoor
