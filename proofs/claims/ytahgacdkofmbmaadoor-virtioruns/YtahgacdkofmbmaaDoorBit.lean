/-
  What the document's Bit answers, whatever word and place is handed in.
-/
import Derived.Test.YtahgacdkofmbmaaDoorBase
namespace Go.Proofs.YtahgacdkofmbmaaDoor
open Go.RowKit
set_option linter.unusedVariables false

theorem div_step (v k : Nat) : v / 2 ^ k / 2 = v / 2 ^ (k + 1) := by rw [Nat.div_div_eq_div_mul, ← Nat.pow_succ]

set_option maxHeartbeats 400000 in
theorem bit_any (v : Nat) (hv : v < 4294967296) (a : Int) (w : World) :
    Calls Tryd.prog 42 #[.int .u32 v, .int .i64 a] w fun e w' => e = .returned (.int .i64 (bitN v a)) ∧ w' = w := by
  by_cases h : 0 ≤ a ∧ a ≤ 31
  · obtain ⟨h1, h2⟩ := h
    obtain ⟨n, rfl⟩ := Int.eq_ofNat_of_zero_le h1
    have hn : n ≤ 31 := by omega
    have hb : bitN v n = v / 2 ^ n % 2 := by unfold bitN; rw [if_pos (by omega)]; simp
    rw [hb]
    clear hb
    go_enter Tryd.func42, Tryd.ntmps42
    go_wp2
    go_loop [0, 5] (fun x i => ∃ k : Nat, k ≤ n ∧ i = .int .i64 k ∧ x = .int .u32 (v / 2 ^ k : Nat)) (fun _ i => n - (intOf i).toNat)
    case atStart => exact ⟨0, Nat.zero_le _, rfl, by simp⟩
    case round =>
      obtain ⟨k, hk, rfl, rfl⟩ := hrel
      have hd : v / 2 ^ k ≤ v := Nat.div_le_self _ _
      by_cases hlt : k < n
      · have hs := div_step v k
        have HS : Hid (v / 2 ^ k / 2 = v / 2 ^ (k + 1)) := hs
        clear hs
        generalize v / 2 ^ k = q at *
        go_wp2
        go_round
        case rel => exact ⟨k + 1, by omega, by go_num, by rw [← HS.out]; go_num⟩
        case measure => simp [intOf]; omega
      · obtain rfl : k = n := by omega
        generalize hq : v / 2 ^ k = q at *
        have HR : Hid ((q : Int) = (v : Int) / 2 ^ k) := by show _ = _; rw [← hq]; simp
        clear hq
        go_wp2
        go_ret
        exact ⟨ret_int (by rw [HR.out]), rfl⟩
  · have hb : bitN v a = 0 := by unfold bitN; rw [if_neg h]
    rw [hb]
    clear hb
    by_cases h0 : a < 0
    · go_enter Tryd.func42, Tryd.ntmps42
      go_wp2
      go_ret
      exact ⟨rfl, rfl⟩
    · have h31 : 31 < a := by omega
      go_enter Tryd.func42, Tryd.ntmps42
      go_wp2
      go_ret
      exact ⟨rfl, rfl⟩

end Go.Proofs.YtahgacdkofmbmaaDoor
