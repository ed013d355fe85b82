/-
  What word.Sign answers, whatever word and number of bits is handed in.
-/
import Derived.Test.YtoekcfbjdcibpaaGreatDoorBase
namespace Go.Proofs.YtoekcfbjdcibpaaGreatDoor
open Go.RowKit
set_option linter.unusedVariables false

def signW (v : Nat) (n : Int) : Nat := if n < 1 then 0 else if 31 < n then v else v % 2 ^ n.toNat + (v / 2 ^ (n.toNat - 1) % 2) * (2 ^ 32 - 2 ^ n.toNat)

theorem sign_arith (v n : Nat) (h1 : 1 ≤ n) (h2 : n ≤ 31) :
    wrap32 ((v : Int) * 2 ^ (32 - (n : Int)).toNat % 4294967296) / 2 ^ (32 - (n : Int)).toNat % 4294967296 = ((v % 2 ^ n + (v / 2 ^ (n - 1) % 2) * (2 ^ 32 - 2 ^ n) : Nat) : Int) := by
  have e : (32 - (n : Int)).toNat = 32 - n := by omega
  rw [e]
  have hpow : 2 ^ 32 = 2 ^ (32 - n) * 2 ^ n := by rw [← Nat.pow_add]; congr 1; omega
  have e1 : ((v : Int) * 2 ^ (32 - n) % 4294967296) = ((v % 2 ^ n * 2 ^ (32 - n) : Nat) : Int) := by
    have : v * 2 ^ (32 - n) % 2 ^ 32 = v % 2 ^ n * 2 ^ (32 - n) := by
      rw [hpow, Nat.mul_comm (2 ^ (32 - n)) (2 ^ n), Nat.mul_mod_mul_right]
    rw [← this]; simp
  rw [e1]
  have hn2 : 2 ^ n = 2 ^ (n - 1) * 2 := by rw [← Nat.pow_succ]; congr 1; omega
  have hm : v % 2 ^ n = v % 2 ^ (n - 1) + 2 ^ (n - 1) * (v / 2 ^ (n - 1) % 2) := by rw [hn2, Nat.mod_mul]
  have hs31 : 2 ^ (32 - n) * 2 ^ (n - 1) = 2147483648 := by rw [← Nat.pow_add, show 32 - n + (n - 1) = 31 by omega]
  have hlow : v % 2 ^ (n - 1) < 2 ^ (n - 1) := Nat.mod_lt _ (Nat.pow_pos (by decide))
  have hb2 : v / 2 ^ (n - 1) % 2 < 2 := Nat.mod_lt _ (by decide)
  have hle32 : 2 ^ n ≤ 2 ^ 31 := Nat.pow_le_pow_right (by decide) h2
  have hspos : 0 < 2 ^ (32 - n) := Nat.pow_pos (by decide)
  have hcast : ((2 : Int) ^ (32 - n)) = ((2 ^ (32 - n) : Nat) : Int) := by simp
  rw [hcast]
  rw [hm]
  generalize v % 2 ^ (n - 1) = a at *
  generalize v / 2 ^ (n - 1) % 2 = b at *
  generalize 2 ^ (32 - n) = S at *
  rw [hn2] at hpow hle32 ⊢
  generalize 2 ^ (n - 1) = P at *
  have hb : b = 0 ∨ b = 1 := by omega
  have hP : P * 2 ≤ 2147483648 := hle32
  have hSP : S * (P * 2) = 4294967296 := hpow.symm
  have haS : a * S < 2147483648 := by
    have : a * S < P * S := Nat.mul_lt_mul_of_pos_right hlow hspos
    rw [Nat.mul_comm P S, hs31] at this; exact this
  rcases hb with rfl | rfl
  · simp only [Nat.mul_zero, Nat.add_zero, Nat.zero_mul]
    have hw : wrap32 ((a * S : Nat) : Int) = ((a * S : Nat) : Int) := by unfold wrap32; omega
    rw [hw]
    have hd : ((a * S : Nat) : Int) / (S : Int) = a := by
      rw [← Int.natCast_ediv, Nat.mul_div_cancel _ hspos]
    rw [hd]
    omega
  · simp only [Nat.mul_one, Nat.one_mul]
    have hx : (a + P) * S = a * S + 2147483648 := by rw [Nat.add_mul, Nat.mul_comm P S, hs31]
    have hw : wrap32 (((a + P) * S : Nat) : Int) = ((a * S : Nat) : Int) - 2147483648 := by rw [hx]; unfold wrap32; omega
    rw [hw]
    have hd : (((a * S : Nat) : Int) - 2147483648) / (S : Int) = (a : Int) - P := by
      have : (((a * S : Nat) : Int) - 2147483648) = ((a : Int) - P) * S := by
        rw [Int.sub_mul]
        have : (P : Int) * S = ((S * P : Nat) : Int) := by simp [Int.mul_comm]
        rw [this, hs31]; simp
      rw [this, Int.mul_ediv_cancel _ (by omega)]
    rw [hd]
    omega

set_option maxHeartbeats 400000 in
theorem sign_any (v : Nat) (hv : v < 4294967296) (n : Int) (w : World) :
    Calls Tryz.prog 115 #[.int .u32 v, .int .i64 n] w fun e w' => e = .returned (.int .u32 (signW v n : Nat)) ∧ w' = w := by
  by_cases h0 : n < 1
  · have hs : signW v n = 0 := by unfold signW; rw [if_pos h0]
    rw [hs]; clear hs
    go_enter Tryz.func115, Tryz.ntmps115
    go_wp2
    go_ret
    exact ⟨rfl, rfl⟩
  · by_cases h31 : 31 < n
    · have hs : signW v n = v := by unfold signW; rw [if_neg h0, if_pos h31]
      rw [hs]; clear hs
      go_enter Tryz.func115, Tryz.ntmps115
      go_wp2
      go_ret
      exact ⟨rfl, rfl⟩
    · obtain ⟨m, rfl⟩ := Int.eq_ofNat_of_zero_le (show 0 ≤ n by omega)
      have hs : signW v m = v % 2 ^ m + (v / 2 ^ (m - 1) % 2) * (2 ^ 32 - 2 ^ m) := by unfold signW; rw [if_neg h0, if_neg h31]; simp
      have HA : Hid (wrap32 ((v : Int) * 2 ^ (32 - m) % 4294967296) / 2 ^ (32 - m) % 4294967296 = ((signW v m : Nat) : Int)) := by
        show _ = _
        rw [hs, ← sign_arith v m (by omega) (by omega)]
        have e : (32 - (m : Int)).toNat = 32 - m := by omega
        rw [e]
      clear hs
      generalize signW v m = z at *
      go_enter Tryz.func115, Tryz.ntmps115
      go_wp2
      go_ret
      exact ⟨ret_int HA.out, rfl⟩

end Go.Proofs.YtoekcfbjdcibpaaGreatDoor
