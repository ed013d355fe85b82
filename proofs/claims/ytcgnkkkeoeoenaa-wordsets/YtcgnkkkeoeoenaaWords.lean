/-
  What word.Sign, word.raise, word.places, word.Field and word.Set answer, as plain numbers.
-/
import Derived.Test.YtcgnkkkeoeoenaaBits
import Derived.Laws.BitsAllLaws
namespace Go.Proofs.Ytcgnkkkeoeoenaa
open Go.RowKit
set_option linter.unusedVariables false

def signW (v : Nat) (n : Int) : Nat := if n < 1 then 0 else if 31 < n then v else v % 2 ^ n.toNat + (v / 2 ^ (n.toNat - 1) % 2) * (2 ^ 32 - 2 ^ n.toNat)

theorem sign_arith (v n : Nat) (h1 : 1 ≤ n) (h2 : n ≤ 31) :
    wrap32 ((v : Int) * 2 ^ (32 - (n : Int)).toNat % 4294967296) / 2 ^ (32 - (n : Int)).toNat % 4294967296 = ((v % 2 ^ n + (v / 2 ^ (n - 1) % 2) * (2 ^ 32 - 2 ^ n) : Nat) : Int) := by
  have e : (32 - (n : Int)).toNat = 32 - n := by omega
  rw [e]
  have hpow : 2 ^ 32 = 2 ^ (32 - n) * 2 ^ n := by rw [← Nat.pow_add]; congr 1; omega
  have e1 : ((v : Int) * 2 ^ (32 - n) % 4294967296) = ((v % 2 ^ n * 2 ^ (32 - n) : Nat) : Int) := by
    have : v * 2 ^ (32 - n) % 2 ^ 32 = v % 2 ^ n * 2 ^ (32 - n) := by
      rw [hpow, Nat.mul_comm (2 ^ (32 - n)) (2 ^ n), Nat.mul_mod_mul_right]
    rw [← this]; simp
  rw [e1]
  have hn2 : 2 ^ n = 2 ^ (n - 1) * 2 := by rw [← Nat.pow_succ]; congr 1; omega
  have hm : v % 2 ^ n = v % 2 ^ (n - 1) + 2 ^ (n - 1) * (v / 2 ^ (n - 1) % 2) := by rw [hn2, Nat.mod_mul]
  have hs31 : 2 ^ (32 - n) * 2 ^ (n - 1) = 2147483648 := by rw [← Nat.pow_add, show 32 - n + (n - 1) = 31 by omega]
  have hlow : v % 2 ^ (n - 1) < 2 ^ (n - 1) := Nat.mod_lt _ (Nat.pow_pos (by decide))
  have hb2 : v / 2 ^ (n - 1) % 2 < 2 := Nat.mod_lt _ (by decide)
  have hle32 : 2 ^ n ≤ 2 ^ 31 := Nat.pow_le_pow_right (by decide) h2
  have hspos : 0 < 2 ^ (32 - n) := Nat.pow_pos (by decide)
  have hcast : ((2 : Int) ^ (32 - n)) = ((2 ^ (32 - n) : Nat) : Int) := by simp
  rw [hcast]
  rw [hm]
  generalize v % 2 ^ (n - 1) = a at *
  generalize v / 2 ^ (n - 1) % 2 = b at *
  generalize 2 ^ (32 - n) = S at *
  rw [hn2] at hpow hle32 ⊢
  generalize 2 ^ (n - 1) = P at *
  have hb : b = 0 ∨ b = 1 := by omega
  have hP : P * 2 ≤ 2147483648 := hle32
  have hSP : S * (P * 2) = 4294967296 := hpow.symm
  have haS : a * S < 2147483648 := by
    have : a * S < P * S := Nat.mul_lt_mul_of_pos_right hlow hspos
    rw [Nat.mul_comm P S, hs31] at this; exact this
  rcases hb with rfl | rfl
  · simp only [Nat.mul_zero, Nat.add_zero, Nat.zero_mul]
    have hw : wrap32 ((a * S : Nat) : Int) = ((a * S : Nat) : Int) := by unfold wrap32; omega
    rw [hw]
    have hd : ((a * S : Nat) : Int) / (S : Int) = a := by
      rw [← Int.natCast_ediv, Nat.mul_div_cancel _ hspos]
    rw [hd]
    omega
  · simp only [Nat.mul_one, Nat.one_mul]
    have hx : (a + P) * S = a * S + 2147483648 := by rw [Nat.add_mul, Nat.mul_comm P S, hs31]
    have hw : wrap32 (((a + P) * S : Nat) : Int) = ((a * S : Nat) : Int) - 2147483648 := by rw [hx]; unfold wrap32; omega
    rw [hw]
    have hd : (((a * S : Nat) : Int) - 2147483648) / (S : Int) = (a : Int) - P := by
      have : (((a * S : Nat) : Int) - 2147483648) = ((a : Int) - P) * S := by
        rw [Int.sub_mul]
        have : (P : Int) * S = ((S * P : Nat) : Int) := by simp [Int.mul_comm]
        rw [this, hs31]; simp
      rw [this, Int.mul_ediv_cancel _ (by omega)]
    rw [hd]
    omega

set_option maxHeartbeats 400000 in
theorem sign_any (v : Nat) (hv : v < 4294967296) (n : Int) (w : World) :
    Calls Try.prog 6 #[.int .u32 v, .int .i64 n] w fun e w' => e = .returned (.int .u32 (signW v n : Nat)) ∧ w' = w := by
  by_cases h0 : n < 1
  · have hs : signW v n = 0 := by unfold signW; rw [if_pos h0]
    rw [hs]; clear hs
    go_enter Try.func6, Try.ntmps6
    go_wp2
    go_ret
    exact ⟨rfl, rfl⟩
  · by_cases h31 : 31 < n
    · have hs : signW v n = v := by unfold signW; rw [if_neg h0, if_pos h31]
      rw [hs]; clear hs
      go_enter Try.func6, Try.ntmps6
      go_wp2
      go_ret
      exact ⟨rfl, rfl⟩
    · obtain ⟨m, rfl⟩ := Int.eq_ofNat_of_zero_le (show 0 ≤ n by omega)
      have hs : signW v m = v % 2 ^ m + (v / 2 ^ (m - 1) % 2) * (2 ^ 32 - 2 ^ m) := by unfold signW; rw [if_neg h0, if_neg h31]; simp
      have HA : Hid (wrap32 ((v : Int) * 2 ^ (32 - m) % 4294967296) / 2 ^ (32 - m) % 4294967296 = ((signW v m : Nat) : Int)) := by
        show _ = _
        rw [hs, ← sign_arith v m (by omega) (by omega)]
        have e : (32 - (m : Int)).toNat = 32 - m := by omega
        rw [e]
      clear hs
      generalize signW v m = z at *
      go_enter Try.func6, Try.ntmps6
      go_wp2
      go_ret
      exact ⟨ret_int HA.out, rfl⟩

theorem pow_min (k : Nat) : (2 : Int) ^ min k 32 = ((2 ^ min k 32 : Nat) : Int) := by simp

theorem wrapu_in (n : Int) (h0 : 0 ≤ n) (h1 : n ≤ 9223372036854775807) : IntKind.u64.wrap n = n := by
  rw [IntKind.wrap_u64]; omega

set_option maxHeartbeats 400000 in
theorem raise_any (v : Nat) (hv : v < 4294967296) (n : Int) (hlo : -9223372036854775808 ≤ n) (hhi : n ≤ 9223372036854775807) (w : World) :
    Calls Try.prog 16 #[.int .u32 v, .int .i64 n] w fun e w' => e = .returned (.int .u32 (raiseN v n : Nat)) ∧ w' = w := by
  by_cases h0 : n < 0
  · have HA : Hid ((v : Int) / 2 ^ min (IntKind.u64.wrap (wrap64 (-n))).toNat 32 = ((raiseN v n : Nat) : Int)) := by
      show _ = _
      have e : min (IntKind.u64.wrap (wrap64 (-n))).toNat 32 = min (-n).toNat 32 := by
        rw [IntKind.wrap_u64]; unfold wrap64; omega
      unfold raiseN
      rw [if_pos h0, e]
      simp
    generalize raiseN v n = z at *
    go_enter Try.func16, Try.ntmps16
    go_wp2
    go_ret
    exact ⟨ret_int HA.out, rfl⟩
  · have HA : Hid (IntKind.u32.wrap ((v : Int) * 2 ^ min n.toNat 32) = ((raiseN v n : Nat) : Int)) := by
      show _ = _
      unfold raiseN
      rw [if_neg h0, IntKind.wrap_u32']
      simp
    generalize raiseN v n = z at *
    go_enter Try.func16, Try.ntmps16
    go_wp2
    go_ret
    exact ⟨ret_int HA.out, rfl⟩

theorem mask_arith (n : Int) (h : 1 ≤ n) : ((2 : Int) ^ min n.toNat 32 - 1) % 4294967296 = ((2 ^ min n.toNat 32 - 1 : Nat) : Int) := by
  have h1 : 2 ^ min n.toNat 32 ≤ 2 ^ 32 := Nat.pow_le_pow_right (by decide) (by omega)
  have h2 : 0 < 2 ^ min n.toNat 32 := Nat.pow_pos (by decide)
  rw [pow_min]
  generalize 2 ^ min n.toNat 32 = p at *
  omega

set_option maxHeartbeats 400000 in
theorem places_at (lo n : Int) (h0 : 0 ≤ lo) (hhi : lo ≤ 9223372036854775807) (hn : n ≤ 9223372036854775807) (w : World) :
    Calls Try.prog 17 #[.int .i64 lo, .int .i64 n] w fun e w' => e = .returned (.int .u32 (placesN lo n : Nat)) ∧ w' = w := by
  by_cases h1 : n < 1
  · have hs : placesN lo n = 0 := by unfold placesN; rw [if_pos h1]
    rw [hs]; clear hs
    go_enter Try.func17, Try.ntmps17
    go_wp2
    go_ret
    exact ⟨rfl, rfl⟩
  · have HA : Hid (((2 : Int) ^ min (IntKind.u64.wrap n).toNat 32 - 1) % 4294967296 * 2 ^ min (IntKind.u64.wrap lo).toNat 32 % 4294967296 = ((placesN lo n : Nat) : Int)) := by
      show _ = _
      rw [wrapu_in n (by omega) hn, wrapu_in lo h0 hhi, mask_arith n (by omega), pow_min]
      unfold placesN
      rw [if_neg h1, if_neg (by omega)]
      rw [← Int.natCast_mul]
      show (_ : Int) % ((4294967296 : Nat) : Int) = _
      rw [← Int.natCast_emod]
    generalize placesN lo n = z at *
    clear hn hhi
    go_enter Try.func17, Try.ntmps17
    go_wp2
    go_ret
    exact ⟨ret_int HA.out, rfl⟩

set_option maxHeartbeats 400000 in
theorem places_any (lo n : Int) (hlo : -9223372036854775808 ≤ lo) (hhi : lo ≤ 9223372036854775807) (hn : n ≤ 9223372036854775807) (w : World) :
    Calls Try.prog 17 #[.int .i64 lo, .int .i64 n] w fun e w' => e = .returned (.int .u32 (placesN lo n : Nat)) ∧ w' = w := by
  by_cases h0 : 0 ≤ lo
  · exact places_at lo n h0 hhi hn w
  · by_cases h1 : n < 1
    · have hs : placesN lo n = 0 := by unfold placesN; rw [if_pos h1]
      rw [hs]; clear hs
      go_enter Try.func17, Try.ntmps17
      go_wp2
      go_ret
      exact ⟨rfl, rfl⟩
    · have hs : placesN 0 (n + lo) = placesN lo n := by
        unfold placesN
        rw [if_neg h1, if_pos (show lo < 0 by omega)]
        split
        · rfl
        · have h1 : 2 ^ min (n + lo).toNat 32 ≤ 2 ^ 32 := Nat.pow_le_pow_right (by decide) (by omega)
          have h2 : 0 < 2 ^ min (n + lo).toNat 32 := Nat.pow_pos (by decide)
          simp
          omega
      rw [← hs]; clear hs
      go_enter Try.func17, Try.ntmps17
      go_wp2_with (go_at_call 17; refine (places_at 0 (n + lo) (by omega) (by omega) (by omega) _).mono ?_; rintro e w' ⟨rfl, rfl⟩)
      go_ret
      exact ⟨rfl, rfl⟩

def fieldW (v : Nat) (lo n : Int) : Nat := raiseN v (-lo) &&& placesN 0 n

set_option maxHeartbeats 400000 in
theorem field_any (v : Nat) (hv : v < 4294967296) (lo n : Int) (hlo : -9223372036854775808 ≤ lo) (hhi : lo ≤ 9223372036854775807) (hn : n ≤ 9223372036854775807) (w : World) :
    Calls Try.prog 9 #[.int .u32 v, .int .i64 lo, .int .i64 n] w fun e w' => e = .returned (.int .u32 (fieldW v lo n : Nat)) ∧ w' = w := by
  have hr : raiseN v (wrap64 (-lo)) = raiseN v (-lo) := by
    by_cases h : lo = -9223372036854775808
    · subst h
      unfold raiseN wrap64
      simp
      omega
    · have : wrap64 (-lo) = -lo := by unfold wrap64; omega
      rw [this]
  have hlt := raiseN_lt v hv (wrap64 (-lo))
  have hlp := placesN_lt 0 n
  have HA : Hid (bits .and .u32 ((raiseN v (wrap64 (-lo)) : Nat) : Int) ((placesN 0 n : Nat) : Int) = ((fieldW v lo n : Nat) : Int)) := by
    show _ = _
    rw [u32_and_nat _ _ hlt hlp, hr]; rfl
  have hb : -9223372036854775808 ≤ wrap64 (-lo) ∧ wrap64 (-lo) ≤ 9223372036854775807 := by unfold wrap64; omega
  clear hr
  generalize fieldW v lo n = z at *
  have HB := hb
  go_enter Try.func9, Try.ntmps9
  go_wp2_with (first | (go_at_call 16; refine (raise_any v hv (wrap64 (-lo)) HB.1 HB.2 _).mono ?_; rintro e w' ⟨rfl, rfl⟩) | (go_at_call 17; refine (places_any 0 n (by omega) (by omega) hn _).mono ?_; rintro e w' ⟨rfl, rfl⟩))
  go_ret
  exact ⟨ret_int HA.out, rfl⟩

def setW (v : Nat) (lo n : Int) (x : Nat) : Nat := (v &&& (4294967295 - placesN lo n)) ||| (raiseN x lo &&& placesN lo n)

set_option maxHeartbeats 400000 in
theorem set_any (v : Nat) (hv : v < 4294967296) (lo n : Int) (hlo : -9223372036854775808 ≤ lo) (hhi : lo ≤ 9223372036854775807) (hn : n ≤ 9223372036854775807) (x : Nat) (hx : x < 4294967296) (w : World) :
    Calls Try.prog 11 #[.int .u32 v, .int .i64 lo, .int .i64 n, .int .u32 x] w fun e w' => e = .returned (.int .u32 (setW v lo n x : Nat)) ∧ w' = w := by
  have hlt := raiseN_lt x hx lo
  have hlp := placesN_lt lo n
  have HA : Hid (bits .or .u32 (bits .andNot .u32 (v : Int) ((placesN lo n : Nat) : Int)) (bits .and .u32 ((raiseN x lo : Nat) : Int) ((placesN lo n : Nat) : Int)) = ((setW v lo n x : Nat) : Int)) := by
    show _ = _
    rw [u32_andNot_nat _ _ hv hlp, u32_and_nat _ _ hlt hlp, u32_or_nat _ _ (Nat.lt_of_le_of_lt Nat.and_le_left hv) (Nat.lt_of_le_of_lt Nat.and_le_right hlp)]; rfl
  clear hlt hlp
  generalize setW v lo n x = z at *
  go_enter Try.func11, Try.ntmps11
  go_wp2_with (first | (go_at_call 16; refine (raise_any x hx lo hlo hhi _).mono ?_; rintro e w' ⟨rfl, rfl⟩) | (go_at_call 17; refine (places_any lo n hlo hhi hn _).mono ?_; rintro e w' ⟨rfl, rfl⟩))
  go_ret
  exact ⟨ret_int HA.out, rfl⟩
end Go.Proofs.Ytcgnkkkeoeoenaa
