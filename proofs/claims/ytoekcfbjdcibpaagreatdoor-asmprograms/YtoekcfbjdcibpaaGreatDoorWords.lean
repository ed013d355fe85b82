/-
  What word.raise, word.places, word.Field and word.Set answer, as plain numbers.
-/
import Derived.Test.YtoekcfbjdcibpaaGreatDoorSign
import Derived.Laws.BitsAllLaws
namespace Go.Proofs.YtoekcfbjdcibpaaGreatDoor
open Go.RowKit
set_option linter.unusedVariables false

theorem pow_min (k : Nat) : (2 : Int) ^ min k 32 = ((2 ^ min k 32 : Nat) : Int) := by simp

theorem wrapu_in (n : Int) (h0 : 0 ≤ n) (h1 : n ≤ 9223372036854775807) : IntKind.u64.wrap n = n := by
  rw [IntKind.wrap_u64]; omega

set_option maxHeartbeats 400000 in
theorem raise_any (v : Nat) (hv : v < 4294967296) (n : Int) (hlo : -9223372036854775808 ≤ n) (hhi : n ≤ 9223372036854775807) (w : World) :
    Calls Tryz.prog 114 #[.int .u32 v, .int .i64 n] w fun e w' => e = .returned (.int .u32 (raiseN v n : Nat)) ∧ w' = w := by
  by_cases h0 : n < 0
  · have HA : Hid ((v : Int) / 2 ^ min (IntKind.u64.wrap (wrap64 (-n))).toNat 32 = ((raiseN v n : Nat) : Int)) := by
      show _ = _
      have e : min (IntKind.u64.wrap (wrap64 (-n))).toNat 32 = min (-n).toNat 32 := by
        rw [IntKind.wrap_u64]; unfold wrap64; omega
      unfold raiseN
      rw [if_pos h0, e]
      simp
    generalize raiseN v n = z at *
    go_enter Tryz.func114, Tryz.ntmps114
    go_wp2
    go_ret
    exact ⟨ret_int HA.out, rfl⟩
  · have HA : Hid (IntKind.u32.wrap ((v : Int) * 2 ^ min n.toNat 32) = ((raiseN v n : Nat) : Int)) := by
      show _ = _
      unfold raiseN
      rw [if_neg h0, IntKind.wrap_u32']
      simp
    generalize raiseN v n = z at *
    go_enter Tryz.func114, Tryz.ntmps114
    go_wp2
    go_ret
    exact ⟨ret_int HA.out, rfl⟩

theorem mask_arith (n : Int) (h : 1 ≤ n) : ((2 : Int) ^ min n.toNat 32 - 1) % 4294967296 = ((2 ^ min n.toNat 32 - 1 : Nat) : Int) := by
  have h1 : 2 ^ min n.toNat 32 ≤ 2 ^ 32 := Nat.pow_le_pow_right (by decide) (by omega)
  have h2 : 0 < 2 ^ min n.toNat 32 := Nat.pow_pos (by decide)
  rw [pow_min]
  generalize 2 ^ min n.toNat 32 = p at *
  omega

set_option maxHeartbeats 400000 in
theorem places_at (lo n : Int) (h0 : 0 ≤ lo) (hhi : lo ≤ 9223372036854775807) (hn : n ≤ 9223372036854775807) (w : World) :
    Calls Tryz.prog 113 #[.int .i64 lo, .int .i64 n] w fun e w' => e = .returned (.int .u32 (placesN lo n : Nat)) ∧ w' = w := by
  by_cases h1 : n < 1
  · have hs : placesN lo n = 0 := by unfold placesN; rw [if_pos h1]
    rw [hs]; clear hs
    go_enter Tryz.func113, Tryz.ntmps113
    go_wp2
    go_ret
    exact ⟨rfl, rfl⟩
  · have HA : Hid (((2 : Int) ^ min (IntKind.u64.wrap n).toNat 32 - 1) % 4294967296 * 2 ^ min (IntKind.u64.wrap lo).toNat 32 % 4294967296 = ((placesN lo n : Nat) : Int)) := by
      show _ = _
      rw [wrapu_in n (by omega) hn, wrapu_in lo h0 hhi, mask_arith n (by omega), pow_min]
      unfold placesN
      rw [if_neg h1, if_neg (by omega)]
      rw [← Int.natCast_mul]
      show (_ : Int) % ((4294967296 : Nat) : Int) = _
      rw [← Int.natCast_emod]
    generalize placesN lo n = z at *
    clear hn hhi
    go_enter Tryz.func113, Tryz.ntmps113
    go_wp2
    go_ret
    exact ⟨ret_int HA.out, rfl⟩

set_option maxHeartbeats 400000 in
theorem places_any (lo n : Int) (hlo : -9223372036854775808 ≤ lo) (hhi : lo ≤ 9223372036854775807) (hn : n ≤ 9223372036854775807) (w : World) :
    Calls Tryz.prog 113 #[.int .i64 lo, .int .i64 n] w fun e w' => e = .returned (.int .u32 (placesN lo n : Nat)) ∧ w' = w := by
  by_cases h0 : 0 ≤ lo
  · exact places_at lo n h0 hhi hn w
  · by_cases h1 : n < 1
    · have hs : placesN lo n = 0 := by unfold placesN; rw [if_pos h1]
      rw [hs]; clear hs
      go_enter Tryz.func113, Tryz.ntmps113
      go_wp2
      go_ret
      exact ⟨rfl, rfl⟩
    · have hs : placesN 0 (n + lo) = placesN lo n := by
        unfold placesN
        rw [if_neg h1, if_pos (show lo < 0 by omega)]
        split
        · rfl
        · have h1 : 2 ^ min (n + lo).toNat 32 ≤ 2 ^ 32 := Nat.pow_le_pow_right (by decide) (by omega)
          have h2 : 0 < 2 ^ min (n + lo).toNat 32 := Nat.pow_pos (by decide)
          simp
          omega
      rw [← hs]; clear hs
      go_enter Tryz.func113, Tryz.ntmps113
      go_wp2_with (go_at_call 113; refine (places_at 0 (n + lo) (by omega) (by omega) (by omega) _).mono ?_; rintro e w' ⟨rfl, rfl⟩)
      go_ret
      exact ⟨rfl, rfl⟩

def fieldW (v : Nat) (lo n : Int) : Nat := raiseN v (-lo) &&& placesN 0 n

set_option maxHeartbeats 400000 in
theorem field_any (v : Nat) (hv : v < 4294967296) (lo n : Int) (hlo : -9223372036854775808 ≤ lo) (hhi : lo ≤ 9223372036854775807) (hn : n ≤ 9223372036854775807) (w : World) :
    Calls Tryz.prog 85 #[.int .u32 v, .int .i64 lo, .int .i64 n] w fun e w' => e = .returned (.int .u32 (fieldW v lo n : Nat)) ∧ w' = w := by
  have hr : raiseN v (wrap64 (-lo)) = raiseN v (-lo) := by
    by_cases h : lo = -9223372036854775808
    · subst h
      unfold raiseN wrap64
      simp
      omega
    · have : wrap64 (-lo) = -lo := by unfold wrap64; omega
      rw [this]
  have hlt := raiseN_lt v hv (wrap64 (-lo))
  have hlp := placesN_lt 0 n
  have HA : Hid (bits .and .u32 ((raiseN v (wrap64 (-lo)) : Nat) : Int) ((placesN 0 n : Nat) : Int) = ((fieldW v lo n : Nat) : Int)) := by
    show _ = _
    rw [u32_and_nat _ _ hlt hlp, hr]; rfl
  have hb : -9223372036854775808 ≤ wrap64 (-lo) ∧ wrap64 (-lo) ≤ 9223372036854775807 := by unfold wrap64; omega
  clear hr
  generalize fieldW v lo n = z at *
  have HB := hb
  go_enter Tryz.func85, Tryz.ntmps85
  go_wp2_with (first | (go_at_call 114; refine (raise_any v hv (wrap64 (-lo)) HB.1 HB.2 _).mono ?_; rintro e w' ⟨rfl, rfl⟩) | (go_at_call 113; refine (places_any 0 n (by omega) (by omega) hn _).mono ?_; rintro e w' ⟨rfl, rfl⟩))
  go_ret
  exact ⟨ret_int HA.out, rfl⟩

def setW (v : Nat) (lo n : Int) (x : Nat) : Nat := (v &&& (4294967295 - placesN lo n)) ||| (raiseN x lo &&& placesN lo n)

set_option maxHeartbeats 400000 in
theorem set_any (v : Nat) (hv : v < 4294967296) (lo n : Int) (hlo : -9223372036854775808 ≤ lo) (hhi : lo ≤ 9223372036854775807) (hn : n ≤ 9223372036854775807) (x : Nat) (hx : x < 4294967296) (w : World) :
    Calls Tryz.prog 83 #[.int .u32 v, .int .i64 lo, .int .i64 n, .int .u32 x] w fun e w' => e = .returned (.int .u32 (setW v lo n x : Nat)) ∧ w' = w := by
  have hlt := raiseN_lt x hx lo
  have hlp := placesN_lt lo n
  have HA : Hid (bits .or .u32 (bits .andNot .u32 (v : Int) ((placesN lo n : Nat) : Int)) (bits .and .u32 ((raiseN x lo : Nat) : Int) ((placesN lo n : Nat) : Int)) = ((setW v lo n x : Nat) : Int)) := by
    show _ = _
    rw [u32_andNot_nat _ _ hv hlp, u32_and_nat _ _ hlt hlp, u32_or_nat _ _ (Nat.lt_of_le_of_lt Nat.and_le_left hv) (Nat.lt_of_le_of_lt Nat.and_le_right hlp)]; rfl
  clear hlt hlp
  generalize setW v lo n x = z at *
  go_enter Tryz.func83, Tryz.ntmps83
  go_wp2_with (first | (go_at_call 114; refine (raise_any x hx lo hlo hhi _).mono ?_; rintro e w' ⟨rfl, rfl⟩) | (go_at_call 113; refine (places_any lo n hlo hhi hn _).mono ?_; rintro e w' ⟨rfl, rfl⟩))
  go_ret
  exact ⟨ret_int HA.out, rfl⟩
end Go.Proofs.YtoekcfbjdcibpaaGreatDoor
