/-
  Noughts, the program's: squares.
-/
import Derived.Test.YtnokcfaipbolkaaDoorSmProg
namespace Go.Proofs.YtnokcfaipbolkaaDoor
open Go.RowKit
set_option linter.unusedVariables false

def nouV (s : Nat) (n : Int) : Nat := if 0 ≤ n ∧ n ≤ 1099511627776 then zN (8 * n.toNat) s else 0
def nouE (n : Int) : Value := if 0 ≤ n ∧ n ≤ 1099511627776 then .nilIface else .iface 47 (.int .i64 1)
set_option maxHeartbeats 1000000 in
theorem noughts_any (s : Nat) (hs : s < 4294967296) (n : Int) (w : World) (hT : TabAt w) :
    Calls Tryd.prog 18 #[.int .u32 (s : Nat), .int .i64 n] w fun e w' => e = .returned (.tuple #[.int .u32 (nouV s n : Nat), nouE n]) ∧ w' = w := by
  have HT := hide hT
  clear hT
  by_cases h : 0 ≤ n ∧ n ≤ 1099511627776
  · rw [nouV, nouE, if_pos h, if_pos h]
    obtain ⟨h0, h1⟩ := h
    obtain ⟨m, rfl⟩ := Int.eq_ofNat_of_zero_le h0
    rw [Int.toNat_natCast]
    replace h1 : m ≤ 1099511627776 := by omega
    clear h0
    go_enter Tryd.func18, Tryd.ntmps18
    go_wp2
    go_loop [0, 1, 6] (fun x y z => ∃ k : Nat, x = .int .u32 (zN (8 * (m % 2 ^ k)) s : Nat) ∧ y = .int .i64 (m / 2 ^ k : Nat) ∧ z = .int .u32 (powN k : Nat)) (fun _ y _ => (intOf y).toNat)
    case atStart => exact ⟨0, by simp [Nat.mod_one, zN], by simp, by rw [powN_zero]; rfl⟩
    case round =>
      obtain ⟨k, rfl, rfl, rfl⟩ := hrel
      have hx : zN (8 * (m % 2 ^ k)) s < 4294967296 := zN_lt _ hs
      have hz := powN_lt k
      have hd : m / 2 ^ k ≤ m := Nat.div_le_self _ _
      have HA := hide (show m / 2 ^ k / 2 = m / 2 ^ (k + 1) by rw [Nat.div_div_eq_div_mul, ← Nat.pow_succ])
      have HT1 := hide (nought_step m k s hs)
      have HP := hide (powN_succ k)
      have HE := hide (fun h => nought_end m k s h)
      generalize zN (8 * (m % 2 ^ k)) s = x at *
      generalize m / 2 ^ k = q at *
      generalize powN k = z at *
      by_cases h0 : q = 0
      · have he := hide (HE.out h0)
        have hq : (q : Int) ≤ 0 := by omega
        clear HE HT1 HA HP h0
        go_wp2
        go_ret2
        obtain rfl := he.out
        exact ⟨rfl, rfl⟩
      · clear HE
        have F1 := hide (fun w => times_any z z hz hz w)
        by_cases h1' : q % 2 = 1
        · have HZ := hide (HT1.out.symm.trans (if_pos h1'))
          have F2 := hide (fun w => times_any x z hx hz w)
          clear HT1
          go_wp2_with (first | (go_at_call 25; (with_reducible refine (F2.out _ HT.out).mono ?_); rintro e w' ⟨rfl, rfl⟩) | (go_at_call 25; (with_reducible refine (F1.out _ HT.out).mono ?_); rintro e w' ⟨rfl, rfl⟩))
          go_round
          case rel => exact ⟨k + 1, by rw [HZ.out], by rw [← HA.out]; go_num, by rw [HP.out]⟩
          case measure => simp [intOf]; omega
        · have HZ := hide (HT1.out.symm.trans (if_neg h1'))
          clear HT1
          go_wp2_with (go_at_call 25; (with_reducible refine (F1.out _ HT.out).mono ?_); rintro e w' ⟨rfl, rfl⟩)
          go_round
          case rel => exact ⟨k + 1, by rw [HZ.out], by rw [← HA.out]; go_num, by rw [HP.out]⟩
          case measure => simp [intOf]; omega
  · rw [nouV, nouE, if_neg h, if_neg h]
    by_cases h0 : n < 0
    · clear h
      go_enter Tryd.func18, Tryd.ntmps18
      go_wp2
      go_ret2
      exact ⟨rfl, rfl⟩
    · have h1 : 1099511627776 < n := by omega
      clear h
      go_enter Tryd.func18, Tryd.ntmps18
      go_wp2
      go_ret2
      exact ⟨rfl, rfl⟩
end Go.Proofs.YtnokcfaipbolkaaDoor
