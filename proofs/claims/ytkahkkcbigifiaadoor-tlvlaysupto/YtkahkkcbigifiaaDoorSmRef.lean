/-
  The document's sums.
-/
import Derived.Test.YtkahkkcbigifiaaDoorSmMore
namespace Go.Proofs.YtkahkkcbigifiaaDoor
open Go.RowKit
set_option linter.unusedVariables false

theorem xor_poly (a : Nat) (ha : a < 4294967296) : bits .xor .u32 (a : Nat) 79764919 = ((a ^^^ 79764919 : Nat) : Int) := xor_u32 a 79764919 ha (by decide)
set_option maxRecDepth 100000 in
set_option maxHeartbeats 1000000 in
theorem rbit_any (s : Nat) (hs : s < 4294967296) (one : Bool) (w : World) :
    Calls Tryd.prog 65 #[.int .u32 (s : Nat), .bool one] w fun e w' => e = .returned (.int .u32 (zs (s ^^^ topS one) : Nat)) ∧ w' = w := by
  have HB := hide (ref_bit hs one)
  have HX := hide (show bits .xor .u32 ((s : Int) * 2 % 4294967296) 79764919 = ((s * 2 % 4294967296 ^^^ 79764919 : Nat) : Int) from xor_poly (s * 2 % 4294967296) (by omega))
  cases one
  · by_cases hI : (2147483648 : Int) ≤ (s : Int)
    · have HZ := hide (HB.out.symm.trans (if_pos (by rw [decide_eq_true (show 2147483648 ≤ s by omega)]; rfl)))
      have hD := decide_eq_true hI
      clear HB hI
      go_enter Tryd.func65, Tryd.ntmps65
      go_wp2
      go_ret
      exact ⟨ret_int (by rw [HX.out, HZ.out]), rfl⟩
    · have HZ := hide (HB.out.symm.trans (if_neg (by rw [decide_eq_false (show ¬ 2147483648 ≤ s by omega)]; decide)))
      have hD := decide_eq_false hI
      clear HB hI
      go_enter Tryd.func65, Tryd.ntmps65
      go_wp2
      go_ret
      exact ⟨ret_int (by rw [HZ.out]; rfl), rfl⟩
  · go_enter Tryd.func65, Tryd.ntmps65
    go_wp2
    · rename_i hq
      go_ret
      exact ⟨ret_int (by rw [HX.out, ← HB.out, if_pos (by simp at hq ⊢; omega)]), rfl⟩
    · rename_i hq
      go_ret
      exact ⟨ret_int (by rw [← HB.out, if_neg (by simp at hq ⊢; omega)]; rfl), rfl⟩
theorem bit_at0 : ∀ c : Fin 256, ∀ k : Fin 8, decide (128 ≤ c.val * 2 ^ k.val % 256) = c.val.testBit (7 - k.val) := by decide +kernel
theorem bit_at (c k : Nat) (hc : c < 256) (hk : k < 8) : decide (128 ≤ c * 2 ^ k % 256) = c.testBit (7 - k) := bit_at0 ⟨c, hc⟩ ⟨k, hk⟩
theorem byteN_lt (c n : Nat) {s : Nat} (h : s < 4294967296) : byteN c n s < 4294967296 := by
  cases n with
  | zero => exact h
  | succ n => exact zs_lt _
set_option maxRecDepth 100000 in
set_option maxHeartbeats 2000000 in
theorem rmore_any (s : Nat) (hs : s < 4294967296) {B : Nat} {v : Value} {l : List Nat} (w : World) (h : Rd B w v l) :
    Calls Tryd.prog 59 #[.int .u32 (s : Nat), v] w fun e w' => e = .returned (.int .u32 (crcL l s : Nat)) ∧ w' = w := by
  by_cases h0 : 0 < l.length
  · obtain ⟨b, off, cap, rfl, hcap, hmax, _, HC, HL⟩ := h.all h0
    obtain ⟨n, hn⟩ : ∃ n, l.length = n := ⟨_, rfl⟩
    have HN := hide hn
    clear h
    rw [hn] at hcap h0 ⊢
    clear hn
    go_enter Tryd.func59, Tryd.ntmps59
    go_wp2
    go_loop [0, 5] (fun x i => ∃ k : Nat, k ≤ n ∧ i = .int .i64 k ∧ x = .int .u32 (crcL (l.take k) s : Nat)) (fun _ i => n - (intOf i).toNat)
    case atStart => exact ⟨0, Nat.zero_le _, rfl, rfl⟩
    case round =>
      obtain ⟨k, hk, rfl, rfl⟩ := hrel
      have hx : crcL (l.take k) s < 4294967296 := crcL_lt _ hs
      by_cases hlt : k < n
      · have hkl : k < l.length := by rw [HN.out]; exact hlt
        have hc := HC.out k hkl
        have hcb := HL.out l[k] (List.getElem_mem hkl)
        have HS := hide (crc_take l s k hkl)
        rw [byte_crc] at HS
        generalize crcL (l.take k) s = x at *
        generalize l[k] = c at *
        go_wp2
        go_loop [0, 6, 7] (fun y d i => ∃ j : Nat, j ≤ 8 ∧ i = .int .i64 j ∧ d = .int .u8 (c * 2 ^ j % 256 : Nat) ∧ y = .int .u32 (byteN c j x : Nat)) (fun _ _ i => 8 - (intOf i).toNat)
        case atStart => exact ⟨0, Nat.zero_le _, rfl, by rw [Nat.pow_zero, Nat.mul_one, Nat.mod_eq_of_lt hcb], rfl⟩
        case round =>
          obtain ⟨j, hj, rfl, rfl, rfl⟩ := hrel
          have hy : byteN c j x < 4294967296 := byteN_lt c j hx
          by_cases hj8 : j < 8
          · have HB := hide (bit_at c j hcb hj8)
            have HD := hide (show c * 2 ^ j % 256 * 2 % 256 = c * 2 ^ (j + 1) % 256 by rw [Nat.pow_succ, ← Nat.mul_assoc]; omega)
            have hd : c * 2 ^ j % 256 < 256 := Nat.mod_lt _ (by decide)
            generalize c * 2 ^ j % 256 = d at *
            have F1 := hide (fun w => rbit_any (byteN c j x) hy (decide (128 ≤ d)) w)
            rw [HB.out] at F1
            have HBI := hide (show decide (128 ≤ (d : Int)) = c.testBit (7 - j) by rw [← HB.out]; congr 1; simp; omega)
            clear HB
            go_wp2_with (go_at_call 65; rw [HBI.out]; (with_reducible refine (F1.out _).mono ?_); rintro e w' ⟨rfl, rfl⟩)
            go_round
            case rel => exact ⟨j + 1, by omega, by go_num, by rw [← HD.out]; go_num, rfl⟩
            case measure => simp [intOf]; omega
          · obtain rfl : j = 8 := by omega
            generalize hcc : c * 2 ^ 8 % 256 = d
            clear hcc
            simp only [Int.cast_ofNat_Int] at *
            go_wp2
            go_round
            case rel => exact ⟨k + 1, by omega, by go_num, by rw [HS.out]⟩
            case measure => simp [intOf]; omega
      · obtain rfl : k = n := by omega
        go_wp2
        go_ret
        exact ⟨ret_int (by rw [crc_all l s k HN.out]), rfl⟩
  · obtain ⟨rfl, ad, cap, rfl, hmax⟩ := h.none h0
    go_enter Tryd.func59, Tryd.ntmps59
    go_wp2
    go_loop [0, 5] (fun x i => i = .int .i64 0 ∧ x = .int .u32 (s : Nat)) (fun _ i => 0)
    case atStart => exact ⟨rfl, rfl⟩
    case round =>
      obtain ⟨rfl, rfl⟩ := hrel
      go_wp2
      go_ret
      exact ⟨rfl, rfl⟩
theorem rof_any {B : Nat} {v : Value} {l : List Nat} (w : World) (h : Rd B w v l) :
    Calls Tryd.prog 51 #[v] w fun e w' => e = .returned (.int .u32 (sumL l : Nat)) ∧ w' = w := by
  have H := hide (show Calls Tryd.prog 59 #[.int .u32 4294967295, v] w fun e w' => e = .returned (.int .u32 (sumL l : Nat)) ∧ w' = w from rmore_any 4294967295 (by decide) w h)
  go_enter Tryd.func51, Tryd.ntmps51
  go_wp2_with (go_at_call 59; (with_reducible refine (H.out).mono ?_); rintro e w' ⟨rfl, rfl⟩)
  go_ret
  exact ⟨rfl, rfl⟩
end Go.Proofs.YtkahkkcbigifiaaDoor
