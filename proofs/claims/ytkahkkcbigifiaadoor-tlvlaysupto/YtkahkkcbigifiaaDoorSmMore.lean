/-
  The sum of bytes, the program's.
-/
import Derived.Test.YtkahkkcbigifiaaDoorSmProg
namespace Go.Proofs.YtkahkkcbigifiaaDoor
open Go.RowKit
set_option linter.unusedVariables false

theorem crc_take (l : List Nat) (s k : Nat) (hk : k < l.length) : crcL (l.take (k + 1)) s = crcL [l[k]] (crcL (l.take k) s) := by
  rw [List.take_add_one, List.getElem?_eq_getElem hk, crcL_app]; rfl
theorem crc_all (l : List Nat) (s n : Nat) (h : l.length = n) : crcL (l.take n) s = crcL l s := by rw [List.take_of_length_le (by omega)]
set_option maxRecDepth 100000 in
set_option maxHeartbeats 1000000 in
theorem more_any (s : Nat) (hs : s < 4294967296) {B : Nat} {v : Value} {l : List Nat} (w : World) (h : Rd B w v l) (hT : TabAt w) :
    Calls Tryd.prog 58 #[.int .u32 (s : Nat), v] w fun e w' => e = .returned (.int .u32 (crcL l s : Nat)) ∧ w' = w := by
  have HT := hide hT
  clear hT
  by_cases h0 : 0 < l.length
  · obtain ⟨b, off, cap, rfl, hcap, hmax, _, HC, HL⟩ := h.all h0
    obtain ⟨n, hn⟩ : ∃ n, l.length = n := ⟨_, rfl⟩
    have HN := hide hn
    clear h
    rw [hn] at hcap h0 ⊢
    clear hn
    go_enter Tryd.func58, Tryd.ntmps58
    go_wp2
    go_loop [0, 9] (fun x i => ∃ k : Nat, k ≤ n ∧ i = .int .i64 k ∧ x = .int .u32 (crcL (l.take k) s : Nat)) (fun _ i => n - (intOf i).toNat)
    case atStart => exact ⟨0, Nat.zero_le _, rfl, rfl⟩
    case round =>
      obtain ⟨k, hk, rfl, rfl⟩ := hrel
      have hx : crcL (l.take k) s < 4294967296 := crcL_lt _ hs
      by_cases hlt : k < n
      · have hkl : k < l.length := by rw [HN.out]; exact hlt
        have hc := HC.out k hkl
        have hcb := HL.out l[k] (List.getElem_mem hkl)
        have HS := hide (crc_take l s k hkl)
        rw [crc_byte _ hcb hx, zN_add 4 4] at HS
        generalize crcL (l.take k) s = x at *
        generalize l[k] = c at *
        have hxc : x ^^^ c * 16777216 < 4294967296 := xor_lt32 hx (by omega)
        have HX := hide (show bits .xor .u32 (x : Nat) ((c : Int) * 16777216) = ((x ^^^ c * 16777216 : Nat) : Int) from xor_u32 x (c * 16777216) hx (by omega))
        have F1 := hide (fun w => fourOn_any (x ^^^ c * 16777216) hxc w)
        have F2 := hide (fun w => fourOn_any (zN 4 (x ^^^ c * 16777216)) (zN_lt 4 hxc) w)
        clear hxc
        go_wp2_with (first | (go_at_call 64; rw [HX.out]; (with_reducible refine (F1.out _ HT.out).mono ?_); rintro e w' ⟨rfl, rfl⟩) | (go_at_call 64; (with_reducible refine (F2.out _ HT.out).mono ?_); rintro e w' ⟨rfl, rfl⟩))
        go_round
        case rel => exact ⟨k + 1, by omega, by go_num, by rw [HS.out]⟩
        case measure => simp [intOf]; omega
      · obtain rfl : k = n := by omega
        go_wp2
        go_ret
        exact ⟨ret_int (by rw [crc_all l s k HN.out]), rfl⟩
  · obtain ⟨rfl, ad, cap, rfl, hmax⟩ := h.none h0
    go_enter Tryd.func58, Tryd.ntmps58
    go_wp2
    go_loop [0, 9] (fun x i => i = .int .i64 0 ∧ x = .int .u32 (s : Nat)) (fun _ i => 0)
    case atStart => exact ⟨rfl, rfl⟩
    case round =>
      obtain ⟨rfl, rfl⟩ := hrel
      go_wp2
      go_ret
      exact ⟨rfl, rfl⟩
theorem of_any {B : Nat} {v : Value} {l : List Nat} (w : World) (h : Rd B w v l) (hT : TabAt w) :
    Calls Tryd.prog 50 #[v] w fun e w' => e = .returned (.int .u32 (sumL l : Nat)) ∧ w' = w := by
  have H := hide (show Calls Tryd.prog 58 #[.int .u32 4294967295, v] w fun e w' => e = .returned (.int .u32 (sumL l : Nat)) ∧ w' = w from more_any 4294967295 (by decide) w h hT)
  go_enter Tryd.func50, Tryd.ntmps50
  go_wp2_with (go_at_call 58; (with_reducible refine (H.out).mono ?_); rintro e w' ⟨rfl, rfl⟩)
  go_ret
  exact ⟨rfl, rfl⟩
end Go.Proofs.YtkahkkcbigifiaaDoor
