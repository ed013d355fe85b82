/-
  What asm.labelOf and asm.takesLabel answer.
-/
import Derived.Test.YthfcodiplmodaaaGreatDoorAsTextW
import Derived.Test.YthfcodiplmodaaaGreatDoorShelf2
namespace Go.Proofs.YthfcodiplmodaaaGreatDoor
open Go.RowKit
set_option linter.unusedVariables false

def isLow (c : UInt8) : Bool := decide (97 ≤ c.toNat ∧ c.toNat ≤ 122)
/-- The name that a label line gives. -/
def labelL (t : Str) : Str :=
  if Lib.hasSuffix t [58] = true ∧ (Lib.trimSuffix t [58]).length ≤ 16 ∧ (Lib.trimSuffix t [58]).all isLow = true then Lib.trimSuffix t [58] else []

set_option maxHeartbeats 2000000 in
set_option maxRecDepth 100000 in
theorem label_any (t : Str) (ht : t.length ≤ 100000) (w : World) :
    Calls Tryz.prog 45 #[.string ⟨t.toArray⟩] w fun e w' => e = .returned (.string ⟨(labelL t).toArray⟩) ∧ w' = w := by
  have HC := hide (fun w => Tryz.strings_CutSuffix ⟨t.toArray⟩ ⟨#[58]⟩ w (by simp [ByteArray.size]; omega))
  have hd : (ByteArray.mk t.toArray).data.toList = t := rfl
  have hd2 : (ByteArray.mk #[58]).data.toList = [58] := rfl
  rw [hd, hd2] at HC
  clear hd hd2
  have HL := hide (show labelL t = if Lib.hasSuffix t [58] = true ∧ (Lib.trimSuffix t [58]).length ≤ 16 ∧ (Lib.trimSuffix t [58]).all isLow = true then Lib.trimSuffix t [58] else [] from rfl)
  generalize Lib.hasSuffix t [58] = b at *
  generalize Lib.trimSuffix t [58] = n at *
  cases b with
  | false =>
    go_enter Tryz.func45, Tryz.ntmps45
    go_wp2_with (go_at_call 75; refine (HC.out _).mono ?_; rintro e w2 ⟨rfl, rfl⟩)
    go_ret
    exact ⟨ret_str (by rw [HL.out]; simp), rfl⟩
  | true =>
    by_cases h16 : n.length ≤ 16
    · have hnl : ¬ (16 : Int) < (n.length : Int) := by omega
      go_enter Tryz.func45, Tryz.ntmps45
      go_wp2_with (go_at_call 75; refine (HC.out _).mono ?_; rintro e w2 ⟨rfl, rfl⟩)
      go_loop [20] (fun iv => ∃ k : Nat, k ≤ n.length ∧ iv = .int .i64 k ∧ (n.take k).all isLow = true) (fun iv => n.length - (intOf iv).toNat)
      case atStart => exact ⟨0, Nat.zero_le _, rfl, rfl⟩
      case round =>
        obtain ⟨k, hk, rfl, hal⟩ := hrel
        have HAl := hide hal
        clear hal
        by_cases hlt : k < n.length
        · obtain ⟨c, hc⟩ : ∃ c, n[k]? = some c := ⟨_, List.getElem?_eq_getElem hlt⟩
          have hix := run_at n k c hc
          have HCm := hide (List.mem_of_getElem? hc)
          have HTk := hide (show n.take (k + 1) = n.take k ++ [c] by rw [List.take_add_one, hc]; rfl)
          clear hc
          by_cases h97 : (c.toNat : Int) < 97
          · go_wp2
            go_ret
            refine ⟨ret_str ?_, rfl⟩
            rw [HL.out, if_neg]
            rintro ⟨_, _, h⟩
            have := List.all_eq_true.1 h c HCm.out
            simp [isLow] at this
            omega
          · by_cases h122 : 122 < (c.toNat : Int)
            · go_wp2
              go_ret
              refine ⟨ret_str ?_, rfl⟩
              rw [HL.out, if_neg]
              rintro ⟨_, _, h⟩
              have := List.all_eq_true.1 h c HCm.out
              simp [isLow] at this
              omega
            · go_wp2
              go_round
              case rel => exact ⟨k + 1, by omega, by go_num, by rw [HTk.out, List.all_append, HAl.out]; simp [isLow]; omega⟩
              case measure => simp [intOf]; omega
        · obtain rfl : k = n.length := by omega
          go_wp2
          go_ret
          refine ⟨ret_str ?_, rfl⟩
          have := HAl.out
          rw [List.take_length] at this
          rw [HL.out, if_pos ⟨by trivial, h16, this⟩]
    · have hnl : (16 : Int) < (n.length : Int) := by omega
      go_enter Tryz.func45, Tryz.ntmps45
      go_wp2_with (go_at_call 75; refine (HC.out _).mono ?_; rintro e w2 ⟨rfl, rfl⟩)
      go_ret
      exact ⟨ret_str (by rw [HL.out]; simp [h16]), rfl⟩

theorem takes_any (op : Nat) (hop : op < 57) (w : World) (hT : TabsAt w) :
    Calls Tryz.prog 110 #[.int .i64 op] w fun e w' => e = .returned (.bool (kindN op == 66 || kindN op == 74)) ∧ w' = w := by
  have HK := hide (kind_yes op hop w hT.1.1)
  have hk := kindN_is op hop
  clear hT
  generalize kindN op = k at *
  rcases hk with rfl | rfl | rfl | rfl | rfl | rfl | rfl | rfl | rfl | rfl | rfl
  all_goals
    go_enter Tryz.func110, Tryz.ntmps110
    go_wp2_with (go_at_call 57; refine HK.out.mono ?_; rintro e w2 ⟨rfl, rfl⟩)
    go_ret
    exact ⟨rfl, rfl⟩
end Go.Proofs.YthfcodiplmodaaaGreatDoor
