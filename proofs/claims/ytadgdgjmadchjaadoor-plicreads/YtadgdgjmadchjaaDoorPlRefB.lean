/-
  What the document's Best answers.
-/
import Derived.Test.YtadgdgjmadchjaaDoorPlBits
import Derived.Test.YtadgdgjmadchjaaDoorPlRefM
import Derived.BigQuiet
import Derived.Deep.QuietTactic
namespace Go.Proofs.YtadgdgjmadchjaaDoor
open Go.RowKit
set_option linter.unusedVariables false

set_option maxRecDepth 100000 in
set_option maxHeartbeats 4000000 in
theorem rbest_any (s : P5) (hs : s.Ok) (w : World) :
    Calls Tryd.prog 11 #[.agg s.cells] w fun e w' => e = .returned (.int .i64 (bestV s : Nat)) ∧ Below w.heap.size w w' := by
  have hpe := hs.pe
  have hen := hs.en
  have HC := hide hs
  have HB := hide (fun v h a w => bit_any v h a w)
  go_enter Tryd.func11, Tryd.ntmps11
  go_wp2_with (first | ((with_reducible refine bx_r w.heap.size s ?_ ?_ ?_); exact rfl; exact rfl; intro W hr hb hz))
  go_loopw [3, 4] (fun bv nv wr => ∃ m : Nat, m ≤ 7 ∧ nv = .int .i64 ((7 - m : Nat) : Int) ∧ bv = .int .i64 (dB s m : Nat) ∧ RowAt wr w.heap.size s.cells 25 ∧ Below w.heap.size w wr) (fun _ nv _ => (intOf nv).toNat)
  case atStart => exact ⟨0, by omega, rfl, rfl, hr, hb⟩
  case round =>
    clear hr hb hz
    obtain ⟨m, hm, rfl, rfl, hr, hb⟩ := hrel
    have HR := hide hr
    have HBl := hide hb
    by_cases hlt : m < 7
    · have hN : dB s (m + 1) = if (wants s (7 - m) = true ∧ s.th < s.pr (7 - m)) ∧ (dB s m = 0 ∨ s.pr (dB s m) ≤ s.pr (7 - m)) then 7 - m else dB s m := rfl
      have hx7 : dB s m ≤ 7 := by rcases (dBest s m hm).is with h | h <;> omega
      generalize hn : 7 - m = n at *
      have n1 : 1 ≤ n := by omega
      have n7 : n ≤ 7 := by omega
      have t0 : ((n : Int) > 0) := by omega
      have t0b : decide (0 < n) = true := by simp; omega
      have t0c : 0 < n := n1
      have c8 := (hr.cell 8).trans (P5.at8 s)
      have c9 := (hr.cell 9).trans (P5.at9 s)
      have c10 := (hr.cell 10).trans (P5.at10 s)
      have cn := (hr.cell n).trans (s.cell_pr n (by omega))
      have cb := (hr.cell (dB s m)).trans (s.cell_pr (dB s m) (by omega))
      generalize dB s m = x at *
      clear hr hb
      have t1 : (((bitN s.pe (n : Int) : Nat) : Int) == 0) = !s.pe.testBit n := by rw [bitN_tb _ _ (by omega)]; cases s.pe.testBit n <;> rfl
      have t2 : (((bitN s.en (n : Int) : Nat) : Int) == 0) = !s.en.testBit n := by rw [bitN_tb _ _ (by omega)]; cases s.en.testBit n <;> rfl
      have hw : wants s n = (s.pe.testBit n && s.en.testBit n) := by unfold wants; rw [show (n != 0) = true by simp; omega]; rfl
      rw [hw] at hN
      clear hw
      cases hp : s.pe.testBit n with
      | false =>
        rw [hp] at t1 hN
        have HN : Hid (dB s (m + 1) = x) := hide (by rw [hN, if_neg (by simp)])
        clear hN hp
        simp only [Bool.not_false] at t1
        go_wp2
        go_quiet ((go_at_call 22; exact Calls.quiet_of_same (HB.out _ (by assumption) _ _)))
        go_wp2
        go_roundw
        case rel => exact ⟨m + 1, by omega, by (rw [show ((7 - (m + 1) : Nat) : Int) = ((n : Nat) : Int) - 1 by omega]), by rw [HN.out], HR.out.dn _, below_dn HBl.out _⟩
        case measure => simp [intOf]; omega
      | true =>
        rw [hp] at t1 hN
        simp only [Bool.not_true] at t1
        cases he : s.en.testBit n with
        | false =>
          rw [he] at t2 hN
          have HN : Hid (dB s (m + 1) = x) := hide (by rw [hN, if_neg (by simp)])
          clear hN hp he
          simp only [Bool.not_false] at t2
          go_wp2
          go_quiet ((go_at_call 22; exact Calls.quiet_of_same (HB.out _ (by assumption) _ _)))
          go_wp2
          go_roundw
          case rel => exact ⟨m + 1, by omega, by (rw [show ((7 - (m + 1) : Nat) : Int) = ((n : Nat) : Int) - 1 by omega]), by rw [HN.out], HR.out.dn _, below_dn HBl.out _⟩
          case measure => simp [intOf]; omega
        | true =>
          rw [he] at t2 hN
          simp only [Bool.not_true] at t2
          clear hp he
          by_cases h3 : s.th < s.pr n
          · have t3 : decide (s.pr n ≤ s.th) = false := by simp; omega
            by_cases h4 : x = 0
            · have t4 : ((x : Int) == 0) = true := by simp; omega
              have HN : Hid (dB s (m + 1) = n) := hide (by rw [hN, if_pos ⟨⟨rfl, h3⟩, .inl h4⟩])
              clear hN
              go_wp2
              go_quiet ((go_at_call 22; exact Calls.quiet_of_same (HB.out _ (by assumption) _ _)))
              go_wp2
              go_quiet (fail)
              go_wp2
              go_roundw
              case rel => exact ⟨m + 1, by omega, by (rw [show ((7 - (m + 1) : Nat) : Int) = ((n : Nat) : Int) - 1 by omega]), by rw [HN.out], HR.out.dn _, below_dn HBl.out _⟩
              case measure => simp [intOf]; omega
            · have t4 : ((x : Int) == 0) = false := by simp; omega
              by_cases h5 : s.pr x ≤ s.pr n
              · have t5 : decide (s.pr x ≤ s.pr n) = true := by simpa using h5
                have HN : Hid (dB s (m + 1) = n) := hide (by rw [hN, if_pos ⟨⟨rfl, h3⟩, .inr h5⟩])
                clear hN
                go_wp2
                go_quiet ((go_at_call 22; exact Calls.quiet_of_same (HB.out _ (by assumption) _ _)))
                go_wp2
                go_quiet (fail)
                go_wp2
                go_roundw
                case rel => exact ⟨m + 1, by omega, by (rw [show ((7 - (m + 1) : Nat) : Int) = ((n : Nat) : Int) - 1 by omega]), by rw [HN.out], HR.out.dn _, below_dn HBl.out _⟩
                case measure => simp [intOf]; omega
              · have t5 : decide (s.pr x ≤ s.pr n) = false := by simp; omega
                have HN : Hid (dB s (m + 1) = x) := hide (by rw [hN, if_neg (by simp [h4, h5])])
                clear hN
                go_wp2
                go_quiet ((go_at_call 22; exact Calls.quiet_of_same (HB.out _ (by assumption) _ _)))
                go_wp2
                go_quiet (fail)
                go_wp2
                go_roundw
                case rel => exact ⟨m + 1, by omega, by (rw [show ((7 - (m + 1) : Nat) : Int) = ((n : Nat) : Int) - 1 by omega]), by rw [HN.out], HR.out.dn _, below_dn HBl.out _⟩
                case measure => simp [intOf]; omega
          · have t3 : decide (s.pr n ≤ s.th) = true := by simp; omega
            have HN : Hid (dB s (m + 1) = x) := hide (by rw [hN, if_neg (by simp [h3])])
            clear hN
            go_wp2
            go_quiet ((go_at_call 22; exact Calls.quiet_of_same (HB.out _ (by assumption) _ _)))
            go_wp2
            go_roundw
            case rel => exact ⟨m + 1, by omega, by (rw [show ((7 - (m + 1) : Nat) : Int) = ((n : Nat) : Int) - 1 by omega]), by rw [HN.out], HR.out.dn _, below_dn HBl.out _⟩
            case measure => simp [intOf]; omega
    · obtain rfl : m = 7 := by omega
      clear hr hb
      have HD := hide (dB_best s)
      go_wp2
      go_ret
      exact ⟨by rw [← HD.out]; rfl, HBl.out⟩

end Go.Proofs.YtadgdgjmadchjaaDoor
