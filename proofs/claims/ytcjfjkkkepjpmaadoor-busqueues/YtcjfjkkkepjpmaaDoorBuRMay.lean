/-
  Writes that wait: what the document's May and Check answer.
-/
import Derived.Test.YtcjfjkkkepjpmaaDoorBuCheck
import Derived.Test.YtcjfjkkkepjpmaaDoorBuRef
namespace Go.Proofs.YtcjfjkkkepjpmaaDoor
open Go.RowKit
set_option linter.unusedVariables false

theorem takes_six {d : Nat} (h0 : 1 ≤ d) (h6 : d ≤ 6) (n : Int) (hn : ¬ (n = 1 ∨ n = 4)) : takesW (widN d) n = false := by
  have hw : widN d = 1 ∨ widN d = 4 := by
    have : ∀ d, d < 7 → 1 ≤ d → (widN d = 1 ∨ widN d = 4) := by decide
    exact this d (by omega) h0
  unfold takesW
  rw [decide_eq_false_iff_not]
  rintro ⟨h1, h2⟩
  omega

set_option maxHeartbeats 1000000 in
theorem rmay_any (p : Pst) (hp : p.Ok) (w : World) :
    Calls Tryd.prog 29 #[.agg #[.int .i64 p.dev, .int .u32 (p.at' : Nat), .int .i64 p.n, .int .u32 (p.v : Nat)]] w fun e w' => e = .returned (.bool (mayP p)) ∧ Below w.heap.size w w' := by
  obtain ⟨dev, a, n, v⟩ := p
  obtain ⟨ha, hv⟩ := hp
  unfold mayP
  simp only at ha hv ⊢
  by_cases h1 : dev < 1
  · rw [show decide (1 ≤ dev ∧ dev ≤ 6) = false by simp; omega, Bool.false_and]
    go_enter Tryd.func29, Tryd.ntmps29
    go_wp2
    go_ret
    exact ⟨rfl, below_one _ _⟩
  by_cases h6 : 6 < dev
  · rw [show decide (1 ≤ dev ∧ dev ≤ 6) = false by simp; omega, Bool.false_and]
    go_enter Tryd.func29, Tryd.ntmps29
    go_wp2
    go_ret
    exact ⟨rfl, below_one _ _⟩
  rw [show decide (1 ≤ dev ∧ dev ≤ 6) = true by simp; omega, Bool.true_and]
  obtain ⟨d, rfl⟩ := Int.eq_ofNat_of_zero_le (show 0 ≤ dev by omega)
  rw [Int.toNat_natCast]
  have hd8 : d < 8 := by omega
  have hd1 : 1 ≤ d := by omega
  have hd6 : d ≤ 6 := by omega
  by_cases hn : n = 1 ∨ n = 4
  · have hw : isW n = true := by unfold isW; simp; omega
    have HBy := hide (by_any d hd1 hd8 n hw)
    have HBs : Hid (∀ w, Calls Tryd.prog 13 #[.int .i64 d, .int .u32 0] w fun e w' => e = .returned (.tuple #[.int .u32 (firstN d : Nat), .int .u32 (sizeN d 0 : Nat)]) ∧ w' = w) := by
      refine hide (fun w => ?_)
      have := rbase_any d 0 (by decide) w
      unfold baseV at this
      rw [if_pos (by omega), Int.toNat_natCast] at this
      exact this
    obtain ⟨k, rfl⟩ := Int.eq_ofNat_of_zero_le (show 0 ≤ n by omega)
    rw [Int.toNat_natCast]
    have hk0 : (k : Int) ≠ 0 := by omega
    have hk4 : k ≤ 4 := by omega
    have hzl : sizeN d 0 < 4294967296 := size_lt hd8
    have hcase : (((k : Int) != 1) = false) ∨ (((k : Int) != 1) = true ∧ ((k : Int) != 4) = false) := by
      have : k = 1 ∨ k = 4 := by omega
      rcases this with rfl | rfl <;> simp
    generalize firstN d = f at *
    generalize sizeN d 0 = z at *
    generalize takesW (widN d) (k : Int) = tk at *
    cases tk with
    | true =>
      rw [Bool.true_and]
      by_cases hal : a % k = 0
      · rw [show decide (a % k = 0) = true by simpa using hal, Bool.true_and]
        have hal' : ((a : Int) % (k : Int) == 0) = true := by
          have : (a : Int) % (k : Int) = 0 := by omega
          simp [this]
        clear hn hw hal
        rcases hcase with c1 | ⟨c1, c2⟩
        all_goals
          go_enter Tryd.func29, Tryd.ntmps29
          go_wp2_with (first | (go_at_call 26; refine (HBy.out _).mono ?_; rintro e w1 ⟨rfl, rfl⟩) | (go_at_call 13; refine (HBs.out _).mono ?_; rintro e w2 ⟨rfl, rfl⟩))
          go_ret
          exact ⟨congrArg (fun b : Bool => Ending.returned (.bool b)) (by simp only [decide_eq_decide]; omega), below_one _ _⟩
      · rw [show decide (a % k = 0) = false by simpa using hal, Bool.false_and]
        have hal' : ((a : Int) % (k : Int) == 0) = false := by
          have : ¬ (a : Int) % (k : Int) = 0 := by omega
          simp [this]
        clear hn hw hal
        rcases hcase with c1 | ⟨c1, c2⟩
        all_goals
          go_enter Tryd.func29, Tryd.ntmps29
          go_wp2_with (first | (go_at_call 26; refine (HBy.out _).mono ?_; rintro e w1 ⟨rfl, rfl⟩) | (go_at_call 13; refine (HBs.out _).mono ?_; rintro e w2 ⟨rfl, rfl⟩))
          go_ret
          exact ⟨rfl, below_one _ _⟩
    | false =>
      rw [Bool.false_and]
      clear hn hw
      rcases hcase with c1 | ⟨c1, c2⟩
      all_goals
        go_enter Tryd.func29, Tryd.ntmps29
        go_wp2_with (first | (go_at_call 26; refine (HBy.out _).mono ?_; rintro e w1 ⟨rfl, rfl⟩))
        go_ret
        exact ⟨rfl, below_one _ _⟩
  · rw [takes_six hd1 hd6 n hn, Bool.false_and]
    have c1 : (n != 1) = true := by simp; omega
    have c4 : (n != 4) = true := by simp; omega
    clear hn
    go_enter Tryd.func29, Tryd.ntmps29
    go_wp2
    go_ret
    exact ⟨rfl, below_one _ _⟩
end Go.Proofs.YtcjfjkkkepjpmaaDoor
