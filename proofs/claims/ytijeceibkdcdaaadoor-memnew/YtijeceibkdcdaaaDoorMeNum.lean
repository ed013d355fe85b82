/-
  What mem's checkNumber answers, and what atomic.Int64's Add does.
-/
import Derived.Test.YtijeceibkdcdaaaDoorMeSmall
namespace Go.Proofs.YtijeceibkdcdaaaDoor
open Go.RowKit
set_option linter.unusedVariables false

theorem has_any (b P n a : Nat) (ha : a < 4294967296) (hn : n ≤ 16384) (k : Int) (h0 : 0 ≤ k) (h1 : k ≤ 9223372036854775807) (w : World) (hP : PagesAt w b P n) :
    Calls Tryd.prog 24 #[.pointer (some ⟨b, 0, none⟩), .int .u32 a, .int .i64 k] w fun e w' => e = .returned (.bool (hasB a k n)) ∧ w' = w := by
  by_cases h : k = 0
  · subst h
    exact has_zero b P n a w
  · have e : hasB a k n = decide ((a : Int) + k ≤ (n : Int) * 4096) := by
      have h2 : (k == 0) = false := by simpa using h
      unfold hasB; rw [h2, Bool.false_or]
    rw [e]
    exact has_some b P n a ha hn k (by omega) h1 w hP

/-- The number of checkNumber's error; 0: none. -/
def numE (a : Nat) (k : Int) (n : Nat) : Int := if k ≠ 1 ∧ k ≠ 2 ∧ k ≠ 4 then 21 else if (n : Int) * 4096 < a + k then 4 else if (a : Int) % k ≠ 0 then 5 else 0
def errM (c : Int) : Value := if c = 0 then .nilIface else .iface 51 (.int .i64 c)

set_option maxHeartbeats 400000 in
theorem check_nil (a : Nat) (k : Int) (w : World) :
    Calls Tryd.prog 20 #[.pointer none, .int .u32 a, .int .i64 k] w fun e w' => e = .returned (.iface 51 (.int .i64 1)) ∧ w' = w := by
  go_enter Tryd.func20, Tryd.ntmps20
  go_wp2
  go_ret
  exact ⟨rfl, rfl⟩
set_option maxHeartbeats 400000 in
theorem check_width (b a : Nat) (k : Int) (h1 : k ≠ 1) (h2 : k ≠ 2) (h4 : k ≠ 4) (w : World) :
    Calls Tryd.prog 20 #[.pointer (some ⟨b, 0, none⟩), .int .u32 a, .int .i64 k] w fun e w' => e = .returned (.iface 51 (.int .i64 21)) ∧ w' = w := by
  have q1 : (k != 1) = true := by simpa using h1
  have q2 : (k != 2) = true := by simpa using h2
  have q4 : (k != 4) = true := by simpa using h4
  clear h1 h2 h4
  go_enter Tryd.func20, Tryd.ntmps20
  go_wp2
  go_ret
  exact ⟨rfl, rfl⟩
set_option maxHeartbeats 1000000 in
theorem check_wide (b P n a k : Nat) (hk : k = 1 ∨ k = 2 ∨ k = 4) (ha : a < 4294967296) (hn : n ≤ 16384) (w : World) (hP : PagesAt w b P n) :
    Calls Tryd.prog 20 #[.pointer (some ⟨b, 0, none⟩), .int .u32 a, .int .i64 k] w fun e w' => e = .returned (errM (numE a k n)) ∧ w' = w := by
  have HH := hide (has_any b P n a ha hn k (by omega) (by omega) w hP)
  have e0 : hasB a k n = decide ((a : Int) + k ≤ (n : Int) * 4096) := by
    have h2 : ((k : Int) == 0) = false := by simp; omega
    unfold hasB; rw [h2, Bool.false_or]
  rw [e0] at HH
  clear e0 hP
  by_cases hr : (a : Int) + k ≤ (n : Int) * 4096
  · rw [decide_eq_true hr] at HH
    by_cases hm : (a : Int) % k = 0
    · have hE : Hid (errM (numE a k n) = .nilIface) := by
        show _ = _
        unfold numE; rw [if_neg (by omega), if_neg (by omega), if_neg (by simpa using hm)]; rfl
      rw [hE.out]
      clear hE hr
      have hq : ((a : Int) % (k : Int) != 0) = false := by simpa using hm
      clear hm
      rcases hk with rfl | rfl | rfl
      all_goals
        go_enter Tryd.func20, Tryd.ntmps20
        go_wp2_with (first | (go_at_call 24; refine HH.out.mono ?_; rintro e w1 ⟨rfl, rfl⟩))
        go_ret
        exact ⟨rfl, rfl⟩
    · have hE : Hid (errM (numE a k n) = .iface 51 (.int .i64 5)) := by
        show _ = _
        unfold numE; rw [if_neg (by omega), if_neg (by omega), if_pos hm]; rfl
      rw [hE.out]
      clear hE hr
      have hq : ((a : Int) % (k : Int) != 0) = true := by simpa using hm
      rcases hk with rfl | rfl | rfl
      · exact absurd (by omega) hm
      all_goals
        clear hm
        go_enter Tryd.func20, Tryd.ntmps20
        go_wp2_with (first | (go_at_call 24; refine HH.out.mono ?_; rintro e w1 ⟨rfl, rfl⟩))
        go_ret
        exact ⟨rfl, rfl⟩
  · rw [decide_eq_false hr] at HH
    have hE : Hid (errM (numE a k n) = .iface 51 (.int .i64 4)) := by
      show _ = _
      unfold numE; rw [if_neg (by omega), if_pos (by omega)]; rfl
    rw [hE.out]
    clear hE hr
    rcases hk with rfl | rfl | rfl
    all_goals
      go_enter Tryd.func20, Tryd.ntmps20
      go_wp2_with (first | (go_at_call 24; refine HH.out.mono ?_; rintro e w1 ⟨rfl, rfl⟩))
      go_ret
      exact ⟨rfl, rfl⟩
end Go.Proofs.YtijeceibkdcdaaaDoor
