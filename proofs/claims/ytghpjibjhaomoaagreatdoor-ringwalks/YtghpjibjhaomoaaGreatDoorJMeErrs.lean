/-
  What word.checkPlace, word.Get and the document's check and Get answer, whatever bytes, place and width are handed in.
-/
import Derived.Test.YtghpjibjhaomoaaGreatDoorJMeWith
import Derived.Test.YtghpjibjhaomoaaGreatDoorJBase
namespace Go.Proofs.YtghpjibjhaomoaaGreatDoor
open Go.RowKit Go.Shelf
set_option linter.unusedVariables false
attribute [local go_sem] Oper.semAt_some

/-- The error's number of a place; 0 of a place that may be. -/
def codeN (size at_ n : Int) : Int := if n ≠ 1 ∧ n ≠ 2 ∧ n ≠ 4 then 21 else if at_ < 0 ∨ size - n < at_ then 4 else if at_ % n ≠ 0 then 5 else 0

set_option maxHeartbeats 1000000 in
theorem check_bad (size at_ n : Int) (hs : 0 ≤ size) (hs2 : size ≤ 9223372036854775807) (hc : codeN size at_ n ≠ 0) (w : World) :
    Calls Tryz.prog 74 #[.int .i64 size, .int .i64 at_, .int .i64 n] w fun e w' => e = .returned (.iface 84 (.int .i64 (codeN size at_ n))) ∧ w' = w := by
  by_cases hw : n ≠ 1 ∧ n ≠ 2 ∧ n ≠ 4
  · have e : codeN size at_ n = 21 := by unfold codeN; rw [if_pos hw]
    rw [e]; clear e hc
    obtain ⟨n1, n2, n4⟩ := hw
    have b1 : (n != 1) = true := by rw [bne_iff_ne]; exact n1
    have b2 : (n != 2) = true := by rw [bne_iff_ne]; exact n2
    have b4 : (n != 4) = true := by rw [bne_iff_ne]; exact n4
    clear n1 n2 n4
    go_enter Tryz.func74, Tryz.ntmps74
    go_wp2
    go_ret
    exact ⟨rfl, rfl⟩
  · have hn : n = 1 ∨ n = 2 ∨ n = 4 := by omega
    by_cases hr : at_ < 0 ∨ size - n < at_
    · have e : codeN size at_ n = 4 := by unfold codeN; rw [if_neg hw, if_pos hr]
      rw [e]; clear e hc hw
      by_cases h0 : at_ < 0
      · rcases hn with rfl | rfl | rfl
        all_goals
          go_enter Tryz.func74, Tryz.ntmps74
          go_wp2
          go_ret
          exact ⟨rfl, rfl⟩
      · have h1 : size - n < at_ := by omega
        clear hr
        rcases hn with rfl | rfl | rfl
        all_goals
          go_enter Tryz.func74, Tryz.ntmps74
          go_wp2
          go_ret
          exact ⟨rfl, rfl⟩
    · have ha : at_ % n ≠ 0 := fun h => hc (by unfold codeN; rw [if_neg hw, if_neg hr, if_neg (by omega)])
      have e : codeN size at_ n = 5 := by unfold codeN; rw [if_neg hw, if_neg hr, if_pos ha]
      rw [e]; clear e hc hw
      have h0 : 0 ≤ at_ := by omega
      have h1 : at_ ≤ size - n := by omega
      clear hr
      rcases hn with rfl | rfl | rfl
      · omega
      · have hb : (at_ % 2 != 0) = true := by rw [bne_iff_ne]; exact ha
        clear ha
        go_enter Tryz.func74, Tryz.ntmps74
        go_wp2
        go_ret
        exact ⟨rfl, rfl⟩
      · have hb : (at_ % 4 != 0) = true := by rw [bne_iff_ne]; exact ha
        clear ha
        go_enter Tryz.func74, Tryz.ntmps74
        go_wp2
        go_ret
        exact ⟨rfl, rfl⟩

set_option maxHeartbeats 1000000 in
theorem get_bad (a : Option Addr) (len cap : Nat) (hlen : len ≤ 140737488351232) (at_ n : Int) (hc : codeN len at_ n ≠ 0) (w : World) :
    Calls Tryz.prog 76 #[.slice a len cap, .int .i64 at_, .int .i64 n] w fun e w' => e = .returned (.tuple #[.int .u32 0, .iface 84 (.int .i64 (codeN len at_ n))]) ∧ w' = w := by
  have HK := hide (check_bad (len : Int) at_ n (by omega) (by omega) hc)
  clear hc
  generalize codeN len at_ n = c at *
  go_enter Tryz.func76, Tryz.ntmps76
  go_wp2_with (first | (go_at_call 74; refine (HK.out _).mono ?_; rintro e w' ⟨rfl, rfl⟩))
  go_ret2
  exact ⟨rfl, rfl⟩

set_option maxHeartbeats 1000000 in
theorem refcheck_any (a : Option Addr) (len cap : Nat) (hlen : len ≤ 140737488351232) (at_ n : Int) (w : World) :
    Calls Tryz.prog 75 #[.slice a len cap, .int .i64 at_, .int .i64 n] w fun e w' => e = .returned (.int .i64 (codeN len at_ n)) ∧ w' = w := by
  by_cases hw : n ≠ 1 ∧ n ≠ 2 ∧ n ≠ 4
  · have e : codeN len at_ n = 21 := by unfold codeN; rw [if_pos hw]
    rw [e]; clear e
    obtain ⟨n1, n2, n4⟩ := hw
    have b1 : (n != 1) = true := by rw [bne_iff_ne]; exact n1
    have b2 : (n != 2) = true := by rw [bne_iff_ne]; exact n2
    have b4 : (n != 4) = true := by rw [bne_iff_ne]; exact n4
    clear n1 n2 n4
    go_enter Tryz.func75, Tryz.ntmps75
    go_wp2
    go_ret
    exact ⟨rfl, rfl⟩
  · have hn : n = 1 ∨ n = 2 ∨ n = 4 := by omega
    by_cases hr : at_ < 0 ∨ (len : Int) - n < at_
    · have e : codeN len at_ n = 4 := by unfold codeN; rw [if_neg hw, if_pos hr]
      rw [e]; clear e hw
      by_cases h0 : at_ < 0
      · rcases hn with rfl | rfl | rfl
        all_goals
          go_enter Tryz.func75, Tryz.ntmps75
          go_wp2
          go_ret
          exact ⟨rfl, rfl⟩
      · have h1 : (len : Int) - n < at_ := by omega
        clear hr
        by_cases hnl : (len : Int) < n
        · rcases hn with rfl | rfl | rfl
          all_goals
            go_enter Tryz.func75, Tryz.ntmps75
            go_wp2
            go_ret
            exact ⟨rfl, rfl⟩
        · rcases hn with rfl | rfl | rfl
          all_goals
            go_enter Tryz.func75, Tryz.ntmps75
            go_wp2
            go_ret
            exact ⟨rfl, rfl⟩
    · have h0 : 0 ≤ at_ := by omega
      have h1 : at_ ≤ (len : Int) - n := by omega
      have hnl : n ≤ (len : Int) := by omega
      by_cases ha : at_ % n = 0
      · have e : codeN len at_ n = 0 := by unfold codeN; rw [if_neg hw, if_neg hr, if_neg (by omega)]
        rw [e]; clear e hw hr
        rcases hn with rfl | rfl | rfl
        all_goals
          go_enter Tryz.func75, Tryz.ntmps75
          go_wp2
          go_ret
          exact ⟨rfl, rfl⟩
      · have e : codeN len at_ n = 5 := by unfold codeN; rw [if_neg hw, if_neg hr, if_pos ha]
        rw [e]; clear e hw hr
        rcases hn with rfl | rfl | rfl
        · omega
        · have hb : (at_ % 2 != 0) = true := by rw [bne_iff_ne]; exact ha
          clear ha
          go_enter Tryz.func75, Tryz.ntmps75
          go_wp2
          go_ret
          exact ⟨rfl, rfl⟩
        · have hb : (at_ % 4 != 0) = true := by rw [bne_iff_ne]; exact ha
          clear ha
          go_enter Tryz.func75, Tryz.ntmps75
          go_wp2
          go_ret
          exact ⟨rfl, rfl⟩

/-- The number of so many bytes, byte by byte. -/
def refN (g : Nat → UInt8) (at_ : Nat) : Nat → Nat
  | 0 => 0
  | k + 1 => refN g at_ k + (g (at_ + k)).toNat * 256 ^ k
theorem refN_lt (g : Nat → UInt8) (at_ k : Nat) : refN g at_ k < 256 ^ k := by
  induction k with
  | zero => simp [refN]
  | succ k ih =>
    have h : (g (at_ + k)).toNat ≤ 255 := by have := (g (at_ + k)).toNat_lt; omega
    have : (g (at_ + k)).toNat * 256 ^ k ≤ 255 * 256 ^ k := Nat.mul_le_mul_right _ h
    simp only [refN, Nat.pow_succ]
    omega

end Go.Proofs.YtghpjibjhaomoaaGreatDoor
