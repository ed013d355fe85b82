/-
  What the document's Holds answers.
-/
import Derived.Test.YtcojghmanpcedaaDoorAluHolds
import Derived.Test.YtcojghmanpcedaaDoorAluRW
namespace Go.Proofs.YtcojghmanpcedaaDoor
open Go.RowKit
set_option linter.unusedVariables false

theorem ret_boolz {a b : Bool} (h : a = b) : Ending.returned (.tuple #[.bool a, .int .i64 0]) = .returned (.tuple #[.bool b, .int .i64 0]) := by rw [h]

set_option maxHeartbeats 400000 in
theorem refholds_0 (a b : Nat) (ha : a < 4294967296) (hb : b < 4294967296) (w : World) :
    Calls Tryd.prog 10 #[.int .i64 0, .int .u32 a, .int .u32 b] w fun e w' => e = .returned (.tuple #[.bool (holdsN 0 a b), .int .i64 0]) ∧ w' = w := by
  have HX : Hid (((a : Int) == (b : Int)) = holdsN 0 a b) := by show _ = _; rw [Bool.eq_iff_iff]; simp [holdsN]; omega
  generalize holdsN 0 a b = z at *
  go_enter Tryd.func10, Tryd.ntmps10
  go_wp2
  go_ret2
  exact ⟨ret_boolz HX.out, rfl⟩

set_option maxHeartbeats 400000 in
theorem refholds_1 (a b : Nat) (ha : a < 4294967296) (hb : b < 4294967296) (w : World) :
    Calls Tryd.prog 10 #[.int .i64 1, .int .u32 a, .int .u32 b] w fun e w' => e = .returned (.tuple #[.bool (holdsN 1 a b), .int .i64 0]) ∧ w' = w := by
  have HX : Hid (((a : Int) != (b : Int)) = holdsN 1 a b) := by show _ = _; rw [Bool.eq_iff_iff]; simp [holdsN]; omega
  generalize holdsN 1 a b = z at *
  go_enter Tryd.func10, Tryd.ntmps10
  go_wp2
  go_ret2
  exact ⟨ret_boolz HX.out, rfl⟩

set_option maxHeartbeats 400000 in
theorem refholds_2 (a b : Nat) (ha : a < 4294967296) (hb : b < 4294967296) (w : World) :
    Calls Tryd.prog 10 #[.int .i64 2, .int .u32 a, .int .u32 b] w fun e w' => e = .returned (.tuple #[.bool (holdsN 2 a b), .int .i64 0]) ∧ w' = w := by
  have HG := hide (fun (v : Nat) (hv : v < 4294967296) (x : Int) (hx : sgn v = x) (w : World) => (hx ▸ signed_any v hv w : Calls Tryd.prog 20 #[.int .u32 v] w fun e w' => e = .returned (.int .i64 x) ∧ w' = w))
  obtain ⟨x, hx⟩ : ∃ x, sgn a = x := ⟨_, rfl⟩
  obtain ⟨y, hy⟩ : ∃ y, sgn b = y := ⟨_, rfl⟩
  have HX : Hid ((decide (x < y)) = holdsN 2 a b) := by show _ = _; rw [← hx, ← hy]; rfl
  generalize holdsN 2 a b = z at *
  go_enter Tryd.func10, Tryd.ntmps10
  go_wp2_with (first | (go_at_call 20; refine (HG.out _ (by assumption) _ (by assumption) _).mono ?_; rintro e w' ⟨rfl, rfl⟩))
  go_ret2
  exact ⟨ret_boolz HX.out, rfl⟩

set_option maxHeartbeats 400000 in
theorem refholds_3 (a b : Nat) (ha : a < 4294967296) (hb : b < 4294967296) (w : World) :
    Calls Tryd.prog 10 #[.int .i64 3, .int .u32 a, .int .u32 b] w fun e w' => e = .returned (.tuple #[.bool (holdsN 3 a b), .int .i64 0]) ∧ w' = w := by
  have HG := hide (fun (v : Nat) (hv : v < 4294967296) (x : Int) (hx : sgn v = x) (w : World) => (hx ▸ signed_any v hv w : Calls Tryd.prog 20 #[.int .u32 v] w fun e w' => e = .returned (.int .i64 x) ∧ w' = w))
  obtain ⟨x, hx⟩ : ∃ x, sgn a = x := ⟨_, rfl⟩
  obtain ⟨y, hy⟩ : ∃ y, sgn b = y := ⟨_, rfl⟩
  have HX : Hid ((decide (y ≤ x)) = holdsN 3 a b) := by show _ = _; rw [← hx, ← hy]; simp only [holdsN]; rw [Bool.eq_iff_iff]; simp
  generalize holdsN 3 a b = z at *
  go_enter Tryd.func10, Tryd.ntmps10
  go_wp2_with (first | (go_at_call 20; refine (HG.out _ (by assumption) _ (by assumption) _).mono ?_; rintro e w' ⟨rfl, rfl⟩))
  go_ret2
  exact ⟨ret_boolz HX.out, rfl⟩

set_option maxHeartbeats 400000 in
theorem refholds_4 (a b : Nat) (ha : a < 4294967296) (hb : b < 4294967296) (w : World) :
    Calls Tryd.prog 10 #[.int .i64 4, .int .u32 a, .int .u32 b] w fun e w' => e = .returned (.tuple #[.bool (holdsN 4 a b), .int .i64 0]) ∧ w' = w := by
  have HX : Hid ((decide (a < b)) = holdsN 4 a b) := by show _ = _; rfl
  generalize holdsN 4 a b = z at *
  go_enter Tryd.func10, Tryd.ntmps10
  go_wp2
  go_ret2
  exact ⟨ret_boolz HX.out, rfl⟩

set_option maxHeartbeats 400000 in
theorem refholds_5 (a b : Nat) (ha : a < 4294967296) (hb : b < 4294967296) (w : World) :
    Calls Tryd.prog 10 #[.int .i64 5, .int .u32 a, .int .u32 b] w fun e w' => e = .returned (.tuple #[.bool (holdsN 5 a b), .int .i64 0]) ∧ w' = w := by
  have HX : Hid ((decide (b ≤ a)) = holdsN 5 a b) := by show _ = _; rfl
  generalize holdsN 5 a b = z at *
  go_enter Tryd.func10, Tryd.ntmps10
  go_wp2
  go_ret2
  exact ⟨ret_boolz HX.out, rfl⟩

theorem refholds_any (k : Nat) (hk : k < 6) (a b : Nat) (ha : a < 4294967296) (hb : b < 4294967296) (w : World) :
    Calls Tryd.prog 10 #[.int .i64 k, .int .u32 a, .int .u32 b] w fun e w' => e = .returned (.tuple #[.bool (holdsN k a b), .int .i64 0]) ∧ w' = w := by
  match k, hk with
  | 0, _ => exact refholds_0 a b ha hb w
  | 1, _ => exact refholds_1 a b ha hb w
  | 2, _ => exact refholds_2 a b ha hb w
  | 3, _ => exact refholds_3 a b ha hb w
  | 4, _ => exact refholds_4 a b ha hb w
  | 5, _ => exact refholds_5 a b ha hb w
  | n + 6, h => exact absurd h (by omega)

set_option maxHeartbeats 1000000 in
theorem refholds_bad (c : Int) (h : c < 0 ∨ 5 < c) (a b : Nat) (w : World) :
    Calls Tryd.prog 10 #[.int .i64 c, .int .u32 a, .int .u32 b] w fun e w' => e = .returned (.tuple #[.bool false, .int .i64 1]) ∧ w' = w := by
  rcases h with h | h
  all_goals
    go_enter Tryd.func10, Tryd.ntmps10
    go_wp2
    go_ret2
    exact ⟨rfl, rfl⟩
end Go.Proofs.YtcojghmanpcedaaDoor
