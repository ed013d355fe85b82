/-
  What the law's own calls answer.
-/
import Derived.Test.YthopfecjnbfnmaaUaWrite
import Derived.Test.YthopfecjnbfnmaaUaTick
import Derived.Test.YthopfecjnbfnmaaUaG
namespace Go.Proofs.Ythopfecjnbfnmaa
open Go.RowKit
set_option linter.unusedVariables false

def fA : F := ⟨fun i => if i = 0 then 97 else 0, 1⟩
def sA (n : Int) : U := ⟨zeroF, fA, 0, 0, 0, 0, 0, 0, false, n⟩
theorem fA_ok : fA.Ok := ⟨fun i => by show (if i = 0 then 97 else 0) < 256; split <;> decide, by decide, by decide⟩
theorem fA_may : mayF fA = true := by decide
theorem zeroF_may : mayF zeroF = true := by decide
theorem z256 : 0 < 256 := by decide
theorem sA_ok (n : Int) (h0 : 0 ≤ n) (h1 : n ≤ 3) : (sA n).Ok := ⟨zeroF_ok, fA_ok, z256, z256, z256, z256, z256, z256, by show _ ≤ n; omega, by show n ≤ _; omega⟩
theorem sA_may (n : Int) (h0 : 0 ≤ n) (h1 : n ≤ 3) : mayU (sA n) = true := (mayU_iff _).2 ⟨zeroF_may, fA_may, h0, h1, fun h => absurd h (show ¬ (1 : Int) = 0 by decide), show 0 ≤ 7 by decide, show 0 ≤ 31 by decide⟩
theorem zero_may : mayU zeroU = true := by decide
theorem sure_write : (writeV zeroU 0 97).1.cells = (sA 0).cells ∧ (writeV zeroU 0 97).2 = 0 := by
  unfold writeV
  rw [if_pos zero_may]
  exact ⟨by kernel_rfl, rfl⟩
theorem sure_tick (n : Int) (h0 : 0 ≤ n) (h1 : n < 3) : tickV (sA n) = (sA (n + 1), 0, false) := by
  unfold tickV tickS
  rw [if_pos (sA_may n h0 (by omega)), if_neg (by show ¬ (1 : Int) = 0; decide), if_pos (by show n < 3; exact h1)]
  rfl
theorem sure_last : (tickV (sA 3)).1.cells = zeroU.cells ∧ (tickV (sA 3)).2 = (97, true) := by
  unfold tickV tickS
  rw [if_pos (sA_may 3 (by decide) (by decide)), if_neg (by decide), if_neg (by decide)]
  exact ⟨by kernel_rfl, rfl⟩
set_option maxRecDepth 20000 in
set_option maxHeartbeats 2000000 in
theorem sure_any  (w : World) :
    Calls Try.prog 11 #[] w fun e w' => e = .returned (.bool true) ∧ Below w.heap.size w w' := by
  have HW : Hid (∀ w, Calls Try.prog 12 #[.agg zeroU.cells, .int .u32 0, .int .u8 97] w fun e w' => e = .returned (.tuple #[.agg (sA 0).cells, .nilIface]) ∧ Below w.heap.size w w') := hide (fun w => by
    have := write_any zeroU zeroU_ok 0 97 (by decide) w
    rw [sure_write.1, sure_write.2] at this
    exact this)
  go_enter Try.func11, Try.ntmps11
  go_wp2_with (first | (go_at_call 12; (refine (HW.out _).mono ?_); rintro e W ⟨rfl, hb⟩; obtain ⟨NX, hNX⟩ : ∃ n, W.heap.size = n := ⟨_, rfl⟩; have lNX : w.heap.size ≤ NX := (by (have := hb.size; omega)); replace hNX := hide hNX) | ((with_reducible refine al_up NX ?_ ?_); exact hNX.out; intro W hr hb' hz; replace hb := hb.trans (hb'.mono (by omega))) | ((with_reducible refine st_up NX _ (sA 0) hr ?_ ?_ ?_); exact rfl; exact rfl; intro W hnew ho; replace hr := hnew; replace hb := ho.bel _ _ (by omega) hb))
  go_loopw [3] (fun iv wr => ∃ k : Nat, k ≤ 4 ∧ iv = .int .i64 (k : Nat) ∧ RowAt wr NX (if k < 4 then sA (k : Int) else zeroU).cells 29 ∧ Below w.heap.size w wr) (fun iv _ => 4 - (intOf iv).toNat)
  case atStart => exact ⟨0, by omega, rfl, hr, hb⟩
  case round =>
    clear hr hb hnew ho hz
    obtain ⟨k, hk, rfl, hr, hb⟩ := hrel
    by_cases h3 : k < 3
    · have HT : Hid (∀ w, Calls Try.prog 6 #[.agg (sA (k : Int)).cells] w fun e w' => e = .returned (.tuple #[.agg (sA ((k : Int) + 1)).cells, .int .u8 0, .bool false]) ∧ Below w.heap.size w w') := hide (fun w => by
        have := utick_any (sA (k : Int)) (sA_ok _ (by omega) (by omega)) w
        rw [sure_tick (k : Int) (by omega) (by omega)] at this
        exact this)
      rw [if_pos (by omega)] at hr
      have t1 : (k : Int) < 4 := by omega
      have t2 : ((k : Int) == 3) = false := by simp; omega
      have t2n : (k == 3) = false := by simp; omega
      go_wp2_with (first | ((with_reducible refine ld_up NX _ hr ?_ ?_ ?_); exact rfl; exact rfl) | (go_at_call 6; (with_reducible refine (HT.out _).mono ?_); rintro e W ⟨rfl, hbc⟩; replace hr := hr.bl hbc; replace hb := below_bl rfl hb hbc; obtain ⟨NY, hNY⟩ : ∃ n, W.heap.size = n := ⟨_, rfl⟩; have lNY : NX + 1 ≤ NY := (by (have := hr.lt; omega)); replace hNY := hide hNY) | ((with_reducible refine al_up NY ?_ ?_); exact hNY.out; intro W hy hb' hz; replace hr := hr.bl (hNY.out ▸ hb'); replace hb := hb.trans (hb'.mono (by omega))) | ((with_reducible refine st_up NY _ (sA ((k : Int) + 1)) hy ?_ ?_ ?_); exact rfl; exact rfl; intro W hnew ho; replace hr := hr.only ho (by omega); replace hy := hnew; replace hb := ho.bel _ _ (by omega) hb) | ((with_reducible refine ld_up NY _ hy ?_ ?_ ?_); exact rfl; exact rfl) | ((with_reducible refine st_up NX _ (sA ((k : Int) + 1)) hr ?_ ?_ ?_); exact rfl; exact rfl; intro W hnew ho; replace hy := hy.only ho (by omega); replace hr := hnew; replace hb := ho.bel _ _ (by omega) hb))
      go_roundw
      case rel => exact ⟨k + 1, by omega, by go_num, by rw [if_pos (by omega)]; exact hr, hb⟩
      case measure => simp [intOf]; omega
    by_cases h4 : k < 4
    · obtain rfl : k = 3 := by omega
      have HT : Hid (∀ w, Calls Try.prog 6 #[.agg (sA 3).cells] w fun e w' => e = .returned (.tuple #[.agg zeroU.cells, .int .u8 97, .bool true]) ∧ Below w.heap.size w w') := hide (fun w => by
        have := utick_any (sA 3) (sA_ok 3 (by decide) (by decide)) w
        rw [sure_last.1, sure_last.2] at this
        exact this)
      rw [if_pos (by decide)] at hr
      replace hr : RowAt wr NX (sA 3).cells 29 := hr
      go_wp2_with (first | ((with_reducible refine ld_up NX (sA 3) hr ?_ ?_ ?_); exact rfl; exact rfl) | (go_at_call 6; (with_reducible refine (HT.out _).mono ?_); rintro e W ⟨rfl, hbc⟩; replace hr := hr.bl hbc; replace hb := below_bl rfl hb hbc; obtain ⟨NY, hNY⟩ : ∃ n, W.heap.size = n := ⟨_, rfl⟩; have lNY : NX + 1 ≤ NY := (by (have := hr.lt; omega)); replace hNY := hide hNY) | ((with_reducible refine al_up NY ?_ ?_); exact hNY.out; intro W hy hb' hz; replace hr := hr.bl (hNY.out ▸ hb'); replace hb := hb.trans (hb'.mono (by omega))) | ((with_reducible refine st_up NY _ zeroU hy ?_ ?_ ?_); exact rfl; exact rfl; intro W hnew ho; replace hr := hr.only ho (by omega); replace hy := hnew; replace hb := ho.bel _ _ (by omega) hb) | ((with_reducible refine ld_up NY _ hy ?_ ?_ ?_); exact rfl; exact rfl) | ((with_reducible refine st_up NX _ zeroU hr ?_ ?_ ?_); exact rfl; exact rfl; intro W hnew ho; replace hy := hy.only ho (by omega); replace hr := hnew; replace hb := ho.bel _ _ (by omega) hb))
      go_roundw
      case rel => exact ⟨4, by omega, by go_num, by rw [if_neg (by omega)]; exact hr, hb⟩
      case measure => simp [intOf]
    · obtain rfl : k = 4 := by omega
      rw [if_neg (by decide)] at hr
      go_wp2_with (first | ((with_reducible refine ld_up NX _ hr ?_ ?_ ?_); exact rfl; exact rfl) | ((with_reducible refine g_equ zeroU ?_ ?_ ?_ ?_); exact rfl; exact rfl; exact rfl))
      go_ret
      exact ⟨rfl, hb⟩

end Go.Proofs.Ythopfecjnbfnmaa
