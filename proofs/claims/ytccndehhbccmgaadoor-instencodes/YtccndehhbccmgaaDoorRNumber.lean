/-
  What the document's number answers.
-/
import Derived.Test.YtccndehhbccmgaaDoorRBits
import Derived.Test.YtccndehhbccmgaaDoorInCalls
namespace Go.Proofs.YtccndehhbccmgaaDoor
open Go.RowKit
set_option linter.unusedVariables false

/-- A literal's slice is the call's own. -/
theorem Own.new1 (w : World) (a : Nat) : Own w.heap.size (w.alloc (.cells #[.int .i64 a] 3)) (.slice (some ⟨w.heap.size, 0, none⟩) 1 1) [a] :=
  ⟨rfl, .inr ⟨w.heap.size, 1, _, rfl, Nat.le_refl _, heap_alloc_new w _, Nat.le_refl _, by unfold maxLen; decide, rfl, rfl⟩⟩
theorem Own.new2 (w : World) (a b : Nat) : Own w.heap.size (w.alloc (.cells #[.int .i64 a, .int .i64 b] 3)) (.slice (some ⟨w.heap.size, 0, none⟩) 2 2) [a, b] :=
  ⟨rfl, .inr ⟨w.heap.size, 2, _, rfl, Nat.le_refl _, heap_alloc_new w _, Nat.le_refl _, by unfold maxLen; decide, rfl, rfl⟩⟩

def placesJ : List Nat := (([31] ++ downK 19 8) ++ [20] ++ downK 30 6) ++ downK 24 4
def placesB : List Nat := ([31, 7] ++ downK 30 6) ++ downK 11 4
def placesS : List Nat := downK 31 7 ++ downK 11 5

set_option maxHeartbeats 2000000 in
set_option maxRecDepth 100000 in
theorem rnumber_U (v : Nat) (hv : v < 4294967296) (w : World) :
    Calls Tryd.prog 27 #[.int .u8 85, .int .u32 v] w fun e w' => e = .returned (.int .i64 (bitsF v (downK 31 20) 20 * 2 ^ 12)) ∧ Below w.heap.size w w' := by
  have HD := hide (down_any w.heap.size (.slice none 0 0) [] 31 12 (by decide) (by decide) (by decide) w (Own.nil _ _) (Nat.le_refl _))
  have HB := hide (bits_any v hv (downK 31 20) (by decide) (by decide) 12 (by decide))
  go_enter Tryd.func27, Tryd.ntmps27
  go_wp2_with (first | (go_at_call 31; refine HD.out.mono ?_; rintro e w2 ⟨l2, rfl, ho2, hb2⟩) | (go_at_call 36; refine (HB.out _ _ _ ho2).mono ?_; rintro e w3 ⟨rfl, hb3⟩))
  go_ret
  exact ⟨rfl, hb2.trans (hb3.mono hb2.size)⟩

set_option maxHeartbeats 2000000 in
set_option maxRecDepth 100000 in
theorem rnumber_I (k : Nat) (hk : k = 73 ∨ k = 76 ∨ k = 70) (v : Nat) (hv : v < 4294967296) (w : World) :
    Calls Tryd.prog 27 #[.int .u8 k, .int .u32 v] w fun e w' => e = .returned (.int .i64 (bitsF v (downK 31 12) 12)) ∧ Below w.heap.size w w' := by
  have HD := hide (down_any w.heap.size (.slice none 0 0) [] 31 20 (by decide) (by decide) (by decide) w (Own.nil _ _) (Nat.le_refl _))
  have HB := hide (bits_any v hv (downK 31 12) (by decide) (by decide) 0 (by decide))
  rcases hk with rfl | rfl | rfl
  all_goals
    go_enter Tryd.func27, Tryd.ntmps27
    go_wp2_with (first | (go_at_call 31; refine HD.out.mono ?_; rintro e w2 ⟨l2, rfl, ho2, hb2⟩) | (go_at_call 36; refine (HB.out _ _ _ ho2).mono ?_; rintro e w3 ⟨rfl, hb3⟩))
    go_ret
    exact ⟨rfl, hb2.trans (hb3.mono hb2.size)⟩

set_option maxHeartbeats 2000000 in
set_option maxRecDepth 100000 in
theorem rnumber_S (v : Nat) (hv : v < 4294967296) (w : World) :
    Calls Tryd.prog 27 #[.int .u8 83, .int .u32 v] w fun e w' => e = .returned (.int .i64 (bitsF v placesS 12)) ∧ Below w.heap.size w w' := by
  have HD := hide (down_any w.heap.size (.slice none 0 0) [] 31 25 (by decide) (by decide) (by decide) w (Own.nil _ _) (Nat.le_refl _))
  have HD2 := hide (fun l W (ho : Own w.heap.size W l (downK 31 7)) (hb : Below w.heap.size w W) => down_any w.heap.size l (downK 31 7) 11 7 (by decide) (by decide) (by decide) W ho hb.size)
  have HB := hide (bits_any v hv placesS (by decide) (by decide) 0 (by decide))
  go_enter Tryd.func27, Tryd.ntmps27
  go_wp2_with (fail)
  refine HD.out.mono ?_; rintro e w2 ⟨l2, rfl, ho2, hb2⟩
  go_wp2_with (fail)
  refine (HD2.out _ _ ho2 hb2).mono ?_; rintro e w3 ⟨l3, rfl, ho3, hb3⟩
  replace hb3 := hb2.trans hb3
  go_wp2_with (first | (go_at_call 36; refine (HB.out _ _ _ ho3).mono ?_; rintro e w4 ⟨rfl, hb4⟩))
  go_ret
  exact ⟨rfl, hb3.trans (hb4.mono hb3.size)⟩

set_option maxHeartbeats 2000000 in
set_option maxRecDepth 100000 in
theorem rnumber_B (v : Nat) (hv : v < 4294967296) (w : World) :
    Calls Tryd.prog 27 #[.int .u8 66, .int .u32 v] w fun e w' => e = .returned (.int .i64 (bitsF v placesB 12 * 2 ^ 1)) ∧ Below w.heap.size w w' := by
  have HN := hide (Own.new2 w 31 7)
  have HD := hide (fun W l (hb : Below w.heap.size w W) (ho : Own w.heap.size W l [31, 7]) => down_any w.heap.size l [31, 7] 30 25 (by decide) (by decide) (by decide) W ho hb.size)
  have HD2 := hide (fun l W (ho : Own w.heap.size W l ([31, 7] ++ downK 30 6)) (hb : Below w.heap.size w W) => down_any w.heap.size l ([31, 7] ++ downK 30 6) 11 8 (by decide) (by decide) (by decide) W ho hb.size)
  have HB := hide (bits_any v hv placesB (by decide) (by decide) 1 (by decide))
  go_enter Tryd.func27, Tryd.ntmps27
  go_wp2_with (fail)
  refine (HD.out _ _ ((Below.refl _ w).alloc (Nat.le_refl _) _) HN.out).mono ?_; rintro e w2 ⟨l2, rfl, ho2, hb2⟩
  replace hb2 := ((Below.refl _ w).alloc (Nat.le_refl _) _).trans hb2
  go_wp2_with (fail)
  refine (HD2.out _ _ ho2 hb2).mono ?_; rintro e w3 ⟨l3, rfl, ho3, hb3⟩
  replace hb3 := hb2.trans hb3
  go_wp2_with (first | (go_at_call 36; refine (HB.out _ _ _ ho3).mono ?_; rintro e w4 ⟨rfl, hb4⟩))
  go_ret
  exact ⟨rfl, hb3.trans (hb4.mono hb3.size)⟩

set_option maxHeartbeats 2000000 in
set_option maxRecDepth 100000 in
theorem rnumber_J (v : Nat) (hv : v < 4294967296) (w : World) :
    Calls Tryd.prog 27 #[.int .u8 74, .int .u32 v] w fun e w' => e = .returned (.int .i64 (bitsF v placesJ 20 * 2 ^ 1)) ∧ Below w.heap.size w w' := by
  obtain ⟨i0, hi, hz0, hz1, hz2⟩ := info_parts infoInt
  have HN := hide (Own.new1 w 31)
  have HD := hide (fun W l (hb : Below w.heap.size w W) (ho : Own w.heap.size W l [31]) => down_any w.heap.size l [31] 19 12 (by decide) (by decide) (by decide) W ho hb.size)
  have HD2 := hide (fun l W (ho : Own w.heap.size W l (([31] ++ downK 19 8) ++ [20])) (hb : Below w.heap.size w W) => down_any w.heap.size l (([31] ++ downK 19 8) ++ [20]) 30 25 (by decide) (by decide) (by decide) W ho hb.size)
  have HD3 := hide (fun l W (ho : Own w.heap.size W l (([31] ++ downK 19 8) ++ [20] ++ downK 30 6)) (hb : Below w.heap.size w W) => down_any w.heap.size l (([31] ++ downK 19 8) ++ [20] ++ downK 30 6) 24 21 (by decide) (by decide) (by decide) W ho hb.size)
  have HB := hide (bits_any v hv placesJ (by decide) (by decide) 1 (by decide))
  go_enter Tryd.func27, Tryd.ntmps27
  go_wp2_with (fail)
  refine (HD.out _ _ ((Below.refl _ w).alloc (Nat.le_refl _) _) HN.out).mono ?_; rintro e w2 ⟨l2, rfl, ho2, hb2⟩
  replace hb2 := ((Below.refl _ w).alloc (Nat.le_refl _) _).trans hb2
  have hrow : w2.ownsRow w.heap.size 3 1 l2 9 (intsOf ([31] ++ downK 19 8)) := ho2
  have HGE := hide (own_ge hrow)
  have hsz := hb2.size
  go_wp2_with (first | (at_builtin; refine wpList_append_own _ rfl _ _ 63 rfl w.heap.size 3 i0 (.int .i64 0) 1 8 Tryd.underlying63 hi hz0 hz1 hz2 rfl (by decide) _ _ _ rfl (hrow.alloc _) ⟨_, 0, none⟩ 1 1 [.int .i64 20] rfl rfl (cell_one_new _ _ _) (by simp [Value.oneCell']) (by unfold maxLen; omega) (by omega) (by simp; omega) ?_; intro v' w4 hown' hgrow' _))
  have ho4 : Own w.heap.size w4 v' (([31] ++ downK 19 8) ++ [20]) := hown'
  have hb4 := (hb2.alloc hsz _).grown hgrow' (by simp; omega) HGE.out
  clear hrow hown' hgrow' ho2 hb2 hsz
  go_wp2_with (fail)
  refine (HD2.out _ _ ho4 hb4).mono ?_; rintro e w5 ⟨l5, rfl, ho5, hb5⟩
  replace hb5 := hb4.trans hb5
  go_wp2_with (fail)
  refine (HD3.out _ _ ho5 hb5).mono ?_; rintro e w6 ⟨l6, rfl, ho6, hb6⟩
  replace hb6 := hb5.trans hb6
  go_wp2_with (first | (go_at_call 36; refine (HB.out _ _ _ ho6).mono ?_; rintro e w7 ⟨rfl, hb7⟩))
  go_ret
  exact ⟨rfl, hb6.trans (hb7.mono hb6.size)⟩

set_option maxHeartbeats 2000000 in
theorem rnumber_H (v : Nat) (hv : v < 4294967296) (w : World) :
    Calls Tryd.prog 27 #[.int .u8 72, .int .u32 v] w fun e w' => e = .returned (.int .i64 (v / 1048576 % 32 : Nat)) ∧ Below w.heap.size w w' := by
  go_enter Tryd.func27, Tryd.ntmps27
  go_wp2
  go_ret
  exact ⟨ret_int (by simp), Below.refl _ _⟩

set_option maxHeartbeats 2000000 in
theorem rnumber_0 (k : Nat) (hk : k = 67 ∨ k = 82 ∨ k = 78) (v : Nat) (w : World) :
    Calls Tryd.prog 27 #[.int .u8 k, .int .u32 v] w fun e w' => e = .returned (.int .i64 0) ∧ Below w.heap.size w w' := by
  rcases hk with rfl | rfl | rfl
  all_goals
    go_enter Tryd.func27, Tryd.ntmps27
    go_wp2
    go_ret
    exact ⟨rfl, Below.refl _ _⟩
end Go.Proofs.YtccndehhbccmgaaDoor
