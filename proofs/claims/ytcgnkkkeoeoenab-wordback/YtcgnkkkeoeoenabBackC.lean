/-
  The law WordBack, walked: the place above the bits that were set.
-/
import Derived.Test.YtcgnkkkeoeoenabBackWalk
namespace Go.Proofs.Ytcgnkkkeoeoenab
open Go.RowKit
set_option linter.unusedVariables false

set_option maxHeartbeats 4000000 in
set_option maxRecDepth 100000 in
theorem back_c1 (v x : Nat) (hv : v < 4294967296) (hx : x < 4294967296) (a0 a1 a2 a3 : Int) (u0 u1 u2 u3 lo m k p : Nat) (w : World)
    (e0 : IntKind.u64.wrap a0 = (u0 : Int)) (e1 : IntKind.u64.wrap a1 = (u1 : Int)) (e2 : IntKind.u64.wrap a2 = (u2 : Int)) (e3 : IntKind.u64.wrap a3 = (u3 : Int))
    (b0 : u0 < 18446744073709551616) (b1 : u1 < 18446744073709551616) (b2 : u2 < 18446744073709551616) (b3 : u3 < 18446744073709551616)
    (hlo : (u0 : Int) % 32 = (lo : Int)) (hm : (u1 : Int) % (32 - (lo : Int)) = (m : Int)) (hk : (u2 : Int) % 32 = (k : Int)) (hj : (u3 : Int) % 3 = 0) (hp : (u2 : Int) % 8 = (p : Int)) (hpl : p < 8)
    (c0 : lo ≤ 31) (c1 : lo + m ≤ 31) (c2 : k ≤ 31) (ck : lo + 1 + m ≤ k) :
    Calls Try.prog 3 #[.int .u32 v, .int .u32 x, .agg #[.int .i64 a0, .int .i64 a1, .int .i64 a2, .int .i64 a3]] w fun e w' => e = .returned (.bool true) ∧ Below w.heap.size w w' := by
  have hnn : (1 + (m : Int)) = ((m + 1 : Nat) : Int) := by omega
  have HSet := hide (fun w' => set_any v hv lo (1 + m) (by omega) (by omega) (by omega) x hx w')
  have F1 : fieldW (setW v lo (1 + m) x) lo (1 + m) = fieldW x 0 (1 + m) := by rw [hnn]; exact back1 v x hv hx lo (m + 1) (by omega)
  have F2 : fieldW (setW v lo (1 + m) x) k 1 = fieldW v k 1 := by rw [hnn]; exact back2 v x hv hx lo (m + 1) k (by omega) (by omega)
  have hs : setW v lo (1 + m) x < 4294967296 := setW_lt v hv _ _ _
  generalize setW v lo (1 + m) x = s at *
  have HPair := hide (fun g c base w' => pair_walk g c v x (p * 1) 1 (fieldW x 0 8) hx (by omega) (by omega) (by omega) rfl base w')
  simp only [Nat.mul_one, Int.cast_ofNat_Int] at HPair
  have HBX := hide (box_at4 w (.int .i64 a0) (.int .i64 a1) (.int .i64 a2) (.int .i64 a3) 23)
  have HB0 := hide (show Below w.heap.size w (w.alloc (.cells #[.int .i64 a0, .int .i64 a1, .int .i64 a2, .int .i64 a3] 23)) from (Below.refl _ w).alloc (Nat.le_refl _) _)
  have HSZ := hide (show (w.alloc (.cells #[.int .i64 a0, .int .i64 a1, .int .i64 a2, .int .i64 a3] 23)).heap.size = w.heap.size + 1 by simp)
  obtain ⟨i0, hi, hz0, hz1, hz2⟩ := info_parts infoByte
  clear hnn
  go_enter Try.func3, Try.ntmps3
  go_wp2_with (first | (go_at_call 4; refine (HSet.out _).mono ?_; rintro e w' ⟨rfl, rfl⟩) | (go_at_call 5; refine (field_any _ (by assumption) _ _ (by omega) (by omega) (by omega) _).mono ?_; rintro e w' ⟨rfl, rfl⟩))
  go_loopw [11, 12] (fun ov iv wr => ∃ q : Nat, q ≤ 8 ∧ iv = .int .i64 q ∧ wr.ownsRow (w.heap.size + 1) 5 1 ov q (cellsB (octs v q)) ∧ Below (w.heap.size + 1) (w.alloc (.cells #[.int .i64 a0, .int .i64 a1, .int .i64 a2, .int .i64 a3] 23)) wr) (fun _ iv _ => 8 - (intOf iv).toNat)
  case atStart => exact ⟨0, Nat.zero_le _, rfl, World.ownsRow_nil _ _ _ _, Below.refl _ _⟩
  case round =>
    obtain ⟨q, hq, rfl, hrow, hB⟩ := hrel
    have hzr : w.heap.size + 1 ≤ wr.heap.size := by have := hB.size; rw [HSZ.out] at this; exact this
    by_cases hlt : q < 8
    · have HG := hide (own_ge hrow)
      go_wp2_with (first | (at_builtin; refine wpList_append_own _ rfl _ _ 27 rfl (w.heap.size + 1) 5 i0 (.int .u8 0) 1 1 Try.underlying27 hi hz0 hz1 hz2 rfl (by decide) _ _ _ rfl (hrow.alloc _) ⟨_, 0, none⟩ 1 1 [.int .u8 ((v : Int) / 2 ^ q % 256)] rfl rfl (cell_one_new _ _ _) (by simp [Value.oneCell']) (by unfold maxLen; omega) (by omega) (by simp; omega) ?_; intro v' w4 hown' hgrow' _))
      go_roundw
      case rel => exact ⟨q + 1, by omega, by go_num, by rw [octs_snoc]; exact hown', (hB.alloc hzr _).grown hgrow' (by simp; omega) HG.out⟩
      case measure => simp [intOf]; omega
    · obtain rfl : q = 8 := by omega
      obtain ⟨g, c, rfl, hbg, hgl⟩ := own_shape hrow (by omega)
      have y2 := (hB.cell (p := ⟨w.heap.size, 2, none⟩) (by show w.heap.size < _; omega)).trans HBX.out.1
      have y3 := (hB.cell (p := ⟨w.heap.size, 3, none⟩) (by show w.heap.size < _; omega)).trans HBX.out.2
      have z2 : (wr.alloc (.cells #[.int .i64 1, .int .i64 2, .int .i64 4] 3)).cell? ⟨w.heap.size, 2, none⟩ = some (.int .i64 a2) := by rw [World.cell?_alloc_lt _ _ ⟨w.heap.size, 2, none⟩ (by show w.heap.size < _; omega)]; exact y2
      have z3 : (wr.alloc (.cells #[.int .i64 1, .int .i64 2, .int .i64 4] 3)).cell? ⟨w.heap.size, 3, none⟩ = some (.int .i64 a3) := by rw [World.cell?_alloc_lt _ _ ⟨w.heap.size, 3, none⟩ (by show w.heap.size < _; omega)]; exact y3
      have HR := hide (hrow.alloc (.cells #[.int .i64 1, .int .i64 2, .int .i64 4] 3))
      have HBB := hide (hB.alloc hzr (.cells #[.int .i64 1, .int .i64 2, .int .i64 4] 3))
      clear hrow hB y2 y3
      go_wp2
      generalize wr.alloc (.cells #[.int .i64 1, .int .i64 2, .int .i64 4] 3) = w3 at *
      go_quiet (fail)
      go_wp2_with (first | (go_at_call 6; refine (HPair.out g c (w.heap.size + 1) (w3.drewN nq) HR.out).mono ?_; rintro e w4 ⟨g2, rfl, hb4, hget⟩; have HGet := hide hget; clear hget) | (go_at_call 7; refine HGet.out.mono ?_; rintro e w5 ⟨rfl, hb5⟩) | (go_at_call 5; refine (field_any _ (by assumption) _ _ (by omega) (by omega) (by omega) _).mono ?_; rintro e w6 ⟨rfl, rfl⟩) | (go_at_call 8; refine (sure_any _).mono ?_; rintro e w7 ⟨rfl, hb7⟩))
      go_ret
      have t3 : w.heap.size ≤ w3.heap.size := Nat.le_trans HB0.out.size HBB.out.size
      have t4 : w3.heap.size ≤ w4.heap.size := hb4.size
      exact ⟨rfl, (((below_drewN (HB0.out.trans (HBB.out.mono (by omega))) nq).trans (hb4.mono t3)).trans (hb5.mono (Nat.le_trans t3 t4))).trans (hb7.mono (Nat.le_trans t3 (Nat.le_trans t4 hb5.size)))⟩

set_option maxHeartbeats 4000000 in
set_option maxRecDepth 100000 in
theorem back_c2 (v x : Nat) (hv : v < 4294967296) (hx : x < 4294967296) (a0 a1 a2 a3 : Int) (u0 u1 u2 u3 lo m k p : Nat) (w : World)
    (e0 : IntKind.u64.wrap a0 = (u0 : Int)) (e1 : IntKind.u64.wrap a1 = (u1 : Int)) (e2 : IntKind.u64.wrap a2 = (u2 : Int)) (e3 : IntKind.u64.wrap a3 = (u3 : Int))
    (b0 : u0 < 18446744073709551616) (b1 : u1 < 18446744073709551616) (b2 : u2 < 18446744073709551616) (b3 : u3 < 18446744073709551616)
    (hlo : (u0 : Int) % 32 = (lo : Int)) (hm : (u1 : Int) % (32 - (lo : Int)) = (m : Int)) (hk : (u2 : Int) % 32 = (k : Int)) (hj : (u3 : Int) % 3 = 1) (hp : (u2 : Int) % 4 = (p : Int)) (hpl : p < 4)
    (c0 : lo ≤ 31) (c1 : lo + m ≤ 31) (c2 : k ≤ 31) (ck : lo + 1 + m ≤ k) :
    Calls Try.prog 3 #[.int .u32 v, .int .u32 x, .agg #[.int .i64 a0, .int .i64 a1, .int .i64 a2, .int .i64 a3]] w fun e w' => e = .returned (.bool true) ∧ Below w.heap.size w w' := by
  have hnn : (1 + (m : Int)) = ((m + 1 : Nat) : Int) := by omega
  have HSet := hide (fun w' => set_any v hv lo (1 + m) (by omega) (by omega) (by omega) x hx w')
  have F1 : fieldW (setW v lo (1 + m) x) lo (1 + m) = fieldW x 0 (1 + m) := by rw [hnn]; exact back1 v x hv hx lo (m + 1) (by omega)
  have F2 : fieldW (setW v lo (1 + m) x) k 1 = fieldW v k 1 := by rw [hnn]; exact back2 v x hv hx lo (m + 1) k (by omega) (by omega)
  have hs : setW v lo (1 + m) x < 4294967296 := setW_lt v hv _ _ _
  generalize setW v lo (1 + m) x = s at *
  have HPair := hide (fun g c base w' => pair_walk g c v x (p * 2) 2 (fieldW x 0 16) hx (by omega) (by omega) (by omega) rfl base w')
  simp only [Int.natCast_mul, Int.cast_ofNat_Int] at HPair
  have HBX := hide (box_at4 w (.int .i64 a0) (.int .i64 a1) (.int .i64 a2) (.int .i64 a3) 23)
  have HB0 := hide (show Below w.heap.size w (w.alloc (.cells #[.int .i64 a0, .int .i64 a1, .int .i64 a2, .int .i64 a3] 23)) from (Below.refl _ w).alloc (Nat.le_refl _) _)
  have HSZ := hide (show (w.alloc (.cells #[.int .i64 a0, .int .i64 a1, .int .i64 a2, .int .i64 a3] 23)).heap.size = w.heap.size + 1 by simp)
  obtain ⟨i0, hi, hz0, hz1, hz2⟩ := info_parts infoByte
  clear hnn
  go_enter Try.func3, Try.ntmps3
  go_wp2_with (first | (go_at_call 4; refine (HSet.out _).mono ?_; rintro e w' ⟨rfl, rfl⟩) | (go_at_call 5; refine (field_any _ (by assumption) _ _ (by omega) (by omega) (by omega) _).mono ?_; rintro e w' ⟨rfl, rfl⟩))
  go_loopw [11, 12] (fun ov iv wr => ∃ q : Nat, q ≤ 8 ∧ iv = .int .i64 q ∧ wr.ownsRow (w.heap.size + 1) 5 1 ov q (cellsB (octs v q)) ∧ Below (w.heap.size + 1) (w.alloc (.cells #[.int .i64 a0, .int .i64 a1, .int .i64 a2, .int .i64 a3] 23)) wr) (fun _ iv _ => 8 - (intOf iv).toNat)
  case atStart => exact ⟨0, Nat.zero_le _, rfl, World.ownsRow_nil _ _ _ _, Below.refl _ _⟩
  case round =>
    obtain ⟨q, hq, rfl, hrow, hB⟩ := hrel
    have hzr : w.heap.size + 1 ≤ wr.heap.size := by have := hB.size; rw [HSZ.out] at this; exact this
    by_cases hlt : q < 8
    · have HG := hide (own_ge hrow)
      go_wp2_with (first | (at_builtin; refine wpList_append_own _ rfl _ _ 27 rfl (w.heap.size + 1) 5 i0 (.int .u8 0) 1 1 Try.underlying27 hi hz0 hz1 hz2 rfl (by decide) _ _ _ rfl (hrow.alloc _) ⟨_, 0, none⟩ 1 1 [.int .u8 ((v : Int) / 2 ^ q % 256)] rfl rfl (cell_one_new _ _ _) (by simp [Value.oneCell']) (by unfold maxLen; omega) (by omega) (by simp; omega) ?_; intro v' w4 hown' hgrow' _))
      go_roundw
      case rel => exact ⟨q + 1, by omega, by go_num, by rw [octs_snoc]; exact hown', (hB.alloc hzr _).grown hgrow' (by simp; omega) HG.out⟩
      case measure => simp [intOf]; omega
    · obtain rfl : q = 8 := by omega
      obtain ⟨g, c, rfl, hbg, hgl⟩ := own_shape hrow (by omega)
      have y2 := (hB.cell (p := ⟨w.heap.size, 2, none⟩) (by show w.heap.size < _; omega)).trans HBX.out.1
      have y3 := (hB.cell (p := ⟨w.heap.size, 3, none⟩) (by show w.heap.size < _; omega)).trans HBX.out.2
      have z2 : (wr.alloc (.cells #[.int .i64 1, .int .i64 2, .int .i64 4] 3)).cell? ⟨w.heap.size, 2, none⟩ = some (.int .i64 a2) := by rw [World.cell?_alloc_lt _ _ ⟨w.heap.size, 2, none⟩ (by show w.heap.size < _; omega)]; exact y2
      have z3 : (wr.alloc (.cells #[.int .i64 1, .int .i64 2, .int .i64 4] 3)).cell? ⟨w.heap.size, 3, none⟩ = some (.int .i64 a3) := by rw [World.cell?_alloc_lt _ _ ⟨w.heap.size, 3, none⟩ (by show w.heap.size < _; omega)]; exact y3
      have HR := hide (hrow.alloc (.cells #[.int .i64 1, .int .i64 2, .int .i64 4] 3))
      have HBB := hide (hB.alloc hzr (.cells #[.int .i64 1, .int .i64 2, .int .i64 4] 3))
      clear hrow hB y2 y3
      go_wp2
      generalize wr.alloc (.cells #[.int .i64 1, .int .i64 2, .int .i64 4] 3) = w3 at *
      go_quiet (fail)
      go_wp2_with (first | (go_at_call 6; refine (HPair.out g c (w.heap.size + 1) (w3.drewN nq) HR.out).mono ?_; rintro e w4 ⟨g2, rfl, hb4, hget⟩; have HGet := hide hget; clear hget) | (go_at_call 7; refine HGet.out.mono ?_; rintro e w5 ⟨rfl, hb5⟩) | (go_at_call 5; refine (field_any _ (by assumption) _ _ (by omega) (by omega) (by omega) _).mono ?_; rintro e w6 ⟨rfl, rfl⟩) | (go_at_call 8; refine (sure_any _).mono ?_; rintro e w7 ⟨rfl, hb7⟩))
      go_ret
      have t3 : w.heap.size ≤ w3.heap.size := Nat.le_trans HB0.out.size HBB.out.size
      have t4 : w3.heap.size ≤ w4.heap.size := hb4.size
      exact ⟨rfl, (((below_drewN (HB0.out.trans (HBB.out.mono (by omega))) nq).trans (hb4.mono t3)).trans (hb5.mono (Nat.le_trans t3 t4))).trans (hb7.mono (Nat.le_trans t3 (Nat.le_trans t4 hb5.size)))⟩

set_option maxHeartbeats 4000000 in
set_option maxRecDepth 100000 in
theorem back_c4 (v x : Nat) (hv : v < 4294967296) (hx : x < 4294967296) (a0 a1 a2 a3 : Int) (u0 u1 u2 u3 lo m k p : Nat) (w : World)
    (e0 : IntKind.u64.wrap a0 = (u0 : Int)) (e1 : IntKind.u64.wrap a1 = (u1 : Int)) (e2 : IntKind.u64.wrap a2 = (u2 : Int)) (e3 : IntKind.u64.wrap a3 = (u3 : Int))
    (b0 : u0 < 18446744073709551616) (b1 : u1 < 18446744073709551616) (b2 : u2 < 18446744073709551616) (b3 : u3 < 18446744073709551616)
    (hlo : (u0 : Int) % 32 = (lo : Int)) (hm : (u1 : Int) % (32 - (lo : Int)) = (m : Int)) (hk : (u2 : Int) % 32 = (k : Int)) (hj : (u3 : Int) % 3 = 2) (hp : (u2 : Int) % 2 = (p : Int)) (hpl : p < 2)
    (c0 : lo ≤ 31) (c1 : lo + m ≤ 31) (c2 : k ≤ 31) (ck : lo + 1 + m ≤ k) :
    Calls Try.prog 3 #[.int .u32 v, .int .u32 x, .agg #[.int .i64 a0, .int .i64 a1, .int .i64 a2, .int .i64 a3]] w fun e w' => e = .returned (.bool true) ∧ Below w.heap.size w w' := by
  have hnn : (1 + (m : Int)) = ((m + 1 : Nat) : Int) := by omega
  have HSet := hide (fun w' => set_any v hv lo (1 + m) (by omega) (by omega) (by omega) x hx w')
  have F1 : fieldW (setW v lo (1 + m) x) lo (1 + m) = fieldW x 0 (1 + m) := by rw [hnn]; exact back1 v x hv hx lo (m + 1) (by omega)
  have F2 : fieldW (setW v lo (1 + m) x) k 1 = fieldW v k 1 := by rw [hnn]; exact back2 v x hv hx lo (m + 1) k (by omega) (by omega)
  have hs : setW v lo (1 + m) x < 4294967296 := setW_lt v hv _ _ _
  generalize setW v lo (1 + m) x = s at *
  have HPair := hide (fun g c base w' => pair_walk g c v x (p * 4) 4 (fieldW x 0 32) hx (by omega) (by omega) (by omega) rfl base w')
  simp only [Int.natCast_mul, Int.cast_ofNat_Int] at HPair
  have HBX := hide (box_at4 w (.int .i64 a0) (.int .i64 a1) (.int .i64 a2) (.int .i64 a3) 23)
  have HB0 := hide (show Below w.heap.size w (w.alloc (.cells #[.int .i64 a0, .int .i64 a1, .int .i64 a2, .int .i64 a3] 23)) from (Below.refl _ w).alloc (Nat.le_refl _) _)
  have HSZ := hide (show (w.alloc (.cells #[.int .i64 a0, .int .i64 a1, .int .i64 a2, .int .i64 a3] 23)).heap.size = w.heap.size + 1 by simp)
  obtain ⟨i0, hi, hz0, hz1, hz2⟩ := info_parts infoByte
  clear hnn
  go_enter Try.func3, Try.ntmps3
  go_wp2_with (first | (go_at_call 4; refine (HSet.out _).mono ?_; rintro e w' ⟨rfl, rfl⟩) | (go_at_call 5; refine (field_any _ (by assumption) _ _ (by omega) (by omega) (by omega) _).mono ?_; rintro e w' ⟨rfl, rfl⟩))
  go_loopw [11, 12] (fun ov iv wr => ∃ q : Nat, q ≤ 8 ∧ iv = .int .i64 q ∧ wr.ownsRow (w.heap.size + 1) 5 1 ov q (cellsB (octs v q)) ∧ Below (w.heap.size + 1) (w.alloc (.cells #[.int .i64 a0, .int .i64 a1, .int .i64 a2, .int .i64 a3] 23)) wr) (fun _ iv _ => 8 - (intOf iv).toNat)
  case atStart => exact ⟨0, Nat.zero_le _, rfl, World.ownsRow_nil _ _ _ _, Below.refl _ _⟩
  case round =>
    obtain ⟨q, hq, rfl, hrow, hB⟩ := hrel
    have hzr : w.heap.size + 1 ≤ wr.heap.size := by have := hB.size; rw [HSZ.out] at this; exact this
    by_cases hlt : q < 8
    · have HG := hide (own_ge hrow)
      go_wp2_with (first | (at_builtin; refine wpList_append_own _ rfl _ _ 27 rfl (w.heap.size + 1) 5 i0 (.int .u8 0) 1 1 Try.underlying27 hi hz0 hz1 hz2 rfl (by decide) _ _ _ rfl (hrow.alloc _) ⟨_, 0, none⟩ 1 1 [.int .u8 ((v : Int) / 2 ^ q % 256)] rfl rfl (cell_one_new _ _ _) (by simp [Value.oneCell']) (by unfold maxLen; omega) (by omega) (by simp; omega) ?_; intro v' w4 hown' hgrow' _))
      go_roundw
      case rel => exact ⟨q + 1, by omega, by go_num, by rw [octs_snoc]; exact hown', (hB.alloc hzr _).grown hgrow' (by simp; omega) HG.out⟩
      case measure => simp [intOf]; omega
    · obtain rfl : q = 8 := by omega
      obtain ⟨g, c, rfl, hbg, hgl⟩ := own_shape hrow (by omega)
      have y2 := (hB.cell (p := ⟨w.heap.size, 2, none⟩) (by show w.heap.size < _; omega)).trans HBX.out.1
      have y3 := (hB.cell (p := ⟨w.heap.size, 3, none⟩) (by show w.heap.size < _; omega)).trans HBX.out.2
      have z2 : (wr.alloc (.cells #[.int .i64 1, .int .i64 2, .int .i64 4] 3)).cell? ⟨w.heap.size, 2, none⟩ = some (.int .i64 a2) := by rw [World.cell?_alloc_lt _ _ ⟨w.heap.size, 2, none⟩ (by show w.heap.size < _; omega)]; exact y2
      have z3 : (wr.alloc (.cells #[.int .i64 1, .int .i64 2, .int .i64 4] 3)).cell? ⟨w.heap.size, 3, none⟩ = some (.int .i64 a3) := by rw [World.cell?_alloc_lt _ _ ⟨w.heap.size, 3, none⟩ (by show w.heap.size < _; omega)]; exact y3
      have HR := hide (hrow.alloc (.cells #[.int .i64 1, .int .i64 2, .int .i64 4] 3))
      have HBB := hide (hB.alloc hzr (.cells #[.int .i64 1, .int .i64 2, .int .i64 4] 3))
      clear hrow hB y2 y3
      go_wp2
      generalize wr.alloc (.cells #[.int .i64 1, .int .i64 2, .int .i64 4] 3) = w3 at *
      go_quiet (fail)
      go_wp2_with (first | (go_at_call 6; refine (HPair.out g c (w.heap.size + 1) (w3.drewN nq) HR.out).mono ?_; rintro e w4 ⟨g2, rfl, hb4, hget⟩; have HGet := hide hget; clear hget) | (go_at_call 7; refine HGet.out.mono ?_; rintro e w5 ⟨rfl, hb5⟩) | (go_at_call 5; refine (field_any _ (by assumption) _ _ (by omega) (by omega) (by omega) _).mono ?_; rintro e w6 ⟨rfl, rfl⟩) | (go_at_call 8; refine (sure_any _).mono ?_; rintro e w7 ⟨rfl, hb7⟩))
      go_ret
      have t3 : w.heap.size ≤ w3.heap.size := Nat.le_trans HB0.out.size HBB.out.size
      have t4 : w3.heap.size ≤ w4.heap.size := hb4.size
      exact ⟨rfl, (((below_drewN (HB0.out.trans (HBB.out.mono (by omega))) nq).trans (hb4.mono t3)).trans (hb5.mono (Nat.le_trans t3 t4))).trans (hb7.mono (Nat.le_trans t3 (Nat.le_trans t4 hb5.size)))⟩

end Go.Proofs.Ytcgnkkkeoeoenab
