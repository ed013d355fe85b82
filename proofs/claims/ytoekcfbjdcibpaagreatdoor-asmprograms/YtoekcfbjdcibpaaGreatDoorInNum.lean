/-
  What inst.number answers.
-/
import Derived.Test.YtoekcfbjdcibpaaGreatDoorInCalls
import Derived.Test.YtoekcfbjdcibpaaGreatDoorWords
import Derived.OwnWalk
import Derived.Deep.QuietTactic
import Derived.BigQuiet
namespace Go.Proofs.YtoekcfbjdcibpaaGreatDoor
open Go.RowKit
set_option linter.unusedVariables false

/-- A number's bits, gathered piece by piece. -/
def gather (v : Nat) : List (Nat × Nat × Nat) → Nat → Nat
  | [], acc => acc
  | p :: l, acc => gather v l (setW acc p.2.1 p.2.2 (fieldW v p.1 p.2.2))

theorem fieldW_lt (v : Nat) (lo n : Int) : fieldW v lo n < 4294967296 := Nat.lt_of_le_of_lt Nat.and_le_right (placesN_lt 0 n)
theorem setW_lt (v : Nat) (hv : v < 4294967296) (lo n : Int) (x : Nat) : setW v lo n x < 4294967296 :=
  Nat.or_lt_two_pow (n := 32) (Nat.lt_of_le_of_lt Nat.and_le_left hv) (Nat.lt_of_le_of_lt Nat.and_le_right (placesN_lt _ _))

theorem signW_lt (v : Nat) (hv : v < 4294967296) (n : Int) : signW v n < 4294967296 := by
  unfold signW
  split
  · decide
  · split
    · exact hv
    · have h1 : 2 ^ n.toNat ≤ 2 ^ 31 := Nat.pow_le_pow_right (by decide) (by omega)
      have h2 : v % 2 ^ n.toNat < 2 ^ n.toNat := Nat.mod_lt _ (Nat.pow_pos (by decide))
      have h3 : v / 2 ^ (n.toNat - 1) % 2 ≤ 1 := by omega
      have h4 : v / 2 ^ (n.toNat - 1) % 2 * (2 ^ 32 - 2 ^ n.toNat) ≤ 1 * (2 ^ 32 - 2 ^ n.toNat) := Nat.mul_le_mul_right _ h3
      omega

def part (l : List (Nat × Nat × Nat)) (v k : Nat) : Nat := gather v (l.take k) 0
theorem gather_lt (v : Nat) : ∀ (l : List (Nat × Nat × Nat)) (acc : Nat), acc < 4294967296 → gather v l acc < 4294967296
  | [], _, h => h
  | p :: l, acc, h => gather_lt v l _ (setW_lt _ h _ _ _)

/-- A number as 64 bits with the sign of 32. -/
def asInt (n : Nat) : Int := if n < 2147483648 then (n : Int) else (n : Int) - 4294967296

theorem asInt_wrap (n : Nat) (h : n < 4294967296) : wrap32 (n : Int) = asInt n := by
  unfold wrap32 asInt; split <;> omega

theorem asInt_wrap64 (n : Nat) (h : n < 4294967296) : wrap64 (wrap32 (n : Int)) = asInt n := by
  rw [asInt_wrap n h]; unfold wrap64 asInt; split <;> omega
theorem asInt_bounds (n : Nat) (h : n < 4294967296) : -2147483648 ≤ asInt n ∧ asInt n < 2147483648 := by
  unfold asInt; split <;> omega

theorem index_piece0 (c0 c1 c2 c3 c4 c5 c6 c7 c8 c9 c10 c11 : Value) (w : World) : (Instr.index 139 (.agg #[c0, c1, c2, c3, c4, c5, c6, c7, c8, c9, c10, c11]) (.int .i64 0)).run Tryz.prog w = .ok (.agg #[c0, c1, c2]) w := by kernel_rfl
theorem index_piece1 (c0 c1 c2 c3 c4 c5 c6 c7 c8 c9 c10 c11 : Value) (w : World) : (Instr.index 139 (.agg #[c0, c1, c2, c3, c4, c5, c6, c7, c8, c9, c10, c11]) (.int .i64 1)).run Tryz.prog w = .ok (.agg #[c3, c4, c5]) w := by kernel_rfl
theorem index_piece2 (c0 c1 c2 c3 c4 c5 c6 c7 c8 c9 c10 c11 : Value) (w : World) : (Instr.index 139 (.agg #[c0, c1, c2, c3, c4, c5, c6, c7, c8, c9, c10, c11]) (.int .i64 2)).run Tryz.prog w = .ok (.agg #[c6, c7, c8]) w := by kernel_rfl
theorem index_piece3 (c0 c1 c2 c3 c4 c5 c6 c7 c8 c9 c10 c11 : Value) (w : World) : (Instr.index 139 (.agg #[c0, c1, c2, c3, c4, c5, c6, c7, c8, c9, c10, c11]) (.int .i64 3)).run Tryz.prog w = .ok (.agg #[c9, c10, c11]) w := by kernel_rfl

set_option maxHeartbeats 2000000 in
set_option maxRecDepth 100000 in
theorem number_at (k s a0 b0 c0 a1 b1 c1 a2 b2 c2 a3 b3 c3 : Nat) (hs : s ≤ 32) (h0 : a0 ≤ 32 ∧ b0 ≤ 32 ∧ c0 ≤ 32) (h1 : a1 ≤ 32 ∧ b1 ≤ 32 ∧ c1 ≤ 32) (h2 : a2 ≤ 32 ∧ b2 ≤ 32 ∧ c2 ≤ 32) (h3 : a3 ≤ 32 ∧ b3 ≤ 32 ∧ c3 ≤ 32)
    (HL : Hid (∀ w, Calls Tryz.prog 84 #[.int .u8 k] w fun e w' => e = .returned (.tuple #[.int .i64 s, .agg #[.int .i64 a0, .int .i64 b0, .int .i64 c0, .int .i64 a1, .int .i64 b1, .int .i64 c1, .int .i64 a2, .int .i64 b2, .int .i64 c2, .int .i64 a3, .int .i64 b3, .int .i64 c3]]) ∧ Below w.heap.size w w'))
    (v : Nat) (hv : v < 4294967296) (w : World) :
    Calls Tryz.prog 86 #[.int .u8 k, .int .u32 v] w fun e w' => e = .returned (.int .i64 (asInt (signW (gather v [(a0, b0, c0), (a1, b1, c1), (a2, b2, c2), (a3, b3, c3)] 0) s))) ∧ Below w.heap.size w w' := by
  obtain ⟨f, hf⟩ : ∃ f, part [(a0, b0, c0), (a1, b1, c1), (a2, b2, c2), (a3, b3, c3)] v = f := ⟨_, rfl⟩
  have f0 : f 0 = 0 := by rw [← hf]; rfl
  have f1 : f 1 = setW (f 0) b0 c0 (fieldW v a0 c0) := by rw [← hf]; rfl
  have f2 : f 2 = setW (f 1) b1 c1 (fieldW v a1 c1) := by rw [← hf]; rfl
  have f3 : f 3 = setW (f 2) b2 c2 (fieldW v a2 c2) := by rw [← hf]; rfl
  have f4 : f 4 = setW (f 3) b3 c3 (fieldW v a3 c3) := by rw [← hf]; rfl
  have e4 : gather v [(a0, b0, c0), (a1, b1, c1), (a2, b2, c2), (a3, b3, c3)] 0 = f 4 := by rw [← hf]; rfl
  have hlt : ∀ k, f k < 4294967296 := by intro k; rw [← hf]; exact gather_lt v _ _ (by decide)
  rw [e4]
  have HF := hide f0
  have HF1 := hide f1
  have HF2 := hide f2
  have HF3 := hide f3
  have HF4 := hide f4
  clear f0 f1 f2 f3 f4 e4 hf
  have HFL := hide hlt
  clear hlt
  have FD := hide (fun (lo n : Nat) (h : lo ≤ 32 ∧ n ≤ 32) => field_any v hv lo n (by omega) (by omega) (by omega))
  have ST := hide (fun (x : Nat) (hx : x < 4294967296) (lo n : Nat) (h : lo ≤ 32 ∧ n ≤ 32) (y : Nat) (hy : y < 4294967296) => set_any x hx lo n (by omega) (by omega) (by omega) y hy)
  have SG := hide (fun (x : Nat) (hx : x < 4294967296) => sign_any x hx s)
  go_enter Tryz.func86, Tryz.ntmps86
  go_wp2_with (first | (go_at_call 84; refine (HL.out _).mono ?_; rintro e w1 ⟨rfl, hb1⟩))
  replace hb1 := hb1.alloc hb1.size (.cells #[.int .i64 a0, .int .i64 b0, .int .i64 c0, .int .i64 a1, .int .i64 b1, .int .i64 c1, .int .i64 a2, .int .i64 b2, .int .i64 c2, .int .i64 a3, .int .i64 b3, .int .i64 c3] 139)
  go_loopw [7, 16] (fun vv iv wr => ∃ j : Nat, j ≤ 4 ∧ iv = .int .i64 j ∧ vv = .int .u32 (f j : Nat) ∧ Below w.heap.size w wr) (fun _ iv _ => 4 - (intOf iv).toNat)
  case atStart => exact ⟨0, by omega, rfl, by rw [HF.out]; rfl, hb1⟩
  case round =>
    obtain ⟨j, hj, rfl, rfl, hB⟩ := hrel
    clear hb1
    obtain rfl | rfl | rfl | rfl | rfl : j = 0 ∨ j = 1 ∨ j = 2 ∨ j = 3 ∨ j = 4 := by omega
    · have hx := HFL.out 0
      generalize f 0 = x at hx HF1 ⊢
      have hix := index_piece0 (.int .i64 a0) (.int .i64 b0) (.int .i64 c0) (.int .i64 a1) (.int .i64 b1) (.int .i64 c1) (.int .i64 a2) (.int .i64 b2) (.int .i64 c2) (.int .i64 a3) (.int .i64 b3) (.int .i64 c3)
      go_wp2_with (fail)
      go_quiet (first | (go_at_call 85; refine Calls.quiet_of_same (FD.out _ _ (by omega) _)) | (go_at_call 83; refine Calls.quiet_of_same (ST.out _ (by assumption) _ _ (by omega) _ (fieldW_lt _ _ _) _)))
      go_wp2
      go_roundw
      case rel => exact ⟨1, by omega, by go_num, by rw [HF1.out], below_drewN (hB.alloc hB.size _) _⟩
      case measure => simp [intOf]
    · have hx := HFL.out 1
      generalize f 1 = x at hx HF2 ⊢
      have hix := index_piece1 (.int .i64 a0) (.int .i64 b0) (.int .i64 c0) (.int .i64 a1) (.int .i64 b1) (.int .i64 c1) (.int .i64 a2) (.int .i64 b2) (.int .i64 c2) (.int .i64 a3) (.int .i64 b3) (.int .i64 c3)
      go_wp2_with (fail)
      go_quiet (first | (go_at_call 85; refine Calls.quiet_of_same (FD.out _ _ (by omega) _)) | (go_at_call 83; refine Calls.quiet_of_same (ST.out _ (by assumption) _ _ (by omega) _ (fieldW_lt _ _ _) _)))
      go_wp2
      go_roundw
      case rel => exact ⟨2, by omega, by go_num, by rw [HF2.out], below_drewN (hB.alloc hB.size _) _⟩
      case measure => simp [intOf]
    · have hx := HFL.out 2
      generalize f 2 = x at hx HF3 ⊢
      have hix := index_piece2 (.int .i64 a0) (.int .i64 b0) (.int .i64 c0) (.int .i64 a1) (.int .i64 b1) (.int .i64 c1) (.int .i64 a2) (.int .i64 b2) (.int .i64 c2) (.int .i64 a3) (.int .i64 b3) (.int .i64 c3)
      go_wp2_with (fail)
      go_quiet (first | (go_at_call 85; refine Calls.quiet_of_same (FD.out _ _ (by omega) _)) | (go_at_call 83; refine Calls.quiet_of_same (ST.out _ (by assumption) _ _ (by omega) _ (fieldW_lt _ _ _) _)))
      go_wp2
      go_roundw
      case rel => exact ⟨3, by omega, by go_num, by rw [HF3.out], below_drewN (hB.alloc hB.size _) _⟩
      case measure => simp [intOf]
    · have hx := HFL.out 3
      generalize f 3 = x at hx HF4 ⊢
      have hix := index_piece3 (.int .i64 a0) (.int .i64 b0) (.int .i64 c0) (.int .i64 a1) (.int .i64 b1) (.int .i64 c1) (.int .i64 a2) (.int .i64 b2) (.int .i64 c2) (.int .i64 a3) (.int .i64 b3) (.int .i64 c3)
      go_wp2_with (fail)
      go_quiet (first | (go_at_call 85; refine Calls.quiet_of_same (FD.out _ _ (by omega) _)) | (go_at_call 83; refine Calls.quiet_of_same (ST.out _ (by assumption) _ _ (by omega) _ (fieldW_lt _ _ _) _)))
      go_wp2
      go_roundw
      case rel => exact ⟨4, by omega, by go_num, by rw [HF4.out], below_drewN (hB.alloc hB.size _) _⟩
      case measure => simp [intOf]
    · have hx := HFL.out 4
      have HW := hide (asInt_wrap64 (signW (f 4) s) (signW_lt (f 4) hx s))
      go_wp2_with (first | (go_at_call 115; refine (SG.out _ (by assumption) _).mono ?_; rintro e w2 ⟨rfl, rfl⟩))
      go_ret
      exact ⟨ret_int HW.out, hB⟩

def numberN (k v : Nat) : Int := asInt (signW (gather v (piecesN k) 0) (sizeN k : Nat))

theorem number_any (k : Nat) (hk : IsKind k) (v : Nat) (hv : v < 4294967296) (w : World) :
    Calls Tryz.prog 86 #[.int .u8 k, .int .u32 v] w fun e w' => e = .returned (.int .i64 (numberN k v)) ∧ Below w.heap.size w w' := by
  have HL := layout_any k hk
  rcases hk with rfl | rfl | rfl | rfl | rfl | rfl | rfl | rfl | rfl | rfl | rfl
  all_goals exact number_at _ _ _ _ _ _ _ _ _ _ _ _ _ _ (by decide) (by decide) (by decide) (by decide) (by decide) (hide HL) v hv w
end Go.Proofs.YtoekcfbjdcibpaaGreatDoor
