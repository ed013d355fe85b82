/-
  What inst.laid answers.
-/
import Derived.Test.YtoekcfbjdcibpaaGreatDoorInTold
namespace Go.Proofs.YtoekcfbjdcibpaaGreatDoor
open Go.RowKit
set_option linter.unusedVariables false

/-- The word of an Int, as 32 bits. -/
def u32N (c : Int) : Nat := (c % 4294967296).toNat
theorem u32N_lt (c : Int) : u32N c < 4294967296 := by unfold u32N; omega
theorem u32N_cast (c : Int) : ((u32N c : Nat) : Int) = c % 4294967296 := by unfold u32N; omega

/-- A word with a number's pieces added. -/
def spread (n : Nat) : List (Nat × Nat × Nat) → Nat → Nat
  | [], acc => acc
  | p :: l, acc => spread n l (acc ||| setW 0 p.1 p.2.2 (fieldW n p.2.1 p.2.2))
theorem spread_lt (n : Nat) : ∀ (l : List (Nat × Nat × Nat)) (acc : Nat), acc < 4294967296 → spread n l acc < 4294967296
  | [], _, h => h
  | p :: l, acc, h => spread_lt n l _ (Nat.or_lt_two_pow (n := 32) h (setW_lt _ (by decide) _ _ _))

def startN (op : Nat) (i : I6) : Nat := (((wordN op ||| setW 0 7 5 (u32N i.rd)) ||| setW 0 15 5 (u32N i.rs1)) ||| setW 0 20 5 (u32N i.rs2)) ||| setW 0 20 12 (u32N i.csr)
def laidN (op : Nat) (i : I6) : Nat := spread (u32N i.imm) (piecesN (kindN op)) (startN op i)

theorem or_lt32 {a b : Nat} (h : a < 4294967296) (k : b < 4294967296) : a ||| b < 4294967296 := Nat.or_lt_two_pow (n := 32) h k
theorem startN_lt (op : Nat) (i : I6) : startN op i < 4294967296 :=
  or_lt32 (or_lt32 (or_lt32 (or_lt32 (wordN_lt op) (setW_lt _ (by decide) _ _ _)) (setW_lt _ (by decide) _ _ _)) (setW_lt _ (by decide) _ _ _)) (setW_lt _ (by decide) _ _ _)

theorem set0_any (lo n : Int) (h : 0 ≤ lo ∧ lo ≤ 32 ∧ n ≤ 32) (y : Int) (hy : 0 ≤ y ∧ y < 4294967296) (w : World) :
    Calls Tryz.prog 83 #[.int .u32 0, .int .i64 lo, .int .i64 n, .int .u32 y] w fun e w' => e = .returned (.int .u32 (setW 0 lo n y.toNat : Nat)) ∧ w' = w := by
  obtain ⟨z, rfl⟩ := Int.eq_ofNat_of_zero_le hy.1
  exact set_any 0 (by decide) lo n (by omega) (by omega) (by omega) z (by omega) w

theorem fieldI_any (y : Int) (hy : 0 ≤ y ∧ y < 4294967296) (lo n : Nat) (h : lo ≤ 32 ∧ n ≤ 32) (w : World) :
    Calls Tryz.prog 85 #[.int .u32 y, .int .i64 lo, .int .i64 n] w fun e w' => e = .returned (.int .u32 (fieldW y.toNat lo n : Nat)) ∧ w' = w := by
  obtain ⟨z, rfl⟩ := Int.eq_ofNat_of_zero_le hy.1
  exact field_any z (by omega) lo n (by omega) (by omega) (by omega) w
theorem set0N_any (lo n : Nat) (h : lo ≤ 32 ∧ n ≤ 32) (y : Nat) (hy : y < 4294967296) (w : World) :
    Calls Tryz.prog 83 #[.int .u32 0, .int .i64 lo, .int .i64 n, .int .u32 y] w fun e w' => e = .returned (.int .u32 (setW 0 lo n y : Nat)) ∧ w' = w :=
  set_any 0 (by decide) lo n (by omega) (by omega) (by omega) y (by omega) w

theorem start_arith (op : Nat) (i : I6) : bits .or .u32 (bits .or .u32 (bits .or .u32 (bits .or .u32 ((wordN op : Nat) : Int) ((setW 0 7 5 (i.rd % 4294967296).toNat : Nat) : Int)) ((setW 0 15 5 (i.rs1 % 4294967296).toNat : Nat) : Int)) ((setW 0 20 5 (i.rs2 % 4294967296).toNat : Nat) : Int)) ((setW 0 20 12 (i.csr % 4294967296).toNat : Nat) : Int) = ((startN op i : Nat) : Int) := by
  have h1 := wordN_lt op
  have h2 := setW_lt 0 (by decide) 7 5 (i.rd % 4294967296).toNat
  have h3 := setW_lt 0 (by decide) 15 5 (i.rs1 % 4294967296).toNat
  have h4 := setW_lt 0 (by decide) 20 5 (i.rs2 % 4294967296).toNat
  have h5 := setW_lt 0 (by decide) 20 12 (i.csr % 4294967296).toNat
  rw [u32_or_nat _ _ h1 h2, u32_or_nat _ _ (or_lt32 h1 h2) h3, u32_or_nat _ _ (or_lt32 (or_lt32 h1 h2) h3) h4, u32_or_nat _ _ (or_lt32 (or_lt32 (or_lt32 h1 h2) h3) h4) h5]
  rfl

def partS (l : List (Nat × Nat × Nat)) (n s k : Nat) : Nat := spread n (l.take k) s

set_option maxHeartbeats 4000000 in
set_option maxRecDepth 100000 in
theorem laid_at (k op s a0 b0 c0 a1 b1 c1 a2 b2 c2 a3 b3 c3 : Nat) (hop : op < 57) (h0 : a0 ≤ 32 ∧ b0 ≤ 32 ∧ c0 ≤ 32) (h1 : a1 ≤ 32 ∧ b1 ≤ 32 ∧ c1 ≤ 32) (h2 : a2 ≤ 32 ∧ b2 ≤ 32 ∧ c2 ≤ 32) (h3 : a3 ≤ 32 ∧ b3 ≤ 32 ∧ c3 ≤ 32)
    (HL : Hid (∀ w, Calls Tryz.prog 84 #[.int .u8 k] w fun e w' => e = .returned (.tuple #[.int .i64 s, .agg #[.int .i64 a0, .int .i64 b0, .int .i64 c0, .int .i64 a1, .int .i64 b1, .int .i64 c1, .int .i64 a2, .int .i64 b2, .int .i64 c2, .int .i64 a3, .int .i64 b3, .int .i64 c3]]) ∧ Below w.heap.size w w'))
    (i : I6) (hi : i.op = op) (w : World) (hg : 0 < w.heap.size) (hc : w.cell? ⟨0, op, none⟩ = some (.int .u8 k)) (hg2 : 1 < w.heap.size) (hc2 : w.cell? ⟨1, op, none⟩ = some (.int .u32 (wordN op : Nat))) :
    Calls Tryz.prog 53 #[.agg #[.int .i64 op, .int .i64 i.rd, .int .i64 i.rs1, .int .i64 i.rs2, .int .i64 i.imm, .int .i64 i.csr]] w fun e w' => e = .returned (.int .u32 (spread (u32N i.imm) [(a0, b0, c0), (a1, b1, c1), (a2, b2, c2), (a3, b3, c3)] (startN op i) : Nat)) ∧ Below w.heap.size w w' := by
  obtain ⟨f, hf⟩ : ∃ f, partS [(a0, b0, c0), (a1, b1, c1), (a2, b2, c2), (a3, b3, c3)] (u32N i.imm) (startN op i) = f := ⟨_, rfl⟩
  have f0 : f 0 = startN op i := by rw [← hf]; rfl
  have f1 : f 1 = f 0 ||| setW 0 a0 c0 (fieldW (u32N i.imm) b0 c0) := by rw [← hf]; rfl
  have f2 : f 2 = f 1 ||| setW 0 a1 c1 (fieldW (u32N i.imm) b1 c1) := by rw [← hf]; rfl
  have f3 : f 3 = f 2 ||| setW 0 a2 c2 (fieldW (u32N i.imm) b2 c2) := by rw [← hf]; rfl
  have f4 : f 4 = f 3 ||| setW 0 a3 c3 (fieldW (u32N i.imm) b3 c3) := by rw [← hf]; rfl
  have e4 : spread (u32N i.imm) [(a0, b0, c0), (a1, b1, c1), (a2, b2, c2), (a3, b3, c3)] (startN op i) = f 4 := by rw [← hf]; rfl
  have hlt : ∀ k, f k < 4294967296 := by intro k; rw [← hf]; exact spread_lt _ _ _ (startN_lt op i)
  rw [e4]
  have HF := hide f0
  have HF1 := hide f1
  have HF2 := hide f2
  have HF3 := hide f3
  have HF4 := hide f4
  clear f0 f1 f2 f3 f4 e4 hf
  have HFL := hide hlt
  clear hlt hi
  have FD := hide fieldI_any
  have ST := hide set0_any
  have SN := hide set0N_any
  have SA := hide (start_arith op i)
  go_enter Tryz.func53, Tryz.ntmps53
  go_wp2_with (first | (go_at_call 84; refine (HL.out _).mono ?_; rintro e w1 ⟨rfl, hb1⟩) | (go_at_call 83; refine (ST.out _ _ (by omega) _ (by omega) _).mono ?_; rintro e w2 ⟨rfl, rfl⟩))
  rw [SA.out]
  clear hc hc2
  obtain ⟨w0, hw0⟩ : ∃ w0, w.alloc (.cells #[.int .i64 op, .int .i64 i.rd, .int .i64 i.rs1, .int .i64 i.rs2, .int .i64 i.imm, .int .i64 i.csr] 28) = w0 := ⟨_, rfl⟩
  have HW0 : Hid (Below w.heap.size w w0) := by rw [← hw0]; exact (Below.refl _ w).alloc (Nat.le_refl _) _
  have hsz0 : w0.heap.size = w.heap.size + 1 := by rw [← hw0]; simp
  have HC : Hid (w0.cell? ⟨w.heap.size, 4, none⟩ = some (.int .i64 i.imm)) := by rw [← hw0]; exact (cell_of_row _ _ 4 _ _ (0, 0) (heap_alloc_new w _)).trans rfl
  rw [hw0] at hb1
  clear hw0
  rw [hsz0] at hb1
  have HZ := hide hsz0
  clear hsz0
  replace hb1 := hb1.alloc (by have := hb1.size; have := HZ.out; omega) (.cells #[.int .i64 a0, .int .i64 b0, .int .i64 c0, .int .i64 a1, .int .i64 b1, .int .i64 c1, .int .i64 a2, .int .i64 b2, .int .i64 c2, .int .i64 a3, .int .i64 b3, .int .i64 c3] 139)
  go_loopw [3, 45] (fun vv iv wr => ∃ j : Nat, j ≤ 4 ∧ iv = .int .i64 j ∧ vv = .int .u32 (f j : Nat) ∧ Below (w.heap.size + 1) w0 wr) (fun _ iv _ => 4 - (intOf iv).toNat)
  case atStart => exact ⟨0, by omega, rfl, by rw [HF.out], hb1⟩
  case round =>
    obtain ⟨j, hj, rfl, rfl, hB⟩ := hrel
    clear hb1
    have hci : wr.cell? ⟨w.heap.size, 4, none⟩ = some (.int .i64 i.imm) := (hB.cell (p := ⟨w.heap.size, 4, none⟩) (by simp)).trans HC.out
    replace hci : ∀ o, (wr.alloc o).cell? ⟨w.heap.size, 4, none⟩ = some (.int .i64 i.imm) := fun o => (World.cell?_alloc_lt _ _ ⟨w.heap.size, 4, none⟩ (block_lt_of_cell hci)).trans hci
    obtain rfl | rfl | rfl | rfl | rfl : j = 0 ∨ j = 1 ∨ j = 2 ∨ j = 3 ∨ j = 4 := by omega
    · have hx := HFL.out 0
      have HE := hide (u32_or_nat (f 0) (setW 0 a0 c0 (fieldW (u32N i.imm) b0 c0)) hx (setW_lt _ (by decide) _ _ _))
      generalize f 0 = x at hx HF1 HE ⊢
      have hix := index_piece0 (.int .i64 a0) (.int .i64 b0) (.int .i64 c0) (.int .i64 a1) (.int .i64 b1) (.int .i64 c1) (.int .i64 a2) (.int .i64 b2) (.int .i64 c2) (.int .i64 a3) (.int .i64 b3) (.int .i64 c3)
      go_wp2_with (fail)
      go_quiet (first | (go_at_call 85; refine Calls.quiet_of_same (FD.out _ (by omega) _ _ (by omega) _)) | (go_at_call 83; refine Calls.quiet_of_same (SN.out _ _ (by omega) _ (fieldW_lt _ _ _) _)))
      go_wp2
      go_roundw
      case rel => exact ⟨1, by omega, by go_num, by rw [HF1.out, ← HE.out]; rfl, below_drewN (hB.alloc (by have := hB.size; have := HZ.out; omega) _) _⟩
      case measure => simp [intOf]
    · have hx := HFL.out 1
      have HE := hide (u32_or_nat (f 1) (setW 0 a1 c1 (fieldW (u32N i.imm) b1 c1)) hx (setW_lt _ (by decide) _ _ _))
      generalize f 1 = x at hx HF2 HE ⊢
      have hix := index_piece1 (.int .i64 a0) (.int .i64 b0) (.int .i64 c0) (.int .i64 a1) (.int .i64 b1) (.int .i64 c1) (.int .i64 a2) (.int .i64 b2) (.int .i64 c2) (.int .i64 a3) (.int .i64 b3) (.int .i64 c3)
      go_wp2_with (fail)
      go_quiet (first | (go_at_call 85; refine Calls.quiet_of_same (FD.out _ (by omega) _ _ (by omega) _)) | (go_at_call 83; refine Calls.quiet_of_same (SN.out _ _ (by omega) _ (fieldW_lt _ _ _) _)))
      go_wp2
      go_roundw
      case rel => exact ⟨2, by omega, by go_num, by rw [HF2.out, ← HE.out]; rfl, below_drewN (hB.alloc (by have := hB.size; have := HZ.out; omega) _) _⟩
      case measure => simp [intOf]
    · have hx := HFL.out 2
      have HE := hide (u32_or_nat (f 2) (setW 0 a2 c2 (fieldW (u32N i.imm) b2 c2)) hx (setW_lt _ (by decide) _ _ _))
      generalize f 2 = x at hx HF3 HE ⊢
      have hix := index_piece2 (.int .i64 a0) (.int .i64 b0) (.int .i64 c0) (.int .i64 a1) (.int .i64 b1) (.int .i64 c1) (.int .i64 a2) (.int .i64 b2) (.int .i64 c2) (.int .i64 a3) (.int .i64 b3) (.int .i64 c3)
      go_wp2_with (fail)
      go_quiet (first | (go_at_call 85; refine Calls.quiet_of_same (FD.out _ (by omega) _ _ (by omega) _)) | (go_at_call 83; refine Calls.quiet_of_same (SN.out _ _ (by omega) _ (fieldW_lt _ _ _) _)))
      go_wp2
      go_roundw
      case rel => exact ⟨3, by omega, by go_num, by rw [HF3.out, ← HE.out]; rfl, below_drewN (hB.alloc (by have := hB.size; have := HZ.out; omega) _) _⟩
      case measure => simp [intOf]
    · have hx := HFL.out 3
      have HE := hide (u32_or_nat (f 3) (setW 0 a3 c3 (fieldW (u32N i.imm) b3 c3)) hx (setW_lt _ (by decide) _ _ _))
      generalize f 3 = x at hx HF4 HE ⊢
      have hix := index_piece3 (.int .i64 a0) (.int .i64 b0) (.int .i64 c0) (.int .i64 a1) (.int .i64 b1) (.int .i64 c1) (.int .i64 a2) (.int .i64 b2) (.int .i64 c2) (.int .i64 a3) (.int .i64 b3) (.int .i64 c3)
      go_wp2_with (fail)
      go_quiet (first | (go_at_call 85; refine Calls.quiet_of_same (FD.out _ (by omega) _ _ (by omega) _)) | (go_at_call 83; refine Calls.quiet_of_same (SN.out _ _ (by omega) _ (fieldW_lt _ _ _) _)))
      go_wp2
      go_roundw
      case rel => exact ⟨4, by omega, by go_num, by rw [HF4.out, ← HE.out]; rfl, below_drewN (hB.alloc (by have := hB.size; have := HZ.out; omega) _) _⟩
      case measure => simp [intOf]
    · go_wp2
      go_ret
      exact ⟨rfl, HW0.out.trans (hB.mono (by omega))⟩

theorem laid_any (op : Nat) (hop : op < 57) (i : I6) (hi : i.op = op) (w : World) (hK : KindsAt w) (hW : WordsAt w) :
    Calls Tryz.prog 53 #[.agg i.cells] w fun e w' => e = .returned (.int .u32 (laidN op i : Nat)) ∧ Below w.heap.size w w' := by
  have hk := kindN_is op hop
  have HL := layout_any (kindN op) hk
  have hc := hK op hop
  unfold laidN I6.cells
  rw [hi]
  generalize kindN op = k at *
  rcases hk with rfl | rfl | rfl | rfl | rfl | rfl | rfl | rfl | rfl | rfl | rfl
  all_goals exact laid_at _ op _ _ _ _ _ _ _ _ _ _ _ _ _ hop (by decide) (by decide) (by decide) (by decide) (hide HL) i hi w hK.lt hc hW.lt (hW op hop)
end Go.Proofs.YtoekcfbjdcibpaaGreatDoor
