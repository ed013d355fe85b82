/-
  What the document's Asks answers.
-/
import Derived.Test.YtelakpogochifaaDoorHCsAsks
import Derived.Test.YtelakpogochifaaDoorBit
import Derived.Deep.QuietTactic
import Derived.BigQuiet
namespace Go.Proofs.YtelakpogochifaaDoor
open Go.RowKit
set_option linter.unusedVariables false

theorem bit_int (v k : Nat) (hk : k ≤ 31) : ((bitN v (k : Int) : Int) == 1) = v.testBit k := by
  have h := bitN_one v k
  rw [Int.toNat_natCast, decide_eq_true (by omega : (0 : Int) ≤ k ∧ (k : Int) ≤ 31), Bool.true_and] at h
  rw [← h, Bool.eq_iff_iff]; simp; omega

theorem ask_0 {a1 b1 a2 b2 : Bool} : (if true = false then 0 else if (true && true) = true then 2147483659 else if (a1 && b1) = true then 2147483651 else if (a2 && b2) = true then 2147483655 else 0) = 2147483659 := by simp
theorem ask_1 {a0 b0 a2 b2 : Bool} (h : (true && (a0 && b0)) = false) : (if true = false then 0 else if (a0 && b0) = true then 2147483659 else if (true && true) = true then 2147483651 else if (a2 && b2) = true then 2147483655 else 0) = 2147483651 := by
  cases a0 <;> cases b0 <;> simp_all
theorem ask_2 {a0 b0 a1 b1 : Bool} (h : (true && (a0 && b0)) = false) (h' : (true && (a1 && b1)) = false) : (if true = false then 0 else if (a0 && b0) = true then 2147483659 else if (a1 && b1) = true then 2147483651 else if (true && true) = true then 2147483655 else 0) = 2147483655 := by
  cases a0 <;> cases b0 <;> cases a1 <;> cases b1 <;> simp_all
theorem ask_3 {c a0 b0 a1 b1 a2 b2 : Bool} (h : (c && (a0 && b0)) = false) (h' : (c && (a1 && b1)) = false) (h2 : (c && (a2 && b2)) = false) : (if c = false then 0 else if (a0 && b0) = true then 2147483659 else if (a1 && b1) = true then 2147483651 else if (a2 && b2) = true then 2147483655 else 0) = 0 := by
  revert h h' h2; revert c a0 b0 a1 b1 a2 b2; decide

set_option maxHeartbeats 1000000 in
set_option maxRecDepth 100000 in
theorem rasks_any (s : S8) (hs : s.Ok) (l : Nat) (hl : l < 4294967296) (w : World) :
    Calls Tryd.prog 40 #[.agg s.cells, .int .u32 l] w fun e w' => e = .returned (.int .u32 (asksN s.st s.en l : Nat)) ∧ Below w.heap.size w w' := by
  obtain ⟨st, en, ve, sc, ep, ca, va, ct⟩ := s
  have h0 : st < 4294967296 := hs.st
  have h1 : en < 4294967296 := hs.en
  have t0 := bit_int st 3 (by decide)
  have l0 := bit_int l 11 (by decide)
  have l1 := bit_int l 3 (by decide)
  have l2 := bit_int l 7 (by decide)
  have e0 := bit_int en 11 (by decide)
  have e1 := bit_int en 3 (by decide)
  have e2 := bit_int en 7 (by decide)
  have HA := hide (asks_bits st en l)
  show Calls Tryd.prog 40 #[.agg #[.int .u32 st, .int .u32 en, .int .u32 ve, .int .u32 sc, .int .u32 ep, .int .u32 ca, .int .u32 va, .int .u64 ct], .int .u32 l] w fun e w' => e = .returned (.int .u32 (asksN st en l : Nat)) ∧ _
  generalize asksN st en l = z at *
  generalize st.testBit 3 = c at *
  generalize l.testBit 11 = a0 at *
  generalize l.testBit 3 = a1 at *
  generalize l.testBit 7 = a2 at *
  generalize en.testBit 11 = b0 at *
  generalize en.testBit 3 = b1 at *
  generalize en.testBit 7 = b2 at *
  have HB := hide (fun v h a w => bit_any v h a w)
  clear hs
  rw [show ((3 : Nat) : Int) = 3 from rfl] at t0 l1 e1
  rw [show ((11 : Nat) : Int) = 11 from rfl] at l0 e0
  rw [show ((7 : Nat) : Int) = 7 from rfl] at l2 e2
  go_enter Tryd.func40, Tryd.ntmps40
  go_wp2
  go_loopw [6] (fun i wr => ∃ k : Nat, k ≤ 3 ∧ i = .int .i64 k ∧ (0 < k → (c && (a0 && b0)) = false) ∧ (1 < k → (c && (a1 && b1)) = false) ∧ (2 < k → (c && (a2 && b2)) = false) ∧ wr.cell? ⟨w.heap.size, 0, none⟩ = some (.int .u32 (st : Int)) ∧ wr.cell? ⟨w.heap.size, 1, none⟩ = some (.int .u32 (en : Int)) ∧ wr.cell? ⟨w.heap.size + 1, 0, none⟩ = some (.int .i64 11) ∧ wr.cell? ⟨w.heap.size + 1, 1, none⟩ = some (.int .i64 3) ∧ wr.cell? ⟨w.heap.size + 1, 2, none⟩ = some (.int .i64 7) ∧ Below w.heap.size w wr) (fun i _ => 3 - (intOf i).toNat)
  case atStart => exact ⟨0, by omega, rfl, by omega, by omega, by omega, by simp, by simp, by simp, by simp, by simp, below_two w _ _⟩
  case round =>
    obtain ⟨k, hk, rfl, f0, f1, f2, x0, x1, y0, y1, y2, hB⟩ := hrel
    have HBl := hide hB
    clear hB
    have hk' : k = 0 ∨ k = 1 ∨ k = 2 ∨ k = 3 := by omega
    rcases hk' with rfl | rfl | rfl | rfl
    · clear f0 f1 f2
      cases c
      · all_goals
          go_wp2
          go_quiet ((go_at_call 39; exact Calls.quiet_of_same (HB.out _ (by assumption) _ _)))
          go_wp2
          go_roundw
          case rel => exact ⟨1, by omega, by go_num, fun _ => by simp, by omega, by omega, x0, x1, y0, y1, y2, below_drewN HBl.out _⟩
          case measure => simp [intOf]
      cases a0
      · all_goals
          go_wp2
          go_quiet ((go_at_call 39; exact Calls.quiet_of_same (HB.out _ (by assumption) _ _)))
          go_wp2
          go_roundw
          case rel => exact ⟨1, by omega, by go_num, fun _ => by simp, by omega, by omega, x0, x1, y0, y1, y2, below_drewN HBl.out _⟩
          case measure => simp [intOf]
      cases b0
      · all_goals
          go_wp2
          go_quiet ((go_at_call 39; exact Calls.quiet_of_same (HB.out _ (by assumption) _ _)))
          go_wp2
          go_roundw
          case rel => exact ⟨1, by omega, by go_num, fun _ => by simp, by omega, by omega, x0, x1, y0, y1, y2, below_drewN HBl.out _⟩
          case measure => simp [intOf]
      · all_goals
          go_wp2
          go_quiet ((go_at_call 39; exact Calls.quiet_of_same (HB.out _ (by assumption) _ _)))
          go_wp2
          go_ret
          refine ⟨ret_int (by rw [HA.out, ask_0]; rfl), below_drewN HBl.out _⟩
    · have F0 := hide (f0 (by omega))

      clear f0 f1 f2
      cases c
      · all_goals
          go_wp2
          go_quiet ((go_at_call 39; exact Calls.quiet_of_same (HB.out _ (by assumption) _ _)))
          go_wp2
          go_roundw
          case rel => exact ⟨2, by omega, by go_num, fun _ => F0.out, fun _ => by simp, by omega, x0, x1, y0, y1, y2, below_drewN HBl.out _⟩
          case measure => simp [intOf]
      cases a1
      · all_goals
          go_wp2
          go_quiet ((go_at_call 39; exact Calls.quiet_of_same (HB.out _ (by assumption) _ _)))
          go_wp2
          go_roundw
          case rel => exact ⟨2, by omega, by go_num, fun _ => F0.out, fun _ => by simp, by omega, x0, x1, y0, y1, y2, below_drewN HBl.out _⟩
          case measure => simp [intOf]
      cases b1
      · all_goals
          go_wp2
          go_quiet ((go_at_call 39; exact Calls.quiet_of_same (HB.out _ (by assumption) _ _)))
          go_wp2
          go_roundw
          case rel => exact ⟨2, by omega, by go_num, fun _ => F0.out, fun _ => by simp, by omega, x0, x1, y0, y1, y2, below_drewN HBl.out _⟩
          case measure => simp [intOf]
      · all_goals
          go_wp2
          go_quiet ((go_at_call 39; exact Calls.quiet_of_same (HB.out _ (by assumption) _ _)))
          go_wp2
          go_ret
          have G0 := F0.out
          refine ⟨ret_int (by rw [HA.out, ask_1 G0]; rfl), below_drewN HBl.out _⟩
    · have F0 := hide (f0 (by omega))
      have F1 := hide (f1 (by omega))

      clear f0 f1 f2
      cases c
      · all_goals
          go_wp2
          go_quiet ((go_at_call 39; exact Calls.quiet_of_same (HB.out _ (by assumption) _ _)))
          go_wp2
          go_roundw
          case rel => exact ⟨3, by omega, by go_num, fun _ => F0.out, fun _ => F1.out, fun _ => by simp, x0, x1, y0, y1, y2, below_drewN HBl.out _⟩
          case measure => simp [intOf]
      cases a2
      · all_goals
          go_wp2
          go_quiet ((go_at_call 39; exact Calls.quiet_of_same (HB.out _ (by assumption) _ _)))
          go_wp2
          go_roundw
          case rel => exact ⟨3, by omega, by go_num, fun _ => F0.out, fun _ => F1.out, fun _ => by simp, x0, x1, y0, y1, y2, below_drewN HBl.out _⟩
          case measure => simp [intOf]
      cases b2
      · all_goals
          go_wp2
          go_quiet ((go_at_call 39; exact Calls.quiet_of_same (HB.out _ (by assumption) _ _)))
          go_wp2
          go_roundw
          case rel => exact ⟨3, by omega, by go_num, fun _ => F0.out, fun _ => F1.out, fun _ => by simp, x0, x1, y0, y1, y2, below_drewN HBl.out _⟩
          case measure => simp [intOf]
      · all_goals
          go_wp2
          go_quiet ((go_at_call 39; exact Calls.quiet_of_same (HB.out _ (by assumption) _ _)))
          go_wp2
          go_ret
          have G0 := F0.out
          have G1 := F1.out
          refine ⟨ret_int (by rw [HA.out, ask_2 G0 G1]; rfl), below_drewN HBl.out _⟩
    · have F0 := hide (f0 (by omega))
      have F1 := hide (f1 (by omega))
      have F2 := hide (f2 (by omega))
      clear f0 f1 f2
      go_wp2
      go_ret
      have G0 := F0.out
      have G1 := F1.out
      have G2 := F2.out
      refine ⟨ret_int (by rw [HA.out, ask_3 G0 G1 G2]; rfl), HBl.out⟩
end Go.Proofs.YtelakpogochifaaDoor
