/-
  What inst.Decode answers.
-/
import Derived.Test.YtoekcfbjdcibpaaGreatDoorInLaid
namespace Go.Proofs.YtoekcfbjdcibpaaGreatDoor
open Go.RowKit
set_option linter.unusedVariables false

theorem below_of_drewN {B n : Nat} {a b c : World} (h : Below B a b) (k : Below (b.drewN n).heap.size (b.drewN n) c) (hB : B ≤ b.heap.size) : Below B a c :=
  h.trans ⟨k.os, k.tape, k.output, k.size, fun i hi => k.block i (Nat.lt_of_lt_of_le hi hB)⟩

/-- Whether a word is one of an operation. -/
def matchN (op v : Nat) : Bool := v &&& (4294967295 - takenN (kindN op)) == wordN op

theorem takenN_lt (k : Nat) : takenN k < 4294967296 := by
  unfold takenN; split
  · decide
  · split
    · decide
    · split <;> decide

theorem match_test (j v : Nat) (hv : v < 4294967296) : (bits .andNot .u32 (v : Int) ((takenN (kindN j) : Nat) : Int) == ((wordN j : Nat) : Int)) = matchN j v := by
  rw [u32_andNot_nat _ _ hv (takenN_lt _)]
  unfold matchN
  rw [Bool.eq_iff_iff]; simp; omega

set_option maxHeartbeats 2000000 in
set_option maxRecDepth 100000 in
theorem decode_hit (v : Nat) (hv : v < 4294967296) (op : Nat) (hop : op < 57) (hm : matchN op v = true) (hno : ∀ j, j < op → matchN j v = false) (w : World) (hK : KindsAt w) (hW : WordsAt w) :
    Calls Tryz.prog 19 #[.int .u32 v] w fun e w' => e = .returned (.tuple #[.agg (toldN op v).cells, .nilIface]) ∧ Below w.heap.size w w' := by
  have HT := hide (fun k (hk : IsKind k) => taken_any k hk)
  have HTO := hide (fun w (hb : KindsAt w) => told_any op hop v hv w hb)
  have HKW := hide (And.intro hK hW)
  have HNO := hide hno
  clear hK hW hno
  go_enter Tryz.func19, Tryz.ntmps19
  go_wp2
  obtain ⟨w0, hw0⟩ : ∃ w0, w.alloc (.cells #[.int .i64 0, .int .i64 0, .int .i64 0, .int .i64 0, .int .i64 0, .int .i64 0] 28) = w0 := ⟨_, rfl⟩
  have HB0 : Hid (Below w.heap.size w w0) := by rw [← hw0]; exact (Below.refl _ w).alloc (Nat.le_refl _) _
  have HZ : Hid (w0.heap.size = w.heap.size + 1) := by rw [← hw0]; show _ = _; simp
  have HR : Hid (w0.heap[w.heap.size]? = some (.cells #[.int .i64 0, .int .i64 0, .int .i64 0, .int .i64 0, .int .i64 0, .int .i64 0] 28 (0, 0))) := by rw [← hw0]; exact heap_alloc_new w _
  rw [hw0]
  clear hw0
  go_loopw [5] (fun iv wr => ∃ j : Nat, j ≤ op ∧ iv = .int .i64 j ∧ Below (w.heap.size + 1) w0 wr) (fun iv _ => op - (intOf iv).toNat)
  case atStart => exact ⟨0, by omega, rfl, Below.refl _ _⟩
  case round =>
    obtain ⟨j, hj, rfl, hB⟩ := hrel
    have hBw := HB0.out.trans (hB.mono (by omega))
    have hk := (HKW.out.1.below hBw) j (by omega)
    have hw := (HKW.out.2.below hBw) j (by omega)
    have HBW := hide hBw
    clear hBw
    have HKj := hide (kindN_is j (by omega))
    have ht := match_test j v hv
    by_cases hlt : j < op
    · rw [HNO.out j hlt] at ht
      clear hm
      generalize kindN j = k at hk HKj ht
      generalize wordN j = z at hw ht
      go_wp2_with (fail)
      go_quiet (first | (go_at_call 55; refine Calls.quiet_of_same (HT.out _ HKj.out _)))
      go_wp2
      go_roundw
      case rel => exact ⟨j + 1, by omega, by go_num, below_drewN hB _⟩
      case measure => simp [intOf]; omega
    · obtain rfl : j = op := by omega
      rw [hm] at ht
      clear hm
      have HW1 := hide (HKW.out.1.below HBW.out)
      have HRr := hide ((hB.block w.heap.size (by omega)).trans HR.out)
      generalize kindN j = k at hk HKj ht
      generalize wordN j = z at hw ht
      go_wp2_with (fail)
      go_quiet (first | (go_at_call 55; refine Calls.quiet_of_same (HT.out _ HKj.out _)))
      go_wp2_with (first | (go_at_call 54; refine (HTO.out _ ?_).mono ?_; exact HW1.out; rintro e w4 ⟨rfl, hb4⟩) | (refine wpList_store_row rfl 28 _ _ rfl w.heap.size _ rfl rfl _ _ ((hb4.block w.heap.size (Array.getElem?_eq_some_iff.1 HRr.out).1).trans HRr.out) size_inst rfl (six_one _ _ _ _ _ _) ?_))
      refine bodyPost_ret (results_cell_tmp_row Tryz.results19 _ _ w.heap.size _ _ _ _ rfl (setRow_heap _ _ _ _ _ _ ((hb4.block w.heap.size (Array.getElem?_eq_some_iff.1 HRr.out).1).trans HRr.out)) Tryz.underlying28 rfl size_inst) rfl ?_
      exact ⟨rfl, below_setRow (below_of_drewN HBW.out hb4 HBW.out.size) (Nat.le_refl _) _⟩

set_option maxHeartbeats 2000000 in
set_option maxRecDepth 100000 in
theorem decode_none (v : Nat) (hv : v < 4294967296) (hno : ∀ j, j < 57 → matchN j v = false) (w : World) (hK : KindsAt w) (hW : WordsAt w) :
    Calls Tryz.prog 19 #[.int .u32 v] w fun e w' => e = .returned (.tuple #[.agg #[.int .i64 0, .int .i64 0, .int .i64 0, .int .i64 0, .int .i64 0, .int .i64 0], .iface 69 (.int .i64 3)]) ∧ Below w.heap.size w w' := by
  have HT := hide (fun k (hk : IsKind k) => taken_any k hk)
  have HKW := hide (And.intro hK hW)
  have HNO := hide hno
  clear hK hW hno
  go_enter Tryz.func19, Tryz.ntmps19
  go_wp2
  obtain ⟨w0, hw0⟩ : ∃ w0, w.alloc (.cells #[.int .i64 0, .int .i64 0, .int .i64 0, .int .i64 0, .int .i64 0, .int .i64 0] 28) = w0 := ⟨_, rfl⟩
  have HB0 : Hid (Below w.heap.size w w0) := by rw [← hw0]; exact (Below.refl _ w).alloc (Nat.le_refl _) _
  have HZ : Hid (w0.heap.size = w.heap.size + 1) := by rw [← hw0]; show _ = _; simp
  have HR : Hid (w0.heap[w.heap.size]? = some (.cells #[.int .i64 0, .int .i64 0, .int .i64 0, .int .i64 0, .int .i64 0, .int .i64 0] 28 (0, 0))) := by rw [← hw0]; exact heap_alloc_new w _
  rw [hw0]
  clear hw0
  go_loopw [5] (fun iv wr => ∃ j : Nat, j ≤ 57 ∧ iv = .int .i64 j ∧ Below (w.heap.size + 1) w0 wr) (fun iv _ => 57 - (intOf iv).toNat)
  case atStart => exact ⟨0, by omega, rfl, Below.refl _ _⟩
  case round =>
    obtain ⟨j, hj, rfl, hB⟩ := hrel
    have hBw := HB0.out.trans (hB.mono (by omega))
    by_cases hlt : j < 57
    · have hk := (HKW.out.1.below hBw) j (by omega)
      have hw := (HKW.out.2.below hBw) j (by omega)
      have HKj := hide (kindN_is j (by omega))
      clear hBw
      have ht := match_test j v hv
      rw [HNO.out j hlt] at ht
      generalize kindN j = k at hk HKj ht
      generalize wordN j = z at hw ht
      go_wp2_with (fail)
      go_quiet (first | (go_at_call 55; refine Calls.quiet_of_same (HT.out _ HKj.out _)))
      go_wp2
      go_roundw
      case rel => exact ⟨j + 1, by omega, by go_num, below_drewN hB _⟩
      case measure => simp [intOf]; omega
    · obtain rfl : j = 57 := by omega
      have HBW := hide hBw
      clear hBw
      have HRr := hide ((hB.block w.heap.size (by omega)).trans HR.out)
      go_wp2_with (first | (refine wpList_store_row rfl 28 _ _ rfl w.heap.size _ rfl rfl _ _ HRr.out size_inst rfl (six_one _ _ _ _ _ _) ?_))
      refine bodyPost_ret (results_cell_tmp_row Tryz.results19 _ _ w.heap.size _ _ _ _ rfl (setRow_heap _ _ _ _ _ _ HRr.out) Tryz.underlying28 rfl size_inst) rfl ?_
      exact ⟨rfl, below_setRow HBW.out (Nat.le_refl _) _⟩
end Go.Proofs.YtoekcfbjdcibpaaGreatDoor
