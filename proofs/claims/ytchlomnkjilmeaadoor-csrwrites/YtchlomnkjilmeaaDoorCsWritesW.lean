/-
  CsrWrites, walked.
-/
import Derived.Test.YtchlomnkjilmeaaDoorRCsWrite
import Derived.Test.YtchlomnkjilmeaaDoorCsWrite
import Derived.Test.YtchlomnkjilmeaaDoorCsEq
import Derived.Test.YtchlomnkjilmeaaDoorNum
namespace Go.Proofs.YtchlomnkjilmeaaDoor
open Go.RowKit
set_option linter.unusedVariables false

theorem handle_bl {w w' : World} (hb : Below w.heap.size w w') (h : HandleAt w) : HandleAt w' := cell_bl hb h
theorem num_errW (k : Nat) (w : World) (h : HandleAt w) : Calls Tryd.prog 9 #[errW k] w fun e w' => e = .returned (.int .i64 (k : Nat)) ∧ Below w.heap.size w w' := by
  cases k with
  | zero => exact num_nil w
  | succ k => exact num_err _ w h

set_option maxHeartbeats 2000000 in
theorem writes_walk (s : S8) (hs : s.Ok) (a : Int) (v : Nat) (hv : v < 4294967296) (w : World) (hO : HandleAt w) :
    Calls Tryd.prog 4 #[.agg s.cells, .int .i64 a, .int .u32 v] w fun e w' => e = .returned (.bool true) ∧ Below w.heap.size w w' := by
  have HP := hide (write_any s hs a v hv)
  have HD := hide (rwrite_any s hs a v hv)
  have HS := hide (fun w => Calls.bel3 (sure_any w))
  generalize (writeN s a v).1 = u at *
  generalize (writeN s a v).2 = k at *
  have HN := hide (num_errW k)
  generalize errW k = ev at *
  obtain ⟨st, en, ve, sc, ep, ca, va, ct⟩ := s
  obtain ⟨u0, u1, u2, u3, u4, u5, u6, u7⟩ := u
  simp only [S8.cells] at HP HD ⊢
  have hE := eql_same u0 u1 u2 u3 u4 u5 u6 u7
  have HO := hide hO
  clear hs hv hO
  go_enter Tryd.func4, Tryd.ntmps4
  go_wp2_with (fail)
  refine (HP.out _).mono ?_
  rintro e w1 ⟨rfl, o1, o2, rfl⟩
  go_wp2_with (fail)
  obtain ⟨W, hW⟩ : ∃ W, (((w.alloc (.cells #[.int .u32 st, .int .u32 en, .int .u32 ve, .int .u32 sc, .int .u32 ep, .int .u32 ca, .int .u32 va, .int .u64 ct] 25)).alloc o1).alloc o2).alloc (.cells #[.int .u32 u0, .int .u32 u1, .int .u32 u2, .int .u32 u3, .int .u32 u4, .int .u32 u5, .int .u32 u6, .int .u64 u7] 26) = W := ⟨_, rfl⟩
  have hX : RowAt W (w.heap.size + 1 + 1 + 1) #[.int .u32 u0, .int .u32 u1, .int .u32 u2, .int .u32 u3, .int .u32 u4, .int .u32 u5, .int .u32 u6, .int .u64 u7] 26 := hW ▸ RowAt.new _ _ _ _ (by simp)
  have HBe : Hid (Below w.heap.size w W) := by
    rw [← hW]
    repeat (first | exact Below.refl _ _ | refine Below.alloc ?_ (by simp <;> omega) _)
  have HX0 := hide hX
  rw [hW]
  clear hW hX
  refine (HD.out _).mono ?_
  rintro e w2 ⟨rfl, hb2⟩
  have HX2 := hide (HX0.out.bl hb2)
  have HB2 := hide (below_bl rfl HBe.out hb2)
  have HH2 : Hid (HandleAt (w2.alloc (.cells #[.int .u32 u0, .int .u32 u1, .int .u32 u2, .int .u32 u3, .int .u32 u4, .int .u32 u5, .int .u32 u6, .int .u64 u7] 25))) := handle_bl (below_one _ _) (handle_bl HB2.out HO.out)
  clear hb2 HX0 HBe HO
  have lx := HX2.out.lt
  have d0 : w2.cell? ⟨w.heap.size + 1 + 1 + 1, 0, none⟩ = some (.int .u32 (u0 : Nat)) := HX2.out.cell 0
  have d1 : w2.cell? ⟨w.heap.size + 1 + 1 + 1, 1, none⟩ = some (.int .u32 (u1 : Nat)) := HX2.out.cell 1
  have d2 : w2.cell? ⟨w.heap.size + 1 + 1 + 1, 2, none⟩ = some (.int .u32 (u2 : Nat)) := HX2.out.cell 2
  have d3 : w2.cell? ⟨w.heap.size + 1 + 1 + 1, 3, none⟩ = some (.int .u32 (u3 : Nat)) := HX2.out.cell 3
  have d4 : w2.cell? ⟨w.heap.size + 1 + 1 + 1, 4, none⟩ = some (.int .u32 (u4 : Nat)) := HX2.out.cell 4
  have d5 : w2.cell? ⟨w.heap.size + 1 + 1 + 1, 5, none⟩ = some (.int .u32 (u5 : Nat)) := HX2.out.cell 5
  have d6 : w2.cell? ⟨w.heap.size + 1 + 1 + 1, 6, none⟩ = some (.int .u32 (u6 : Nat)) := HX2.out.cell 6
  have d7 : w2.cell? ⟨w.heap.size + 1 + 1 + 1, 7, none⟩ = some (.int .u64 (u7 : Nat)) := HX2.out.cell 7
  go_wp2_with (first | (go_at_call 9; refine (HN.out _ HH2.out).mono ?_; rintro e w5 ⟨rfl, hb5⟩) | (go_at_call 12; refine (HS.out _).mono ?_; rintro e w6 ⟨rfl, hb6⟩))
  go_ret
  exact ⟨rfl, below_bl rfl (below_bl rfl (HB2.out.alloc HB2.out.size _) hb5) hb6⟩
end Go.Proofs.YtchlomnkjilmeaaDoor
