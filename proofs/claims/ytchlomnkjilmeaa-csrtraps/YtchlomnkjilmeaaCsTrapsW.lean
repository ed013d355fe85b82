/-
  CsrTraps, walked.
-/
import Derived.Test.YtchlomnkjilmeaaRCsTrap
import Derived.Test.YtchlomnkjilmeaaCsEq
namespace Go.Proofs.Ytchlomnkjilmeaa
open Go.RowKit
set_option linter.unusedVariables false

set_option maxHeartbeats 2000000 in
theorem traps_walk (s : S8) (hs : s.Ok) (a0 a1 a2 : Nat) (h0 : a0 < 4294967296) (h2 : a2 < 4294967296) (w : World) :
    Calls Try.prog 3 #[.agg s.cells, .agg #[.int .u32 a0, .int .u32 a1, .int .u32 a2]] w fun e w' => e = .returned (.bool true) ∧ Below w.heap.size w w' := by
  have HP := hide (trap_any s hs a0 a1 a2 h0 h2)
  have HD := hide (rtrap_any s hs a0 a1 a2 h0 h2)
  have HS := hide (fun w => Calls.bel3 (sure_any w))
  generalize trapN s a0 a1 a2 = u at *
  generalize trapTo s.ve a0 = to at *
  obtain ⟨st, en, ve, sc, ep, ca, va, ct⟩ := s
  obtain ⟨u0, u1, u2, u3, u4, u5, u6, u7⟩ := u
  simp only [S8.cells] at HP HD ⊢
  have hE := eql_same u0 u1 u2 u3 u4 u5 u6 u7
  clear hs h0 h2
  go_enter Try.func3, Try.ntmps3
  go_wp2_with (fail)
  refine (HP.out _).mono ?_
  rintro e w1 ⟨rfl, o1, o2, rfl⟩
  go_wp2_with (fail)
  obtain ⟨W, hW⟩ : ∃ W, ((((w.alloc (.cells #[.int .u32 st, .int .u32 en, .int .u32 ve, .int .u32 sc, .int .u32 ep, .int .u32 ca, .int .u32 va, .int .u64 ct] 25)).alloc (.cells #[.int .u32 a0, .int .u32 a1, .int .u32 a2] 26)).alloc o1).alloc o2).alloc (.cells #[.int .u32 u0, .int .u32 u1, .int .u32 u2, .int .u32 u3, .int .u32 u4, .int .u32 u5, .int .u32 u6, .int .u64 u7] 27) = W := ⟨_, rfl⟩
  have hR : RowAt W (w.heap.size) #[.int .u32 st, .int .u32 en, .int .u32 ve, .int .u32 sc, .int .u32 ep, .int .u32 ca, .int .u32 va, .int .u64 ct] 25 := hW ▸ ((((RowAt.new w _ _ _ rfl).al _).al _).al _).al _
  have hX : RowAt W (w.heap.size + 1 + 1 + 1 + 1) #[.int .u32 u0, .int .u32 u1, .int .u32 u2, .int .u32 u3, .int .u32 u4, .int .u32 u5, .int .u32 u6, .int .u64 u7] 27 := hW ▸ RowAt.new _ _ _ _ (by simp)
  have HBe : Hid (Below w.heap.size w W) := by
    rw [← hW]
    repeat (first | exact Below.refl _ _ | refine Below.alloc ?_ (by simp <;> omega) _)
  have HR0 := hide hR
  have HX0 := hide hX
  rw [hW]
  clear hW hR hX
  refine (HD.out _).mono ?_
  rintro e w2 ⟨rfl, hb2⟩
  have HR2 := hide (HR0.out.bl hb2)
  have HX2 := hide (HX0.out.bl hb2)
  have HB2 := hide (below_bl rfl HBe.out hb2)
  clear hb2 HR0 HX0 HBe
  have lx := HX2.out.lt
  have d0 : w2.cell? ⟨w.heap.size + 1 + 1 + 1 + 1, 0, none⟩ = some (.int .u32 (u0 : Nat)) := HX2.out.cell 0
  have d1 : w2.cell? ⟨w.heap.size + 1 + 1 + 1 + 1, 1, none⟩ = some (.int .u32 (u1 : Nat)) := HX2.out.cell 1
  have d2 : w2.cell? ⟨w.heap.size + 1 + 1 + 1 + 1, 2, none⟩ = some (.int .u32 (u2 : Nat)) := HX2.out.cell 2
  have d3 : w2.cell? ⟨w.heap.size + 1 + 1 + 1 + 1, 3, none⟩ = some (.int .u32 (u3 : Nat)) := HX2.out.cell 3
  have d4 : w2.cell? ⟨w.heap.size + 1 + 1 + 1 + 1, 4, none⟩ = some (.int .u32 (u4 : Nat)) := HX2.out.cell 4
  have d5 : w2.cell? ⟨w.heap.size + 1 + 1 + 1 + 1, 5, none⟩ = some (.int .u32 (u5 : Nat)) := HX2.out.cell 5
  have d6 : w2.cell? ⟨w.heap.size + 1 + 1 + 1 + 1, 6, none⟩ = some (.int .u32 (u6 : Nat)) := HX2.out.cell 6
  have d7 : w2.cell? ⟨w.heap.size + 1 + 1 + 1 + 1, 7, none⟩ = some (.int .u64 (u7 : Nat)) := HX2.out.cell 7
  go_wp2_with (first | (go_at_call 7; refine (HS.out _).mono ?_; rintro e w6 ⟨rfl, hb6⟩))
  go_ret
  exact ⟨rfl, below_bl rfl (HB2.out.alloc HB2.out.size _) hb6⟩
end Go.Proofs.Ytchlomnkjilmeaa
