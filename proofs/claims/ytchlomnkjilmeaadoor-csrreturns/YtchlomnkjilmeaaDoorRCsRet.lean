/-
  What the document's Return answers.
-/
import Derived.Test.YtchlomnkjilmeaaDoorRCsBase
import Derived.Test.YtchlomnkjilmeaaDoorRCsRow
import Derived.Deep.RegionWith
import Derived.Deep.DrawnRows
namespace Go.Proofs.YtchlomnkjilmeaaDoor
open Go.RowKit
set_option linter.unusedVariables false

theorem rset_ex (a : Nat) (ha : a < 4294967296) (lo x : Nat) (hx : x < 4294967296) (w : World) :
    Calls Tryd.prog 24 #[.int .u32 a, .int .i64 lo, .int .i64 1, .int .u32 x] w fun e w' => e = .returned (.int .u32 (setOne a lo x : Nat)) ∧ ∃ o o', w' = (w.alloc o).alloc o' := by
  unfold setOne
  exact refset_ex a ha lo 1 (by omega) (by omega) x hx w
theorem rfld_ex (v : Nat) (hv : v < 4294967296) (lo : Nat) (w : World) :
    Calls Tryd.prog 25 #[.int .u32 v, .int .i64 lo, .int .i64 1] w fun e w' => e = .returned (.int .u32 (fldOne v lo : Nat)) ∧ ∃ o o', w' = (w.alloc o).alloc o' := by
  unfold fldOne
  exact reffield_ex v hv lo 1 w

theorem size_rstate : (Tryd.prog.info? 25).map (·.size) = some 8 := by kernel_rfl
attribute [local go_sem ↓] Go.wp_at_zero Go.wp_at_succ

set_option maxHeartbeats 1000000 in
theorem rreturn_any (s : S8) (hs : s.Ok) (w : World) :
    Calls Tryd.prog 16 #[.agg s.cells] w fun e w' => e = .returned (.tuple #[.agg (retN s).cells, .int .u32 (s.ep : Nat)]) ∧ Below w.heap.size w w' := by
  obtain ⟨st, en, ve, sc, ep, ca, va, ct⟩ := s
  obtain ⟨h0, h1, h2, h3, h4, h5, h6, h7⟩ := hs
  dsimp only at h0
  have HF := hide (rfld_ex st h0 7)
  have HS := hide (rset_ex st h0 3 (fldOne st 7) (fldOne_lt _ _))
  have HS2 := hide (rset_ex _ (setOne_lt st 3 (fldOne st 7)) 7 1 (by decide))
  rw [ret_st st h0] at HS2
  show Calls Tryd.prog 16 #[.agg #[.int .u32 st, .int .u32 en, .int .u32 ve, .int .u32 sc, .int .u32 ep, .int .u32 ca, .int .u32 va, .int .u64 ct]] w fun e w' => e = .returned (.tuple #[.agg #[.int .u32 (retSt st : Nat), .int .u32 en, .int .u32 ve, .int .u32 sc, .int .u32 ep, .int .u32 ca, .int .u32 va, .int .u64 ct], .int .u32 (ep : Nat)]) ∧ _
  generalize setOne st 3 (fldOne st 7) = x at *
  generalize fldOne st 7 = f at *
  generalize retSt st = r at *
  go_enter Tryd.func16, Tryd.ntmps16
  go_wp2_with (fail)
  go_region_with (first | (go_at_call 25; refine (HF.out _).mono ?_; rintro e w1 ⟨rfl, o1, o2, rfl⟩) | (go_at_call 24; refine (HS.out _).mono ?_; rintro e w2 ⟨rfl, o3, o4, rfl⟩))
  all_goals
    obtain ⟨W, hW⟩ : ∃ W, (((((w.alloc (.cells #[.int .u32 x, .int .u32 en, .int .u32 ve, .int .u32 sc, .int .u32 ep, .int .u32 ca, .int .u32 va, .int .u64 ct] 25)).alloc (.cells #[.int .u32 0, .int .u32 0, .int .u32 0, .int .u32 0, .int .u32 0, .int .u32 0, .int .u32 0, .int .u64 0] 25)).alloc o1).alloc o2).alloc o3).alloc o4 = W := ⟨_, rfl⟩
    have hR : RowAt W w.heap.size #[.int .u32 x, .int .u32 en, .int .u32 ve, .int .u32 sc, .int .u32 ep, .int .u32 ca, .int .u32 va, .int .u64 ct] 25 := hW ▸ (((((RowAt.new w _ _ _ rfl).al _).al _).al _).al _).al _
    have hZ : RowAt W (w.heap.size + 1) #[.int .u32 0, .int .u32 0, .int .u32 0, .int .u32 0, .int .u32 0, .int .u32 0, .int .u32 0, .int .u64 0] 25 := hW ▸ ((((RowAt.new _ _ _ _ (by simp)).al _).al _).al _).al _
    have HBe : Hid (Below w.heap.size w W) := by
      rw [← hW]
      repeat (first | exact Below.refl _ _ | refine Below.alloc ?_ (by simp <;> omega) _)
    have hlt := hZ.lt
    have hlt' : w.heap.size < W.heap.size := by omega
    have c0 : W.cell? ⟨w.heap.size, 0, none⟩ = some (.int .u32 (x : Nat)) := hR.cell 0
    have t0 := hR.thaw 0
    have HR := hide hR
    have HZ := hide hZ
    rw [hW]
    clear hW hR hZ
    go_wp2_with (first | (go_at_call 24; refine (HS2.out _).mono ?_; rintro e w3 ⟨rfl, o5, o6, rfl⟩))
    obtain ⟨X, hX⟩ : ∃ X, ((W.setCell ⟨w.heap.size, 0, none⟩ (.int .u32 (r : Nat))).alloc o5).alloc o6 = X := ⟨_, rfl⟩
    have hR2 : RowAt X w.heap.size #[.int .u32 r, .int .u32 en, .int .u32 ve, .int .u32 sc, .int .u32 ep, .int .u32 ca, .int .u32 va, .int .u64 ct] 25 := hX ▸ ((HR.out.put 0 _).al _).al _
    have hZ2 : RowAt X (w.heap.size + 1) #[.int .u32 0, .int .u32 0, .int .u32 0, .int .u32 0, .int .u32 0, .int .u32 0, .int .u32 0, .int .u64 0] 25 := hX ▸ ((HZ.out.far (by omega) 0 _).al _).al _
    have HBX : Hid (Below w.heap.size w X) := by
      rw [← hX]
      have h1 := HBe.out.setCell (p := ⟨w.heap.size, 0, none⟩) (Nat.le_refl _) (.int .u32 (r : Nat))
      exact (h1.alloc h1.size _).alloc (by have := h1.size; simp; omega) _
    rw [hX]
    clear hX HBe HR HZ c0 t0 hlt hlt'
    have c0 : X.cell? ⟨w.heap.size, 0, none⟩ = some (.int .u32 (r : Nat)) := hR2.cell 0
    have c1 : X.cell? ⟨w.heap.size, 1, none⟩ = some (.int .u32 (en : Nat)) := hR2.cell 1
    have c2 : X.cell? ⟨w.heap.size, 2, none⟩ = some (.int .u32 (ve : Nat)) := hR2.cell 2
    have c3 : X.cell? ⟨w.heap.size, 3, none⟩ = some (.int .u32 (sc : Nat)) := hR2.cell 3
    have c4 : X.cell? ⟨w.heap.size, 4, none⟩ = some (.int .u32 (ep : Nat)) := hR2.cell 4
    have c5 : X.cell? ⟨w.heap.size, 5, none⟩ = some (.int .u32 (ca : Nat)) := hR2.cell 5
    have c6 : X.cell? ⟨w.heap.size, 6, none⟩ = some (.int .u32 (va : Nat)) := hR2.cell 6
    have c7 : X.cell? ⟨w.heap.size, 7, none⟩ = some (.int .u64 (ct : Nat)) := hR2.cell 7
    have z0 : X.cell? ⟨w.heap.size + 1, 0, none⟩ = some (.int .u32 0) := hZ2.cell 0
    have f0 := hZ2.thaw 0
    have z1 : X.cell? ⟨w.heap.size + 1, 1, none⟩ = some (.int .u32 0) := hZ2.cell 1
    have f1 := hZ2.thaw 1
    have z2 : X.cell? ⟨w.heap.size + 1, 2, none⟩ = some (.int .u32 0) := hZ2.cell 2
    have f2 := hZ2.thaw 2
    have z3 : X.cell? ⟨w.heap.size + 1, 3, none⟩ = some (.int .u32 0) := hZ2.cell 3
    have f3 := hZ2.thaw 3
    have z4 : X.cell? ⟨w.heap.size + 1, 4, none⟩ = some (.int .u32 0) := hZ2.cell 4
    have f4 := hZ2.thaw 4
    have z5 : X.cell? ⟨w.heap.size + 1, 5, none⟩ = some (.int .u32 0) := hZ2.cell 5
    have f5 := hZ2.thaw 5
    have z6 : X.cell? ⟨w.heap.size + 1, 6, none⟩ = some (.int .u32 0) := hZ2.cell 6
    have f6 := hZ2.thaw 6
    have z7 : X.cell? ⟨w.heap.size + 1, 7, none⟩ = some (.int .u64 0) := hZ2.cell 7
    have f7 := hZ2.thaw 7
    have HR2 := hide hR2
    have HZ2 := hide hZ2
    clear hR2 hZ2
    have hF := HZ2.out.put8 (.int .u32 (r : Nat)) (.int .u32 (en : Nat)) (.int .u32 (ve : Nat)) (.int .u32 (sc : Nat)) (.int .u32 (ep : Nat)) (.int .u32 (ca : Nat)) (.int .u32 (va : Nat)) (.int .u64 (ct : Nat))
    have hB := below_put8 HBX.out (Nat.le_succ _) (.int .u32 (r : Nat)) (.int .u32 (en : Nat)) (.int .u32 (ve : Nat)) (.int .u32 (sc : Nat)) (.int .u32 (ep : Nat)) (.int .u32 (ca : Nat)) (.int .u32 (va : Nat)) (.int .u64 (ct : Nat))
    have HF := hide hF
    have HB := hide hB
    clear hF hB
    go_region
    all_goals go_wp2
    all_goals
      have hF := HF.out
      have hB := HB.out
      clear HF HB
      generalize ((((((((X.setCell ⟨w.heap.size + 1, 0, none⟩ (.int .u32 (r : Nat))).setCell ⟨w.heap.size + 1, 1, none⟩ (.int .u32 (en : Nat))).setCell ⟨w.heap.size + 1, 2, none⟩ (.int .u32 (ve : Nat))).setCell ⟨w.heap.size + 1, 3, none⟩ (.int .u32 (sc : Nat))).setCell ⟨w.heap.size + 1, 4, none⟩ (.int .u32 (ep : Nat))).setCell ⟨w.heap.size + 1, 5, none⟩ (.int .u32 (ca : Nat))).setCell ⟨w.heap.size + 1, 6, none⟩ (.int .u32 (va : Nat))).setCell ⟨w.heap.size + 1, 7, none⟩ (.int .u64 (ct : Nat))) = Y at hF hB ⊢
      refine bodyPost_ret (results_cell_tmp_row Tryd.results16 _ _ (w.heap.size + 1) _ _ _ _ rfl hF.dr.dr Tryd.underlying25 rfl size_rstate) rfl ?_
      exact ⟨rfl, hB.drew.drew⟩
end Go.Proofs.YtchlomnkjilmeaaDoor
