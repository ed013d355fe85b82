/-
  What inst.Encode and inst.Check answer.
-/
import Derived.Test.YtoekcfbjdcibpaaGreatDoorInEq
import Derived.Deep.RegionWith
namespace Go.Proofs.YtoekcfbjdcibpaaGreatDoor
open Go.RowKit
set_option linter.unusedVariables false

theorem isOp_yes (op : Nat) (h : op < 57) (w : World) :
    Calls Tryz.prog 52 #[.int .i64 op] w fun e w' => e = .returned (.bool true) ∧ w' = w := by
  refine (isOp_any op w).mono ?_
  rintro e w' ⟨rfl, rfl⟩
  exact ⟨ret_bool (by simp; omega), rfl⟩
theorem isOp_no (c : Int) (h : c < 0 ∨ 56 < c) (w : World) :
    Calls Tryz.prog 52 #[.int .i64 c] w fun e w' => e = .returned (.bool false) ∧ w' = w := by
  refine (isOp_any c w).mono ?_
  rintro e w' ⟨rfl, rfl⟩
  exact ⟨ret_bool (by simp; omega), rfl⟩

theorem below_of_drew {a b : World} (h : Below a.drew.heap.size a.drew b) : Below a.heap.size a b := ⟨h.os, h.tape, h.output, h.size, h.block⟩

/-- An instruction that lies at a block's beginning. -/
def SixAt (w : World) (b : Nat) (i : I6) : Prop :=
  w.cell? ⟨b, 0, none⟩ = some (.int .i64 i.op) ∧ w.cell? ⟨b, 1, none⟩ = some (.int .i64 i.rd) ∧ w.cell? ⟨b, 2, none⟩ = some (.int .i64 i.rs1) ∧ w.cell? ⟨b, 3, none⟩ = some (.int .i64 i.rs2) ∧ w.cell? ⟨b, 4, none⟩ = some (.int .i64 i.imm) ∧ w.cell? ⟨b, 5, none⟩ = some (.int .i64 i.csr)
theorem SixAt.new (w : World) (i : I6) (t : TypeId) : SixAt (w.alloc (.cells i.cells t)) w.heap.size i := by
  refine ⟨?_, ?_, ?_, ?_, ?_, ?_⟩
  all_goals exact (cell_of_row _ _ _ _ _ (0, 0) (heap_alloc_new w _)).trans rfl
theorem SixAt.below {w w' : World} {B b : Nat} {i : I6} (h : SixAt w b i) (hb : Below B w w') (hB : b < B) : SixAt w' b i :=
  ⟨(hb.cell (p := ⟨b, 0, none⟩) hB).trans h.1, (hb.cell (p := ⟨b, 1, none⟩) hB).trans h.2.1, (hb.cell (p := ⟨b, 2, none⟩) hB).trans h.2.2.1, (hb.cell (p := ⟨b, 3, none⟩) hB).trans h.2.2.2.1, (hb.cell (p := ⟨b, 4, none⟩) hB).trans h.2.2.2.2.1, (hb.cell (p := ⟨b, 5, none⟩) hB).trans h.2.2.2.2.2⟩

set_option maxHeartbeats 1000000 in
theorem encode_bad (i : I6) (h : i.op < 0 ∨ 56 < i.op) (w : World) :
    Calls Tryz.prog 18 #[.agg i.cells] w fun e w' => e = .returned (.tuple #[.int .u32 0, .iface 69 (.int .i64 1)]) ∧ Below w.heap.size w w' := by
  have HO := hide (isOp_no i.op h)
  unfold I6.cells
  go_enter Tryz.func18, Tryz.ntmps18
  go_wp2_with (first | (go_at_call 52; refine (HO.out _).mono ?_; rintro e w2 ⟨rfl, rfl⟩))
  go_ret2
  exact ⟨rfl, (Below.refl _ _).alloc (Nat.le_refl _) _⟩

set_option maxHeartbeats 1000000 in
theorem encode_ok (op : Nat) (hop : op < 57) (i : I6) (hi : i.op = op) (w : World) (hK : KindsAt w) (hW : WordsAt w) (ht : toldN op (laidN op i) = i) :
    Calls Tryz.prog 18 #[.agg i.cells] w fun e w' => e = .returned (.tuple #[.int .u32 (laidN op i : Nat), .nilIface]) ∧ Below w.heap.size w w' := by
  have HO := hide (isOp_yes op hop)
  have HL := hide (fun w (hb : KindsAt w ∧ WordsAt w) => laid_any op hop i hi w hb.1 hb.2)
  have hlt : laidN op i < 4294967296 := spread_lt _ _ _ (startN_lt op i)
  have HT := hide (fun w (hb : KindsAt w) => told_any op hop (laidN op i) hlt w hb)
  have HKW := hide (And.intro hK hW)
  have HS := hide (SixAt.new w i 28)
  rw [ht] at HT
  clear ht hK hW
  generalize laidN op i = z at *
  obtain ⟨o, rd, rs1, rs2, imm, csr⟩ := i
  simp only at hi
  subst hi
  unfold I6.cells at *
  simp only at HL HT HS ⊢
  go_enter Tryz.func18, Tryz.ntmps18
  go_wp2_with (first | (go_at_call 52; refine (HO.out _).mono ?_; rintro e w2 ⟨rfl, rfl⟩) | (go_at_call 53; refine (HL.out _ ⟨HKW.out.1.below ((Below.refl _ _).alloc (Nat.le_refl _) _), HKW.out.2.below ((Below.refl _ _).alloc (Nat.le_refl _) _)⟩).mono ?_; rintro e w3 ⟨rfl, hb3⟩; have HS3 := hide (HS.out.below hb3 (by simp)); replace hb3 := ((Below.refl _ _).alloc (Nat.le_refl _) _).trans (hb3.mono (by simp))))
  obtain ⟨c0, c1, c2, c3, c4, c5⟩ := HS3.out
  simp only at c0 c1 c2 c3 c4 c5
  have HK3 := hide (HKW.out.1.below hb3)
  go_region_with (first | (go_at_call 54; refine (HT.out _ ?_).mono ?_; exact HK3.out; rintro e w4 ⟨rfl, hb4⟩; replace hb4 := below_of_drew hb4; obtain ⟨d0, d1, d2, d3, d4, d5⟩ := HS3.out.below hb4 (block_lt_of_cell c0); simp only at d0 d1 d2 d3 d4 d5))
  all_goals (go_wp2; go_ret2; exact ⟨rfl, hb3.trans (hb4.mono hb3.size)⟩)

set_option maxHeartbeats 1000000 in
theorem encode_no (op : Nat) (hop : op < 57) (i : I6) (hi : i.op = op) (w : World) (hK : KindsAt w) (hW : WordsAt w) (ht : toldN op (laidN op i) ≠ i) :
    Calls Tryz.prog 18 #[.agg i.cells] w fun e w' => e = .returned (.tuple #[.int .u32 0, .iface 69 (.int .i64 1)]) ∧ Below w.heap.size w w' := by
  have HO := hide (isOp_yes op hop)
  have HL := hide (fun w (hb : KindsAt w ∧ WordsAt w) => laid_any op hop i hi w hb.1 hb.2)
  have hlt : laidN op i < 4294967296 := spread_lt _ _ _ (startN_lt op i)
  have HT := hide (fun w (hb : KindsAt w) => told_any op hop (laidN op i) hlt w hb)
  have HKW := hide (And.intro hK hW)
  have HS := hide (SixAt.new w i 28)
  clear hK hW
  generalize toldN op (laidN op i) = t at *
  generalize laidN op i = z at *
  have hneq := neq_inst t i ht
  obtain ⟨o, rd, rs1, rs2, imm, csr⟩ := i
  obtain ⟨t0, t1, t2, t3, t4, t5⟩ := t
  clear ht
  simp only at hi
  subst hi
  unfold I6.cells at *
  simp only at HL HT HS hneq ⊢
  go_enter Tryz.func18, Tryz.ntmps18
  go_wp2_with (first | (go_at_call 52; refine (HO.out _).mono ?_; rintro e w2 ⟨rfl, rfl⟩) | (go_at_call 53; refine (HL.out _ ⟨HKW.out.1.below ((Below.refl _ _).alloc (Nat.le_refl _) _), HKW.out.2.below ((Below.refl _ _).alloc (Nat.le_refl _) _)⟩).mono ?_; rintro e w3 ⟨rfl, hb3⟩; have HS3 := hide (HS.out.below hb3 (by simp)); replace hb3 := ((Below.refl _ _).alloc (Nat.le_refl _) _).trans (hb3.mono (by simp))))
  obtain ⟨c0, c1, c2, c3, c4, c5⟩ := HS3.out
  simp only at c0 c1 c2 c3 c4 c5
  have HK3 := hide (HKW.out.1.below hb3)
  go_region_with (first | (go_at_call 54; refine (HT.out _ ?_).mono ?_; exact HK3.out; rintro e w4 ⟨rfl, hb4⟩; replace hb4 := below_of_drew hb4; obtain ⟨d0, d1, d2, d3, d4, d5⟩ := HS3.out.below hb4 (block_lt_of_cell c0); simp only at d0 d1 d2 d3 d4 d5))
  all_goals (go_wp2; go_ret2; exact ⟨rfl, hb3.trans (hb4.mono hb3.size)⟩)
end Go.Proofs.YtoekcfbjdcibpaaGreatDoor
