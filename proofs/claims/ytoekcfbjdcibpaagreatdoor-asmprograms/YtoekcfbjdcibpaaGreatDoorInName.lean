/-
  What inst.Name, inst.Kind, inst.Find and inst.Check answer.
-/
import Derived.Test.YtoekcfbjdcibpaaGreatDoorInEnc
namespace Go.Proofs.YtoekcfbjdcibpaaGreatDoor
open Go.RowKit
set_option linter.unusedVariables false

set_option maxHeartbeats 1000000 in
theorem name_yes (op : Nat) (hop : op < 57) (w : World) (hN : NamesAt w) :
    Calls Tryz.prog 22 #[.int .i64 op] w fun e w' => e = .returned (.string (nameN op)) ∧ w' = w := by
  have HO := hide (isOp_yes op hop)
  have hc := hN op hop
  clear hN
  go_enter Tryz.func22, Tryz.ntmps22
  go_wp2_with (first | (go_at_call 52; refine (HO.out _).mono ?_; rintro e w2 ⟨rfl, rfl⟩))
  go_ret
  exact ⟨rfl, rfl⟩

set_option maxHeartbeats 1000000 in
theorem name_no (c : Int) (h : c < 0 ∨ 56 < c) (w : World) :
    Calls Tryz.prog 22 #[.int .i64 c] w fun e w' => e = .returned (.string ⟨#[]⟩) ∧ w' = w := by
  have HO := hide (isOp_no c h)
  clear h
  go_enter Tryz.func22, Tryz.ntmps22
  go_wp2_with (first | (go_at_call 52; refine (HO.out _).mono ?_; rintro e w2 ⟨rfl, rfl⟩))
  go_ret
  exact ⟨rfl, rfl⟩

set_option maxHeartbeats 1000000 in
theorem kind_yes (op : Nat) (hop : op < 57) (w : World) (hN : KindsAt w) :
    Calls Tryz.prog 57 #[.int .i64 op] w fun e w' => e = .returned (.int .u8 (kindN op : Nat)) ∧ w' = w := by
  have HO := hide (isOp_yes op hop)
  have hc := hN op hop
  clear hN
  go_enter Tryz.func57, Tryz.ntmps57
  go_wp2_with (first | (go_at_call 52; refine (HO.out _).mono ?_; rintro e w2 ⟨rfl, rfl⟩))
  go_ret
  exact ⟨rfl, rfl⟩

set_option maxHeartbeats 1000000 in
theorem kind_no (c : Int) (h : c < 0 ∨ 56 < c) (w : World) :
    Calls Tryz.prog 57 #[.int .i64 c] w fun e w' => e = .returned (.int .u8 0) ∧ w' = w := by
  have HO := hide (isOp_no c h)
  clear h
  go_enter Tryz.func57, Tryz.ntmps57
  go_wp2_with (first | (go_at_call 52; refine (HO.out _).mono ?_; rintro e w2 ⟨rfl, rfl⟩))
  go_ret
  exact ⟨rfl, rfl⟩

set_option maxHeartbeats 1000000 in
theorem check_bad (i : I6) (h : i.op < 0 ∨ 56 < i.op) (w : World) :
    Calls Tryz.prog 20 #[.agg i.cells] w fun e w' => e = .returned (.iface 69 (.int .i64 1)) ∧ Below w.heap.size w w' := by
  have HE := hide (encode_bad i h)
  unfold I6.cells at *
  clear h
  go_enter Tryz.func20, Tryz.ntmps20
  go_wp2_with (first | (go_at_call 18; refine (HE.out _).mono ?_; rintro e w2 ⟨rfl, hb2⟩))
  go_ret
  exact ⟨rfl, ((Below.refl _ w).alloc (Nat.le_refl _) _).trans (hb2.mono (by simp))⟩

set_option maxHeartbeats 1000000 in
theorem check_ok (op : Nat) (hop : op < 57) (i : I6) (hi : i.op = op) (w : World) (hK : KindsAt w) (hW : WordsAt w) (ht : toldN op (laidN op i) = i) :
    Calls Tryz.prog 20 #[.agg i.cells] w fun e w' => e = .returned .nilIface ∧ Below w.heap.size w w' := by
  have HE := hide (fun w (hK : KindsAt w ∧ WordsAt w) => encode_ok op hop i hi w hK.1 hK.2 ht)
  have HKW := hide (And.intro hK hW)
  unfold I6.cells at *
  clear ht hK hW hi
  go_enter Tryz.func20, Tryz.ntmps20
  go_wp2_with (first | (go_at_call 18; refine (HE.out _ ⟨HKW.out.1.below ((Below.refl _ _).alloc (Nat.le_refl _) _), HKW.out.2.below ((Below.refl _ _).alloc (Nat.le_refl _) _)⟩).mono ?_; rintro e w2 ⟨rfl, hb2⟩))
  go_ret
  exact ⟨rfl, ((Below.refl _ w).alloc (Nat.le_refl _) _).trans (hb2.mono (by simp))⟩

set_option maxHeartbeats 1000000 in
theorem check_no (op : Nat) (hop : op < 57) (i : I6) (hi : i.op = op) (w : World) (hK : KindsAt w) (hW : WordsAt w) (ht : toldN op (laidN op i) ≠ i) :
    Calls Tryz.prog 20 #[.agg i.cells] w fun e w' => e = .returned (.iface 69 (.int .i64 1)) ∧ Below w.heap.size w w' := by
  have HE := hide (fun w (hK : KindsAt w ∧ WordsAt w) => encode_no op hop i hi w hK.1 hK.2 ht)
  have HKW := hide (And.intro hK hW)
  unfold I6.cells at *
  clear ht hK hW hi
  go_enter Tryz.func20, Tryz.ntmps20
  go_wp2_with (first | (go_at_call 18; refine (HE.out _ ⟨HKW.out.1.below ((Below.refl _ _).alloc (Nat.le_refl _) _), HKW.out.2.below ((Below.refl _ _).alloc (Nat.le_refl _) _)⟩).mono ?_; rintro e w2 ⟨rfl, hb2⟩))
  go_ret
  exact ⟨rfl, ((Below.refl _ w).alloc (Nat.le_refl _) _).trans (hb2.mono (by simp))⟩
end Go.Proofs.YtoekcfbjdcibpaaGreatDoor
