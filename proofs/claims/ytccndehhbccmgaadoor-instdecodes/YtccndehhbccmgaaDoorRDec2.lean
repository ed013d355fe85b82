/-
  What the document's Decode answers of a word of none, and whatever word comes.
-/
import Derived.Test.YtccndehhbccmgaaDoorRDec
import Derived.Test.YtccndehhbccmgaaDoorInAns
namespace Go.Proofs.YtccndehhbccmgaaDoor
open Go.RowKit
set_option linter.unusedVariables false

set_option maxHeartbeats 4000000 in
set_option maxRecDepth 100000 in
theorem rdecode_none (v : Nat) (hv : v < 4294967296) (hno : ∀ j, j < 57 → matchN j v = false) (w : World) :
    Calls Tryd.prog 10 #[.int .u32 v] w fun e w' => e = .returned (.tuple #[.agg #[.int .i64 0, .int .i64 0, .int .i64 0, .int .i64 0, .int .i64 0, .int .i64 0], .int .i64 3]) ∧ Below w.heap.size w w' := by
  have HNO := hide hno
  have HK := hide rkind_yes
  have HSP := hide rspans_any
  have HPL := hide rplain_any
  clear hno
  go_enter Tryd.func10, Tryd.ntmps10
  go_wp2
  obtain ⟨w0, hw0⟩ : ∃ w0, w.alloc (.cells #[.int .i64 0, .int .i64 0, .int .i64 0, .int .i64 0, .int .i64 0, .int .i64 0] 29) = w0 := ⟨_, rfl⟩
  have HB0 : Hid (Below w.heap.size w w0) := by rw [← hw0]; exact (Below.refl _ w).alloc (Nat.le_refl _) _
  have HZ : Hid (w0.heap.size = w.heap.size + 1) := by rw [← hw0]; show _ = _; simp
  have HR : Hid (Zero6 w0 w.heap.size) := by rw [← hw0]; exact heap_alloc_new w _
  rw [hw0]
  clear hw0
  go_loopw [4] (fun iv wr => ∃ j : Nat, j ≤ 57 ∧ iv = .int .i64 j ∧ Below (w.heap.size + 1) w0 wr) (fun iv _ => 57 - (intOf iv).toNat)
  case atStart => exact ⟨0, by omega, rfl, Below.refl _ _⟩
  case round =>
    obtain ⟨j, hj, rfl, hB⟩ := hrel
    have HSZ : Hid (w.heap.size + 1 ≤ wr.heap.size) := by have := hB.size; have := HZ.out; show _ ≤ _; omega
    by_cases hlt : j < 57
    · have HKj := hide (kindN_is j (by omega))
      have HKc := hide (HK.out j (by omega))
      have HPc := hide (HPL.out j (by omega))
      have ht := match_ne j v hv
      rw [HNO.out j hlt] at ht
      generalize kindN j = k at HKj HKc ht
      generalize wordN j = z at HPc ht
      go_wp2_with (first | (go_at_call 22; refine (HKc.out _).mono ?_; rintro e w2 ⟨rfl, rfl⟩) | (go_at_call 25; refine (HSP.out _ HKj.out _).mono ?_; rintro e w2 ⟨rfl, rfl⟩) | (go_at_call 26; refine (HPc.out _).mono ?_; rintro e w4 ⟨rfl, hb4⟩))
      go_roundw
      case rel => exact ⟨j + 1, by omega, by go_num, hB.trans (hb4.mono HSZ.out)⟩
      case measure => simp [intOf]; omega
    · obtain rfl : j = 57 := by omega
      have HRr := hide ((hB.block w.heap.size (by omega)).trans HR.out)
      go_wp2_with (first | (refine wpList_store_row rfl 29 _ _ rfl w.heap.size _ rfl rfl _ _ HRr.out size_rinst rfl (six_one _ _ _ _ _ _) ?_))
      refine bodyPost_ret (results_cell_tmp_row Tryd.results10 _ _ w.heap.size _ _ _ _ rfl (setRow_heap _ _ _ _ _ _ HRr.out) Tryd.underlying29 rfl size_rinst) rfl ?_
      exact ⟨rfl, below_setRow (HB0.out.trans (hB.mono (by omega))) (Nat.le_refl _) _⟩

theorem rdecode_all (v : Nat) (hv : v < 4294967296) (w : World) :
    Calls Tryd.prog 10 #[.int .u32 v] w fun e w' => e = .returned (.tuple #[.agg (decI v).cells, .int .i64 (decN v)]) ∧ Below w.heap.size w w' := by
  unfold decI decN
  cases hd : decOp v with
  | none => exact rdecode_none v hv (decOp_none hd) w
  | some op =>
    obtain ⟨h1, h2⟩ := decOp_some hd
    refine rdecode_hit v hv op h1 h2 (fun j hj => ?_) w
    cases hm : matchN j v with
    | false => rfl
    | true => have := match_one j op v (by omega) h1 hm h2; omega
end Go.Proofs.YtccndehhbccmgaaDoor
