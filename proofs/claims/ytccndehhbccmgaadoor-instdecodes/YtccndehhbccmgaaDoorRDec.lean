/-
  What the document's Decode answers.
-/
import Derived.Test.YtccndehhbccmgaaDoorRNumM
import Derived.Test.YtccndehhbccmgaaDoorRNames
import Derived.Test.YtccndehhbccmgaaDoorInDec
import Derived.Test.YtccndehhbccmgaaDoorInApartW
namespace Go.Proofs.YtccndehhbccmgaaDoor
open Go.RowKit
set_option linter.unusedVariables false

theorem size_rinst : (Tryd.prog.info? 29).map (·.size) = some 6 := by kernel_rfl

theorem match_ne (j v : Nat) (hv : v < 4294967296) : (bits .andNot .u32 (v : Int) ((takenN (kindN j) : Nat) : Int) != ((wordN j : Nat) : Int)) = !matchN j v := by
  rw [← match_test j v hv]; rfl

/-- One that is looked at, and is the word's: what the document makes of it, by its form. -/
def Zero6 (w0 : World) (b : Nat) : Prop := w0.heap[b]? = some (.cells #[.int .i64 0, .int .i64 0, .int .i64 0, .int .i64 0, .int .i64 0, .int .i64 0] 29 (0, 0))

set_option maxHeartbeats 4000000 in
set_option maxRecDepth 100000 in
theorem rdecode_hit (v : Nat) (hv : v < 4294967296) (op : Nat) (hop : op < 57) (hm : matchN op v = true) (hno : ∀ j, j < op → matchN j v = false) (w : World) :
    Calls Tryd.prog 10 #[.int .u32 v] w fun e w' => e = .returned (.tuple #[.agg (toldN op v).cells, .int .i64 0]) ∧ Below w.heap.size w w' := by
  have HNO := hide hno
  have HK := hide rkind_yes
  have HSP := hide rspans_any
  have HPL := hide rplain_any
  have HNU := hide (fun k (hk : IsKind k) => rnumber_all k hk v hv)
  have HHIT := hide (match_ne op v hv)
  rw [hm] at HHIT
  have F7 := hide (fd7 v hv)
  have F15 := hide (fd15 v hv)
  have F20 := hide (fd20 v hv)
  have F20c : Hid (fieldW v 20 12 = v / 1048576) := by show _ = _; rw [fd20c v hv]; omega
  clear hno hm
  go_enter Tryd.func10, Tryd.ntmps10
  go_wp2
  obtain ⟨w0, hw0⟩ : ∃ w0, w.alloc (.cells #[.int .i64 0, .int .i64 0, .int .i64 0, .int .i64 0, .int .i64 0, .int .i64 0] 29) = w0 := ⟨_, rfl⟩
  have HB0 : Hid (Below w.heap.size w w0) := by rw [← hw0]; exact (Below.refl _ w).alloc (Nat.le_refl _) _
  have HZ : Hid (w0.heap.size = w.heap.size + 1) := by rw [← hw0]; show _ = _; simp
  have HR : Hid (Zero6 w0 w.heap.size) := by rw [← hw0]; exact heap_alloc_new w _
  rw [hw0]
  clear hw0
  go_loopw [4] (fun iv wr => ∃ j : Nat, j ≤ op ∧ iv = .int .i64 j ∧ Below (w.heap.size + 1) w0 wr) (fun iv _ => op - (intOf iv).toNat)
  case atStart => exact ⟨0, by omega, rfl, Below.refl _ _⟩
  case round =>
    obtain ⟨j, hj, rfl, hB⟩ := hrel
    have HSZ : Hid (w.heap.size + 1 ≤ wr.heap.size) := by have := hB.size; have := HZ.out; show _ ≤ _; omega
    by_cases hlt : j < op
    · have HKj := hide (kindN_is j (by omega))
      have HKc := hide (HK.out j (by omega))
      have HPc := hide (HPL.out j (by omega))
      have ht := match_ne j v hv
      rw [HNO.out j hlt] at ht
      clear HNU HHIT
      generalize kindN j = k at HKj HKc ht
      generalize wordN j = z at HPc ht
      go_wp2_with (first | (go_at_call 22; refine (HKc.out _).mono ?_; rintro e w2 ⟨rfl, rfl⟩) | (go_at_call 25; refine (HSP.out _ HKj.out _).mono ?_; rintro e w2 ⟨rfl, rfl⟩) | (go_at_call 26; refine (HPc.out _).mono ?_; rintro e w4 ⟨rfl, hb4⟩))
      go_roundw
      case rel => exact ⟨j + 1, by omega, by go_num, hB.trans (hb4.mono HSZ.out)⟩
      case measure => simp [intOf]; omega
    · obtain rfl : j = op := by omega
      have HKj := hide (kindN_is j (by omega))
      have HKc := hide (HK.out j (by omega))
      have HPc := hide (HPL.out j (by omega))
      have ht := HHIT.out
      have HTN : Hid (toldN j v = toldK (kindN j) j v) := rfl
      clear HHIT
      generalize kindN j = k at HKj HKc ht HTN
      generalize wordN j = z at HPc ht
      have hkk := HKj.out
      rcases hkk with rfl | rfl | rfl | rfl | rfl | rfl | rfl | rfl | rfl | rfl | rfl
      all_goals
        go_wp2_with (first | (go_at_call 22; refine (HKc.out _).mono ?_; rintro e w2 ⟨rfl, rfl⟩) | (go_at_call 25; refine (HSP.out _ HKj.out _).mono ?_; rintro e w2 ⟨rfl, rfl⟩) | (go_at_call 26; refine (HPc.out _).mono ?_; rintro e w4 ⟨rfl, hb4⟩; replace hb4 := hB.trans (hb4.mono HSZ.out)) | (go_at_call 27; refine (HNU.out _ HKj.out _).mono ?_; rintro e w5 ⟨rfl, hb5⟩; replace hb5 := below_step HZ.out hb4 hb5; have HRr := hide (show ∀ o, Zero6 (w5.alloc o) w.heap.size from fun o => (Below.heap_alloc w5 o w.heap.size (by have := hb5.size; have := HZ.out; omega)).trans ((hb5.block w.heap.size (by omega)).trans HR.out))) | (refine wpList_store_row rfl 29 _ _ rfl w.heap.size _ rfl rfl _ _ (HRr.out _) size_rinst rfl (six_one _ _ _ _ _ _) ?_))
        refine bodyPost_ret (results_cell_tmp_row Tryd.results10 _ _ w.heap.size _ _ _ _ rfl (setRow_heap _ _ _ _ _ _ (HRr.out _)) Tryd.underlying29 rfl size_rinst) rfl ?_
        refine ⟨?_, below_setRow ((HB0.out.trans (hb5.mono (by omega))).alloc (by have := hb5.size; have := HZ.out; omega) _) (Nat.le_refl _) _⟩
        rw [HTN.out]
        simp [toldK, I6.cells, F7.out, F15.out, F20.out, F20c.out, rnum_0]
end Go.Proofs.YtccndehhbccmgaaDoor
