/-
  What the document's Check answers, some forms.
-/
import Derived.Test.YtbidhfhmfmhiiaaGreatDoorRCheck
namespace Go.Proofs.YtbidhfhmfmhiiaaGreatDoor
open Go.RowKit
set_option linter.unusedVariables false

set_option maxHeartbeats 4000000 in
set_option maxRecDepth 100000 in
theorem rcheck_C (op : Nat) (hop : op < 57) (rd rs1 rs2 imm csr : Int) (hk : kindN op = 67) (w : World) :
    Calls Tryz.prog 27 #[.agg #[.int .i64 op, .int .i64 rd, .int .i64 rs1, .int .i64 rs2, .int .i64 imm, .int .i64 csr]] w fun e w' => (∃ r : Int, e = .returned (.int .i64 r) ∧ CheckAns 67 ⟨op, rd, rs1, rs2, imm, csr⟩ r) ∧ Below w.heap.size w w' := by
  have HK := hide (rkind_yes op hop)
  rw [hk] at HK
  clear hk
  have HV : Hid (ValidK 67 ⟨op, rd, rs1, rs2, imm, csr⟩ ↔ (0 ≤ rd ∧ rd ≤ 31) ∧ (0 ≤ rs1 ∧ rs1 ≤ 31) ∧ (rs2 = 0) ∧ (0 ≤ csr ∧ csr ≤ 4095) ∧ (imm = 0)) := Iff.rfl
  have htm := tmod_test imm 1 (by decide)
  by_cases himm : 0 ≤ imm ∧ imm ≤ 0 ∧ imm % 1 = 0
  · obtain ⟨q1, q2, q3⟩ := himm
    rw [show decide (imm % 1 = 0) = true from decide_eq_true q3] at htm
    have HQ := hide (And.intro q1 (And.intro q2 q3))
    clear q3
    go_enter Tryz.func27, Tryz.ntmps27
    go_wp2_with (first | (go_at_call 29; refine (HK.out _).mono ?_; rintro e w2 ⟨rfl, rfl⟩))
    obtain ⟨w0, hw0⟩ : ∃ w0, ((w.alloc (.cells #[.int .i64 op, .int .i64 rd, .int .i64 rs1, .int .i64 rs2, .int .i64 imm, .int .i64 csr] 23)).alloc (.cells #[.bool true, .bool true, .bool false, .bool true] 4)).alloc (.cells #[.int .i64 rd, .int .i64 rs1, .int .i64 rs2, .int .i64 csr] 3) = w0 := ⟨_, rfl⟩
    obtain ⟨hr1, hr2, hb0⟩ := three_new _ _ _ _ _ _ _ _ hw0
    rw [hw0]
    clear hw0
    have HB0 := hide hb0
    clear hb0
    have HR1 := hide hr1
    have HR2 := hide hr2
    clear hr1 hr2
    have g0 : w0.cell? ⟨w.heap.size + 1, 0, none⟩ = some (.bool true) := (cell_of_row _ _ _ _ _ (0, 0) HR1.out).trans rfl
    have g1 : w0.cell? ⟨w.heap.size + 1, 1, none⟩ = some (.bool true) := (cell_of_row _ _ _ _ _ (0, 0) HR1.out).trans rfl
    have g2 : w0.cell? ⟨w.heap.size + 1, 2, none⟩ = some (.bool false) := (cell_of_row _ _ _ _ _ (0, 0) HR1.out).trans rfl
    have g3 : w0.cell? ⟨w.heap.size + 1, 3, none⟩ = some (.bool true) := (cell_of_row _ _ _ _ _ (0, 0) HR1.out).trans rfl
    have l0 : w0.cell? ⟨w.heap.size + 1 + 1, 0, none⟩ = some (.int .i64 rd) := (cell_of_row _ _ _ _ _ (0, 0) HR2.out).trans rfl
    have l1 : w0.cell? ⟨w.heap.size + 1 + 1, 1, none⟩ = some (.int .i64 rs1) := (cell_of_row _ _ _ _ _ (0, 0) HR2.out).trans rfl
    have l2 : w0.cell? ⟨w.heap.size + 1 + 1, 2, none⟩ = some (.int .i64 rs2) := (cell_of_row _ _ _ _ _ (0, 0) HR2.out).trans rfl
    have l3 : w0.cell? ⟨w.heap.size + 1 + 1, 3, none⟩ = some (.int .i64 csr) := (cell_of_row _ _ _ _ _ (0, 0) HR2.out).trans rfl
    go_loop [9] (fun iv => ∃ n : Nat, n ≤ 4 ∧ iv = .int .i64 n ∧ Hid ((1 ≤ n → (0 ≤ rd ∧ rd ≤ 31)) ∧ (2 ≤ n → (0 ≤ rs1 ∧ rs1 ≤ 31)) ∧ (3 ≤ n → (0 ≤ rs2 ∧ rs2 ≤ 0)) ∧ (4 ≤ n → (0 ≤ csr ∧ csr ≤ 4095)))) (fun iv => 4 - (intOf iv).toNat)
    case atStart => exact ⟨0, by omega, rfl, by refine ⟨?_, ?_, ?_, ?_⟩ <;> (intro h; omega)⟩
    case round =>
      obtain ⟨n, hn, rfl, HF⟩ := hrel
      obtain rfl | rfl | rfl | rfl | rfl : n = 0 ∨ n = 1 ∨ n = 2 ∨ n = 3 ∨ n = 4 := by omega
      · by_cases u1 : rd < 0
        · have HNV : Hid (¬ ValidK 67 ⟨op, rd, rs1, rs2, imm, csr⟩) := fun hv => by
            have h5 := HV.out.1 hv
            omega
          go_wp2
          go_ret
          exact ⟨⟨1, rfl, .inr ⟨rfl, HNV.out⟩⟩, HB0.out⟩
        · by_cases u2 : 31 < rd
          · have HNV : Hid (¬ ValidK 67 ⟨op, rd, rs1, rs2, imm, csr⟩) := fun hv => by
              have h5 := HV.out.1 hv
              omega
            go_wp2
            go_ret
            exact ⟨⟨1, rfl, .inr ⟨rfl, HNV.out⟩⟩, HB0.out⟩
          · go_wp2
            go_round
            case rel => exact ⟨1, by omega, by go_num, fun _ => ⟨by omega, by omega⟩, fun h => by omega, fun h => by omega, fun h => by omega⟩
            case measure => simp [intOf]
      · by_cases u1 : rs1 < 0
        · have HNV : Hid (¬ ValidK 67 ⟨op, rd, rs1, rs2, imm, csr⟩) := fun hv => by
            have h5 := HV.out.1 hv
            omega
          go_wp2
          go_ret
          exact ⟨⟨1, rfl, .inr ⟨rfl, HNV.out⟩⟩, HB0.out⟩
        · by_cases u2 : 31 < rs1
          · have HNV : Hid (¬ ValidK 67 ⟨op, rd, rs1, rs2, imm, csr⟩) := fun hv => by
              have h5 := HV.out.1 hv
              omega
            go_wp2
            go_ret
            exact ⟨⟨1, rfl, .inr ⟨rfl, HNV.out⟩⟩, HB0.out⟩
          · go_wp2
            go_round
            case rel => exact ⟨2, by omega, by go_num, fun _ => HF.out.1 (by omega), fun _ => ⟨by omega, by omega⟩, fun h => by omega, fun h => by omega⟩
            case measure => simp [intOf]
      · by_cases u1 : rs2 < 0
        · have HNV : Hid (¬ ValidK 67 ⟨op, rd, rs1, rs2, imm, csr⟩) := fun hv => by
            have h5 := HV.out.1 hv
            omega
          go_wp2
          go_ret
          exact ⟨⟨1, rfl, .inr ⟨rfl, HNV.out⟩⟩, HB0.out⟩
        · by_cases u2 : 0 < rs2
          · have HNV : Hid (¬ ValidK 67 ⟨op, rd, rs1, rs2, imm, csr⟩) := fun hv => by
              have h5 := HV.out.1 hv
              omega
            go_wp2
            go_ret
            exact ⟨⟨1, rfl, .inr ⟨rfl, HNV.out⟩⟩, HB0.out⟩
          · go_wp2
            go_round
            case rel => exact ⟨3, by omega, by go_num, fun _ => HF.out.1 (by omega), fun _ => HF.out.2.1 (by omega), fun _ => ⟨by omega, by omega⟩, fun h => by omega⟩
            case measure => simp [intOf]
      · by_cases u1 : csr < 0
        · have HNV : Hid (¬ ValidK 67 ⟨op, rd, rs1, rs2, imm, csr⟩) := fun hv => by
            have h5 := HV.out.1 hv
            omega
          go_wp2
          go_ret
          exact ⟨⟨1, rfl, .inr ⟨rfl, HNV.out⟩⟩, HB0.out⟩
        · by_cases u2 : 4095 < csr
          · have HNV : Hid (¬ ValidK 67 ⟨op, rd, rs1, rs2, imm, csr⟩) := fun hv => by
              have h5 := HV.out.1 hv
              omega
            go_wp2
            go_ret
            exact ⟨⟨1, rfl, .inr ⟨rfl, HNV.out⟩⟩, HB0.out⟩
          · go_wp2
            go_round
            case rel => exact ⟨4, by omega, by go_num, fun _ => HF.out.1 (by omega), fun _ => HF.out.2.1 (by omega), fun _ => HF.out.2.2.1 (by omega), fun _ => ⟨by omega, by omega⟩⟩
            case measure => simp [intOf]
      · go_wp2
        go_ret
        refine ⟨⟨0, rfl, .inl ⟨rfl, HV.out.2 ?_⟩⟩, HB0.out⟩
        obtain ⟨x0, x1, x2, x3⟩ := HF.out
        have y0 := x0 (by omega)
        have y1 := x1 (by omega)
        have y2 := x2 (by omega)
        have y3 := x3 (by omega)
        have y4 := HQ.out
        omega
  · have HNV : Hid (¬ ValidK 67 ⟨op, rd, rs1, rs2, imm, csr⟩) := fun hv => by
      have h5 := (HV.out.1 hv).2.2.2.2
      omega
    by_cases q1 : imm < 0
    · clear himm htm
      go_enter Tryz.func27, Tryz.ntmps27
      go_wp2_with (first | (go_at_call 29; refine (HK.out _).mono ?_; rintro e w2 ⟨rfl, rfl⟩))
      go_ret
      exact ⟨⟨1, rfl, .inr ⟨rfl, HNV.out⟩⟩, (Below.refl _ _).alloc (Nat.le_refl _) _⟩
    · by_cases q2 : 0 < imm
      · clear himm htm
        go_enter Tryz.func27, Tryz.ntmps27
        go_wp2_with (first | (go_at_call 29; refine (HK.out _).mono ?_; rintro e w2 ⟨rfl, rfl⟩))
        go_ret
        exact ⟨⟨1, rfl, .inr ⟨rfl, HNV.out⟩⟩, (Below.refl _ _).alloc (Nat.le_refl _) _⟩
      · exact absurd (show _ ∧ _ ∧ _ from ⟨by omega, by omega, by omega⟩) himm

set_option maxHeartbeats 4000000 in
set_option maxRecDepth 100000 in
theorem rcheck_H (op : Nat) (hop : op < 57) (rd rs1 rs2 imm csr : Int) (hk : kindN op = 72) (w : World) :
    Calls Tryz.prog 27 #[.agg #[.int .i64 op, .int .i64 rd, .int .i64 rs1, .int .i64 rs2, .int .i64 imm, .int .i64 csr]] w fun e w' => (∃ r : Int, e = .returned (.int .i64 r) ∧ CheckAns 72 ⟨op, rd, rs1, rs2, imm, csr⟩ r) ∧ Below w.heap.size w w' := by
  have HK := hide (rkind_yes op hop)
  rw [hk] at HK
  clear hk
  have HV : Hid (ValidK 72 ⟨op, rd, rs1, rs2, imm, csr⟩ ↔ (0 ≤ rd ∧ rd ≤ 31) ∧ (0 ≤ rs1 ∧ rs1 ≤ 31) ∧ (rs2 = 0) ∧ (csr = 0) ∧ (0 ≤ imm ∧ imm ≤ 31)) := Iff.rfl
  have htm := tmod_test imm 1 (by decide)
  by_cases himm : 0 ≤ imm ∧ imm ≤ 31 ∧ imm % 1 = 0
  · obtain ⟨q1, q2, q3⟩ := himm
    rw [show decide (imm % 1 = 0) = true from decide_eq_true q3] at htm
    have HQ := hide (And.intro q1 (And.intro q2 q3))
    clear q3
    go_enter Tryz.func27, Tryz.ntmps27
    go_wp2_with (first | (go_at_call 29; refine (HK.out _).mono ?_; rintro e w2 ⟨rfl, rfl⟩))
    obtain ⟨w0, hw0⟩ : ∃ w0, ((w.alloc (.cells #[.int .i64 op, .int .i64 rd, .int .i64 rs1, .int .i64 rs2, .int .i64 imm, .int .i64 csr] 23)).alloc (.cells #[.bool true, .bool true, .bool false, .bool false] 4)).alloc (.cells #[.int .i64 rd, .int .i64 rs1, .int .i64 rs2, .int .i64 csr] 3) = w0 := ⟨_, rfl⟩
    obtain ⟨hr1, hr2, hb0⟩ := three_new _ _ _ _ _ _ _ _ hw0
    rw [hw0]
    clear hw0
    have HB0 := hide hb0
    clear hb0
    have HR1 := hide hr1
    have HR2 := hide hr2
    clear hr1 hr2
    have g0 : w0.cell? ⟨w.heap.size + 1, 0, none⟩ = some (.bool true) := (cell_of_row _ _ _ _ _ (0, 0) HR1.out).trans rfl
    have g1 : w0.cell? ⟨w.heap.size + 1, 1, none⟩ = some (.bool true) := (cell_of_row _ _ _ _ _ (0, 0) HR1.out).trans rfl
    have g2 : w0.cell? ⟨w.heap.size + 1, 2, none⟩ = some (.bool false) := (cell_of_row _ _ _ _ _ (0, 0) HR1.out).trans rfl
    have g3 : w0.cell? ⟨w.heap.size + 1, 3, none⟩ = some (.bool false) := (cell_of_row _ _ _ _ _ (0, 0) HR1.out).trans rfl
    have l0 : w0.cell? ⟨w.heap.size + 1 + 1, 0, none⟩ = some (.int .i64 rd) := (cell_of_row _ _ _ _ _ (0, 0) HR2.out).trans rfl
    have l1 : w0.cell? ⟨w.heap.size + 1 + 1, 1, none⟩ = some (.int .i64 rs1) := (cell_of_row _ _ _ _ _ (0, 0) HR2.out).trans rfl
    have l2 : w0.cell? ⟨w.heap.size + 1 + 1, 2, none⟩ = some (.int .i64 rs2) := (cell_of_row _ _ _ _ _ (0, 0) HR2.out).trans rfl
    have l3 : w0.cell? ⟨w.heap.size + 1 + 1, 3, none⟩ = some (.int .i64 csr) := (cell_of_row _ _ _ _ _ (0, 0) HR2.out).trans rfl
    go_loop [9] (fun iv => ∃ n : Nat, n ≤ 4 ∧ iv = .int .i64 n ∧ Hid ((1 ≤ n → (0 ≤ rd ∧ rd ≤ 31)) ∧ (2 ≤ n → (0 ≤ rs1 ∧ rs1 ≤ 31)) ∧ (3 ≤ n → (0 ≤ rs2 ∧ rs2 ≤ 0)) ∧ (4 ≤ n → (0 ≤ csr ∧ csr ≤ 0)))) (fun iv => 4 - (intOf iv).toNat)
    case atStart => exact ⟨0, by omega, rfl, by refine ⟨?_, ?_, ?_, ?_⟩ <;> (intro h; omega)⟩
    case round =>
      obtain ⟨n, hn, rfl, HF⟩ := hrel
      obtain rfl | rfl | rfl | rfl | rfl : n = 0 ∨ n = 1 ∨ n = 2 ∨ n = 3 ∨ n = 4 := by omega
      · by_cases u1 : rd < 0
        · have HNV : Hid (¬ ValidK 72 ⟨op, rd, rs1, rs2, imm, csr⟩) := fun hv => by
            have h5 := HV.out.1 hv
            omega
          go_wp2
          go_ret
          exact ⟨⟨1, rfl, .inr ⟨rfl, HNV.out⟩⟩, HB0.out⟩
        · by_cases u2 : 31 < rd
          · have HNV : Hid (¬ ValidK 72 ⟨op, rd, rs1, rs2, imm, csr⟩) := fun hv => by
              have h5 := HV.out.1 hv
              omega
            go_wp2
            go_ret
            exact ⟨⟨1, rfl, .inr ⟨rfl, HNV.out⟩⟩, HB0.out⟩
          · go_wp2
            go_round
            case rel => exact ⟨1, by omega, by go_num, fun _ => ⟨by omega, by omega⟩, fun h => by omega, fun h => by omega, fun h => by omega⟩
            case measure => simp [intOf]
      · by_cases u1 : rs1 < 0
        · have HNV : Hid (¬ ValidK 72 ⟨op, rd, rs1, rs2, imm, csr⟩) := fun hv => by
            have h5 := HV.out.1 hv
            omega
          go_wp2
          go_ret
          exact ⟨⟨1, rfl, .inr ⟨rfl, HNV.out⟩⟩, HB0.out⟩
        · by_cases u2 : 31 < rs1
          · have HNV : Hid (¬ ValidK 72 ⟨op, rd, rs1, rs2, imm, csr⟩) := fun hv => by
              have h5 := HV.out.1 hv
              omega
            go_wp2
            go_ret
            exact ⟨⟨1, rfl, .inr ⟨rfl, HNV.out⟩⟩, HB0.out⟩
          · go_wp2
            go_round
            case rel => exact ⟨2, by omega, by go_num, fun _ => HF.out.1 (by omega), fun _ => ⟨by omega, by omega⟩, fun h => by omega, fun h => by omega⟩
            case measure => simp [intOf]
      · by_cases u1 : rs2 < 0
        · have HNV : Hid (¬ ValidK 72 ⟨op, rd, rs1, rs2, imm, csr⟩) := fun hv => by
            have h5 := HV.out.1 hv
            omega
          go_wp2
          go_ret
          exact ⟨⟨1, rfl, .inr ⟨rfl, HNV.out⟩⟩, HB0.out⟩
        · by_cases u2 : 0 < rs2
          · have HNV : Hid (¬ ValidK 72 ⟨op, rd, rs1, rs2, imm, csr⟩) := fun hv => by
              have h5 := HV.out.1 hv
              omega
            go_wp2
            go_ret
            exact ⟨⟨1, rfl, .inr ⟨rfl, HNV.out⟩⟩, HB0.out⟩
          · go_wp2
            go_round
            case rel => exact ⟨3, by omega, by go_num, fun _ => HF.out.1 (by omega), fun _ => HF.out.2.1 (by omega), fun _ => ⟨by omega, by omega⟩, fun h => by omega⟩
            case measure => simp [intOf]
      · by_cases u1 : csr < 0
        · have HNV : Hid (¬ ValidK 72 ⟨op, rd, rs1, rs2, imm, csr⟩) := fun hv => by
            have h5 := HV.out.1 hv
            omega
          go_wp2
          go_ret
          exact ⟨⟨1, rfl, .inr ⟨rfl, HNV.out⟩⟩, HB0.out⟩
        · by_cases u2 : 0 < csr
          · have HNV : Hid (¬ ValidK 72 ⟨op, rd, rs1, rs2, imm, csr⟩) := fun hv => by
              have h5 := HV.out.1 hv
              omega
            go_wp2
            go_ret
            exact ⟨⟨1, rfl, .inr ⟨rfl, HNV.out⟩⟩, HB0.out⟩
          · go_wp2
            go_round
            case rel => exact ⟨4, by omega, by go_num, fun _ => HF.out.1 (by omega), fun _ => HF.out.2.1 (by omega), fun _ => HF.out.2.2.1 (by omega), fun _ => ⟨by omega, by omega⟩⟩
            case measure => simp [intOf]
      · go_wp2
        go_ret
        refine ⟨⟨0, rfl, .inl ⟨rfl, HV.out.2 ?_⟩⟩, HB0.out⟩
        obtain ⟨x0, x1, x2, x3⟩ := HF.out
        have y0 := x0 (by omega)
        have y1 := x1 (by omega)
        have y2 := x2 (by omega)
        have y3 := x3 (by omega)
        have y4 := HQ.out
        omega
  · have HNV : Hid (¬ ValidK 72 ⟨op, rd, rs1, rs2, imm, csr⟩) := fun hv => by
      have h5 := (HV.out.1 hv).2.2.2.2
      omega
    by_cases q1 : imm < 0
    · clear himm htm
      go_enter Tryz.func27, Tryz.ntmps27
      go_wp2_with (first | (go_at_call 29; refine (HK.out _).mono ?_; rintro e w2 ⟨rfl, rfl⟩))
      go_ret
      exact ⟨⟨1, rfl, .inr ⟨rfl, HNV.out⟩⟩, (Below.refl _ _).alloc (Nat.le_refl _) _⟩
    · by_cases q2 : 31 < imm
      · clear himm htm
        go_enter Tryz.func27, Tryz.ntmps27
        go_wp2_with (first | (go_at_call 29; refine (HK.out _).mono ?_; rintro e w2 ⟨rfl, rfl⟩))
        go_ret
        exact ⟨⟨1, rfl, .inr ⟨rfl, HNV.out⟩⟩, (Below.refl _ _).alloc (Nat.le_refl _) _⟩
      · exact absurd (show _ ∧ _ ∧ _ from ⟨by omega, by omega, by omega⟩) himm

set_option maxHeartbeats 4000000 in
set_option maxRecDepth 100000 in
theorem rcheck_R (op : Nat) (hop : op < 57) (rd rs1 rs2 imm csr : Int) (hk : kindN op = 82) (w : World) :
    Calls Tryz.prog 27 #[.agg #[.int .i64 op, .int .i64 rd, .int .i64 rs1, .int .i64 rs2, .int .i64 imm, .int .i64 csr]] w fun e w' => (∃ r : Int, e = .returned (.int .i64 r) ∧ CheckAns 82 ⟨op, rd, rs1, rs2, imm, csr⟩ r) ∧ Below w.heap.size w w' := by
  have HK := hide (rkind_yes op hop)
  rw [hk] at HK
  clear hk
  have HV : Hid (ValidK 82 ⟨op, rd, rs1, rs2, imm, csr⟩ ↔ (0 ≤ rd ∧ rd ≤ 31) ∧ (0 ≤ rs1 ∧ rs1 ≤ 31) ∧ (0 ≤ rs2 ∧ rs2 ≤ 31) ∧ (csr = 0) ∧ (imm = 0)) := Iff.rfl
  have htm := tmod_test imm 1 (by decide)
  by_cases himm : 0 ≤ imm ∧ imm ≤ 0 ∧ imm % 1 = 0
  · obtain ⟨q1, q2, q3⟩ := himm
    rw [show decide (imm % 1 = 0) = true from decide_eq_true q3] at htm
    have HQ := hide (And.intro q1 (And.intro q2 q3))
    clear q3
    go_enter Tryz.func27, Tryz.ntmps27
    go_wp2_with (first | (go_at_call 29; refine (HK.out _).mono ?_; rintro e w2 ⟨rfl, rfl⟩))
    obtain ⟨w0, hw0⟩ : ∃ w0, ((w.alloc (.cells #[.int .i64 op, .int .i64 rd, .int .i64 rs1, .int .i64 rs2, .int .i64 imm, .int .i64 csr] 23)).alloc (.cells #[.bool true, .bool true, .bool true, .bool false] 4)).alloc (.cells #[.int .i64 rd, .int .i64 rs1, .int .i64 rs2, .int .i64 csr] 3) = w0 := ⟨_, rfl⟩
    obtain ⟨hr1, hr2, hb0⟩ := three_new _ _ _ _ _ _ _ _ hw0
    rw [hw0]
    clear hw0
    have HB0 := hide hb0
    clear hb0
    have HR1 := hide hr1
    have HR2 := hide hr2
    clear hr1 hr2
    have g0 : w0.cell? ⟨w.heap.size + 1, 0, none⟩ = some (.bool true) := (cell_of_row _ _ _ _ _ (0, 0) HR1.out).trans rfl
    have g1 : w0.cell? ⟨w.heap.size + 1, 1, none⟩ = some (.bool true) := (cell_of_row _ _ _ _ _ (0, 0) HR1.out).trans rfl
    have g2 : w0.cell? ⟨w.heap.size + 1, 2, none⟩ = some (.bool true) := (cell_of_row _ _ _ _ _ (0, 0) HR1.out).trans rfl
    have g3 : w0.cell? ⟨w.heap.size + 1, 3, none⟩ = some (.bool false) := (cell_of_row _ _ _ _ _ (0, 0) HR1.out).trans rfl
    have l0 : w0.cell? ⟨w.heap.size + 1 + 1, 0, none⟩ = some (.int .i64 rd) := (cell_of_row _ _ _ _ _ (0, 0) HR2.out).trans rfl
    have l1 : w0.cell? ⟨w.heap.size + 1 + 1, 1, none⟩ = some (.int .i64 rs1) := (cell_of_row _ _ _ _ _ (0, 0) HR2.out).trans rfl
    have l2 : w0.cell? ⟨w.heap.size + 1 + 1, 2, none⟩ = some (.int .i64 rs2) := (cell_of_row _ _ _ _ _ (0, 0) HR2.out).trans rfl
    have l3 : w0.cell? ⟨w.heap.size + 1 + 1, 3, none⟩ = some (.int .i64 csr) := (cell_of_row _ _ _ _ _ (0, 0) HR2.out).trans rfl
    go_loop [9] (fun iv => ∃ n : Nat, n ≤ 4 ∧ iv = .int .i64 n ∧ Hid ((1 ≤ n → (0 ≤ rd ∧ rd ≤ 31)) ∧ (2 ≤ n → (0 ≤ rs1 ∧ rs1 ≤ 31)) ∧ (3 ≤ n → (0 ≤ rs2 ∧ rs2 ≤ 31)) ∧ (4 ≤ n → (0 ≤ csr ∧ csr ≤ 0)))) (fun iv => 4 - (intOf iv).toNat)
    case atStart => exact ⟨0, by omega, rfl, by refine ⟨?_, ?_, ?_, ?_⟩ <;> (intro h; omega)⟩
    case round =>
      obtain ⟨n, hn, rfl, HF⟩ := hrel
      obtain rfl | rfl | rfl | rfl | rfl : n = 0 ∨ n = 1 ∨ n = 2 ∨ n = 3 ∨ n = 4 := by omega
      · by_cases u1 : rd < 0
        · have HNV : Hid (¬ ValidK 82 ⟨op, rd, rs1, rs2, imm, csr⟩) := fun hv => by
            have h5 := HV.out.1 hv
            omega
          go_wp2
          go_ret
          exact ⟨⟨1, rfl, .inr ⟨rfl, HNV.out⟩⟩, HB0.out⟩
        · by_cases u2 : 31 < rd
          · have HNV : Hid (¬ ValidK 82 ⟨op, rd, rs1, rs2, imm, csr⟩) := fun hv => by
              have h5 := HV.out.1 hv
              omega
            go_wp2
            go_ret
            exact ⟨⟨1, rfl, .inr ⟨rfl, HNV.out⟩⟩, HB0.out⟩
          · go_wp2
            go_round
            case rel => exact ⟨1, by omega, by go_num, fun _ => ⟨by omega, by omega⟩, fun h => by omega, fun h => by omega, fun h => by omega⟩
            case measure => simp [intOf]
      · by_cases u1 : rs1 < 0
        · have HNV : Hid (¬ ValidK 82 ⟨op, rd, rs1, rs2, imm, csr⟩) := fun hv => by
            have h5 := HV.out.1 hv
            omega
          go_wp2
          go_ret
          exact ⟨⟨1, rfl, .inr ⟨rfl, HNV.out⟩⟩, HB0.out⟩
        · by_cases u2 : 31 < rs1
          · have HNV : Hid (¬ ValidK 82 ⟨op, rd, rs1, rs2, imm, csr⟩) := fun hv => by
              have h5 := HV.out.1 hv
              omega
            go_wp2
            go_ret
            exact ⟨⟨1, rfl, .inr ⟨rfl, HNV.out⟩⟩, HB0.out⟩
          · go_wp2
            go_round
            case rel => exact ⟨2, by omega, by go_num, fun _ => HF.out.1 (by omega), fun _ => ⟨by omega, by omega⟩, fun h => by omega, fun h => by omega⟩
            case measure => simp [intOf]
      · by_cases u1 : rs2 < 0
        · have HNV : Hid (¬ ValidK 82 ⟨op, rd, rs1, rs2, imm, csr⟩) := fun hv => by
            have h5 := HV.out.1 hv
            omega
          go_wp2
          go_ret
          exact ⟨⟨1, rfl, .inr ⟨rfl, HNV.out⟩⟩, HB0.out⟩
        · by_cases u2 : 31 < rs2
          · have HNV : Hid (¬ ValidK 82 ⟨op, rd, rs1, rs2, imm, csr⟩) := fun hv => by
              have h5 := HV.out.1 hv
              omega
            go_wp2
            go_ret
            exact ⟨⟨1, rfl, .inr ⟨rfl, HNV.out⟩⟩, HB0.out⟩
          · go_wp2
            go_round
            case rel => exact ⟨3, by omega, by go_num, fun _ => HF.out.1 (by omega), fun _ => HF.out.2.1 (by omega), fun _ => ⟨by omega, by omega⟩, fun h => by omega⟩
            case measure => simp [intOf]
      · by_cases u1 : csr < 0
        · have HNV : Hid (¬ ValidK 82 ⟨op, rd, rs1, rs2, imm, csr⟩) := fun hv => by
            have h5 := HV.out.1 hv
            omega
          go_wp2
          go_ret
          exact ⟨⟨1, rfl, .inr ⟨rfl, HNV.out⟩⟩, HB0.out⟩
        · by_cases u2 : 0 < csr
          · have HNV : Hid (¬ ValidK 82 ⟨op, rd, rs1, rs2, imm, csr⟩) := fun hv => by
              have h5 := HV.out.1 hv
              omega
            go_wp2
            go_ret
            exact ⟨⟨1, rfl, .inr ⟨rfl, HNV.out⟩⟩, HB0.out⟩
          · go_wp2
            go_round
            case rel => exact ⟨4, by omega, by go_num, fun _ => HF.out.1 (by omega), fun _ => HF.out.2.1 (by omega), fun _ => HF.out.2.2.1 (by omega), fun _ => ⟨by omega, by omega⟩⟩
            case measure => simp [intOf]
      · go_wp2
        go_ret
        refine ⟨⟨0, rfl, .inl ⟨rfl, HV.out.2 ?_⟩⟩, HB0.out⟩
        obtain ⟨x0, x1, x2, x3⟩ := HF.out
        have y0 := x0 (by omega)
        have y1 := x1 (by omega)
        have y2 := x2 (by omega)
        have y3 := x3 (by omega)
        have y4 := HQ.out
        omega
  · have HNV : Hid (¬ ValidK 82 ⟨op, rd, rs1, rs2, imm, csr⟩) := fun hv => by
      have h5 := (HV.out.1 hv).2.2.2.2
      omega
    by_cases q1 : imm < 0
    · clear himm htm
      go_enter Tryz.func27, Tryz.ntmps27
      go_wp2_with (first | (go_at_call 29; refine (HK.out _).mono ?_; rintro e w2 ⟨rfl, rfl⟩))
      go_ret
      exact ⟨⟨1, rfl, .inr ⟨rfl, HNV.out⟩⟩, (Below.refl _ _).alloc (Nat.le_refl _) _⟩
    · by_cases q2 : 0 < imm
      · clear himm htm
        go_enter Tryz.func27, Tryz.ntmps27
        go_wp2_with (first | (go_at_call 29; refine (HK.out _).mono ?_; rintro e w2 ⟨rfl, rfl⟩))
        go_ret
        exact ⟨⟨1, rfl, .inr ⟨rfl, HNV.out⟩⟩, (Below.refl _ _).alloc (Nat.le_refl _) _⟩
      · exact absurd (show _ ∧ _ ∧ _ from ⟨by omega, by omega, by omega⟩) himm

set_option maxHeartbeats 4000000 in
set_option maxRecDepth 100000 in
theorem rcheck_N (op : Nat) (hop : op < 57) (rd rs1 rs2 imm csr : Int) (hk : kindN op = 78) (w : World) :
    Calls Tryz.prog 27 #[.agg #[.int .i64 op, .int .i64 rd, .int .i64 rs1, .int .i64 rs2, .int .i64 imm, .int .i64 csr]] w fun e w' => (∃ r : Int, e = .returned (.int .i64 r) ∧ CheckAns 78 ⟨op, rd, rs1, rs2, imm, csr⟩ r) ∧ Below w.heap.size w w' := by
  have HK := hide (rkind_yes op hop)
  rw [hk] at HK
  clear hk
  have HV : Hid (ValidK 78 ⟨op, rd, rs1, rs2, imm, csr⟩ ↔ (rd = 0) ∧ (rs1 = 0) ∧ (rs2 = 0) ∧ (csr = 0) ∧ (imm = 0)) := Iff.rfl
  have htm := tmod_test imm 1 (by decide)
  by_cases himm : 0 ≤ imm ∧ imm ≤ 0 ∧ imm % 1 = 0
  · obtain ⟨q1, q2, q3⟩ := himm
    rw [show decide (imm % 1 = 0) = true from decide_eq_true q3] at htm
    have HQ := hide (And.intro q1 (And.intro q2 q3))
    clear q3
    go_enter Tryz.func27, Tryz.ntmps27
    go_wp2_with (first | (go_at_call 29; refine (HK.out _).mono ?_; rintro e w2 ⟨rfl, rfl⟩))
    obtain ⟨w0, hw0⟩ : ∃ w0, ((w.alloc (.cells #[.int .i64 op, .int .i64 rd, .int .i64 rs1, .int .i64 rs2, .int .i64 imm, .int .i64 csr] 23)).alloc (.cells #[.bool false, .bool false, .bool false, .bool false] 4)).alloc (.cells #[.int .i64 rd, .int .i64 rs1, .int .i64 rs2, .int .i64 csr] 3) = w0 := ⟨_, rfl⟩
    obtain ⟨hr1, hr2, hb0⟩ := three_new _ _ _ _ _ _ _ _ hw0
    rw [hw0]
    clear hw0
    have HB0 := hide hb0
    clear hb0
    have HR1 := hide hr1
    have HR2 := hide hr2
    clear hr1 hr2
    have g0 : w0.cell? ⟨w.heap.size + 1, 0, none⟩ = some (.bool false) := (cell_of_row _ _ _ _ _ (0, 0) HR1.out).trans rfl
    have g1 : w0.cell? ⟨w.heap.size + 1, 1, none⟩ = some (.bool false) := (cell_of_row _ _ _ _ _ (0, 0) HR1.out).trans rfl
    have g2 : w0.cell? ⟨w.heap.size + 1, 2, none⟩ = some (.bool false) := (cell_of_row _ _ _ _ _ (0, 0) HR1.out).trans rfl
    have g3 : w0.cell? ⟨w.heap.size + 1, 3, none⟩ = some (.bool false) := (cell_of_row _ _ _ _ _ (0, 0) HR1.out).trans rfl
    have l0 : w0.cell? ⟨w.heap.size + 1 + 1, 0, none⟩ = some (.int .i64 rd) := (cell_of_row _ _ _ _ _ (0, 0) HR2.out).trans rfl
    have l1 : w0.cell? ⟨w.heap.size + 1 + 1, 1, none⟩ = some (.int .i64 rs1) := (cell_of_row _ _ _ _ _ (0, 0) HR2.out).trans rfl
    have l2 : w0.cell? ⟨w.heap.size + 1 + 1, 2, none⟩ = some (.int .i64 rs2) := (cell_of_row _ _ _ _ _ (0, 0) HR2.out).trans rfl
    have l3 : w0.cell? ⟨w.heap.size + 1 + 1, 3, none⟩ = some (.int .i64 csr) := (cell_of_row _ _ _ _ _ (0, 0) HR2.out).trans rfl
    go_loop [9] (fun iv => ∃ n : Nat, n ≤ 4 ∧ iv = .int .i64 n ∧ Hid ((1 ≤ n → (0 ≤ rd ∧ rd ≤ 0)) ∧ (2 ≤ n → (0 ≤ rs1 ∧ rs1 ≤ 0)) ∧ (3 ≤ n → (0 ≤ rs2 ∧ rs2 ≤ 0)) ∧ (4 ≤ n → (0 ≤ csr ∧ csr ≤ 0)))) (fun iv => 4 - (intOf iv).toNat)
    case atStart => exact ⟨0, by omega, rfl, by refine ⟨?_, ?_, ?_, ?_⟩ <;> (intro h; omega)⟩
    case round =>
      obtain ⟨n, hn, rfl, HF⟩ := hrel
      obtain rfl | rfl | rfl | rfl | rfl : n = 0 ∨ n = 1 ∨ n = 2 ∨ n = 3 ∨ n = 4 := by omega
      · by_cases u1 : rd < 0
        · have HNV : Hid (¬ ValidK 78 ⟨op, rd, rs1, rs2, imm, csr⟩) := fun hv => by
            have h5 := HV.out.1 hv
            omega
          go_wp2
          go_ret
          exact ⟨⟨1, rfl, .inr ⟨rfl, HNV.out⟩⟩, HB0.out⟩
        · by_cases u2 : 0 < rd
          · have HNV : Hid (¬ ValidK 78 ⟨op, rd, rs1, rs2, imm, csr⟩) := fun hv => by
              have h5 := HV.out.1 hv
              omega
            go_wp2
            go_ret
            exact ⟨⟨1, rfl, .inr ⟨rfl, HNV.out⟩⟩, HB0.out⟩
          · go_wp2
            go_round
            case rel => exact ⟨1, by omega, by go_num, fun _ => ⟨by omega, by omega⟩, fun h => by omega, fun h => by omega, fun h => by omega⟩
            case measure => simp [intOf]
      · by_cases u1 : rs1 < 0
        · have HNV : Hid (¬ ValidK 78 ⟨op, rd, rs1, rs2, imm, csr⟩) := fun hv => by
            have h5 := HV.out.1 hv
            omega
          go_wp2
          go_ret
          exact ⟨⟨1, rfl, .inr ⟨rfl, HNV.out⟩⟩, HB0.out⟩
        · by_cases u2 : 0 < rs1
          · have HNV : Hid (¬ ValidK 78 ⟨op, rd, rs1, rs2, imm, csr⟩) := fun hv => by
              have h5 := HV.out.1 hv
              omega
            go_wp2
            go_ret
            exact ⟨⟨1, rfl, .inr ⟨rfl, HNV.out⟩⟩, HB0.out⟩
          · go_wp2
            go_round
            case rel => exact ⟨2, by omega, by go_num, fun _ => HF.out.1 (by omega), fun _ => ⟨by omega, by omega⟩, fun h => by omega, fun h => by omega⟩
            case measure => simp [intOf]
      · by_cases u1 : rs2 < 0
        · have HNV : Hid (¬ ValidK 78 ⟨op, rd, rs1, rs2, imm, csr⟩) := fun hv => by
            have h5 := HV.out.1 hv
            omega
          go_wp2
          go_ret
          exact ⟨⟨1, rfl, .inr ⟨rfl, HNV.out⟩⟩, HB0.out⟩
        · by_cases u2 : 0 < rs2
          · have HNV : Hid (¬ ValidK 78 ⟨op, rd, rs1, rs2, imm, csr⟩) := fun hv => by
              have h5 := HV.out.1 hv
              omega
            go_wp2
            go_ret
            exact ⟨⟨1, rfl, .inr ⟨rfl, HNV.out⟩⟩, HB0.out⟩
          · go_wp2
            go_round
            case rel => exact ⟨3, by omega, by go_num, fun _ => HF.out.1 (by omega), fun _ => HF.out.2.1 (by omega), fun _ => ⟨by omega, by omega⟩, fun h => by omega⟩
            case measure => simp [intOf]
      · by_cases u1 : csr < 0
        · have HNV : Hid (¬ ValidK 78 ⟨op, rd, rs1, rs2, imm, csr⟩) := fun hv => by
            have h5 := HV.out.1 hv
            omega
          go_wp2
          go_ret
          exact ⟨⟨1, rfl, .inr ⟨rfl, HNV.out⟩⟩, HB0.out⟩
        · by_cases u2 : 0 < csr
          · have HNV : Hid (¬ ValidK 78 ⟨op, rd, rs1, rs2, imm, csr⟩) := fun hv => by
              have h5 := HV.out.1 hv
              omega
            go_wp2
            go_ret
            exact ⟨⟨1, rfl, .inr ⟨rfl, HNV.out⟩⟩, HB0.out⟩
          · go_wp2
            go_round
            case rel => exact ⟨4, by omega, by go_num, fun _ => HF.out.1 (by omega), fun _ => HF.out.2.1 (by omega), fun _ => HF.out.2.2.1 (by omega), fun _ => ⟨by omega, by omega⟩⟩
            case measure => simp [intOf]
      · go_wp2
        go_ret
        refine ⟨⟨0, rfl, .inl ⟨rfl, HV.out.2 ?_⟩⟩, HB0.out⟩
        obtain ⟨x0, x1, x2, x3⟩ := HF.out
        have y0 := x0 (by omega)
        have y1 := x1 (by omega)
        have y2 := x2 (by omega)
        have y3 := x3 (by omega)
        have y4 := HQ.out
        omega
  · have HNV : Hid (¬ ValidK 78 ⟨op, rd, rs1, rs2, imm, csr⟩) := fun hv => by
      have h5 := (HV.out.1 hv).2.2.2.2
      omega
    by_cases q1 : imm < 0
    · clear himm htm
      go_enter Tryz.func27, Tryz.ntmps27
      go_wp2_with (first | (go_at_call 29; refine (HK.out _).mono ?_; rintro e w2 ⟨rfl, rfl⟩))
      go_ret
      exact ⟨⟨1, rfl, .inr ⟨rfl, HNV.out⟩⟩, (Below.refl _ _).alloc (Nat.le_refl _) _⟩
    · by_cases q2 : 0 < imm
      · clear himm htm
        go_enter Tryz.func27, Tryz.ntmps27
        go_wp2_with (first | (go_at_call 29; refine (HK.out _).mono ?_; rintro e w2 ⟨rfl, rfl⟩))
        go_ret
        exact ⟨⟨1, rfl, .inr ⟨rfl, HNV.out⟩⟩, (Below.refl _ _).alloc (Nat.le_refl _) _⟩
      · exact absurd (show _ ∧ _ ∧ _ from ⟨by omega, by omega, by omega⟩) himm
end Go.Proofs.YtbidhfhmfmhiiaaGreatDoor
