/-
  What the document's Check answers, whatever instruction is handed in.
-/
import Derived.Test.YtoekcfbjdcibpaaGreatDoorJD
import Derived.Test.YtoekcfbjdcibpaaGreatDoorInMath
import Derived.OwnWalk
import Derived.Test.YtoekcfbjdcibpaaGreatDoorInAns
namespace Go.Proofs.YtoekcfbjdcibpaaGreatDoor
open Go.RowKit
set_option linter.unusedVariables false

theorem three_new (w : World) (A B C : Array Value) (ta tb tc : TypeId) (w0 : World) (h : ((w.alloc (.cells A ta)).alloc (.cells B tb)).alloc (.cells C tc) = w0) :
    w0.heap[w.heap.size + 1]? = some (.cells B tb (0, 0)) ∧ w0.heap[w.heap.size + 1 + 1]? = some (.cells C tc (0, 0)) ∧ Below w.heap.size w w0 := by
  subst h
  refine ⟨?_, ?_, (((Below.refl _ w).alloc (Nat.le_refl _) _).alloc (by simp) _).alloc (by simp; omega) _⟩
  · rw [Below.heap_alloc _ _ _ (by simp)]
    have := heap_alloc_new (w.alloc (.cells A ta)) (.cells B tb)
    rwa [World.size_alloc] at this
  · have := heap_alloc_new ((w.alloc (.cells A ta)).alloc (.cells B tb)) (.cells C tc)
    rwa [World.size_alloc, World.size_alloc] at this

theorem tmod_test (z : Int) (s : Int) (h0 : s ≠ 0) : (z.tmod s != 0) = !decide (z % s = 0) := by
  have : z.tmod s = 0 ↔ z % s = 0 := by rw [← Int.dvd_iff_tmod_eq_zero, ← Int.dvd_iff_emod_eq_zero]
  rw [Bool.eq_iff_iff]
  simp [this]

/-- What Check answers of an instruction of a form. -/
def CheckAns (k : Nat) (i : I6) (r : Int) : Prop := (r = 0 ∧ ValidK k i) ∨ (r = 1 ∧ ¬ ValidK k i)
end Go.Proofs.YtoekcfbjdcibpaaGreatDoor
namespace Go.Proofs.YtoekcfbjdcibpaaGreatDoor
open Go.RowKit
set_option linter.unusedVariables false

set_option maxHeartbeats 4000000 in
set_option maxRecDepth 100000 in
theorem rcheck_U (op : Nat) (hop : op < 57) (rd rs1 rs2 imm csr : Int) (hk : kindN op = 85) (w : World) :
    Calls Tryz.prog 27 #[.agg #[.int .i64 op, .int .i64 rd, .int .i64 rs1, .int .i64 rs2, .int .i64 imm, .int .i64 csr]] w fun e w' => (∃ r : Int, e = .returned (.int .i64 r) ∧ CheckAns 85 ⟨op, rd, rs1, rs2, imm, csr⟩ r) ∧ Below w.heap.size w w' := by
  have HK := hide (rkind_yes op hop)
  rw [hk] at HK
  clear hk
  have HV : Hid (ValidK 85 ⟨op, rd, rs1, rs2, imm, csr⟩ ↔ (0 ≤ rd ∧ rd ≤ 31) ∧ (rs1 = 0) ∧ (rs2 = 0) ∧ (csr = 0) ∧ (-2147483648 ≤ imm ∧ imm ≤ 2147483647 ∧ imm % 4096 = 0)) := Iff.rfl
  have htm := tmod_test imm 4096 (by decide)
  by_cases himm : -2147483648 ≤ imm ∧ imm ≤ 2147483647 ∧ imm % 4096 = 0
  · obtain ⟨q1, q2, q3⟩ := himm
    rw [show decide (imm % 4096 = 0) = true from decide_eq_true q3] at htm
    have HQ := hide (And.intro q1 (And.intro q2 q3))
    clear q3
    go_enter Tryz.func27, Tryz.ntmps27
    go_wp2_with (first | (go_at_call 29; refine (HK.out _).mono ?_; rintro e w2 ⟨rfl, rfl⟩))
    obtain ⟨w0, hw0⟩ : ∃ w0, ((w.alloc (.cells #[.int .i64 op, .int .i64 rd, .int .i64 rs1, .int .i64 rs2, .int .i64 imm, .int .i64 csr] 23)).alloc (.cells #[.bool true, .bool false, .bool false, .bool false] 4)).alloc (.cells #[.int .i64 rd, .int .i64 rs1, .int .i64 rs2, .int .i64 csr] 3) = w0 := ⟨_, rfl⟩
    obtain ⟨hr1, hr2, hb0⟩ := three_new _ _ _ _ _ _ _ _ hw0
    rw [hw0]
    clear hw0
    have HB0 := hide hb0
    clear hb0
    have HR1 := hide hr1
    have HR2 := hide hr2
    clear hr1 hr2
    have g0 : w0.cell? ⟨w.heap.size + 1, 0, none⟩ = some (.bool true) := (cell_of_row _ _ _ _ _ (0, 0) HR1.out).trans rfl
    have g1 : w0.cell? ⟨w.heap.size + 1, 1, none⟩ = some (.bool false) := (cell_of_row _ _ _ _ _ (0, 0) HR1.out).trans rfl
    have g2 : w0.cell? ⟨w.heap.size + 1, 2, none⟩ = some (.bool false) := (cell_of_row _ _ _ _ _ (0, 0) HR1.out).trans rfl
    have g3 : w0.cell? ⟨w.heap.size + 1, 3, none⟩ = some (.bool false) := (cell_of_row _ _ _ _ _ (0, 0) HR1.out).trans rfl
    have l0 : w0.cell? ⟨w.heap.size + 1 + 1, 0, none⟩ = some (.int .i64 rd) := (cell_of_row _ _ _ _ _ (0, 0) HR2.out).trans rfl
    have l1 : w0.cell? ⟨w.heap.size + 1 + 1, 1, none⟩ = some (.int .i64 rs1) := (cell_of_row _ _ _ _ _ (0, 0) HR2.out).trans rfl
    have l2 : w0.cell? ⟨w.heap.size + 1 + 1, 2, none⟩ = some (.int .i64 rs2) := (cell_of_row _ _ _ _ _ (0, 0) HR2.out).trans rfl
    have l3 : w0.cell? ⟨w.heap.size + 1 + 1, 3, none⟩ = some (.int .i64 csr) := (cell_of_row _ _ _ _ _ (0, 0) HR2.out).trans rfl
    go_loop [9] (fun iv => ∃ n : Nat, n ≤ 4 ∧ iv = .int .i64 n ∧ Hid ((1 ≤ n → (0 ≤ rd ∧ rd ≤ 31)) ∧ (2 ≤ n → (0 ≤ rs1 ∧ rs1 ≤ 0)) ∧ (3 ≤ n → (0 ≤ rs2 ∧ rs2 ≤ 0)) ∧ (4 ≤ n → (0 ≤ csr ∧ csr ≤ 0)))) (fun iv => 4 - (intOf iv).toNat)
    case atStart => exact ⟨0, by omega, rfl, by refine ⟨?_, ?_, ?_, ?_⟩ <;> (intro h; omega)⟩
    case round =>
      obtain ⟨n, hn, rfl, HF⟩ := hrel
      obtain rfl | rfl | rfl | rfl | rfl : n = 0 ∨ n = 1 ∨ n = 2 ∨ n = 3 ∨ n = 4 := by omega
      · by_cases u1 : rd < 0
        · have HNV : Hid (¬ ValidK 85 ⟨op, rd, rs1, rs2, imm, csr⟩) := fun hv => by
            have h5 := HV.out.1 hv
            omega
          go_wp2
          go_ret
          exact ⟨⟨1, rfl, .inr ⟨rfl, HNV.out⟩⟩, HB0.out⟩
        · by_cases u2 : 31 < rd
          · have HNV : Hid (¬ ValidK 85 ⟨op, rd, rs1, rs2, imm, csr⟩) := fun hv => by
              have h5 := HV.out.1 hv
              omega
            go_wp2
            go_ret
            exact ⟨⟨1, rfl, .inr ⟨rfl, HNV.out⟩⟩, HB0.out⟩
          · go_wp2
            go_round
            case rel => exact ⟨1, by omega, by go_num, fun _ => ⟨by omega, by omega⟩, fun h => by omega, fun h => by omega, fun h => by omega⟩
            case measure => simp [intOf]
      · by_cases u1 : rs1 < 0
        · have HNV : Hid (¬ ValidK 85 ⟨op, rd, rs1, rs2, imm, csr⟩) := fun hv => by
            have h5 := HV.out.1 hv
            omega
          go_wp2
          go_ret
          exact ⟨⟨1, rfl, .inr ⟨rfl, HNV.out⟩⟩, HB0.out⟩
        · by_cases u2 : 0 < rs1
          · have HNV : Hid (¬ ValidK 85 ⟨op, rd, rs1, rs2, imm, csr⟩) := fun hv => by
              have h5 := HV.out.1 hv
              omega
            go_wp2
            go_ret
            exact ⟨⟨1, rfl, .inr ⟨rfl, HNV.out⟩⟩, HB0.out⟩
          · go_wp2
            go_round
            case rel => exact ⟨2, by omega, by go_num, fun _ => HF.out.1 (by omega), fun _ => ⟨by omega, by omega⟩, fun h => by omega, fun h => by omega⟩
            case measure => simp [intOf]
      · by_cases u1 : rs2 < 0
        · have HNV : Hid (¬ ValidK 85 ⟨op, rd, rs1, rs2, imm, csr⟩) := fun hv => by
            have h5 := HV.out.1 hv
            omega
          go_wp2
          go_ret
          exact ⟨⟨1, rfl, .inr ⟨rfl, HNV.out⟩⟩, HB0.out⟩
        · by_cases u2 : 0 < rs2
          · have HNV : Hid (¬ ValidK 85 ⟨op, rd, rs1, rs2, imm, csr⟩) := fun hv => by
              have h5 := HV.out.1 hv
              omega
            go_wp2
            go_ret
            exact ⟨⟨1, rfl, .inr ⟨rfl, HNV.out⟩⟩, HB0.out⟩
          · go_wp2
            go_round
            case rel => exact ⟨3, by omega, by go_num, fun _ => HF.out.1 (by omega), fun _ => HF.out.2.1 (by omega), fun _ => ⟨by omega, by omega⟩, fun h => by omega⟩
            case measure => simp [intOf]
      · by_cases u1 : csr < 0
        · have HNV : Hid (¬ ValidK 85 ⟨op, rd, rs1, rs2, imm, csr⟩) := fun hv => by
            have h5 := HV.out.1 hv
            omega
          go_wp2
          go_ret
          exact ⟨⟨1, rfl, .inr ⟨rfl, HNV.out⟩⟩, HB0.out⟩
        · by_cases u2 : 0 < csr
          · have HNV : Hid (¬ ValidK 85 ⟨op, rd, rs1, rs2, imm, csr⟩) := fun hv => by
              have h5 := HV.out.1 hv
              omega
            go_wp2
            go_ret
            exact ⟨⟨1, rfl, .inr ⟨rfl, HNV.out⟩⟩, HB0.out⟩
          · go_wp2
            go_round
            case rel => exact ⟨4, by omega, by go_num, fun _ => HF.out.1 (by omega), fun _ => HF.out.2.1 (by omega), fun _ => HF.out.2.2.1 (by omega), fun _ => ⟨by omega, by omega⟩⟩
            case measure => simp [intOf]
      · go_wp2
        go_ret
        refine ⟨⟨0, rfl, .inl ⟨rfl, HV.out.2 ?_⟩⟩, HB0.out⟩
        obtain ⟨x0, x1, x2, x3⟩ := HF.out
        have y0 := x0 (by omega)
        have y1 := x1 (by omega)
        have y2 := x2 (by omega)
        have y3 := x3 (by omega)
        have y4 := HQ.out
        omega
  · have HNV : Hid (¬ ValidK 85 ⟨op, rd, rs1, rs2, imm, csr⟩) := fun hv => by
      have h5 := (HV.out.1 hv).2.2.2.2
      omega
    by_cases q1 : imm < -2147483648
    · clear himm htm
      go_enter Tryz.func27, Tryz.ntmps27
      go_wp2_with (first | (go_at_call 29; refine (HK.out _).mono ?_; rintro e w2 ⟨rfl, rfl⟩))
      go_ret
      exact ⟨⟨1, rfl, .inr ⟨rfl, HNV.out⟩⟩, (Below.refl _ _).alloc (Nat.le_refl _) _⟩
    · by_cases q2 : 2147483647 < imm
      · clear himm htm
        go_enter Tryz.func27, Tryz.ntmps27
        go_wp2_with (first | (go_at_call 29; refine (HK.out _).mono ?_; rintro e w2 ⟨rfl, rfl⟩))
        go_ret
        exact ⟨⟨1, rfl, .inr ⟨rfl, HNV.out⟩⟩, (Below.refl _ _).alloc (Nat.le_refl _) _⟩
      · have q3 : ¬ imm % 4096 = 0 := by omega
        rw [show decide (imm % 4096 = 0) = false from decide_eq_false q3] at htm
        clear himm q3
        go_enter Tryz.func27, Tryz.ntmps27
        go_wp2_with (first | (go_at_call 29; refine (HK.out _).mono ?_; rintro e w2 ⟨rfl, rfl⟩))
        go_ret
        exact ⟨⟨1, rfl, .inr ⟨rfl, HNV.out⟩⟩, (Below.refl _ _).alloc (Nat.le_refl _) _⟩

set_option maxHeartbeats 4000000 in
set_option maxRecDepth 100000 in
theorem rcheck_J (op : Nat) (hop : op < 57) (rd rs1 rs2 imm csr : Int) (hk : kindN op = 74) (w : World) :
    Calls Tryz.prog 27 #[.agg #[.int .i64 op, .int .i64 rd, .int .i64 rs1, .int .i64 rs2, .int .i64 imm, .int .i64 csr]] w fun e w' => (∃ r : Int, e = .returned (.int .i64 r) ∧ CheckAns 74 ⟨op, rd, rs1, rs2, imm, csr⟩ r) ∧ Below w.heap.size w w' := by
  have HK := hide (rkind_yes op hop)
  rw [hk] at HK
  clear hk
  have HV : Hid (ValidK 74 ⟨op, rd, rs1, rs2, imm, csr⟩ ↔ (0 ≤ rd ∧ rd ≤ 31) ∧ (rs1 = 0) ∧ (rs2 = 0) ∧ (csr = 0) ∧ (-1048576 ≤ imm ∧ imm ≤ 1048575 ∧ imm % 2 = 0)) := Iff.rfl
  have htm := tmod_test imm 2 (by decide)
  by_cases himm : -1048576 ≤ imm ∧ imm ≤ 1048575 ∧ imm % 2 = 0
  · obtain ⟨q1, q2, q3⟩ := himm
    rw [show decide (imm % 2 = 0) = true from decide_eq_true q3] at htm
    have HQ := hide (And.intro q1 (And.intro q2 q3))
    clear q3
    go_enter Tryz.func27, Tryz.ntmps27
    go_wp2_with (first | (go_at_call 29; refine (HK.out _).mono ?_; rintro e w2 ⟨rfl, rfl⟩))
    obtain ⟨w0, hw0⟩ : ∃ w0, ((w.alloc (.cells #[.int .i64 op, .int .i64 rd, .int .i64 rs1, .int .i64 rs2, .int .i64 imm, .int .i64 csr] 23)).alloc (.cells #[.bool true, .bool false, .bool false, .bool false] 4)).alloc (.cells #[.int .i64 rd, .int .i64 rs1, .int .i64 rs2, .int .i64 csr] 3) = w0 := ⟨_, rfl⟩
    obtain ⟨hr1, hr2, hb0⟩ := three_new _ _ _ _ _ _ _ _ hw0
    rw [hw0]
    clear hw0
    have HB0 := hide hb0
    clear hb0
    have HR1 := hide hr1
    have HR2 := hide hr2
    clear hr1 hr2
    have g0 : w0.cell? ⟨w.heap.size + 1, 0, none⟩ = some (.bool true) := (cell_of_row _ _ _ _ _ (0, 0) HR1.out).trans rfl
    have g1 : w0.cell? ⟨w.heap.size + 1, 1, none⟩ = some (.bool false) := (cell_of_row _ _ _ _ _ (0, 0) HR1.out).trans rfl
    have g2 : w0.cell? ⟨w.heap.size + 1, 2, none⟩ = some (.bool false) := (cell_of_row _ _ _ _ _ (0, 0) HR1.out).trans rfl
    have g3 : w0.cell? ⟨w.heap.size + 1, 3, none⟩ = some (.bool false) := (cell_of_row _ _ _ _ _ (0, 0) HR1.out).trans rfl
    have l0 : w0.cell? ⟨w.heap.size + 1 + 1, 0, none⟩ = some (.int .i64 rd) := (cell_of_row _ _ _ _ _ (0, 0) HR2.out).trans rfl
    have l1 : w0.cell? ⟨w.heap.size + 1 + 1, 1, none⟩ = some (.int .i64 rs1) := (cell_of_row _ _ _ _ _ (0, 0) HR2.out).trans rfl
    have l2 : w0.cell? ⟨w.heap.size + 1 + 1, 2, none⟩ = some (.int .i64 rs2) := (cell_of_row _ _ _ _ _ (0, 0) HR2.out).trans rfl
    have l3 : w0.cell? ⟨w.heap.size + 1 + 1, 3, none⟩ = some (.int .i64 csr) := (cell_of_row _ _ _ _ _ (0, 0) HR2.out).trans rfl
    go_loop [9] (fun iv => ∃ n : Nat, n ≤ 4 ∧ iv = .int .i64 n ∧ Hid ((1 ≤ n → (0 ≤ rd ∧ rd ≤ 31)) ∧ (2 ≤ n → (0 ≤ rs1 ∧ rs1 ≤ 0)) ∧ (3 ≤ n → (0 ≤ rs2 ∧ rs2 ≤ 0)) ∧ (4 ≤ n → (0 ≤ csr ∧ csr ≤ 0)))) (fun iv => 4 - (intOf iv).toNat)
    case atStart => exact ⟨0, by omega, rfl, by refine ⟨?_, ?_, ?_, ?_⟩ <;> (intro h; omega)⟩
    case round =>
      obtain ⟨n, hn, rfl, HF⟩ := hrel
      obtain rfl | rfl | rfl | rfl | rfl : n = 0 ∨ n = 1 ∨ n = 2 ∨ n = 3 ∨ n = 4 := by omega
      · by_cases u1 : rd < 0
        · have HNV : Hid (¬ ValidK 74 ⟨op, rd, rs1, rs2, imm, csr⟩) := fun hv => by
            have h5 := HV.out.1 hv
            omega
          go_wp2
          go_ret
          exact ⟨⟨1, rfl, .inr ⟨rfl, HNV.out⟩⟩, HB0.out⟩
        · by_cases u2 : 31 < rd
          · have HNV : Hid (¬ ValidK 74 ⟨op, rd, rs1, rs2, imm, csr⟩) := fun hv => by
              have h5 := HV.out.1 hv
              omega
            go_wp2
            go_ret
            exact ⟨⟨1, rfl, .inr ⟨rfl, HNV.out⟩⟩, HB0.out⟩
          · go_wp2
            go_round
            case rel => exact ⟨1, by omega, by go_num, fun _ => ⟨by omega, by omega⟩, fun h => by omega, fun h => by omega, fun h => by omega⟩
            case measure => simp [intOf]
      · by_cases u1 : rs1 < 0
        · have HNV : Hid (¬ ValidK 74 ⟨op, rd, rs1, rs2, imm, csr⟩) := fun hv => by
            have h5 := HV.out.1 hv
            omega
          go_wp2
          go_ret
          exact ⟨⟨1, rfl, .inr ⟨rfl, HNV.out⟩⟩, HB0.out⟩
        · by_cases u2 : 0 < rs1
          · have HNV : Hid (¬ ValidK 74 ⟨op, rd, rs1, rs2, imm, csr⟩) := fun hv => by
              have h5 := HV.out.1 hv
              omega
            go_wp2
            go_ret
            exact ⟨⟨1, rfl, .inr ⟨rfl, HNV.out⟩⟩, HB0.out⟩
          · go_wp2
            go_round
            case rel => exact ⟨2, by omega, by go_num, fun _ => HF.out.1 (by omega), fun _ => ⟨by omega, by omega⟩, fun h => by omega, fun h => by omega⟩
            case measure => simp [intOf]
      · by_cases u1 : rs2 < 0
        · have HNV : Hid (¬ ValidK 74 ⟨op, rd, rs1, rs2, imm, csr⟩) := fun hv => by
            have h5 := HV.out.1 hv
            omega
          go_wp2
          go_ret
          exact ⟨⟨1, rfl, .inr ⟨rfl, HNV.out⟩⟩, HB0.out⟩
        · by_cases u2 : 0 < rs2
          · have HNV : Hid (¬ ValidK 74 ⟨op, rd, rs1, rs2, imm, csr⟩) := fun hv => by
              have h5 := HV.out.1 hv
              omega
            go_wp2
            go_ret
            exact ⟨⟨1, rfl, .inr ⟨rfl, HNV.out⟩⟩, HB0.out⟩
          · go_wp2
            go_round
            case rel => exact ⟨3, by omega, by go_num, fun _ => HF.out.1 (by omega), fun _ => HF.out.2.1 (by omega), fun _ => ⟨by omega, by omega⟩, fun h => by omega⟩
            case measure => simp [intOf]
      · by_cases u1 : csr < 0
        · have HNV : Hid (¬ ValidK 74 ⟨op, rd, rs1, rs2, imm, csr⟩) := fun hv => by
            have h5 := HV.out.1 hv
            omega
          go_wp2
          go_ret
          exact ⟨⟨1, rfl, .inr ⟨rfl, HNV.out⟩⟩, HB0.out⟩
        · by_cases u2 : 0 < csr
          · have HNV : Hid (¬ ValidK 74 ⟨op, rd, rs1, rs2, imm, csr⟩) := fun hv => by
              have h5 := HV.out.1 hv
              omega
            go_wp2
            go_ret
            exact ⟨⟨1, rfl, .inr ⟨rfl, HNV.out⟩⟩, HB0.out⟩
          · go_wp2
            go_round
            case rel => exact ⟨4, by omega, by go_num, fun _ => HF.out.1 (by omega), fun _ => HF.out.2.1 (by omega), fun _ => HF.out.2.2.1 (by omega), fun _ => ⟨by omega, by omega⟩⟩
            case measure => simp [intOf]
      · go_wp2
        go_ret
        refine ⟨⟨0, rfl, .inl ⟨rfl, HV.out.2 ?_⟩⟩, HB0.out⟩
        obtain ⟨x0, x1, x2, x3⟩ := HF.out
        have y0 := x0 (by omega)
        have y1 := x1 (by omega)
        have y2 := x2 (by omega)
        have y3 := x3 (by omega)
        have y4 := HQ.out
        omega
  · have HNV : Hid (¬ ValidK 74 ⟨op, rd, rs1, rs2, imm, csr⟩) := fun hv => by
      have h5 := (HV.out.1 hv).2.2.2.2
      omega
    by_cases q1 : imm < -1048576
    · clear himm htm
      go_enter Tryz.func27, Tryz.ntmps27
      go_wp2_with (first | (go_at_call 29; refine (HK.out _).mono ?_; rintro e w2 ⟨rfl, rfl⟩))
      go_ret
      exact ⟨⟨1, rfl, .inr ⟨rfl, HNV.out⟩⟩, (Below.refl _ _).alloc (Nat.le_refl _) _⟩
    · by_cases q2 : 1048575 < imm
      · clear himm htm
        go_enter Tryz.func27, Tryz.ntmps27
        go_wp2_with (first | (go_at_call 29; refine (HK.out _).mono ?_; rintro e w2 ⟨rfl, rfl⟩))
        go_ret
        exact ⟨⟨1, rfl, .inr ⟨rfl, HNV.out⟩⟩, (Below.refl _ _).alloc (Nat.le_refl _) _⟩
      · have q3 : ¬ imm % 2 = 0 := by omega
        rw [show decide (imm % 2 = 0) = false from decide_eq_false q3] at htm
        clear himm q3
        go_enter Tryz.func27, Tryz.ntmps27
        go_wp2_with (first | (go_at_call 29; refine (HK.out _).mono ?_; rintro e w2 ⟨rfl, rfl⟩))
        go_ret
        exact ⟨⟨1, rfl, .inr ⟨rfl, HNV.out⟩⟩, (Below.refl _ _).alloc (Nat.le_refl _) _⟩

set_option maxHeartbeats 4000000 in
set_option maxRecDepth 100000 in
theorem rcheck_B (op : Nat) (hop : op < 57) (rd rs1 rs2 imm csr : Int) (hk : kindN op = 66) (w : World) :
    Calls Tryz.prog 27 #[.agg #[.int .i64 op, .int .i64 rd, .int .i64 rs1, .int .i64 rs2, .int .i64 imm, .int .i64 csr]] w fun e w' => (∃ r : Int, e = .returned (.int .i64 r) ∧ CheckAns 66 ⟨op, rd, rs1, rs2, imm, csr⟩ r) ∧ Below w.heap.size w w' := by
  have HK := hide (rkind_yes op hop)
  rw [hk] at HK
  clear hk
  have HV : Hid (ValidK 66 ⟨op, rd, rs1, rs2, imm, csr⟩ ↔ (rd = 0) ∧ (0 ≤ rs1 ∧ rs1 ≤ 31) ∧ (0 ≤ rs2 ∧ rs2 ≤ 31) ∧ (csr = 0) ∧ (-4096 ≤ imm ∧ imm ≤ 4095 ∧ imm % 2 = 0)) := Iff.rfl
  have htm := tmod_test imm 2 (by decide)
  by_cases himm : -4096 ≤ imm ∧ imm ≤ 4095 ∧ imm % 2 = 0
  · obtain ⟨q1, q2, q3⟩ := himm
    rw [show decide (imm % 2 = 0) = true from decide_eq_true q3] at htm
    have HQ := hide (And.intro q1 (And.intro q2 q3))
    clear q3
    go_enter Tryz.func27, Tryz.ntmps27
    go_wp2_with (first | (go_at_call 29; refine (HK.out _).mono ?_; rintro e w2 ⟨rfl, rfl⟩))
    obtain ⟨w0, hw0⟩ : ∃ w0, ((w.alloc (.cells #[.int .i64 op, .int .i64 rd, .int .i64 rs1, .int .i64 rs2, .int .i64 imm, .int .i64 csr] 23)).alloc (.cells #[.bool false, .bool true, .bool true, .bool false] 4)).alloc (.cells #[.int .i64 rd, .int .i64 rs1, .int .i64 rs2, .int .i64 csr] 3) = w0 := ⟨_, rfl⟩
    obtain ⟨hr1, hr2, hb0⟩ := three_new _ _ _ _ _ _ _ _ hw0
    rw [hw0]
    clear hw0
    have HB0 := hide hb0
    clear hb0
    have HR1 := hide hr1
    have HR2 := hide hr2
    clear hr1 hr2
    have g0 : w0.cell? ⟨w.heap.size + 1, 0, none⟩ = some (.bool false) := (cell_of_row _ _ _ _ _ (0, 0) HR1.out).trans rfl
    have g1 : w0.cell? ⟨w.heap.size + 1, 1, none⟩ = some (.bool true) := (cell_of_row _ _ _ _ _ (0, 0) HR1.out).trans rfl
    have g2 : w0.cell? ⟨w.heap.size + 1, 2, none⟩ = some (.bool true) := (cell_of_row _ _ _ _ _ (0, 0) HR1.out).trans rfl
    have g3 : w0.cell? ⟨w.heap.size + 1, 3, none⟩ = some (.bool false) := (cell_of_row _ _ _ _ _ (0, 0) HR1.out).trans rfl
    have l0 : w0.cell? ⟨w.heap.size + 1 + 1, 0, none⟩ = some (.int .i64 rd) := (cell_of_row _ _ _ _ _ (0, 0) HR2.out).trans rfl
    have l1 : w0.cell? ⟨w.heap.size + 1 + 1, 1, none⟩ = some (.int .i64 rs1) := (cell_of_row _ _ _ _ _ (0, 0) HR2.out).trans rfl
    have l2 : w0.cell? ⟨w.heap.size + 1 + 1, 2, none⟩ = some (.int .i64 rs2) := (cell_of_row _ _ _ _ _ (0, 0) HR2.out).trans rfl
    have l3 : w0.cell? ⟨w.heap.size + 1 + 1, 3, none⟩ = some (.int .i64 csr) := (cell_of_row _ _ _ _ _ (0, 0) HR2.out).trans rfl
    go_loop [9] (fun iv => ∃ n : Nat, n ≤ 4 ∧ iv = .int .i64 n ∧ Hid ((1 ≤ n → (0 ≤ rd ∧ rd ≤ 0)) ∧ (2 ≤ n → (0 ≤ rs1 ∧ rs1 ≤ 31)) ∧ (3 ≤ n → (0 ≤ rs2 ∧ rs2 ≤ 31)) ∧ (4 ≤ n → (0 ≤ csr ∧ csr ≤ 0)))) (fun iv => 4 - (intOf iv).toNat)
    case atStart => exact ⟨0, by omega, rfl, by refine ⟨?_, ?_, ?_, ?_⟩ <;> (intro h; omega)⟩
    case round =>
      obtain ⟨n, hn, rfl, HF⟩ := hrel
      obtain rfl | rfl | rfl | rfl | rfl : n = 0 ∨ n = 1 ∨ n = 2 ∨ n = 3 ∨ n = 4 := by omega
      · by_cases u1 : rd < 0
        · have HNV : Hid (¬ ValidK 66 ⟨op, rd, rs1, rs2, imm, csr⟩) := fun hv => by
            have h5 := HV.out.1 hv
            omega
          go_wp2
          go_ret
          exact ⟨⟨1, rfl, .inr ⟨rfl, HNV.out⟩⟩, HB0.out⟩
        · by_cases u2 : 0 < rd
          · have HNV : Hid (¬ ValidK 66 ⟨op, rd, rs1, rs2, imm, csr⟩) := fun hv => by
              have h5 := HV.out.1 hv
              omega
            go_wp2
            go_ret
            exact ⟨⟨1, rfl, .inr ⟨rfl, HNV.out⟩⟩, HB0.out⟩
          · go_wp2
            go_round
            case rel => exact ⟨1, by omega, by go_num, fun _ => ⟨by omega, by omega⟩, fun h => by omega, fun h => by omega, fun h => by omega⟩
            case measure => simp [intOf]
      · by_cases u1 : rs1 < 0
        · have HNV : Hid (¬ ValidK 66 ⟨op, rd, rs1, rs2, imm, csr⟩) := fun hv => by
            have h5 := HV.out.1 hv
            omega
          go_wp2
          go_ret
          exact ⟨⟨1, rfl, .inr ⟨rfl, HNV.out⟩⟩, HB0.out⟩
        · by_cases u2 : 31 < rs1
          · have HNV : Hid (¬ ValidK 66 ⟨op, rd, rs1, rs2, imm, csr⟩) := fun hv => by
              have h5 := HV.out.1 hv
              omega
            go_wp2
            go_ret
            exact ⟨⟨1, rfl, .inr ⟨rfl, HNV.out⟩⟩, HB0.out⟩
          · go_wp2
            go_round
            case rel => exact ⟨2, by omega, by go_num, fun _ => HF.out.1 (by omega), fun _ => ⟨by omega, by omega⟩, fun h => by omega, fun h => by omega⟩
            case measure => simp [intOf]
      · by_cases u1 : rs2 < 0
        · have HNV : Hid (¬ ValidK 66 ⟨op, rd, rs1, rs2, imm, csr⟩) := fun hv => by
            have h5 := HV.out.1 hv
            omega
          go_wp2
          go_ret
          exact ⟨⟨1, rfl, .inr ⟨rfl, HNV.out⟩⟩, HB0.out⟩
        · by_cases u2 : 31 < rs2
          · have HNV : Hid (¬ ValidK 66 ⟨op, rd, rs1, rs2, imm, csr⟩) := fun hv => by
              have h5 := HV.out.1 hv
              omega
            go_wp2
            go_ret
            exact ⟨⟨1, rfl, .inr ⟨rfl, HNV.out⟩⟩, HB0.out⟩
          · go_wp2
            go_round
            case rel => exact ⟨3, by omega, by go_num, fun _ => HF.out.1 (by omega), fun _ => HF.out.2.1 (by omega), fun _ => ⟨by omega, by omega⟩, fun h => by omega⟩
            case measure => simp [intOf]
      · by_cases u1 : csr < 0
        · have HNV : Hid (¬ ValidK 66 ⟨op, rd, rs1, rs2, imm, csr⟩) := fun hv => by
            have h5 := HV.out.1 hv
            omega
          go_wp2
          go_ret
          exact ⟨⟨1, rfl, .inr ⟨rfl, HNV.out⟩⟩, HB0.out⟩
        · by_cases u2 : 0 < csr
          · have HNV : Hid (¬ ValidK 66 ⟨op, rd, rs1, rs2, imm, csr⟩) := fun hv => by
              have h5 := HV.out.1 hv
              omega
            go_wp2
            go_ret
            exact ⟨⟨1, rfl, .inr ⟨rfl, HNV.out⟩⟩, HB0.out⟩
          · go_wp2
            go_round
            case rel => exact ⟨4, by omega, by go_num, fun _ => HF.out.1 (by omega), fun _ => HF.out.2.1 (by omega), fun _ => HF.out.2.2.1 (by omega), fun _ => ⟨by omega, by omega⟩⟩
            case measure => simp [intOf]
      · go_wp2
        go_ret
        refine ⟨⟨0, rfl, .inl ⟨rfl, HV.out.2 ?_⟩⟩, HB0.out⟩
        obtain ⟨x0, x1, x2, x3⟩ := HF.out
        have y0 := x0 (by omega)
        have y1 := x1 (by omega)
        have y2 := x2 (by omega)
        have y3 := x3 (by omega)
        have y4 := HQ.out
        omega
  · have HNV : Hid (¬ ValidK 66 ⟨op, rd, rs1, rs2, imm, csr⟩) := fun hv => by
      have h5 := (HV.out.1 hv).2.2.2.2
      omega
    by_cases q1 : imm < -4096
    · clear himm htm
      go_enter Tryz.func27, Tryz.ntmps27
      go_wp2_with (first | (go_at_call 29; refine (HK.out _).mono ?_; rintro e w2 ⟨rfl, rfl⟩))
      go_ret
      exact ⟨⟨1, rfl, .inr ⟨rfl, HNV.out⟩⟩, (Below.refl _ _).alloc (Nat.le_refl _) _⟩
    · by_cases q2 : 4095 < imm
      · clear himm htm
        go_enter Tryz.func27, Tryz.ntmps27
        go_wp2_with (first | (go_at_call 29; refine (HK.out _).mono ?_; rintro e w2 ⟨rfl, rfl⟩))
        go_ret
        exact ⟨⟨1, rfl, .inr ⟨rfl, HNV.out⟩⟩, (Below.refl _ _).alloc (Nat.le_refl _) _⟩
      · have q3 : ¬ imm % 2 = 0 := by omega
        rw [show decide (imm % 2 = 0) = false from decide_eq_false q3] at htm
        clear himm q3
        go_enter Tryz.func27, Tryz.ntmps27
        go_wp2_with (first | (go_at_call 29; refine (HK.out _).mono ?_; rintro e w2 ⟨rfl, rfl⟩))
        go_ret
        exact ⟨⟨1, rfl, .inr ⟨rfl, HNV.out⟩⟩, (Below.refl _ _).alloc (Nat.le_refl _) _⟩
end Go.Proofs.YtoekcfbjdcibpaaGreatDoor
namespace Go.Proofs.YtoekcfbjdcibpaaGreatDoor
open Go.RowKit
set_option linter.unusedVariables false

set_option maxHeartbeats 4000000 in
set_option maxRecDepth 100000 in
theorem rcheck_I (op : Nat) (hop : op < 57) (rd rs1 rs2 imm csr : Int) (hk : kindN op = 73) (w : World) :
    Calls Tryz.prog 27 #[.agg #[.int .i64 op, .int .i64 rd, .int .i64 rs1, .int .i64 rs2, .int .i64 imm, .int .i64 csr]] w fun e w' => (∃ r : Int, e = .returned (.int .i64 r) ∧ CheckAns 73 ⟨op, rd, rs1, rs2, imm, csr⟩ r) ∧ Below w.heap.size w w' := by
  have HK := hide (rkind_yes op hop)
  rw [hk] at HK
  clear hk
  have HV : Hid (ValidK 73 ⟨op, rd, rs1, rs2, imm, csr⟩ ↔ (0 ≤ rd ∧ rd ≤ 31) ∧ (0 ≤ rs1 ∧ rs1 ≤ 31) ∧ (rs2 = 0) ∧ (csr = 0) ∧ (-2048 ≤ imm ∧ imm ≤ 2047)) := Iff.rfl
  have htm := tmod_test imm 1 (by decide)
  by_cases himm : -2048 ≤ imm ∧ imm ≤ 2047 ∧ imm % 1 = 0
  · obtain ⟨q1, q2, q3⟩ := himm
    rw [show decide (imm % 1 = 0) = true from decide_eq_true q3] at htm
    have HQ := hide (And.intro q1 (And.intro q2 q3))
    clear q3
    go_enter Tryz.func27, Tryz.ntmps27
    go_wp2_with (first | (go_at_call 29; refine (HK.out _).mono ?_; rintro e w2 ⟨rfl, rfl⟩))
    obtain ⟨w0, hw0⟩ : ∃ w0, ((w.alloc (.cells #[.int .i64 op, .int .i64 rd, .int .i64 rs1, .int .i64 rs2, .int .i64 imm, .int .i64 csr] 23)).alloc (.cells #[.bool true, .bool true, .bool false, .bool false] 4)).alloc (.cells #[.int .i64 rd, .int .i64 rs1, .int .i64 rs2, .int .i64 csr] 3) = w0 := ⟨_, rfl⟩
    obtain ⟨hr1, hr2, hb0⟩ := three_new _ _ _ _ _ _ _ _ hw0
    rw [hw0]
    clear hw0
    have HB0 := hide hb0
    clear hb0
    have HR1 := hide hr1
    have HR2 := hide hr2
    clear hr1 hr2
    have g0 : w0.cell? ⟨w.heap.size + 1, 0, none⟩ = some (.bool true) := (cell_of_row _ _ _ _ _ (0, 0) HR1.out).trans rfl
    have g1 : w0.cell? ⟨w.heap.size + 1, 1, none⟩ = some (.bool true) := (cell_of_row _ _ _ _ _ (0, 0) HR1.out).trans rfl
    have g2 : w0.cell? ⟨w.heap.size + 1, 2, none⟩ = some (.bool false) := (cell_of_row _ _ _ _ _ (0, 0) HR1.out).trans rfl
    have g3 : w0.cell? ⟨w.heap.size + 1, 3, none⟩ = some (.bool false) := (cell_of_row _ _ _ _ _ (0, 0) HR1.out).trans rfl
    have l0 : w0.cell? ⟨w.heap.size + 1 + 1, 0, none⟩ = some (.int .i64 rd) := (cell_of_row _ _ _ _ _ (0, 0) HR2.out).trans rfl
    have l1 : w0.cell? ⟨w.heap.size + 1 + 1, 1, none⟩ = some (.int .i64 rs1) := (cell_of_row _ _ _ _ _ (0, 0) HR2.out).trans rfl
    have l2 : w0.cell? ⟨w.heap.size + 1 + 1, 2, none⟩ = some (.int .i64 rs2) := (cell_of_row _ _ _ _ _ (0, 0) HR2.out).trans rfl
    have l3 : w0.cell? ⟨w.heap.size + 1 + 1, 3, none⟩ = some (.int .i64 csr) := (cell_of_row _ _ _ _ _ (0, 0) HR2.out).trans rfl
    go_loop [9] (fun iv => ∃ n : Nat, n ≤ 4 ∧ iv = .int .i64 n ∧ Hid ((1 ≤ n → (0 ≤ rd ∧ rd ≤ 31)) ∧ (2 ≤ n → (0 ≤ rs1 ∧ rs1 ≤ 31)) ∧ (3 ≤ n → (0 ≤ rs2 ∧ rs2 ≤ 0)) ∧ (4 ≤ n → (0 ≤ csr ∧ csr ≤ 0)))) (fun iv => 4 - (intOf iv).toNat)
    case atStart => exact ⟨0, by omega, rfl, by refine ⟨?_, ?_, ?_, ?_⟩ <;> (intro h; omega)⟩
    case round =>
      obtain ⟨n, hn, rfl, HF⟩ := hrel
      obtain rfl | rfl | rfl | rfl | rfl : n = 0 ∨ n = 1 ∨ n = 2 ∨ n = 3 ∨ n = 4 := by omega
      · by_cases u1 : rd < 0
        · have HNV : Hid (¬ ValidK 73 ⟨op, rd, rs1, rs2, imm, csr⟩) := fun hv => by
            have h5 := HV.out.1 hv
            omega
          go_wp2
          go_ret
          exact ⟨⟨1, rfl, .inr ⟨rfl, HNV.out⟩⟩, HB0.out⟩
        · by_cases u2 : 31 < rd
          · have HNV : Hid (¬ ValidK 73 ⟨op, rd, rs1, rs2, imm, csr⟩) := fun hv => by
              have h5 := HV.out.1 hv
              omega
            go_wp2
            go_ret
            exact ⟨⟨1, rfl, .inr ⟨rfl, HNV.out⟩⟩, HB0.out⟩
          · go_wp2
            go_round
            case rel => exact ⟨1, by omega, by go_num, fun _ => ⟨by omega, by omega⟩, fun h => by omega, fun h => by omega, fun h => by omega⟩
            case measure => simp [intOf]
      · by_cases u1 : rs1 < 0
        · have HNV : Hid (¬ ValidK 73 ⟨op, rd, rs1, rs2, imm, csr⟩) := fun hv => by
            have h5 := HV.out.1 hv
            omega
          go_wp2
          go_ret
          exact ⟨⟨1, rfl, .inr ⟨rfl, HNV.out⟩⟩, HB0.out⟩
        · by_cases u2 : 31 < rs1
          · have HNV : Hid (¬ ValidK 73 ⟨op, rd, rs1, rs2, imm, csr⟩) := fun hv => by
              have h5 := HV.out.1 hv
              omega
            go_wp2
            go_ret
            exact ⟨⟨1, rfl, .inr ⟨rfl, HNV.out⟩⟩, HB0.out⟩
          · go_wp2
            go_round
            case rel => exact ⟨2, by omega, by go_num, fun _ => HF.out.1 (by omega), fun _ => ⟨by omega, by omega⟩, fun h => by omega, fun h => by omega⟩
            case measure => simp [intOf]
      · by_cases u1 : rs2 < 0
        · have HNV : Hid (¬ ValidK 73 ⟨op, rd, rs1, rs2, imm, csr⟩) := fun hv => by
            have h5 := HV.out.1 hv
            omega
          go_wp2
          go_ret
          exact ⟨⟨1, rfl, .inr ⟨rfl, HNV.out⟩⟩, HB0.out⟩
        · by_cases u2 : 0 < rs2
          · have HNV : Hid (¬ ValidK 73 ⟨op, rd, rs1, rs2, imm, csr⟩) := fun hv => by
              have h5 := HV.out.1 hv
              omega
            go_wp2
            go_ret
            exact ⟨⟨1, rfl, .inr ⟨rfl, HNV.out⟩⟩, HB0.out⟩
          · go_wp2
            go_round
            case rel => exact ⟨3, by omega, by go_num, fun _ => HF.out.1 (by omega), fun _ => HF.out.2.1 (by omega), fun _ => ⟨by omega, by omega⟩, fun h => by omega⟩
            case measure => simp [intOf]
      · by_cases u1 : csr < 0
        · have HNV : Hid (¬ ValidK 73 ⟨op, rd, rs1, rs2, imm, csr⟩) := fun hv => by
            have h5 := HV.out.1 hv
            omega
          go_wp2
          go_ret
          exact ⟨⟨1, rfl, .inr ⟨rfl, HNV.out⟩⟩, HB0.out⟩
        · by_cases u2 : 0 < csr
          · have HNV : Hid (¬ ValidK 73 ⟨op, rd, rs1, rs2, imm, csr⟩) := fun hv => by
              have h5 := HV.out.1 hv
              omega
            go_wp2
            go_ret
            exact ⟨⟨1, rfl, .inr ⟨rfl, HNV.out⟩⟩, HB0.out⟩
          · go_wp2
            go_round
            case rel => exact ⟨4, by omega, by go_num, fun _ => HF.out.1 (by omega), fun _ => HF.out.2.1 (by omega), fun _ => HF.out.2.2.1 (by omega), fun _ => ⟨by omega, by omega⟩⟩
            case measure => simp [intOf]
      · go_wp2
        go_ret
        refine ⟨⟨0, rfl, .inl ⟨rfl, HV.out.2 ?_⟩⟩, HB0.out⟩
        obtain ⟨x0, x1, x2, x3⟩ := HF.out
        have y0 := x0 (by omega)
        have y1 := x1 (by omega)
        have y2 := x2 (by omega)
        have y3 := x3 (by omega)
        have y4 := HQ.out
        omega
  · have HNV : Hid (¬ ValidK 73 ⟨op, rd, rs1, rs2, imm, csr⟩) := fun hv => by
      have h5 := (HV.out.1 hv).2.2.2.2
      omega
    by_cases q1 : imm < -2048
    · clear himm htm
      go_enter Tryz.func27, Tryz.ntmps27
      go_wp2_with (first | (go_at_call 29; refine (HK.out _).mono ?_; rintro e w2 ⟨rfl, rfl⟩))
      go_ret
      exact ⟨⟨1, rfl, .inr ⟨rfl, HNV.out⟩⟩, (Below.refl _ _).alloc (Nat.le_refl _) _⟩
    · by_cases q2 : 2047 < imm
      · clear himm htm
        go_enter Tryz.func27, Tryz.ntmps27
        go_wp2_with (first | (go_at_call 29; refine (HK.out _).mono ?_; rintro e w2 ⟨rfl, rfl⟩))
        go_ret
        exact ⟨⟨1, rfl, .inr ⟨rfl, HNV.out⟩⟩, (Below.refl _ _).alloc (Nat.le_refl _) _⟩
      · exact absurd (show _ ∧ _ ∧ _ from ⟨by omega, by omega, by omega⟩) himm

set_option maxHeartbeats 4000000 in
set_option maxRecDepth 100000 in
theorem rcheck_L (op : Nat) (hop : op < 57) (rd rs1 rs2 imm csr : Int) (hk : kindN op = 76) (w : World) :
    Calls Tryz.prog 27 #[.agg #[.int .i64 op, .int .i64 rd, .int .i64 rs1, .int .i64 rs2, .int .i64 imm, .int .i64 csr]] w fun e w' => (∃ r : Int, e = .returned (.int .i64 r) ∧ CheckAns 76 ⟨op, rd, rs1, rs2, imm, csr⟩ r) ∧ Below w.heap.size w w' := by
  have HK := hide (rkind_yes op hop)
  rw [hk] at HK
  clear hk
  have HV : Hid (ValidK 76 ⟨op, rd, rs1, rs2, imm, csr⟩ ↔ (0 ≤ rd ∧ rd ≤ 31) ∧ (0 ≤ rs1 ∧ rs1 ≤ 31) ∧ (rs2 = 0) ∧ (csr = 0) ∧ (-2048 ≤ imm ∧ imm ≤ 2047)) := Iff.rfl
  have htm := tmod_test imm 1 (by decide)
  by_cases himm : -2048 ≤ imm ∧ imm ≤ 2047 ∧ imm % 1 = 0
  · obtain ⟨q1, q2, q3⟩ := himm
    rw [show decide (imm % 1 = 0) = true from decide_eq_true q3] at htm
    have HQ := hide (And.intro q1 (And.intro q2 q3))
    clear q3
    go_enter Tryz.func27, Tryz.ntmps27
    go_wp2_with (first | (go_at_call 29; refine (HK.out _).mono ?_; rintro e w2 ⟨rfl, rfl⟩))
    obtain ⟨w0, hw0⟩ : ∃ w0, ((w.alloc (.cells #[.int .i64 op, .int .i64 rd, .int .i64 rs1, .int .i64 rs2, .int .i64 imm, .int .i64 csr] 23)).alloc (.cells #[.bool true, .bool true, .bool false, .bool false] 4)).alloc (.cells #[.int .i64 rd, .int .i64 rs1, .int .i64 rs2, .int .i64 csr] 3) = w0 := ⟨_, rfl⟩
    obtain ⟨hr1, hr2, hb0⟩ := three_new _ _ _ _ _ _ _ _ hw0
    rw [hw0]
    clear hw0
    have HB0 := hide hb0
    clear hb0
    have HR1 := hide hr1
    have HR2 := hide hr2
    clear hr1 hr2
    have g0 : w0.cell? ⟨w.heap.size + 1, 0, none⟩ = some (.bool true) := (cell_of_row _ _ _ _ _ (0, 0) HR1.out).trans rfl
    have g1 : w0.cell? ⟨w.heap.size + 1, 1, none⟩ = some (.bool true) := (cell_of_row _ _ _ _ _ (0, 0) HR1.out).trans rfl
    have g2 : w0.cell? ⟨w.heap.size + 1, 2, none⟩ = some (.bool false) := (cell_of_row _ _ _ _ _ (0, 0) HR1.out).trans rfl
    have g3 : w0.cell? ⟨w.heap.size + 1, 3, none⟩ = some (.bool false) := (cell_of_row _ _ _ _ _ (0, 0) HR1.out).trans rfl
    have l0 : w0.cell? ⟨w.heap.size + 1 + 1, 0, none⟩ = some (.int .i64 rd) := (cell_of_row _ _ _ _ _ (0, 0) HR2.out).trans rfl
    have l1 : w0.cell? ⟨w.heap.size + 1 + 1, 1, none⟩ = some (.int .i64 rs1) := (cell_of_row _ _ _ _ _ (0, 0) HR2.out).trans rfl
    have l2 : w0.cell? ⟨w.heap.size + 1 + 1, 2, none⟩ = some (.int .i64 rs2) := (cell_of_row _ _ _ _ _ (0, 0) HR2.out).trans rfl
    have l3 : w0.cell? ⟨w.heap.size + 1 + 1, 3, none⟩ = some (.int .i64 csr) := (cell_of_row _ _ _ _ _ (0, 0) HR2.out).trans rfl
    go_loop [9] (fun iv => ∃ n : Nat, n ≤ 4 ∧ iv = .int .i64 n ∧ Hid ((1 ≤ n → (0 ≤ rd ∧ rd ≤ 31)) ∧ (2 ≤ n → (0 ≤ rs1 ∧ rs1 ≤ 31)) ∧ (3 ≤ n → (0 ≤ rs2 ∧ rs2 ≤ 0)) ∧ (4 ≤ n → (0 ≤ csr ∧ csr ≤ 0)))) (fun iv => 4 - (intOf iv).toNat)
    case atStart => exact ⟨0, by omega, rfl, by refine ⟨?_, ?_, ?_, ?_⟩ <;> (intro h; omega)⟩
    case round =>
      obtain ⟨n, hn, rfl, HF⟩ := hrel
      obtain rfl | rfl | rfl | rfl | rfl : n = 0 ∨ n = 1 ∨ n = 2 ∨ n = 3 ∨ n = 4 := by omega
      · by_cases u1 : rd < 0
        · have HNV : Hid (¬ ValidK 76 ⟨op, rd, rs1, rs2, imm, csr⟩) := fun hv => by
            have h5 := HV.out.1 hv
            omega
          go_wp2
          go_ret
          exact ⟨⟨1, rfl, .inr ⟨rfl, HNV.out⟩⟩, HB0.out⟩
        · by_cases u2 : 31 < rd
          · have HNV : Hid (¬ ValidK 76 ⟨op, rd, rs1, rs2, imm, csr⟩) := fun hv => by
              have h5 := HV.out.1 hv
              omega
            go_wp2
            go_ret
            exact ⟨⟨1, rfl, .inr ⟨rfl, HNV.out⟩⟩, HB0.out⟩
          · go_wp2
            go_round
            case rel => exact ⟨1, by omega, by go_num, fun _ => ⟨by omega, by omega⟩, fun h => by omega, fun h => by omega, fun h => by omega⟩
            case measure => simp [intOf]
      · by_cases u1 : rs1 < 0
        · have HNV : Hid (¬ ValidK 76 ⟨op, rd, rs1, rs2, imm, csr⟩) := fun hv => by
            have h5 := HV.out.1 hv
            omega
          go_wp2
          go_ret
          exact ⟨⟨1, rfl, .inr ⟨rfl, HNV.out⟩⟩, HB0.out⟩
        · by_cases u2 : 31 < rs1
          · have HNV : Hid (¬ ValidK 76 ⟨op, rd, rs1, rs2, imm, csr⟩) := fun hv => by
              have h5 := HV.out.1 hv
              omega
            go_wp2
            go_ret
            exact ⟨⟨1, rfl, .inr ⟨rfl, HNV.out⟩⟩, HB0.out⟩
          · go_wp2
            go_round
            case rel => exact ⟨2, by omega, by go_num, fun _ => HF.out.1 (by omega), fun _ => ⟨by omega, by omega⟩, fun h => by omega, fun h => by omega⟩
            case measure => simp [intOf]
      · by_cases u1 : rs2 < 0
        · have HNV : Hid (¬ ValidK 76 ⟨op, rd, rs1, rs2, imm, csr⟩) := fun hv => by
            have h5 := HV.out.1 hv
            omega
          go_wp2
          go_ret
          exact ⟨⟨1, rfl, .inr ⟨rfl, HNV.out⟩⟩, HB0.out⟩
        · by_cases u2 : 0 < rs2
          · have HNV : Hid (¬ ValidK 76 ⟨op, rd, rs1, rs2, imm, csr⟩) := fun hv => by
              have h5 := HV.out.1 hv
              omega
            go_wp2
            go_ret
            exact ⟨⟨1, rfl, .inr ⟨rfl, HNV.out⟩⟩, HB0.out⟩
          · go_wp2
            go_round
            case rel => exact ⟨3, by omega, by go_num, fun _ => HF.out.1 (by omega), fun _ => HF.out.2.1 (by omega), fun _ => ⟨by omega, by omega⟩, fun h => by omega⟩
            case measure => simp [intOf]
      · by_cases u1 : csr < 0
        · have HNV : Hid (¬ ValidK 76 ⟨op, rd, rs1, rs2, imm, csr⟩) := fun hv => by
            have h5 := HV.out.1 hv
            omega
          go_wp2
          go_ret
          exact ⟨⟨1, rfl, .inr ⟨rfl, HNV.out⟩⟩, HB0.out⟩
        · by_cases u2 : 0 < csr
          · have HNV : Hid (¬ ValidK 76 ⟨op, rd, rs1, rs2, imm, csr⟩) := fun hv => by
              have h5 := HV.out.1 hv
              omega
            go_wp2
            go_ret
            exact ⟨⟨1, rfl, .inr ⟨rfl, HNV.out⟩⟩, HB0.out⟩
          · go_wp2
            go_round
            case rel => exact ⟨4, by omega, by go_num, fun _ => HF.out.1 (by omega), fun _ => HF.out.2.1 (by omega), fun _ => HF.out.2.2.1 (by omega), fun _ => ⟨by omega, by omega⟩⟩
            case measure => simp [intOf]
      · go_wp2
        go_ret
        refine ⟨⟨0, rfl, .inl ⟨rfl, HV.out.2 ?_⟩⟩, HB0.out⟩
        obtain ⟨x0, x1, x2, x3⟩ := HF.out
        have y0 := x0 (by omega)
        have y1 := x1 (by omega)
        have y2 := x2 (by omega)
        have y3 := x3 (by omega)
        have y4 := HQ.out
        omega
  · have HNV : Hid (¬ ValidK 76 ⟨op, rd, rs1, rs2, imm, csr⟩) := fun hv => by
      have h5 := (HV.out.1 hv).2.2.2.2
      omega
    by_cases q1 : imm < -2048
    · clear himm htm
      go_enter Tryz.func27, Tryz.ntmps27
      go_wp2_with (first | (go_at_call 29; refine (HK.out _).mono ?_; rintro e w2 ⟨rfl, rfl⟩))
      go_ret
      exact ⟨⟨1, rfl, .inr ⟨rfl, HNV.out⟩⟩, (Below.refl _ _).alloc (Nat.le_refl _) _⟩
    · by_cases q2 : 2047 < imm
      · clear himm htm
        go_enter Tryz.func27, Tryz.ntmps27
        go_wp2_with (first | (go_at_call 29; refine (HK.out _).mono ?_; rintro e w2 ⟨rfl, rfl⟩))
        go_ret
        exact ⟨⟨1, rfl, .inr ⟨rfl, HNV.out⟩⟩, (Below.refl _ _).alloc (Nat.le_refl _) _⟩
      · exact absurd (show _ ∧ _ ∧ _ from ⟨by omega, by omega, by omega⟩) himm

set_option maxHeartbeats 4000000 in
set_option maxRecDepth 100000 in
theorem rcheck_F (op : Nat) (hop : op < 57) (rd rs1 rs2 imm csr : Int) (hk : kindN op = 70) (w : World) :
    Calls Tryz.prog 27 #[.agg #[.int .i64 op, .int .i64 rd, .int .i64 rs1, .int .i64 rs2, .int .i64 imm, .int .i64 csr]] w fun e w' => (∃ r : Int, e = .returned (.int .i64 r) ∧ CheckAns 70 ⟨op, rd, rs1, rs2, imm, csr⟩ r) ∧ Below w.heap.size w w' := by
  have HK := hide (rkind_yes op hop)
  rw [hk] at HK
  clear hk
  have HV : Hid (ValidK 70 ⟨op, rd, rs1, rs2, imm, csr⟩ ↔ (0 ≤ rd ∧ rd ≤ 31) ∧ (0 ≤ rs1 ∧ rs1 ≤ 31) ∧ (rs2 = 0) ∧ (csr = 0) ∧ (-2048 ≤ imm ∧ imm ≤ 2047)) := Iff.rfl
  have htm := tmod_test imm 1 (by decide)
  by_cases himm : -2048 ≤ imm ∧ imm ≤ 2047 ∧ imm % 1 = 0
  · obtain ⟨q1, q2, q3⟩ := himm
    rw [show decide (imm % 1 = 0) = true from decide_eq_true q3] at htm
    have HQ := hide (And.intro q1 (And.intro q2 q3))
    clear q3
    go_enter Tryz.func27, Tryz.ntmps27
    go_wp2_with (first | (go_at_call 29; refine (HK.out _).mono ?_; rintro e w2 ⟨rfl, rfl⟩))
    obtain ⟨w0, hw0⟩ : ∃ w0, ((w.alloc (.cells #[.int .i64 op, .int .i64 rd, .int .i64 rs1, .int .i64 rs2, .int .i64 imm, .int .i64 csr] 23)).alloc (.cells #[.bool true, .bool true, .bool false, .bool false] 4)).alloc (.cells #[.int .i64 rd, .int .i64 rs1, .int .i64 rs2, .int .i64 csr] 3) = w0 := ⟨_, rfl⟩
    obtain ⟨hr1, hr2, hb0⟩ := three_new _ _ _ _ _ _ _ _ hw0
    rw [hw0]
    clear hw0
    have HB0 := hide hb0
    clear hb0
    have HR1 := hide hr1
    have HR2 := hide hr2
    clear hr1 hr2
    have g0 : w0.cell? ⟨w.heap.size + 1, 0, none⟩ = some (.bool true) := (cell_of_row _ _ _ _ _ (0, 0) HR1.out).trans rfl
    have g1 : w0.cell? ⟨w.heap.size + 1, 1, none⟩ = some (.bool true) := (cell_of_row _ _ _ _ _ (0, 0) HR1.out).trans rfl
    have g2 : w0.cell? ⟨w.heap.size + 1, 2, none⟩ = some (.bool false) := (cell_of_row _ _ _ _ _ (0, 0) HR1.out).trans rfl
    have g3 : w0.cell? ⟨w.heap.size + 1, 3, none⟩ = some (.bool false) := (cell_of_row _ _ _ _ _ (0, 0) HR1.out).trans rfl
    have l0 : w0.cell? ⟨w.heap.size + 1 + 1, 0, none⟩ = some (.int .i64 rd) := (cell_of_row _ _ _ _ _ (0, 0) HR2.out).trans rfl
    have l1 : w0.cell? ⟨w.heap.size + 1 + 1, 1, none⟩ = some (.int .i64 rs1) := (cell_of_row _ _ _ _ _ (0, 0) HR2.out).trans rfl
    have l2 : w0.cell? ⟨w.heap.size + 1 + 1, 2, none⟩ = some (.int .i64 rs2) := (cell_of_row _ _ _ _ _ (0, 0) HR2.out).trans rfl
    have l3 : w0.cell? ⟨w.heap.size + 1 + 1, 3, none⟩ = some (.int .i64 csr) := (cell_of_row _ _ _ _ _ (0, 0) HR2.out).trans rfl
    go_loop [9] (fun iv => ∃ n : Nat, n ≤ 4 ∧ iv = .int .i64 n ∧ Hid ((1 ≤ n → (0 ≤ rd ∧ rd ≤ 31)) ∧ (2 ≤ n → (0 ≤ rs1 ∧ rs1 ≤ 31)) ∧ (3 ≤ n → (0 ≤ rs2 ∧ rs2 ≤ 0)) ∧ (4 ≤ n → (0 ≤ csr ∧ csr ≤ 0)))) (fun iv => 4 - (intOf iv).toNat)
    case atStart => exact ⟨0, by omega, rfl, by refine ⟨?_, ?_, ?_, ?_⟩ <;> (intro h; omega)⟩
    case round =>
      obtain ⟨n, hn, rfl, HF⟩ := hrel
      obtain rfl | rfl | rfl | rfl | rfl : n = 0 ∨ n = 1 ∨ n = 2 ∨ n = 3 ∨ n = 4 := by omega
      · by_cases u1 : rd < 0
        · have HNV : Hid (¬ ValidK 70 ⟨op, rd, rs1, rs2, imm, csr⟩) := fun hv => by
            have h5 := HV.out.1 hv
            omega
          go_wp2
          go_ret
          exact ⟨⟨1, rfl, .inr ⟨rfl, HNV.out⟩⟩, HB0.out⟩
        · by_cases u2 : 31 < rd
          · have HNV : Hid (¬ ValidK 70 ⟨op, rd, rs1, rs2, imm, csr⟩) := fun hv => by
              have h5 := HV.out.1 hv
              omega
            go_wp2
            go_ret
            exact ⟨⟨1, rfl, .inr ⟨rfl, HNV.out⟩⟩, HB0.out⟩
          · go_wp2
            go_round
            case rel => exact ⟨1, by omega, by go_num, fun _ => ⟨by omega, by omega⟩, fun h => by omega, fun h => by omega, fun h => by omega⟩
            case measure => simp [intOf]
      · by_cases u1 : rs1 < 0
        · have HNV : Hid (¬ ValidK 70 ⟨op, rd, rs1, rs2, imm, csr⟩) := fun hv => by
            have h5 := HV.out.1 hv
            omega
          go_wp2
          go_ret
          exact ⟨⟨1, rfl, .inr ⟨rfl, HNV.out⟩⟩, HB0.out⟩
        · by_cases u2 : 31 < rs1
          · have HNV : Hid (¬ ValidK 70 ⟨op, rd, rs1, rs2, imm, csr⟩) := fun hv => by
              have h5 := HV.out.1 hv
              omega
            go_wp2
            go_ret
            exact ⟨⟨1, rfl, .inr ⟨rfl, HNV.out⟩⟩, HB0.out⟩
          · go_wp2
            go_round
            case rel => exact ⟨2, by omega, by go_num, fun _ => HF.out.1 (by omega), fun _ => ⟨by omega, by omega⟩, fun h => by omega, fun h => by omega⟩
            case measure => simp [intOf]
      · by_cases u1 : rs2 < 0
        · have HNV : Hid (¬ ValidK 70 ⟨op, rd, rs1, rs2, imm, csr⟩) := fun hv => by
            have h5 := HV.out.1 hv
            omega
          go_wp2
          go_ret
          exact ⟨⟨1, rfl, .inr ⟨rfl, HNV.out⟩⟩, HB0.out⟩
        · by_cases u2 : 0 < rs2
          · have HNV : Hid (¬ ValidK 70 ⟨op, rd, rs1, rs2, imm, csr⟩) := fun hv => by
              have h5 := HV.out.1 hv
              omega
            go_wp2
            go_ret
            exact ⟨⟨1, rfl, .inr ⟨rfl, HNV.out⟩⟩, HB0.out⟩
          · go_wp2
            go_round
            case rel => exact ⟨3, by omega, by go_num, fun _ => HF.out.1 (by omega), fun _ => HF.out.2.1 (by omega), fun _ => ⟨by omega, by omega⟩, fun h => by omega⟩
            case measure => simp [intOf]
      · by_cases u1 : csr < 0
        · have HNV : Hid (¬ ValidK 70 ⟨op, rd, rs1, rs2, imm, csr⟩) := fun hv => by
            have h5 := HV.out.1 hv
            omega
          go_wp2
          go_ret
          exact ⟨⟨1, rfl, .inr ⟨rfl, HNV.out⟩⟩, HB0.out⟩
        · by_cases u2 : 0 < csr
          · have HNV : Hid (¬ ValidK 70 ⟨op, rd, rs1, rs2, imm, csr⟩) := fun hv => by
              have h5 := HV.out.1 hv
              omega
            go_wp2
            go_ret
            exact ⟨⟨1, rfl, .inr ⟨rfl, HNV.out⟩⟩, HB0.out⟩
          · go_wp2
            go_round
            case rel => exact ⟨4, by omega, by go_num, fun _ => HF.out.1 (by omega), fun _ => HF.out.2.1 (by omega), fun _ => HF.out.2.2.1 (by omega), fun _ => ⟨by omega, by omega⟩⟩
            case measure => simp [intOf]
      · go_wp2
        go_ret
        refine ⟨⟨0, rfl, .inl ⟨rfl, HV.out.2 ?_⟩⟩, HB0.out⟩
        obtain ⟨x0, x1, x2, x3⟩ := HF.out
        have y0 := x0 (by omega)
        have y1 := x1 (by omega)
        have y2 := x2 (by omega)
        have y3 := x3 (by omega)
        have y4 := HQ.out
        omega
  · have HNV : Hid (¬ ValidK 70 ⟨op, rd, rs1, rs2, imm, csr⟩) := fun hv => by
      have h5 := (HV.out.1 hv).2.2.2.2
      omega
    by_cases q1 : imm < -2048
    · clear himm htm
      go_enter Tryz.func27, Tryz.ntmps27
      go_wp2_with (first | (go_at_call 29; refine (HK.out _).mono ?_; rintro e w2 ⟨rfl, rfl⟩))
      go_ret
      exact ⟨⟨1, rfl, .inr ⟨rfl, HNV.out⟩⟩, (Below.refl _ _).alloc (Nat.le_refl _) _⟩
    · by_cases q2 : 2047 < imm
      · clear himm htm
        go_enter Tryz.func27, Tryz.ntmps27
        go_wp2_with (first | (go_at_call 29; refine (HK.out _).mono ?_; rintro e w2 ⟨rfl, rfl⟩))
        go_ret
        exact ⟨⟨1, rfl, .inr ⟨rfl, HNV.out⟩⟩, (Below.refl _ _).alloc (Nat.le_refl _) _⟩
      · exact absurd (show _ ∧ _ ∧ _ from ⟨by omega, by omega, by omega⟩) himm

set_option maxHeartbeats 4000000 in
set_option maxRecDepth 100000 in
theorem rcheck_S (op : Nat) (hop : op < 57) (rd rs1 rs2 imm csr : Int) (hk : kindN op = 83) (w : World) :
    Calls Tryz.prog 27 #[.agg #[.int .i64 op, .int .i64 rd, .int .i64 rs1, .int .i64 rs2, .int .i64 imm, .int .i64 csr]] w fun e w' => (∃ r : Int, e = .returned (.int .i64 r) ∧ CheckAns 83 ⟨op, rd, rs1, rs2, imm, csr⟩ r) ∧ Below w.heap.size w w' := by
  have HK := hide (rkind_yes op hop)
  rw [hk] at HK
  clear hk
  have HV : Hid (ValidK 83 ⟨op, rd, rs1, rs2, imm, csr⟩ ↔ (rd = 0) ∧ (0 ≤ rs1 ∧ rs1 ≤ 31) ∧ (0 ≤ rs2 ∧ rs2 ≤ 31) ∧ (csr = 0) ∧ (-2048 ≤ imm ∧ imm ≤ 2047)) := Iff.rfl
  have htm := tmod_test imm 1 (by decide)
  by_cases himm : -2048 ≤ imm ∧ imm ≤ 2047 ∧ imm % 1 = 0
  · obtain ⟨q1, q2, q3⟩ := himm
    rw [show decide (imm % 1 = 0) = true from decide_eq_true q3] at htm
    have HQ := hide (And.intro q1 (And.intro q2 q3))
    clear q3
    go_enter Tryz.func27, Tryz.ntmps27
    go_wp2_with (first | (go_at_call 29; refine (HK.out _).mono ?_; rintro e w2 ⟨rfl, rfl⟩))
    obtain ⟨w0, hw0⟩ : ∃ w0, ((w.alloc (.cells #[.int .i64 op, .int .i64 rd, .int .i64 rs1, .int .i64 rs2, .int .i64 imm, .int .i64 csr] 23)).alloc (.cells #[.bool false, .bool true, .bool true, .bool false] 4)).alloc (.cells #[.int .i64 rd, .int .i64 rs1, .int .i64 rs2, .int .i64 csr] 3) = w0 := ⟨_, rfl⟩
    obtain ⟨hr1, hr2, hb0⟩ := three_new _ _ _ _ _ _ _ _ hw0
    rw [hw0]
    clear hw0
    have HB0 := hide hb0
    clear hb0
    have HR1 := hide hr1
    have HR2 := hide hr2
    clear hr1 hr2
    have g0 : w0.cell? ⟨w.heap.size + 1, 0, none⟩ = some (.bool false) := (cell_of_row _ _ _ _ _ (0, 0) HR1.out).trans rfl
    have g1 : w0.cell? ⟨w.heap.size + 1, 1, none⟩ = some (.bool true) := (cell_of_row _ _ _ _ _ (0, 0) HR1.out).trans rfl
    have g2 : w0.cell? ⟨w.heap.size + 1, 2, none⟩ = some (.bool true) := (cell_of_row _ _ _ _ _ (0, 0) HR1.out).trans rfl
    have g3 : w0.cell? ⟨w.heap.size + 1, 3, none⟩ = some (.bool false) := (cell_of_row _ _ _ _ _ (0, 0) HR1.out).trans rfl
    have l0 : w0.cell? ⟨w.heap.size + 1 + 1, 0, none⟩ = some (.int .i64 rd) := (cell_of_row _ _ _ _ _ (0, 0) HR2.out).trans rfl
    have l1 : w0.cell? ⟨w.heap.size + 1 + 1, 1, none⟩ = some (.int .i64 rs1) := (cell_of_row _ _ _ _ _ (0, 0) HR2.out).trans rfl
    have l2 : w0.cell? ⟨w.heap.size + 1 + 1, 2, none⟩ = some (.int .i64 rs2) := (cell_of_row _ _ _ _ _ (0, 0) HR2.out).trans rfl
    have l3 : w0.cell? ⟨w.heap.size + 1 + 1, 3, none⟩ = some (.int .i64 csr) := (cell_of_row _ _ _ _ _ (0, 0) HR2.out).trans rfl
    go_loop [9] (fun iv => ∃ n : Nat, n ≤ 4 ∧ iv = .int .i64 n ∧ Hid ((1 ≤ n → (0 ≤ rd ∧ rd ≤ 0)) ∧ (2 ≤ n → (0 ≤ rs1 ∧ rs1 ≤ 31)) ∧ (3 ≤ n → (0 ≤ rs2 ∧ rs2 ≤ 31)) ∧ (4 ≤ n → (0 ≤ csr ∧ csr ≤ 0)))) (fun iv => 4 - (intOf iv).toNat)
    case atStart => exact ⟨0, by omega, rfl, by refine ⟨?_, ?_, ?_, ?_⟩ <;> (intro h; omega)⟩
    case round =>
      obtain ⟨n, hn, rfl, HF⟩ := hrel
      obtain rfl | rfl | rfl | rfl | rfl : n = 0 ∨ n = 1 ∨ n = 2 ∨ n = 3 ∨ n = 4 := by omega
      · by_cases u1 : rd < 0
        · have HNV : Hid (¬ ValidK 83 ⟨op, rd, rs1, rs2, imm, csr⟩) := fun hv => by
            have h5 := HV.out.1 hv
            omega
          go_wp2
          go_ret
          exact ⟨⟨1, rfl, .inr ⟨rfl, HNV.out⟩⟩, HB0.out⟩
        · by_cases u2 : 0 < rd
          · have HNV : Hid (¬ ValidK 83 ⟨op, rd, rs1, rs2, imm, csr⟩) := fun hv => by
              have h5 := HV.out.1 hv
              omega
            go_wp2
            go_ret
            exact ⟨⟨1, rfl, .inr ⟨rfl, HNV.out⟩⟩, HB0.out⟩
          · go_wp2
            go_round
            case rel => exact ⟨1, by omega, by go_num, fun _ => ⟨by omega, by omega⟩, fun h => by omega, fun h => by omega, fun h => by omega⟩
            case measure => simp [intOf]
      · by_cases u1 : rs1 < 0
        · have HNV : Hid (¬ ValidK 83 ⟨op, rd, rs1, rs2, imm, csr⟩) := fun hv => by
            have h5 := HV.out.1 hv
            omega
          go_wp2
          go_ret
          exact ⟨⟨1, rfl, .inr ⟨rfl, HNV.out⟩⟩, HB0.out⟩
        · by_cases u2 : 31 < rs1
          · have HNV : Hid (¬ ValidK 83 ⟨op, rd, rs1, rs2, imm, csr⟩) := fun hv => by
              have h5 := HV.out.1 hv
              omega
            go_wp2
            go_ret
            exact ⟨⟨1, rfl, .inr ⟨rfl, HNV.out⟩⟩, HB0.out⟩
          · go_wp2
            go_round
            case rel => exact ⟨2, by omega, by go_num, fun _ => HF.out.1 (by omega), fun _ => ⟨by omega, by omega⟩, fun h => by omega, fun h => by omega⟩
            case measure => simp [intOf]
      · by_cases u1 : rs2 < 0
        · have HNV : Hid (¬ ValidK 83 ⟨op, rd, rs1, rs2, imm, csr⟩) := fun hv => by
            have h5 := HV.out.1 hv
            omega
          go_wp2
          go_ret
          exact ⟨⟨1, rfl, .inr ⟨rfl, HNV.out⟩⟩, HB0.out⟩
        · by_cases u2 : 31 < rs2
          · have HNV : Hid (¬ ValidK 83 ⟨op, rd, rs1, rs2, imm, csr⟩) := fun hv => by
              have h5 := HV.out.1 hv
              omega
            go_wp2
            go_ret
            exact ⟨⟨1, rfl, .inr ⟨rfl, HNV.out⟩⟩, HB0.out⟩
          · go_wp2
            go_round
            case rel => exact ⟨3, by omega, by go_num, fun _ => HF.out.1 (by omega), fun _ => HF.out.2.1 (by omega), fun _ => ⟨by omega, by omega⟩, fun h => by omega⟩
            case measure => simp [intOf]
      · by_cases u1 : csr < 0
        · have HNV : Hid (¬ ValidK 83 ⟨op, rd, rs1, rs2, imm, csr⟩) := fun hv => by
            have h5 := HV.out.1 hv
            omega
          go_wp2
          go_ret
          exact ⟨⟨1, rfl, .inr ⟨rfl, HNV.out⟩⟩, HB0.out⟩
        · by_cases u2 : 0 < csr
          · have HNV : Hid (¬ ValidK 83 ⟨op, rd, rs1, rs2, imm, csr⟩) := fun hv => by
              have h5 := HV.out.1 hv
              omega
            go_wp2
            go_ret
            exact ⟨⟨1, rfl, .inr ⟨rfl, HNV.out⟩⟩, HB0.out⟩
          · go_wp2
            go_round
            case rel => exact ⟨4, by omega, by go_num, fun _ => HF.out.1 (by omega), fun _ => HF.out.2.1 (by omega), fun _ => HF.out.2.2.1 (by omega), fun _ => ⟨by omega, by omega⟩⟩
            case measure => simp [intOf]
      · go_wp2
        go_ret
        refine ⟨⟨0, rfl, .inl ⟨rfl, HV.out.2 ?_⟩⟩, HB0.out⟩
        obtain ⟨x0, x1, x2, x3⟩ := HF.out
        have y0 := x0 (by omega)
        have y1 := x1 (by omega)
        have y2 := x2 (by omega)
        have y3 := x3 (by omega)
        have y4 := HQ.out
        omega
  · have HNV : Hid (¬ ValidK 83 ⟨op, rd, rs1, rs2, imm, csr⟩) := fun hv => by
      have h5 := (HV.out.1 hv).2.2.2.2
      omega
    by_cases q1 : imm < -2048
    · clear himm htm
      go_enter Tryz.func27, Tryz.ntmps27
      go_wp2_with (first | (go_at_call 29; refine (HK.out _).mono ?_; rintro e w2 ⟨rfl, rfl⟩))
      go_ret
      exact ⟨⟨1, rfl, .inr ⟨rfl, HNV.out⟩⟩, (Below.refl _ _).alloc (Nat.le_refl _) _⟩
    · by_cases q2 : 2047 < imm
      · clear himm htm
        go_enter Tryz.func27, Tryz.ntmps27
        go_wp2_with (first | (go_at_call 29; refine (HK.out _).mono ?_; rintro e w2 ⟨rfl, rfl⟩))
        go_ret
        exact ⟨⟨1, rfl, .inr ⟨rfl, HNV.out⟩⟩, (Below.refl _ _).alloc (Nat.le_refl _) _⟩
      · exact absurd (show _ ∧ _ ∧ _ from ⟨by omega, by omega, by omega⟩) himm
end Go.Proofs.YtoekcfbjdcibpaaGreatDoor
namespace Go.Proofs.YtoekcfbjdcibpaaGreatDoor
open Go.RowKit
set_option linter.unusedVariables false

set_option maxHeartbeats 4000000 in
set_option maxRecDepth 100000 in
theorem rcheck_C (op : Nat) (hop : op < 57) (rd rs1 rs2 imm csr : Int) (hk : kindN op = 67) (w : World) :
    Calls Tryz.prog 27 #[.agg #[.int .i64 op, .int .i64 rd, .int .i64 rs1, .int .i64 rs2, .int .i64 imm, .int .i64 csr]] w fun e w' => (∃ r : Int, e = .returned (.int .i64 r) ∧ CheckAns 67 ⟨op, rd, rs1, rs2, imm, csr⟩ r) ∧ Below w.heap.size w w' := by
  have HK := hide (rkind_yes op hop)
  rw [hk] at HK
  clear hk
  have HV : Hid (ValidK 67 ⟨op, rd, rs1, rs2, imm, csr⟩ ↔ (0 ≤ rd ∧ rd ≤ 31) ∧ (0 ≤ rs1 ∧ rs1 ≤ 31) ∧ (rs2 = 0) ∧ (0 ≤ csr ∧ csr ≤ 4095) ∧ (imm = 0)) := Iff.rfl
  have htm := tmod_test imm 1 (by decide)
  by_cases himm : 0 ≤ imm ∧ imm ≤ 0 ∧ imm % 1 = 0
  · obtain ⟨q1, q2, q3⟩ := himm
    rw [show decide (imm % 1 = 0) = true from decide_eq_true q3] at htm
    have HQ := hide (And.intro q1 (And.intro q2 q3))
    clear q3
    go_enter Tryz.func27, Tryz.ntmps27
    go_wp2_with (first | (go_at_call 29; refine (HK.out _).mono ?_; rintro e w2 ⟨rfl, rfl⟩))
    obtain ⟨w0, hw0⟩ : ∃ w0, ((w.alloc (.cells #[.int .i64 op, .int .i64 rd, .int .i64 rs1, .int .i64 rs2, .int .i64 imm, .int .i64 csr] 23)).alloc (.cells #[.bool true, .bool true, .bool false, .bool true] 4)).alloc (.cells #[.int .i64 rd, .int .i64 rs1, .int .i64 rs2, .int .i64 csr] 3) = w0 := ⟨_, rfl⟩
    obtain ⟨hr1, hr2, hb0⟩ := three_new _ _ _ _ _ _ _ _ hw0
    rw [hw0]
    clear hw0
    have HB0 := hide hb0
    clear hb0
    have HR1 := hide hr1
    have HR2 := hide hr2
    clear hr1 hr2
    have g0 : w0.cell? ⟨w.heap.size + 1, 0, none⟩ = some (.bool true) := (cell_of_row _ _ _ _ _ (0, 0) HR1.out).trans rfl
    have g1 : w0.cell? ⟨w.heap.size + 1, 1, none⟩ = some (.bool true) := (cell_of_row _ _ _ _ _ (0, 0) HR1.out).trans rfl
    have g2 : w0.cell? ⟨w.heap.size + 1, 2, none⟩ = some (.bool false) := (cell_of_row _ _ _ _ _ (0, 0) HR1.out).trans rfl
    have g3 : w0.cell? ⟨w.heap.size + 1, 3, none⟩ = some (.bool true) := (cell_of_row _ _ _ _ _ (0, 0) HR1.out).trans rfl
    have l0 : w0.cell? ⟨w.heap.size + 1 + 1, 0, none⟩ = some (.int .i64 rd) := (cell_of_row _ _ _ _ _ (0, 0) HR2.out).trans rfl
    have l1 : w0.cell? ⟨w.heap.size + 1 + 1, 1, none⟩ = some (.int .i64 rs1) := (cell_of_row _ _ _ _ _ (0, 0) HR2.out).trans rfl
    have l2 : w0.cell? ⟨w.heap.size + 1 + 1, 2, none⟩ = some (.int .i64 rs2) := (cell_of_row _ _ _ _ _ (0, 0) HR2.out).trans rfl
    have l3 : w0.cell? ⟨w.heap.size + 1 + 1, 3, none⟩ = some (.int .i64 csr) := (cell_of_row _ _ _ _ _ (0, 0) HR2.out).trans rfl
    go_loop [9] (fun iv => ∃ n : Nat, n ≤ 4 ∧ iv = .int .i64 n ∧ Hid ((1 ≤ n → (0 ≤ rd ∧ rd ≤ 31)) ∧ (2 ≤ n → (0 ≤ rs1 ∧ rs1 ≤ 31)) ∧ (3 ≤ n → (0 ≤ rs2 ∧ rs2 ≤ 0)) ∧ (4 ≤ n → (0 ≤ csr ∧ csr ≤ 4095)))) (fun iv => 4 - (intOf iv).toNat)
    case atStart => exact ⟨0, by omega, rfl, by refine ⟨?_, ?_, ?_, ?_⟩ <;> (intro h; omega)⟩
    case round =>
      obtain ⟨n, hn, rfl, HF⟩ := hrel
      obtain rfl | rfl | rfl | rfl | rfl : n = 0 ∨ n = 1 ∨ n = 2 ∨ n = 3 ∨ n = 4 := by omega
      · by_cases u1 : rd < 0
        · have HNV : Hid (¬ ValidK 67 ⟨op, rd, rs1, rs2, imm, csr⟩) := fun hv => by
            have h5 := HV.out.1 hv
            omega
          go_wp2
          go_ret
          exact ⟨⟨1, rfl, .inr ⟨rfl, HNV.out⟩⟩, HB0.out⟩
        · by_cases u2 : 31 < rd
          · have HNV : Hid (¬ ValidK 67 ⟨op, rd, rs1, rs2, imm, csr⟩) := fun hv => by
              have h5 := HV.out.1 hv
              omega
            go_wp2
            go_ret
            exact ⟨⟨1, rfl, .inr ⟨rfl, HNV.out⟩⟩, HB0.out⟩
          · go_wp2
            go_round
            case rel => exact ⟨1, by omega, by go_num, fun _ => ⟨by omega, by omega⟩, fun h => by omega, fun h => by omega, fun h => by omega⟩
            case measure => simp [intOf]
      · by_cases u1 : rs1 < 0
        · have HNV : Hid (¬ ValidK 67 ⟨op, rd, rs1, rs2, imm, csr⟩) := fun hv => by
            have h5 := HV.out.1 hv
            omega
          go_wp2
          go_ret
          exact ⟨⟨1, rfl, .inr ⟨rfl, HNV.out⟩⟩, HB0.out⟩
        · by_cases u2 : 31 < rs1
          · have HNV : Hid (¬ ValidK 67 ⟨op, rd, rs1, rs2, imm, csr⟩) := fun hv => by
              have h5 := HV.out.1 hv
              omega
            go_wp2
            go_ret
            exact ⟨⟨1, rfl, .inr ⟨rfl, HNV.out⟩⟩, HB0.out⟩
          · go_wp2
            go_round
            case rel => exact ⟨2, by omega, by go_num, fun _ => HF.out.1 (by omega), fun _ => ⟨by omega, by omega⟩, fun h => by omega, fun h => by omega⟩
            case measure => simp [intOf]
      · by_cases u1 : rs2 < 0
        · have HNV : Hid (¬ ValidK 67 ⟨op, rd, rs1, rs2, imm, csr⟩) := fun hv => by
            have h5 := HV.out.1 hv
            omega
          go_wp2
          go_ret
          exact ⟨⟨1, rfl, .inr ⟨rfl, HNV.out⟩⟩, HB0.out⟩
        · by_cases u2 : 0 < rs2
          · have HNV : Hid (¬ ValidK 67 ⟨op, rd, rs1, rs2, imm, csr⟩) := fun hv => by
              have h5 := HV.out.1 hv
              omega
            go_wp2
            go_ret
            exact ⟨⟨1, rfl, .inr ⟨rfl, HNV.out⟩⟩, HB0.out⟩
          · go_wp2
            go_round
            case rel => exact ⟨3, by omega, by go_num, fun _ => HF.out.1 (by omega), fun _ => HF.out.2.1 (by omega), fun _ => ⟨by omega, by omega⟩, fun h => by omega⟩
            case measure => simp [intOf]
      · by_cases u1 : csr < 0
        · have HNV : Hid (¬ ValidK 67 ⟨op, rd, rs1, rs2, imm, csr⟩) := fun hv => by
            have h5 := HV.out.1 hv
            omega
          go_wp2
          go_ret
          exact ⟨⟨1, rfl, .inr ⟨rfl, HNV.out⟩⟩, HB0.out⟩
        · by_cases u2 : 4095 < csr
          · have HNV : Hid (¬ ValidK 67 ⟨op, rd, rs1, rs2, imm, csr⟩) := fun hv => by
              have h5 := HV.out.1 hv
              omega
            go_wp2
            go_ret
            exact ⟨⟨1, rfl, .inr ⟨rfl, HNV.out⟩⟩, HB0.out⟩
          · go_wp2
            go_round
            case rel => exact ⟨4, by omega, by go_num, fun _ => HF.out.1 (by omega), fun _ => HF.out.2.1 (by omega), fun _ => HF.out.2.2.1 (by omega), fun _ => ⟨by omega, by omega⟩⟩
            case measure => simp [intOf]
      · go_wp2
        go_ret
        refine ⟨⟨0, rfl, .inl ⟨rfl, HV.out.2 ?_⟩⟩, HB0.out⟩
        obtain ⟨x0, x1, x2, x3⟩ := HF.out
        have y0 := x0 (by omega)
        have y1 := x1 (by omega)
        have y2 := x2 (by omega)
        have y3 := x3 (by omega)
        have y4 := HQ.out
        omega
  · have HNV : Hid (¬ ValidK 67 ⟨op, rd, rs1, rs2, imm, csr⟩) := fun hv => by
      have h5 := (HV.out.1 hv).2.2.2.2
      omega
    by_cases q1 : imm < 0
    · clear himm htm
      go_enter Tryz.func27, Tryz.ntmps27
      go_wp2_with (first | (go_at_call 29; refine (HK.out _).mono ?_; rintro e w2 ⟨rfl, rfl⟩))
      go_ret
      exact ⟨⟨1, rfl, .inr ⟨rfl, HNV.out⟩⟩, (Below.refl _ _).alloc (Nat.le_refl _) _⟩
    · by_cases q2 : 0 < imm
      · clear himm htm
        go_enter Tryz.func27, Tryz.ntmps27
        go_wp2_with (first | (go_at_call 29; refine (HK.out _).mono ?_; rintro e w2 ⟨rfl, rfl⟩))
        go_ret
        exact ⟨⟨1, rfl, .inr ⟨rfl, HNV.out⟩⟩, (Below.refl _ _).alloc (Nat.le_refl _) _⟩
      · exact absurd (show _ ∧ _ ∧ _ from ⟨by omega, by omega, by omega⟩) himm

set_option maxHeartbeats 4000000 in
set_option maxRecDepth 100000 in
theorem rcheck_H (op : Nat) (hop : op < 57) (rd rs1 rs2 imm csr : Int) (hk : kindN op = 72) (w : World) :
    Calls Tryz.prog 27 #[.agg #[.int .i64 op, .int .i64 rd, .int .i64 rs1, .int .i64 rs2, .int .i64 imm, .int .i64 csr]] w fun e w' => (∃ r : Int, e = .returned (.int .i64 r) ∧ CheckAns 72 ⟨op, rd, rs1, rs2, imm, csr⟩ r) ∧ Below w.heap.size w w' := by
  have HK := hide (rkind_yes op hop)
  rw [hk] at HK
  clear hk
  have HV : Hid (ValidK 72 ⟨op, rd, rs1, rs2, imm, csr⟩ ↔ (0 ≤ rd ∧ rd ≤ 31) ∧ (0 ≤ rs1 ∧ rs1 ≤ 31) ∧ (rs2 = 0) ∧ (csr = 0) ∧ (0 ≤ imm ∧ imm ≤ 31)) := Iff.rfl
  have htm := tmod_test imm 1 (by decide)
  by_cases himm : 0 ≤ imm ∧ imm ≤ 31 ∧ imm % 1 = 0
  · obtain ⟨q1, q2, q3⟩ := himm
    rw [show decide (imm % 1 = 0) = true from decide_eq_true q3] at htm
    have HQ := hide (And.intro q1 (And.intro q2 q3))
    clear q3
    go_enter Tryz.func27, Tryz.ntmps27
    go_wp2_with (first | (go_at_call 29; refine (HK.out _).mono ?_; rintro e w2 ⟨rfl, rfl⟩))
    obtain ⟨w0, hw0⟩ : ∃ w0, ((w.alloc (.cells #[.int .i64 op, .int .i64 rd, .int .i64 rs1, .int .i64 rs2, .int .i64 imm, .int .i64 csr] 23)).alloc (.cells #[.bool true, .bool true, .bool false, .bool false] 4)).alloc (.cells #[.int .i64 rd, .int .i64 rs1, .int .i64 rs2, .int .i64 csr] 3) = w0 := ⟨_, rfl⟩
    obtain ⟨hr1, hr2, hb0⟩ := three_new _ _ _ _ _ _ _ _ hw0
    rw [hw0]
    clear hw0
    have HB0 := hide hb0
    clear hb0
    have HR1 := hide hr1
    have HR2 := hide hr2
    clear hr1 hr2
    have g0 : w0.cell? ⟨w.heap.size + 1, 0, none⟩ = some (.bool true) := (cell_of_row _ _ _ _ _ (0, 0) HR1.out).trans rfl
    have g1 : w0.cell? ⟨w.heap.size + 1, 1, none⟩ = some (.bool true) := (cell_of_row _ _ _ _ _ (0, 0) HR1.out).trans rfl
    have g2 : w0.cell? ⟨w.heap.size + 1, 2, none⟩ = some (.bool false) := (cell_of_row _ _ _ _ _ (0, 0) HR1.out).trans rfl
    have g3 : w0.cell? ⟨w.heap.size + 1, 3, none⟩ = some (.bool false) := (cell_of_row _ _ _ _ _ (0, 0) HR1.out).trans rfl
    have l0 : w0.cell? ⟨w.heap.size + 1 + 1, 0, none⟩ = some (.int .i64 rd) := (cell_of_row _ _ _ _ _ (0, 0) HR2.out).trans rfl
    have l1 : w0.cell? ⟨w.heap.size + 1 + 1, 1, none⟩ = some (.int .i64 rs1) := (cell_of_row _ _ _ _ _ (0, 0) HR2.out).trans rfl
    have l2 : w0.cell? ⟨w.heap.size + 1 + 1, 2, none⟩ = some (.int .i64 rs2) := (cell_of_row _ _ _ _ _ (0, 0) HR2.out).trans rfl
    have l3 : w0.cell? ⟨w.heap.size + 1 + 1, 3, none⟩ = some (.int .i64 csr) := (cell_of_row _ _ _ _ _ (0, 0) HR2.out).trans rfl
    go_loop [9] (fun iv => ∃ n : Nat, n ≤ 4 ∧ iv = .int .i64 n ∧ Hid ((1 ≤ n → (0 ≤ rd ∧ rd ≤ 31)) ∧ (2 ≤ n → (0 ≤ rs1 ∧ rs1 ≤ 31)) ∧ (3 ≤ n → (0 ≤ rs2 ∧ rs2 ≤ 0)) ∧ (4 ≤ n → (0 ≤ csr ∧ csr ≤ 0)))) (fun iv => 4 - (intOf iv).toNat)
    case atStart => exact ⟨0, by omega, rfl, by refine ⟨?_, ?_, ?_, ?_⟩ <;> (intro h; omega)⟩
    case round =>
      obtain ⟨n, hn, rfl, HF⟩ := hrel
      obtain rfl | rfl | rfl | rfl | rfl : n = 0 ∨ n = 1 ∨ n = 2 ∨ n = 3 ∨ n = 4 := by omega
      · by_cases u1 : rd < 0
        · have HNV : Hid (¬ ValidK 72 ⟨op, rd, rs1, rs2, imm, csr⟩) := fun hv => by
            have h5 := HV.out.1 hv
            omega
          go_wp2
          go_ret
          exact ⟨⟨1, rfl, .inr ⟨rfl, HNV.out⟩⟩, HB0.out⟩
        · by_cases u2 : 31 < rd
          · have HNV : Hid (¬ ValidK 72 ⟨op, rd, rs1, rs2, imm, csr⟩) := fun hv => by
              have h5 := HV.out.1 hv
              omega
            go_wp2
            go_ret
            exact ⟨⟨1, rfl, .inr ⟨rfl, HNV.out⟩⟩, HB0.out⟩
          · go_wp2
            go_round
            case rel => exact ⟨1, by omega, by go_num, fun _ => ⟨by omega, by omega⟩, fun h => by omega, fun h => by omega, fun h => by omega⟩
            case measure => simp [intOf]
      · by_cases u1 : rs1 < 0
        · have HNV : Hid (¬ ValidK 72 ⟨op, rd, rs1, rs2, imm, csr⟩) := fun hv => by
            have h5 := HV.out.1 hv
            omega
          go_wp2
          go_ret
          exact ⟨⟨1, rfl, .inr ⟨rfl, HNV.out⟩⟩, HB0.out⟩
        · by_cases u2 : 31 < rs1
          · have HNV : Hid (¬ ValidK 72 ⟨op, rd, rs1, rs2, imm, csr⟩) := fun hv => by
              have h5 := HV.out.1 hv
              omega
            go_wp2
            go_ret
            exact ⟨⟨1, rfl, .inr ⟨rfl, HNV.out⟩⟩, HB0.out⟩
          · go_wp2
            go_round
            case rel => exact ⟨2, by omega, by go_num, fun _ => HF.out.1 (by omega), fun _ => ⟨by omega, by omega⟩, fun h => by omega, fun h => by omega⟩
            case measure => simp [intOf]
      · by_cases u1 : rs2 < 0
        · have HNV : Hid (¬ ValidK 72 ⟨op, rd, rs1, rs2, imm, csr⟩) := fun hv => by
            have h5 := HV.out.1 hv
            omega
          go_wp2
          go_ret
          exact ⟨⟨1, rfl, .inr ⟨rfl, HNV.out⟩⟩, HB0.out⟩
        · by_cases u2 : 0 < rs2
          · have HNV : Hid (¬ ValidK 72 ⟨op, rd, rs1, rs2, imm, csr⟩) := fun hv => by
              have h5 := HV.out.1 hv
              omega
            go_wp2
            go_ret
            exact ⟨⟨1, rfl, .inr ⟨rfl, HNV.out⟩⟩, HB0.out⟩
          · go_wp2
            go_round
            case rel => exact ⟨3, by omega, by go_num, fun _ => HF.out.1 (by omega), fun _ => HF.out.2.1 (by omega), fun _ => ⟨by omega, by omega⟩, fun h => by omega⟩
            case measure => simp [intOf]
      · by_cases u1 : csr < 0
        · have HNV : Hid (¬ ValidK 72 ⟨op, rd, rs1, rs2, imm, csr⟩) := fun hv => by
            have h5 := HV.out.1 hv
            omega
          go_wp2
          go_ret
          exact ⟨⟨1, rfl, .inr ⟨rfl, HNV.out⟩⟩, HB0.out⟩
        · by_cases u2 : 0 < csr
          · have HNV : Hid (¬ ValidK 72 ⟨op, rd, rs1, rs2, imm, csr⟩) := fun hv => by
              have h5 := HV.out.1 hv
              omega
            go_wp2
            go_ret
            exact ⟨⟨1, rfl, .inr ⟨rfl, HNV.out⟩⟩, HB0.out⟩
          · go_wp2
            go_round
            case rel => exact ⟨4, by omega, by go_num, fun _ => HF.out.1 (by omega), fun _ => HF.out.2.1 (by omega), fun _ => HF.out.2.2.1 (by omega), fun _ => ⟨by omega, by omega⟩⟩
            case measure => simp [intOf]
      · go_wp2
        go_ret
        refine ⟨⟨0, rfl, .inl ⟨rfl, HV.out.2 ?_⟩⟩, HB0.out⟩
        obtain ⟨x0, x1, x2, x3⟩ := HF.out
        have y0 := x0 (by omega)
        have y1 := x1 (by omega)
        have y2 := x2 (by omega)
        have y3 := x3 (by omega)
        have y4 := HQ.out
        omega
  · have HNV : Hid (¬ ValidK 72 ⟨op, rd, rs1, rs2, imm, csr⟩) := fun hv => by
      have h5 := (HV.out.1 hv).2.2.2.2
      omega
    by_cases q1 : imm < 0
    · clear himm htm
      go_enter Tryz.func27, Tryz.ntmps27
      go_wp2_with (first | (go_at_call 29; refine (HK.out _).mono ?_; rintro e w2 ⟨rfl, rfl⟩))
      go_ret
      exact ⟨⟨1, rfl, .inr ⟨rfl, HNV.out⟩⟩, (Below.refl _ _).alloc (Nat.le_refl _) _⟩
    · by_cases q2 : 31 < imm
      · clear himm htm
        go_enter Tryz.func27, Tryz.ntmps27
        go_wp2_with (first | (go_at_call 29; refine (HK.out _).mono ?_; rintro e w2 ⟨rfl, rfl⟩))
        go_ret
        exact ⟨⟨1, rfl, .inr ⟨rfl, HNV.out⟩⟩, (Below.refl _ _).alloc (Nat.le_refl _) _⟩
      · exact absurd (show _ ∧ _ ∧ _ from ⟨by omega, by omega, by omega⟩) himm

set_option maxHeartbeats 4000000 in
set_option maxRecDepth 100000 in
theorem rcheck_R (op : Nat) (hop : op < 57) (rd rs1 rs2 imm csr : Int) (hk : kindN op = 82) (w : World) :
    Calls Tryz.prog 27 #[.agg #[.int .i64 op, .int .i64 rd, .int .i64 rs1, .int .i64 rs2, .int .i64 imm, .int .i64 csr]] w fun e w' => (∃ r : Int, e = .returned (.int .i64 r) ∧ CheckAns 82 ⟨op, rd, rs1, rs2, imm, csr⟩ r) ∧ Below w.heap.size w w' := by
  have HK := hide (rkind_yes op hop)
  rw [hk] at HK
  clear hk
  have HV : Hid (ValidK 82 ⟨op, rd, rs1, rs2, imm, csr⟩ ↔ (0 ≤ rd ∧ rd ≤ 31) ∧ (0 ≤ rs1 ∧ rs1 ≤ 31) ∧ (0 ≤ rs2 ∧ rs2 ≤ 31) ∧ (csr = 0) ∧ (imm = 0)) := Iff.rfl
  have htm := tmod_test imm 1 (by decide)
  by_cases himm : 0 ≤ imm ∧ imm ≤ 0 ∧ imm % 1 = 0
  · obtain ⟨q1, q2, q3⟩ := himm
    rw [show decide (imm % 1 = 0) = true from decide_eq_true q3] at htm
    have HQ := hide (And.intro q1 (And.intro q2 q3))
    clear q3
    go_enter Tryz.func27, Tryz.ntmps27
    go_wp2_with (first | (go_at_call 29; refine (HK.out _).mono ?_; rintro e w2 ⟨rfl, rfl⟩))
    obtain ⟨w0, hw0⟩ : ∃ w0, ((w.alloc (.cells #[.int .i64 op, .int .i64 rd, .int .i64 rs1, .int .i64 rs2, .int .i64 imm, .int .i64 csr] 23)).alloc (.cells #[.bool true, .bool true, .bool true, .bool false] 4)).alloc (.cells #[.int .i64 rd, .int .i64 rs1, .int .i64 rs2, .int .i64 csr] 3) = w0 := ⟨_, rfl⟩
    obtain ⟨hr1, hr2, hb0⟩ := three_new _ _ _ _ _ _ _ _ hw0
    rw [hw0]
    clear hw0
    have HB0 := hide hb0
    clear hb0
    have HR1 := hide hr1
    have HR2 := hide hr2
    clear hr1 hr2
    have g0 : w0.cell? ⟨w.heap.size + 1, 0, none⟩ = some (.bool true) := (cell_of_row _ _ _ _ _ (0, 0) HR1.out).trans rfl
    have g1 : w0.cell? ⟨w.heap.size + 1, 1, none⟩ = some (.bool true) := (cell_of_row _ _ _ _ _ (0, 0) HR1.out).trans rfl
    have g2 : w0.cell? ⟨w.heap.size + 1, 2, none⟩ = some (.bool true) := (cell_of_row _ _ _ _ _ (0, 0) HR1.out).trans rfl
    have g3 : w0.cell? ⟨w.heap.size + 1, 3, none⟩ = some (.bool false) := (cell_of_row _ _ _ _ _ (0, 0) HR1.out).trans rfl
    have l0 : w0.cell? ⟨w.heap.size + 1 + 1, 0, none⟩ = some (.int .i64 rd) := (cell_of_row _ _ _ _ _ (0, 0) HR2.out).trans rfl
    have l1 : w0.cell? ⟨w.heap.size + 1 + 1, 1, none⟩ = some (.int .i64 rs1) := (cell_of_row _ _ _ _ _ (0, 0) HR2.out).trans rfl
    have l2 : w0.cell? ⟨w.heap.size + 1 + 1, 2, none⟩ = some (.int .i64 rs2) := (cell_of_row _ _ _ _ _ (0, 0) HR2.out).trans rfl
    have l3 : w0.cell? ⟨w.heap.size + 1 + 1, 3, none⟩ = some (.int .i64 csr) := (cell_of_row _ _ _ _ _ (0, 0) HR2.out).trans rfl
    go_loop [9] (fun iv => ∃ n : Nat, n ≤ 4 ∧ iv = .int .i64 n ∧ Hid ((1 ≤ n → (0 ≤ rd ∧ rd ≤ 31)) ∧ (2 ≤ n → (0 ≤ rs1 ∧ rs1 ≤ 31)) ∧ (3 ≤ n → (0 ≤ rs2 ∧ rs2 ≤ 31)) ∧ (4 ≤ n → (0 ≤ csr ∧ csr ≤ 0)))) (fun iv => 4 - (intOf iv).toNat)
    case atStart => exact ⟨0, by omega, rfl, by refine ⟨?_, ?_, ?_, ?_⟩ <;> (intro h; omega)⟩
    case round =>
      obtain ⟨n, hn, rfl, HF⟩ := hrel
      obtain rfl | rfl | rfl | rfl | rfl : n = 0 ∨ n = 1 ∨ n = 2 ∨ n = 3 ∨ n = 4 := by omega
      · by_cases u1 : rd < 0
        · have HNV : Hid (¬ ValidK 82 ⟨op, rd, rs1, rs2, imm, csr⟩) := fun hv => by
            have h5 := HV.out.1 hv
            omega
          go_wp2
          go_ret
          exact ⟨⟨1, rfl, .inr ⟨rfl, HNV.out⟩⟩, HB0.out⟩
        · by_cases u2 : 31 < rd
          · have HNV : Hid (¬ ValidK 82 ⟨op, rd, rs1, rs2, imm, csr⟩) := fun hv => by
              have h5 := HV.out.1 hv
              omega
            go_wp2
            go_ret
            exact ⟨⟨1, rfl, .inr ⟨rfl, HNV.out⟩⟩, HB0.out⟩
          · go_wp2
            go_round
            case rel => exact ⟨1, by omega, by go_num, fun _ => ⟨by omega, by omega⟩, fun h => by omega, fun h => by omega, fun h => by omega⟩
            case measure => simp [intOf]
      · by_cases u1 : rs1 < 0
        · have HNV : Hid (¬ ValidK 82 ⟨op, rd, rs1, rs2, imm, csr⟩) := fun hv => by
            have h5 := HV.out.1 hv
            omega
          go_wp2
          go_ret
          exact ⟨⟨1, rfl, .inr ⟨rfl, HNV.out⟩⟩, HB0.out⟩
        · by_cases u2 : 31 < rs1
          · have HNV : Hid (¬ ValidK 82 ⟨op, rd, rs1, rs2, imm, csr⟩) := fun hv => by
              have h5 := HV.out.1 hv
              omega
            go_wp2
            go_ret
            exact ⟨⟨1, rfl, .inr ⟨rfl, HNV.out⟩⟩, HB0.out⟩
          · go_wp2
            go_round
            case rel => exact ⟨2, by omega, by go_num, fun _ => HF.out.1 (by omega), fun _ => ⟨by omega, by omega⟩, fun h => by omega, fun h => by omega⟩
            case measure => simp [intOf]
      · by_cases u1 : rs2 < 0
        · have HNV : Hid (¬ ValidK 82 ⟨op, rd, rs1, rs2, imm, csr⟩) := fun hv => by
            have h5 := HV.out.1 hv
            omega
          go_wp2
          go_ret
          exact ⟨⟨1, rfl, .inr ⟨rfl, HNV.out⟩⟩, HB0.out⟩
        · by_cases u2 : 31 < rs2
          · have HNV : Hid (¬ ValidK 82 ⟨op, rd, rs1, rs2, imm, csr⟩) := fun hv => by
              have h5 := HV.out.1 hv
              omega
            go_wp2
            go_ret
            exact ⟨⟨1, rfl, .inr ⟨rfl, HNV.out⟩⟩, HB0.out⟩
          · go_wp2
            go_round
            case rel => exact ⟨3, by omega, by go_num, fun _ => HF.out.1 (by omega), fun _ => HF.out.2.1 (by omega), fun _ => ⟨by omega, by omega⟩, fun h => by omega⟩
            case measure => simp [intOf]
      · by_cases u1 : csr < 0
        · have HNV : Hid (¬ ValidK 82 ⟨op, rd, rs1, rs2, imm, csr⟩) := fun hv => by
            have h5 := HV.out.1 hv
            omega
          go_wp2
          go_ret
          exact ⟨⟨1, rfl, .inr ⟨rfl, HNV.out⟩⟩, HB0.out⟩
        · by_cases u2 : 0 < csr
          · have HNV : Hid (¬ ValidK 82 ⟨op, rd, rs1, rs2, imm, csr⟩) := fun hv => by
              have h5 := HV.out.1 hv
              omega
            go_wp2
            go_ret
            exact ⟨⟨1, rfl, .inr ⟨rfl, HNV.out⟩⟩, HB0.out⟩
          · go_wp2
            go_round
            case rel => exact ⟨4, by omega, by go_num, fun _ => HF.out.1 (by omega), fun _ => HF.out.2.1 (by omega), fun _ => HF.out.2.2.1 (by omega), fun _ => ⟨by omega, by omega⟩⟩
            case measure => simp [intOf]
      · go_wp2
        go_ret
        refine ⟨⟨0, rfl, .inl ⟨rfl, HV.out.2 ?_⟩⟩, HB0.out⟩
        obtain ⟨x0, x1, x2, x3⟩ := HF.out
        have y0 := x0 (by omega)
        have y1 := x1 (by omega)
        have y2 := x2 (by omega)
        have y3 := x3 (by omega)
        have y4 := HQ.out
        omega
  · have HNV : Hid (¬ ValidK 82 ⟨op, rd, rs1, rs2, imm, csr⟩) := fun hv => by
      have h5 := (HV.out.1 hv).2.2.2.2
      omega
    by_cases q1 : imm < 0
    · clear himm htm
      go_enter Tryz.func27, Tryz.ntmps27
      go_wp2_with (first | (go_at_call 29; refine (HK.out _).mono ?_; rintro e w2 ⟨rfl, rfl⟩))
      go_ret
      exact ⟨⟨1, rfl, .inr ⟨rfl, HNV.out⟩⟩, (Below.refl _ _).alloc (Nat.le_refl _) _⟩
    · by_cases q2 : 0 < imm
      · clear himm htm
        go_enter Tryz.func27, Tryz.ntmps27
        go_wp2_with (first | (go_at_call 29; refine (HK.out _).mono ?_; rintro e w2 ⟨rfl, rfl⟩))
        go_ret
        exact ⟨⟨1, rfl, .inr ⟨rfl, HNV.out⟩⟩, (Below.refl _ _).alloc (Nat.le_refl _) _⟩
      · exact absurd (show _ ∧ _ ∧ _ from ⟨by omega, by omega, by omega⟩) himm

set_option maxHeartbeats 4000000 in
set_option maxRecDepth 100000 in
theorem rcheck_N (op : Nat) (hop : op < 57) (rd rs1 rs2 imm csr : Int) (hk : kindN op = 78) (w : World) :
    Calls Tryz.prog 27 #[.agg #[.int .i64 op, .int .i64 rd, .int .i64 rs1, .int .i64 rs2, .int .i64 imm, .int .i64 csr]] w fun e w' => (∃ r : Int, e = .returned (.int .i64 r) ∧ CheckAns 78 ⟨op, rd, rs1, rs2, imm, csr⟩ r) ∧ Below w.heap.size w w' := by
  have HK := hide (rkind_yes op hop)
  rw [hk] at HK
  clear hk
  have HV : Hid (ValidK 78 ⟨op, rd, rs1, rs2, imm, csr⟩ ↔ (rd = 0) ∧ (rs1 = 0) ∧ (rs2 = 0) ∧ (csr = 0) ∧ (imm = 0)) := Iff.rfl
  have htm := tmod_test imm 1 (by decide)
  by_cases himm : 0 ≤ imm ∧ imm ≤ 0 ∧ imm % 1 = 0
  · obtain ⟨q1, q2, q3⟩ := himm
    rw [show decide (imm % 1 = 0) = true from decide_eq_true q3] at htm
    have HQ := hide (And.intro q1 (And.intro q2 q3))
    clear q3
    go_enter Tryz.func27, Tryz.ntmps27
    go_wp2_with (first | (go_at_call 29; refine (HK.out _).mono ?_; rintro e w2 ⟨rfl, rfl⟩))
    obtain ⟨w0, hw0⟩ : ∃ w0, ((w.alloc (.cells #[.int .i64 op, .int .i64 rd, .int .i64 rs1, .int .i64 rs2, .int .i64 imm, .int .i64 csr] 23)).alloc (.cells #[.bool false, .bool false, .bool false, .bool false] 4)).alloc (.cells #[.int .i64 rd, .int .i64 rs1, .int .i64 rs2, .int .i64 csr] 3) = w0 := ⟨_, rfl⟩
    obtain ⟨hr1, hr2, hb0⟩ := three_new _ _ _ _ _ _ _ _ hw0
    rw [hw0]
    clear hw0
    have HB0 := hide hb0
    clear hb0
    have HR1 := hide hr1
    have HR2 := hide hr2
    clear hr1 hr2
    have g0 : w0.cell? ⟨w.heap.size + 1, 0, none⟩ = some (.bool false) := (cell_of_row _ _ _ _ _ (0, 0) HR1.out).trans rfl
    have g1 : w0.cell? ⟨w.heap.size + 1, 1, none⟩ = some (.bool false) := (cell_of_row _ _ _ _ _ (0, 0) HR1.out).trans rfl
    have g2 : w0.cell? ⟨w.heap.size + 1, 2, none⟩ = some (.bool false) := (cell_of_row _ _ _ _ _ (0, 0) HR1.out).trans rfl
    have g3 : w0.cell? ⟨w.heap.size + 1, 3, none⟩ = some (.bool false) := (cell_of_row _ _ _ _ _ (0, 0) HR1.out).trans rfl
    have l0 : w0.cell? ⟨w.heap.size + 1 + 1, 0, none⟩ = some (.int .i64 rd) := (cell_of_row _ _ _ _ _ (0, 0) HR2.out).trans rfl
    have l1 : w0.cell? ⟨w.heap.size + 1 + 1, 1, none⟩ = some (.int .i64 rs1) := (cell_of_row _ _ _ _ _ (0, 0) HR2.out).trans rfl
    have l2 : w0.cell? ⟨w.heap.size + 1 + 1, 2, none⟩ = some (.int .i64 rs2) := (cell_of_row _ _ _ _ _ (0, 0) HR2.out).trans rfl
    have l3 : w0.cell? ⟨w.heap.size + 1 + 1, 3, none⟩ = some (.int .i64 csr) := (cell_of_row _ _ _ _ _ (0, 0) HR2.out).trans rfl
    go_loop [9] (fun iv => ∃ n : Nat, n ≤ 4 ∧ iv = .int .i64 n ∧ Hid ((1 ≤ n → (0 ≤ rd ∧ rd ≤ 0)) ∧ (2 ≤ n → (0 ≤ rs1 ∧ rs1 ≤ 0)) ∧ (3 ≤ n → (0 ≤ rs2 ∧ rs2 ≤ 0)) ∧ (4 ≤ n → (0 ≤ csr ∧ csr ≤ 0)))) (fun iv => 4 - (intOf iv).toNat)
    case atStart => exact ⟨0, by omega, rfl, by refine ⟨?_, ?_, ?_, ?_⟩ <;> (intro h; omega)⟩
    case round =>
      obtain ⟨n, hn, rfl, HF⟩ := hrel
      obtain rfl | rfl | rfl | rfl | rfl : n = 0 ∨ n = 1 ∨ n = 2 ∨ n = 3 ∨ n = 4 := by omega
      · by_cases u1 : rd < 0
        · have HNV : Hid (¬ ValidK 78 ⟨op, rd, rs1, rs2, imm, csr⟩) := fun hv => by
            have h5 := HV.out.1 hv
            omega
          go_wp2
          go_ret
          exact ⟨⟨1, rfl, .inr ⟨rfl, HNV.out⟩⟩, HB0.out⟩
        · by_cases u2 : 0 < rd
          · have HNV : Hid (¬ ValidK 78 ⟨op, rd, rs1, rs2, imm, csr⟩) := fun hv => by
              have h5 := HV.out.1 hv
              omega
            go_wp2
            go_ret
            exact ⟨⟨1, rfl, .inr ⟨rfl, HNV.out⟩⟩, HB0.out⟩
          · go_wp2
            go_round
            case rel => exact ⟨1, by omega, by go_num, fun _ => ⟨by omega, by omega⟩, fun h => by omega, fun h => by omega, fun h => by omega⟩
            case measure => simp [intOf]
      · by_cases u1 : rs1 < 0
        · have HNV : Hid (¬ ValidK 78 ⟨op, rd, rs1, rs2, imm, csr⟩) := fun hv => by
            have h5 := HV.out.1 hv
            omega
          go_wp2
          go_ret
          exact ⟨⟨1, rfl, .inr ⟨rfl, HNV.out⟩⟩, HB0.out⟩
        · by_cases u2 : 0 < rs1
          · have HNV : Hid (¬ ValidK 78 ⟨op, rd, rs1, rs2, imm, csr⟩) := fun hv => by
              have h5 := HV.out.1 hv
              omega
            go_wp2
            go_ret
            exact ⟨⟨1, rfl, .inr ⟨rfl, HNV.out⟩⟩, HB0.out⟩
          · go_wp2
            go_round
            case rel => exact ⟨2, by omega, by go_num, fun _ => HF.out.1 (by omega), fun _ => ⟨by omega, by omega⟩, fun h => by omega, fun h => by omega⟩
            case measure => simp [intOf]
      · by_cases u1 : rs2 < 0
        · have HNV : Hid (¬ ValidK 78 ⟨op, rd, rs1, rs2, imm, csr⟩) := fun hv => by
            have h5 := HV.out.1 hv
            omega
          go_wp2
          go_ret
          exact ⟨⟨1, rfl, .inr ⟨rfl, HNV.out⟩⟩, HB0.out⟩
        · by_cases u2 : 0 < rs2
          · have HNV : Hid (¬ ValidK 78 ⟨op, rd, rs1, rs2, imm, csr⟩) := fun hv => by
              have h5 := HV.out.1 hv
              omega
            go_wp2
            go_ret
            exact ⟨⟨1, rfl, .inr ⟨rfl, HNV.out⟩⟩, HB0.out⟩
          · go_wp2
            go_round
            case rel => exact ⟨3, by omega, by go_num, fun _ => HF.out.1 (by omega), fun _ => HF.out.2.1 (by omega), fun _ => ⟨by omega, by omega⟩, fun h => by omega⟩
            case measure => simp [intOf]
      · by_cases u1 : csr < 0
        · have HNV : Hid (¬ ValidK 78 ⟨op, rd, rs1, rs2, imm, csr⟩) := fun hv => by
            have h5 := HV.out.1 hv
            omega
          go_wp2
          go_ret
          exact ⟨⟨1, rfl, .inr ⟨rfl, HNV.out⟩⟩, HB0.out⟩
        · by_cases u2 : 0 < csr
          · have HNV : Hid (¬ ValidK 78 ⟨op, rd, rs1, rs2, imm, csr⟩) := fun hv => by
              have h5 := HV.out.1 hv
              omega
            go_wp2
            go_ret
            exact ⟨⟨1, rfl, .inr ⟨rfl, HNV.out⟩⟩, HB0.out⟩
          · go_wp2
            go_round
            case rel => exact ⟨4, by omega, by go_num, fun _ => HF.out.1 (by omega), fun _ => HF.out.2.1 (by omega), fun _ => HF.out.2.2.1 (by omega), fun _ => ⟨by omega, by omega⟩⟩
            case measure => simp [intOf]
      · go_wp2
        go_ret
        refine ⟨⟨0, rfl, .inl ⟨rfl, HV.out.2 ?_⟩⟩, HB0.out⟩
        obtain ⟨x0, x1, x2, x3⟩ := HF.out
        have y0 := x0 (by omega)
        have y1 := x1 (by omega)
        have y2 := x2 (by omega)
        have y3 := x3 (by omega)
        have y4 := HQ.out
        omega
  · have HNV : Hid (¬ ValidK 78 ⟨op, rd, rs1, rs2, imm, csr⟩) := fun hv => by
      have h5 := (HV.out.1 hv).2.2.2.2
      omega
    by_cases q1 : imm < 0
    · clear himm htm
      go_enter Tryz.func27, Tryz.ntmps27
      go_wp2_with (first | (go_at_call 29; refine (HK.out _).mono ?_; rintro e w2 ⟨rfl, rfl⟩))
      go_ret
      exact ⟨⟨1, rfl, .inr ⟨rfl, HNV.out⟩⟩, (Below.refl _ _).alloc (Nat.le_refl _) _⟩
    · by_cases q2 : 0 < imm
      · clear himm htm
        go_enter Tryz.func27, Tryz.ntmps27
        go_wp2_with (first | (go_at_call 29; refine (HK.out _).mono ?_; rintro e w2 ⟨rfl, rfl⟩))
        go_ret
        exact ⟨⟨1, rfl, .inr ⟨rfl, HNV.out⟩⟩, (Below.refl _ _).alloc (Nat.le_refl _) _⟩
      · exact absurd (show _ ∧ _ ∧ _ from ⟨by omega, by omega, by omega⟩) himm
end Go.Proofs.YtoekcfbjdcibpaaGreatDoor
namespace Go.Proofs.YtoekcfbjdcibpaaGreatDoor
open Go.RowKit
set_option linter.unusedVariables false

theorem enc_valid (op : Nat) (hop : op < 57) (i : I6) (hi : i.op = op) (hv : ValidK (kindN op) i) : encN i = 0 ∧ encW i = laidK (kindN op) (wordN op) i := by
  have ht := (valid_ok op hop i hi hv).1
  have eo : i.op.toNat = op := by rw [hi]; rfl
  have ho : encOk i = true := by unfold encOk; rw [eo, ht, I6.same_self]; simp; omega
  unfold encN encW
  rw [ho, eo]
  exact ⟨rfl, rfl⟩
theorem enc_not (op : Nat) (hop : op < 57) (i : I6) (hi : i.op = op) (hv : ¬ ValidK (kindN op) i) : encN i = 1 ∧ encW i = 0 := by
  have eo : i.op.toNat = op := by rw [hi]; rfl
  have ho : encOk i = false := by
    unfold encOk
    rw [eo]
    have : ¬ toldN op (laidN op i) = i := fun h => hv (told_ok op hop i h)
    rw [I6.same_not this]; simp
  unfold encN encW
  rw [ho]
  exact ⟨rfl, rfl⟩
theorem enc_bad (i : I6) (h : ¬ (0 ≤ i.op ∧ i.op < 57)) : encN i = 1 ∧ encW i = 0 := by
  have ho : encOk i = false := by unfold encOk; simp [h]
  unfold encN encW
  rw [ho]
  exact ⟨rfl, rfl⟩

set_option maxHeartbeats 2000000 in
set_option maxRecDepth 100000 in
theorem rcheck_bad (i : I6) (h : i.op < 0 ∨ 56 < i.op) (w : World) :
    Calls Tryz.prog 27 #[.agg i.cells] w fun e w' => e = .returned (.int .i64 1) ∧ Below w.heap.size w w' := by
  have HK := hide (rkind_no i.op h)
  unfold I6.cells
  clear h
  go_enter Tryz.func27, Tryz.ntmps27
  go_wp2_with (first | (go_at_call 29; refine (HK.out _).mono ?_; rintro e w2 ⟨rfl, rfl⟩))
  go_ret
  exact ⟨rfl, (Below.refl _ _).alloc (Nat.le_refl _) _⟩

theorem rcheck_op (op : Nat) (hop : op < 57) (i : I6) (hi : i.op = op) (w : World) :
    Calls Tryz.prog 27 #[.agg i.cells] w fun e w' => (∃ r : Int, e = .returned (.int .i64 r) ∧ CheckAns (kindN op) i r) ∧ Below w.heap.size w w' := by
  obtain ⟨o, rd, rs1, rs2, imm, csr⟩ := i
  simp only at hi
  subst hi
  have hk := kindN_is op hop
  have key : ∀ k, kindN op = k → IsKind k → Calls Tryz.prog 27 #[.agg (I6.mk op rd rs1 rs2 imm csr).cells] w fun e w' => (∃ r : Int, e = .returned (.int .i64 r) ∧ CheckAns k (I6.mk op rd rs1 rs2 imm csr) r) ∧ Below w.heap.size w w' := by
    intro k e hk
    rcases hk with rfl | rfl | rfl | rfl | rfl | rfl | rfl | rfl | rfl | rfl | rfl
    · exact rcheck_U op hop rd rs1 rs2 imm csr e w
    · exact rcheck_J op hop rd rs1 rs2 imm csr e w
    · exact rcheck_I op hop rd rs1 rs2 imm csr e w
    · exact rcheck_L op hop rd rs1 rs2 imm csr e w
    · exact rcheck_F op hop rd rs1 rs2 imm csr e w
    · exact rcheck_C op hop rd rs1 rs2 imm csr e w
    · exact rcheck_B op hop rd rs1 rs2 imm csr e w
    · exact rcheck_S op hop rd rs1 rs2 imm csr e w
    · exact rcheck_H op hop rd rs1 rs2 imm csr e w
    · exact rcheck_R op hop rd rs1 rs2 imm csr e w
    · exact rcheck_N op hop rd rs1 rs2 imm csr e w
  exact key _ rfl hk

theorem rcheck_all (i : I6) (w : World) :
    Calls Tryz.prog 27 #[.agg i.cells] w fun e w' => e = .returned (.int .i64 (encN i)) ∧ Below w.heap.size w w' := by
  by_cases h : 0 ≤ i.op ∧ i.op < 57
  · obtain ⟨h1, h2⟩ := op_nat h
    refine (rcheck_op _ h1 i h2 w).mono ?_
    rintro e w' ⟨⟨r, rfl, hr⟩, hb⟩
    rcases hr with ⟨rfl, hv⟩ | ⟨rfl, hv⟩
    · rw [(enc_valid _ h1 i h2 hv).1]; exact ⟨rfl, hb⟩
    · rw [(enc_not _ h1 i h2 hv).1]; exact ⟨rfl, hb⟩
  · rw [(enc_bad i h).1]
    exact rcheck_bad i (by omega) w
end Go.Proofs.YtoekcfbjdcibpaaGreatDoor
