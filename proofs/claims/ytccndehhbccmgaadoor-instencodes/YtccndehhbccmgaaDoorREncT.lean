/-
  What the document's Encode answers, the forms whose number stands in one piece, or that have none.
-/
import Derived.Test.YtccndehhbccmgaaDoorREncB
import Derived.Test.YtccndehhbccmgaaDoorRCheckA
import Derived.Test.YtccndehhbccmgaaDoorRCheckB
import Derived.Test.YtccndehhbccmgaaDoorRCheckC
namespace Go.Proofs.YtccndehhbccmgaaDoor
open Go.RowKit
set_option linter.unusedVariables false

set_option maxHeartbeats 4000000 in
set_option maxRecDepth 100000 in
theorem renc_H (op : Nat) (hop : op < 57) (W : Nat) (hWe : wordN op = W) (hW : W = W % 128 + W / 4096 % 8 * 4096 + W / 33554432 * 33554432 ∧ W < 4294967296) (rd rs1 : Nat) (imm : Int) (hrd : rd < 32) (hrs1 : rs1 < 32) (himm : 0 ≤ imm ∧ imm ≤ 31) (hk : kindN op = 72) (w : World) :
    Calls Tryd.prog 14 #[.agg #[.int .i64 op, .int .i64 ((rd : Nat) : Int), .int .i64 ((rs1 : Nat) : Int), .int .i64 0, .int .i64 imm, .int .i64 0]] w fun e w' => e = .returned (.tuple #[.int .u32 (laidK 72 W ⟨op, ((rd : Nat) : Int), ((rs1 : Nat) : Int), 0, imm, 0⟩ : Nat), .int .i64 0]) ∧ Below w.heap.size w w' := by
  have HK := hide (rkind_yes op hop)
  rw [hk] at HK
  have HC : Hid (∀ w, Calls Tryd.prog 16 #[.agg #[.int .i64 op, .int .i64 ((rd : Nat) : Int), .int .i64 ((rs1 : Nat) : Int), .int .i64 0, .int .i64 imm, .int .i64 0]] w fun e w' => e = .returned (.int .i64 0) ∧ Below w.heap.size w w') := fun w => by
    refine (rcheck_H op hop ((rd : Nat) : Int) ((rs1 : Nat) : Int) 0 imm 0 hk w).mono ?_
    rintro e w' ⟨⟨r, rfl, hr⟩, hb⟩
    rcases hr with ⟨rfl, _⟩ | ⟨_, hn⟩
    · exact ⟨rfl, hb⟩
    · exact absurd (by simp [ValidK] <;> omega) hn
  clear hk
  have HP := hide (rplain_any op hop)
  rw [hWe] at HP
  have HW := hide hW
  have HL := hide (laid_H W hW op rd rs1 imm hrd hrs1)
  have HLT : Hid (W + rd * 128 + rs1 * 32768 + 32505856 < 4294967296) := by show _ < _; omega
  clear hWe hW
  go_enter Tryd.func14, Tryd.ntmps14
  go_wp2_with (fail)
  obtain ⟨w0, hw0⟩ : ∃ w0, w.alloc (.cells #[.int .i64 op, .int .i64 ((rd : Nat) : Int), .int .i64 ((rs1 : Nat) : Int), .int .i64 0, .int .i64 imm, .int .i64 0] 29) = w0 := ⟨_, rfl⟩
  have HN0 : Hid (SixAt w0 w.heap.size ⟨op, ((rd : Nat) : Int), ((rs1 : Nat) : Int), 0, imm, 0⟩ ∧ Below w.heap.size w w0 ∧ w0.heap.size = w.heap.size + 1) := by
    rw [← hw0]; exact ⟨SixAt.new w ⟨op, ((rd : Nat) : Int), ((rs1 : Nat) : Int), 0, imm, 0⟩ _, (Below.refl _ w).alloc (Nat.le_refl _) _, by simp⟩
  rw [hw0]
  clear hw0
  refine (HC.out _).mono ?_
  rintro e w2 ⟨rfl, hb2⟩
  replace hb2 : Below (w.heap.size + 1) w0 w2 := by rw [← HN0.out.2.2]; exact hb2
  obtain ⟨c0, c1, c2, c3, c4, c5⟩ := HN0.out.1.below hb2 (by omega)
  simp only at c0 c1 c2 c3 c4 c5
  go_wp2_with (first | (go_at_call 22; refine (HK.out _).mono ?_; rintro e w3 ⟨rfl, rfl⟩))
  have hof : Off w0 (w.heap.size + 1) w3 := ⟨hb2, HN0.out.2.2⟩
  have hofd := hof.drew
  go_region_held3 (fun w' => w'.cell? ⟨w.heap.size, 0, none⟩ = some (.int .i64 op) ∧ w'.cell? ⟨w.heap.size, 1, none⟩ = some (.int .i64 ((rd : Nat) : Int)) ∧ w'.cell? ⟨w.heap.size, 2, none⟩ = some (.int .i64 ((rs1 : Nat) : Int)) ∧ w'.cell? ⟨w.heap.size, 3, none⟩ = some (.int .i64 0) ∧ w'.cell? ⟨w.heap.size, 4, none⟩ = some (.int .i64 imm) ∧ w'.cell? ⟨w.heap.size, 5, none⟩ = some (.int .i64 0) ∧ Off w0 (w.heap.size + 1) w') (go_keep)
    (first | (go_at_call 26; refine (Calls.six (g := w.heap.size) (n := w.heap.size + 1) (w0 := w0) (c0 := .int .i64 op) (c1 := .int .i64 ((rd : Nat) : Int)) (c2 := .int .i64 ((rs1 : Nat) : Int)) (c3 := .int .i64 0) (c4 := .int .i64 imm) (c5 := .int .i64 0) (by omega) ?_ (HP.out _)).mono ?_; (simp [*]); rintro e w' ⟨rfl, e0, e1, e2, e3, e4, e5, hoff⟩))
  go_wp2
  go_ret2
  refine ⟨ret_enc ?_, HN0.out.2.1.trans (hoff.1.mono (by omega))⟩
  have hL := HL.out
  have hW := HW.out
  rw [hL]
  clear hL HL HW c0 c1 c2 c3 c4 c5 e0 e1 e2 e3 e4 e5
  have hu : u32N imm = (imm % 4294967296).toNat := rfl
  generalize u32N imm = u at *
  obtain ⟨m, rfl⟩ := Int.eq_ofNat_of_zero_le himm.1
  obtain rfl : u = m := by omega
  have hlt := HLT.out
  have h5 : u / 2 ^ 0 % 2 ^ 5 = u := by omega
  rw [h5]
  first | omega | (simp only [IntKind.wrap_u32']; omega)

set_option maxHeartbeats 4000000 in
set_option maxRecDepth 100000 in
theorem renc_C (op : Nat) (hop : op < 57) (W : Nat) (hWe : wordN op = W) (hW : W = W % 128 + W / 4096 % 8 * 4096) (rd rs1 csr : Nat) (hrd : rd < 32) (hrs1 : rs1 < 32) (hcsr : csr < 4096) (hk : kindN op = 67) (w : World) :
    Calls Tryd.prog 14 #[.agg #[.int .i64 op, .int .i64 ((rd : Nat) : Int), .int .i64 ((rs1 : Nat) : Int), .int .i64 0, .int .i64 0, .int .i64 ((csr : Nat) : Int)]] w fun e w' => e = .returned (.tuple #[.int .u32 (laidK 67 W ⟨op, ((rd : Nat) : Int), ((rs1 : Nat) : Int), 0, 0, ((csr : Nat) : Int)⟩ : Nat), .int .i64 0]) ∧ Below w.heap.size w w' := by
  have HK := hide (rkind_yes op hop)
  rw [hk] at HK
  have HC : Hid (∀ w, Calls Tryd.prog 16 #[.agg #[.int .i64 op, .int .i64 ((rd : Nat) : Int), .int .i64 ((rs1 : Nat) : Int), .int .i64 0, .int .i64 0, .int .i64 ((csr : Nat) : Int)]] w fun e w' => e = .returned (.int .i64 0) ∧ Below w.heap.size w w') := fun w => by
    refine (rcheck_C op hop ((rd : Nat) : Int) ((rs1 : Nat) : Int) 0 0 ((csr : Nat) : Int) hk w).mono ?_
    rintro e w' ⟨⟨r, rfl, hr⟩, hb⟩
    rcases hr with ⟨rfl, _⟩ | ⟨_, hn⟩
    · exact ⟨rfl, hb⟩
    · exact absurd (by simp [ValidK] <;> omega) hn
  clear hk
  have HP := hide (rplain_any op hop)
  rw [hWe] at HP
  have HW := hide hW
  have HL := hide (laid_C W hW op rd rs1 csr hrd hrs1 hcsr)
  clear hWe hW
  go_enter Tryd.func14, Tryd.ntmps14
  go_wp2_with (fail)
  obtain ⟨w0, hw0⟩ : ∃ w0, w.alloc (.cells #[.int .i64 op, .int .i64 ((rd : Nat) : Int), .int .i64 ((rs1 : Nat) : Int), .int .i64 0, .int .i64 0, .int .i64 ((csr : Nat) : Int)] 29) = w0 := ⟨_, rfl⟩
  have HN0 : Hid (SixAt w0 w.heap.size ⟨op, ((rd : Nat) : Int), ((rs1 : Nat) : Int), 0, 0, ((csr : Nat) : Int)⟩ ∧ Below w.heap.size w w0 ∧ w0.heap.size = w.heap.size + 1) := by
    rw [← hw0]; exact ⟨SixAt.new w ⟨op, ((rd : Nat) : Int), ((rs1 : Nat) : Int), 0, 0, ((csr : Nat) : Int)⟩ _, (Below.refl _ w).alloc (Nat.le_refl _) _, by simp⟩
  rw [hw0]
  clear hw0
  refine (HC.out _).mono ?_
  rintro e w2 ⟨rfl, hb2⟩
  replace hb2 : Below (w.heap.size + 1) w0 w2 := by rw [← HN0.out.2.2]; exact hb2
  obtain ⟨c0, c1, c2, c3, c4, c5⟩ := HN0.out.1.below hb2 (by omega)
  simp only at c0 c1 c2 c3 c4 c5
  go_wp2_with (first | (go_at_call 22; refine (HK.out _).mono ?_; rintro e w3 ⟨rfl, rfl⟩))
  have hof : Off w0 (w.heap.size + 1) w3 := ⟨hb2, HN0.out.2.2⟩
  have hofd := hof.drew
  go_region_held3 (fun w' => w'.cell? ⟨w.heap.size, 0, none⟩ = some (.int .i64 op) ∧ w'.cell? ⟨w.heap.size, 1, none⟩ = some (.int .i64 ((rd : Nat) : Int)) ∧ w'.cell? ⟨w.heap.size, 2, none⟩ = some (.int .i64 ((rs1 : Nat) : Int)) ∧ w'.cell? ⟨w.heap.size, 3, none⟩ = some (.int .i64 0) ∧ w'.cell? ⟨w.heap.size, 4, none⟩ = some (.int .i64 0) ∧ w'.cell? ⟨w.heap.size, 5, none⟩ = some (.int .i64 ((csr : Nat) : Int)) ∧ Off w0 (w.heap.size + 1) w') (go_keep)
    (first | (go_at_call 26; refine (Calls.six (g := w.heap.size) (n := w.heap.size + 1) (w0 := w0) (c0 := .int .i64 op) (c1 := .int .i64 ((rd : Nat) : Int)) (c2 := .int .i64 ((rs1 : Nat) : Int)) (c3 := .int .i64 0) (c4 := .int .i64 0) (c5 := .int .i64 ((csr : Nat) : Int)) (by omega) ?_ (HP.out _)).mono ?_; (simp [*]); rintro e w' ⟨rfl, e0, e1, e2, e3, e4, e5, hoff⟩))
  go_wp2
  go_loop [5, 9] (fun vv iv => iv = .int .i64 0 ∧ vv = .int .u32 (laidK 67 W ⟨op, ((rd : Nat) : Int), ((rs1 : Nat) : Int), 0, 0, ((csr : Nat) : Int)⟩ : Nat)) (fun _ _ => 0)
  case atStart =>
    refine ⟨rfl, congrArg (Value.int .u32) ?_⟩
    have hL := HL.out
    have hW := HW.out
    rw [hL]
    clear hL HL HW c0 c1 c2 c3 c4 c5 e0 e1 e2 e3 e4 e5
    first | omega | (simp only [IntKind.wrap_u32']; omega)
  case round =>
    obtain ⟨rfl, rfl⟩ := hrel
    go_wp2
    go_ret2
    exact ⟨rfl, HN0.out.2.1.trans (hoff.1.mono (by omega))⟩

set_option maxHeartbeats 4000000 in
set_option maxRecDepth 100000 in
theorem renc_R (op : Nat) (hop : op < 57) (W : Nat) (hWe : wordN op = W) (hW : W = W % 128 + W / 4096 % 8 * 4096 + W / 33554432 * 33554432 ∧ W < 4294967296) (rd rs1 rs2 : Nat) (hrd : rd < 32) (hrs1 : rs1 < 32) (hrs2 : rs2 < 32) (hk : kindN op = 82) (w : World) :
    Calls Tryd.prog 14 #[.agg #[.int .i64 op, .int .i64 ((rd : Nat) : Int), .int .i64 ((rs1 : Nat) : Int), .int .i64 ((rs2 : Nat) : Int), .int .i64 0, .int .i64 0]] w fun e w' => e = .returned (.tuple #[.int .u32 (laidK 82 W ⟨op, ((rd : Nat) : Int), ((rs1 : Nat) : Int), ((rs2 : Nat) : Int), 0, 0⟩ : Nat), .int .i64 0]) ∧ Below w.heap.size w w' := by
  have HK := hide (rkind_yes op hop)
  rw [hk] at HK
  have HC : Hid (∀ w, Calls Tryd.prog 16 #[.agg #[.int .i64 op, .int .i64 ((rd : Nat) : Int), .int .i64 ((rs1 : Nat) : Int), .int .i64 ((rs2 : Nat) : Int), .int .i64 0, .int .i64 0]] w fun e w' => e = .returned (.int .i64 0) ∧ Below w.heap.size w w') := fun w => by
    refine (rcheck_R op hop ((rd : Nat) : Int) ((rs1 : Nat) : Int) ((rs2 : Nat) : Int) 0 0 hk w).mono ?_
    rintro e w' ⟨⟨r, rfl, hr⟩, hb⟩
    rcases hr with ⟨rfl, _⟩ | ⟨_, hn⟩
    · exact ⟨rfl, hb⟩
    · exact absurd (by simp [ValidK] <;> omega) hn
  clear hk
  have HP := hide (rplain_any op hop)
  rw [hWe] at HP
  have HW := hide hW
  have HL := hide (laid_R W hW op rd rs1 rs2 hrd hrs1 hrs2)
  clear hWe hW
  go_enter Tryd.func14, Tryd.ntmps14
  go_wp2_with (fail)
  obtain ⟨w0, hw0⟩ : ∃ w0, w.alloc (.cells #[.int .i64 op, .int .i64 ((rd : Nat) : Int), .int .i64 ((rs1 : Nat) : Int), .int .i64 ((rs2 : Nat) : Int), .int .i64 0, .int .i64 0] 29) = w0 := ⟨_, rfl⟩
  have HN0 : Hid (SixAt w0 w.heap.size ⟨op, ((rd : Nat) : Int), ((rs1 : Nat) : Int), ((rs2 : Nat) : Int), 0, 0⟩ ∧ Below w.heap.size w w0 ∧ w0.heap.size = w.heap.size + 1) := by
    rw [← hw0]; exact ⟨SixAt.new w ⟨op, ((rd : Nat) : Int), ((rs1 : Nat) : Int), ((rs2 : Nat) : Int), 0, 0⟩ _, (Below.refl _ w).alloc (Nat.le_refl _) _, by simp⟩
  rw [hw0]
  clear hw0
  refine (HC.out _).mono ?_
  rintro e w2 ⟨rfl, hb2⟩
  replace hb2 : Below (w.heap.size + 1) w0 w2 := by rw [← HN0.out.2.2]; exact hb2
  obtain ⟨c0, c1, c2, c3, c4, c5⟩ := HN0.out.1.below hb2 (by omega)
  simp only at c0 c1 c2 c3 c4 c5
  go_wp2_with (first | (go_at_call 22; refine (HK.out _).mono ?_; rintro e w3 ⟨rfl, rfl⟩))
  have hof : Off w0 (w.heap.size + 1) w3 := ⟨hb2, HN0.out.2.2⟩
  have hofd := hof.drew
  go_region_held3 (fun w' => w'.cell? ⟨w.heap.size, 0, none⟩ = some (.int .i64 op) ∧ w'.cell? ⟨w.heap.size, 1, none⟩ = some (.int .i64 ((rd : Nat) : Int)) ∧ w'.cell? ⟨w.heap.size, 2, none⟩ = some (.int .i64 ((rs1 : Nat) : Int)) ∧ w'.cell? ⟨w.heap.size, 3, none⟩ = some (.int .i64 ((rs2 : Nat) : Int)) ∧ w'.cell? ⟨w.heap.size, 4, none⟩ = some (.int .i64 0) ∧ w'.cell? ⟨w.heap.size, 5, none⟩ = some (.int .i64 0) ∧ Off w0 (w.heap.size + 1) w') (go_keep)
    (first | (go_at_call 26; refine (Calls.six (g := w.heap.size) (n := w.heap.size + 1) (w0 := w0) (c0 := .int .i64 op) (c1 := .int .i64 ((rd : Nat) : Int)) (c2 := .int .i64 ((rs1 : Nat) : Int)) (c3 := .int .i64 ((rs2 : Nat) : Int)) (c4 := .int .i64 0) (c5 := .int .i64 0) (by omega) ?_ (HP.out _)).mono ?_; (simp [*]); rintro e w' ⟨rfl, e0, e1, e2, e3, e4, e5, hoff⟩))
  go_wp2
  go_loop [5, 9] (fun vv iv => iv = .int .i64 0 ∧ vv = .int .u32 (laidK 82 W ⟨op, ((rd : Nat) : Int), ((rs1 : Nat) : Int), ((rs2 : Nat) : Int), 0, 0⟩ : Nat)) (fun _ _ => 0)
  case atStart =>
    refine ⟨rfl, congrArg (Value.int .u32) ?_⟩
    have hL := HL.out
    have hW := HW.out
    rw [hL]
    clear hL HL HW c0 c1 c2 c3 c4 c5 e0 e1 e2 e3 e4 e5
    first | omega | (simp only [IntKind.wrap_u32']; omega)
  case round =>
    obtain ⟨rfl, rfl⟩ := hrel
    go_wp2
    go_ret2
    exact ⟨rfl, HN0.out.2.1.trans (hoff.1.mono (by omega))⟩

set_option maxHeartbeats 4000000 in
set_option maxRecDepth 100000 in
theorem renc_N (op : Nat) (hop : op < 57) (W : Nat) (hWe : wordN op = W) (hW : W < 4294967296)  (hk : kindN op = 78) (w : World) :
    Calls Tryd.prog 14 #[.agg #[.int .i64 op, .int .i64 0, .int .i64 0, .int .i64 0, .int .i64 0, .int .i64 0]] w fun e w' => e = .returned (.tuple #[.int .u32 (laidK 78 W ⟨op, 0, 0, 0, 0, 0⟩ : Nat), .int .i64 0]) ∧ Below w.heap.size w w' := by
  have HK := hide (rkind_yes op hop)
  rw [hk] at HK
  have HC : Hid (∀ w, Calls Tryd.prog 16 #[.agg #[.int .i64 op, .int .i64 0, .int .i64 0, .int .i64 0, .int .i64 0, .int .i64 0]] w fun e w' => e = .returned (.int .i64 0) ∧ Below w.heap.size w w') := fun w => by
    refine (rcheck_N op hop 0 0 0 0 0 hk w).mono ?_
    rintro e w' ⟨⟨r, rfl, hr⟩, hb⟩
    rcases hr with ⟨rfl, _⟩ | ⟨_, hn⟩
    · exact ⟨rfl, hb⟩
    · exact absurd (by simp [ValidK] <;> omega) hn
  clear hk
  have HP := hide (rplain_any op hop)
  rw [hWe] at HP
  have HW := hide hW
  have HL := hide (laid_N W hW op)
  clear hWe hW
  go_enter Tryd.func14, Tryd.ntmps14
  go_wp2_with (fail)
  obtain ⟨w0, hw0⟩ : ∃ w0, w.alloc (.cells #[.int .i64 op, .int .i64 0, .int .i64 0, .int .i64 0, .int .i64 0, .int .i64 0] 29) = w0 := ⟨_, rfl⟩
  have HN0 : Hid (SixAt w0 w.heap.size ⟨op, 0, 0, 0, 0, 0⟩ ∧ Below w.heap.size w w0 ∧ w0.heap.size = w.heap.size + 1) := by
    rw [← hw0]; exact ⟨SixAt.new w ⟨op, 0, 0, 0, 0, 0⟩ _, (Below.refl _ w).alloc (Nat.le_refl _) _, by simp⟩
  rw [hw0]
  clear hw0
  refine (HC.out _).mono ?_
  rintro e w2 ⟨rfl, hb2⟩
  replace hb2 : Below (w.heap.size + 1) w0 w2 := by rw [← HN0.out.2.2]; exact hb2
  obtain ⟨c0, c1, c2, c3, c4, c5⟩ := HN0.out.1.below hb2 (by omega)
  simp only at c0 c1 c2 c3 c4 c5
  go_wp2_with (first | (go_at_call 22; refine (HK.out _).mono ?_; rintro e w3 ⟨rfl, rfl⟩))
  have hof : Off w0 (w.heap.size + 1) w3 := ⟨hb2, HN0.out.2.2⟩
  have hofd := hof.drew
  go_region_held3 (fun w' => w'.cell? ⟨w.heap.size, 0, none⟩ = some (.int .i64 op) ∧ w'.cell? ⟨w.heap.size, 1, none⟩ = some (.int .i64 0) ∧ w'.cell? ⟨w.heap.size, 2, none⟩ = some (.int .i64 0) ∧ w'.cell? ⟨w.heap.size, 3, none⟩ = some (.int .i64 0) ∧ w'.cell? ⟨w.heap.size, 4, none⟩ = some (.int .i64 0) ∧ w'.cell? ⟨w.heap.size, 5, none⟩ = some (.int .i64 0) ∧ Off w0 (w.heap.size + 1) w') (go_keep)
    (first | (go_at_call 26; refine (Calls.six (g := w.heap.size) (n := w.heap.size + 1) (w0 := w0) (c0 := .int .i64 op) (c1 := .int .i64 0) (c2 := .int .i64 0) (c3 := .int .i64 0) (c4 := .int .i64 0) (c5 := .int .i64 0) (by omega) ?_ (HP.out _)).mono ?_; (simp [*]); rintro e w' ⟨rfl, e0, e1, e2, e3, e4, e5, hoff⟩))
  go_wp2
  go_loop [5, 9] (fun vv iv => iv = .int .i64 0 ∧ vv = .int .u32 (laidK 78 W ⟨op, 0, 0, 0, 0, 0⟩ : Nat)) (fun _ _ => 0)
  case atStart =>
    refine ⟨rfl, congrArg (Value.int .u32) ?_⟩
    have hL := HL.out
    have hW := HW.out
    rw [hL]
    clear hL HL HW c0 c1 c2 c3 c4 c5 e0 e1 e2 e3 e4 e5
    first | omega | (simp only [IntKind.wrap_u32']; omega)
  case round =>
    obtain ⟨rfl, rfl⟩ := hrel
    go_wp2
    go_ret2
    exact ⟨rfl, HN0.out.2.1.trans (hoff.1.mono (by omega))⟩
end Go.Proofs.YtccndehhbccmgaaDoor
