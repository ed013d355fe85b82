/-
  What the document's Encode answers, the forms whose number stands in one piece, or that have none.
-/
import Derived.Test.YtccndehhbccmgaaDoorREncB
import Derived.Test.YtccndehhbccmgaaDoorRCheckA
import Derived.Test.YtccndehhbccmgaaDoorRCheckB
import Derived.Test.YtccndehhbccmgaaDoorRCheckC
namespace Go.Proofs.YtccndehhbccmgaaDoor
open Go.RowKit
set_option linter.unusedVariables false

set_option maxHeartbeats 4000000 in
set_option maxRecDepth 100000 in
theorem renc_U (op : Nat) (hop : op < 57) (W : Nat) (hWe : wordN op = W) (hW : W < 128) (rd : Nat) (imm : Int) (hrd : rd < 32) (himm : -2147483648 ≤ imm ∧ imm ≤ 2147483647 ∧ imm % 4096 = 0) (hk : kindN op = 85) (w : World) :
    Calls Tryd.prog 14 #[.agg #[.int .i64 op, .int .i64 ((rd : Nat) : Int), .int .i64 0, .int .i64 0, .int .i64 imm, .int .i64 0]] w fun e w' => e = .returned (.tuple #[.int .u32 (laidK 85 W ⟨op, ((rd : Nat) : Int), 0, 0, imm, 0⟩ : Nat), .int .i64 0]) ∧ Below w.heap.size w w' := by
  have HK := hide (rkind_yes op hop)
  rw [hk] at HK
  have HC : Hid (∀ w, Calls Tryd.prog 16 #[.agg #[.int .i64 op, .int .i64 ((rd : Nat) : Int), .int .i64 0, .int .i64 0, .int .i64 imm, .int .i64 0]] w fun e w' => e = .returned (.int .i64 0) ∧ Below w.heap.size w w') := fun w => by
    refine (rcheck_U op hop ((rd : Nat) : Int) 0 0 imm 0 hk w).mono ?_
    rintro e w' ⟨⟨r, rfl, hr⟩, hb⟩
    rcases hr with ⟨rfl, _⟩ | ⟨_, hn⟩
    · exact ⟨rfl, hb⟩
    · exact absurd (by simp [ValidK] <;> omega) hn
  clear hk
  have HP := hide (rplain_any op hop)
  rw [hWe] at HP
  have HW := hide hW
  have HL := hide (laid_U W hW op rd imm hrd)
  clear hWe hW
  go_enter Tryd.func14, Tryd.ntmps14
  go_wp2_with (fail)
  obtain ⟨w0, hw0⟩ : ∃ w0, w.alloc (.cells #[.int .i64 op, .int .i64 ((rd : Nat) : Int), .int .i64 0, .int .i64 0, .int .i64 imm, .int .i64 0] 29) = w0 := ⟨_, rfl⟩
  have HN0 : Hid (SixAt w0 w.heap.size ⟨op, ((rd : Nat) : Int), 0, 0, imm, 0⟩ ∧ Below w.heap.size w w0 ∧ w0.heap.size = w.heap.size + 1) := by
    rw [← hw0]; exact ⟨SixAt.new w ⟨op, ((rd : Nat) : Int), 0, 0, imm, 0⟩ _, (Below.refl _ w).alloc (Nat.le_refl _) _, by simp⟩
  rw [hw0]
  clear hw0
  refine (HC.out _).mono ?_
  rintro e w2 ⟨rfl, hb2⟩
  replace hb2 : Below (w.heap.size + 1) w0 w2 := by rw [← HN0.out.2.2]; exact hb2
  obtain ⟨c0, c1, c2, c3, c4, c5⟩ := HN0.out.1.below hb2 (by omega)
  simp only at c0 c1 c2 c3 c4 c5
  go_wp2_with (first | (go_at_call 22; refine (HK.out _).mono ?_; rintro e w3 ⟨rfl, rfl⟩))
  have hof : Off w0 (w.heap.size + 1) w3 := ⟨hb2, HN0.out.2.2⟩
  have hofd := hof.drew
  go_region_held3 (fun w' => w'.cell? ⟨w.heap.size, 0, none⟩ = some (.int .i64 op) ∧ w'.cell? ⟨w.heap.size, 1, none⟩ = some (.int .i64 ((rd : Nat) : Int)) ∧ w'.cell? ⟨w.heap.size, 2, none⟩ = some (.int .i64 0) ∧ w'.cell? ⟨w.heap.size, 3, none⟩ = some (.int .i64 0) ∧ w'.cell? ⟨w.heap.size, 4, none⟩ = some (.int .i64 imm) ∧ w'.cell? ⟨w.heap.size, 5, none⟩ = some (.int .i64 0) ∧ Off w0 (w.heap.size + 1) w') (go_keep)
    (first | (go_at_call 26; refine (Calls.six (g := w.heap.size) (n := w.heap.size + 1) (w0 := w0) (c0 := .int .i64 op) (c1 := .int .i64 ((rd : Nat) : Int)) (c2 := .int .i64 0) (c3 := .int .i64 0) (c4 := .int .i64 imm) (c5 := .int .i64 0) (by omega) ?_ (HP.out _)).mono ?_; (simp [*]); rintro e w' ⟨rfl, e0, e1, e2, e3, e4, e5, hoff⟩))
  go_wp2
  go_ret2
  refine ⟨ret_enc ?_, HN0.out.2.1.trans (hoff.1.mono (by omega))⟩
  have hL := HL.out
  have hW := HW.out
  rw [hL]
  clear hL HL HW c0 c1 c2 c3 c4 c5 e0 e1 e2 e3 e4 e5
  have hu : u32N imm = (imm % 4294967296).toNat := rfl
  generalize u32N imm = u at *
  first | omega | (simp only [IntKind.wrap_u32']; omega)

set_option maxHeartbeats 4000000 in
set_option maxRecDepth 100000 in
theorem renc_I (op : Nat) (hop : op < 57) (W : Nat) (hWe : wordN op = W) (hW : W = W % 128 + W / 4096 % 8 * 4096) (rd rs1 : Nat) (imm : Int) (hrd : rd < 32) (hrs1 : rs1 < 32) (himm : -2048 ≤ imm ∧ imm ≤ 2047) (hk : kindN op = 73) (w : World) :
    Calls Tryd.prog 14 #[.agg #[.int .i64 op, .int .i64 ((rd : Nat) : Int), .int .i64 ((rs1 : Nat) : Int), .int .i64 0, .int .i64 imm, .int .i64 0]] w fun e w' => e = .returned (.tuple #[.int .u32 (laidK 73 W ⟨op, ((rd : Nat) : Int), ((rs1 : Nat) : Int), 0, imm, 0⟩ : Nat), .int .i64 0]) ∧ Below w.heap.size w w' := by
  have HK := hide (rkind_yes op hop)
  rw [hk] at HK
  have HC : Hid (∀ w, Calls Tryd.prog 16 #[.agg #[.int .i64 op, .int .i64 ((rd : Nat) : Int), .int .i64 ((rs1 : Nat) : Int), .int .i64 0, .int .i64 imm, .int .i64 0]] w fun e w' => e = .returned (.int .i64 0) ∧ Below w.heap.size w w') := fun w => by
    refine (rcheck_I op hop ((rd : Nat) : Int) ((rs1 : Nat) : Int) 0 imm 0 hk w).mono ?_
    rintro e w' ⟨⟨r, rfl, hr⟩, hb⟩
    rcases hr with ⟨rfl, _⟩ | ⟨_, hn⟩
    · exact ⟨rfl, hb⟩
    · exact absurd (by simp [ValidK] <;> omega) hn
  clear hk
  have HP := hide (rplain_any op hop)
  rw [hWe] at HP
  have HW := hide hW
  have HL := hide (laid_I 73 (by decide) W hW op rd rs1 imm hrd hrs1)
  clear hWe hW
  go_enter Tryd.func14, Tryd.ntmps14
  go_wp2_with (fail)
  obtain ⟨w0, hw0⟩ : ∃ w0, w.alloc (.cells #[.int .i64 op, .int .i64 ((rd : Nat) : Int), .int .i64 ((rs1 : Nat) : Int), .int .i64 0, .int .i64 imm, .int .i64 0] 29) = w0 := ⟨_, rfl⟩
  have HN0 : Hid (SixAt w0 w.heap.size ⟨op, ((rd : Nat) : Int), ((rs1 : Nat) : Int), 0, imm, 0⟩ ∧ Below w.heap.size w w0 ∧ w0.heap.size = w.heap.size + 1) := by
    rw [← hw0]; exact ⟨SixAt.new w ⟨op, ((rd : Nat) : Int), ((rs1 : Nat) : Int), 0, imm, 0⟩ _, (Below.refl _ w).alloc (Nat.le_refl _) _, by simp⟩
  rw [hw0]
  clear hw0
  refine (HC.out _).mono ?_
  rintro e w2 ⟨rfl, hb2⟩
  replace hb2 : Below (w.heap.size + 1) w0 w2 := by rw [← HN0.out.2.2]; exact hb2
  obtain ⟨c0, c1, c2, c3, c4, c5⟩ := HN0.out.1.below hb2 (by omega)
  simp only at c0 c1 c2 c3 c4 c5
  go_wp2_with (first | (go_at_call 22; refine (HK.out _).mono ?_; rintro e w3 ⟨rfl, rfl⟩))
  have hof : Off w0 (w.heap.size + 1) w3 := ⟨hb2, HN0.out.2.2⟩
  have hofd := hof.drew
  go_region_held3 (fun w' => w'.cell? ⟨w.heap.size, 0, none⟩ = some (.int .i64 op) ∧ w'.cell? ⟨w.heap.size, 1, none⟩ = some (.int .i64 ((rd : Nat) : Int)) ∧ w'.cell? ⟨w.heap.size, 2, none⟩ = some (.int .i64 ((rs1 : Nat) : Int)) ∧ w'.cell? ⟨w.heap.size, 3, none⟩ = some (.int .i64 0) ∧ w'.cell? ⟨w.heap.size, 4, none⟩ = some (.int .i64 imm) ∧ w'.cell? ⟨w.heap.size, 5, none⟩ = some (.int .i64 0) ∧ Off w0 (w.heap.size + 1) w') (go_keep)
    (first | (go_at_call 26; refine (Calls.six (g := w.heap.size) (n := w.heap.size + 1) (w0 := w0) (c0 := .int .i64 op) (c1 := .int .i64 ((rd : Nat) : Int)) (c2 := .int .i64 ((rs1 : Nat) : Int)) (c3 := .int .i64 0) (c4 := .int .i64 imm) (c5 := .int .i64 0) (by omega) ?_ (HP.out _)).mono ?_; (simp [*]); rintro e w' ⟨rfl, e0, e1, e2, e3, e4, e5, hoff⟩))
  go_wp2
  go_ret2
  refine ⟨ret_enc ?_, HN0.out.2.1.trans (hoff.1.mono (by omega))⟩
  have hL := HL.out
  have hW := HW.out
  rw [hL]
  clear hL HL HW c0 c1 c2 c3 c4 c5 e0 e1 e2 e3 e4 e5
  have hu : u32N imm = (imm % 4294967296).toNat := rfl
  generalize u32N imm = u at *
  first | omega | (simp only [IntKind.wrap_u32']; omega)

set_option maxHeartbeats 4000000 in
set_option maxRecDepth 100000 in
theorem renc_L (op : Nat) (hop : op < 57) (W : Nat) (hWe : wordN op = W) (hW : W = W % 128 + W / 4096 % 8 * 4096) (rd rs1 : Nat) (imm : Int) (hrd : rd < 32) (hrs1 : rs1 < 32) (himm : -2048 ≤ imm ∧ imm ≤ 2047) (hk : kindN op = 76) (w : World) :
    Calls Tryd.prog 14 #[.agg #[.int .i64 op, .int .i64 ((rd : Nat) : Int), .int .i64 ((rs1 : Nat) : Int), .int .i64 0, .int .i64 imm, .int .i64 0]] w fun e w' => e = .returned (.tuple #[.int .u32 (laidK 76 W ⟨op, ((rd : Nat) : Int), ((rs1 : Nat) : Int), 0, imm, 0⟩ : Nat), .int .i64 0]) ∧ Below w.heap.size w w' := by
  have HK := hide (rkind_yes op hop)
  rw [hk] at HK
  have HC : Hid (∀ w, Calls Tryd.prog 16 #[.agg #[.int .i64 op, .int .i64 ((rd : Nat) : Int), .int .i64 ((rs1 : Nat) : Int), .int .i64 0, .int .i64 imm, .int .i64 0]] w fun e w' => e = .returned (.int .i64 0) ∧ Below w.heap.size w w') := fun w => by
    refine (rcheck_L op hop ((rd : Nat) : Int) ((rs1 : Nat) : Int) 0 imm 0 hk w).mono ?_
    rintro e w' ⟨⟨r, rfl, hr⟩, hb⟩
    rcases hr with ⟨rfl, _⟩ | ⟨_, hn⟩
    · exact ⟨rfl, hb⟩
    · exact absurd (by simp [ValidK] <;> omega) hn
  clear hk
  have HP := hide (rplain_any op hop)
  rw [hWe] at HP
  have HW := hide hW
  have HL := hide (laid_I 76 (by decide) W hW op rd rs1 imm hrd hrs1)
  clear hWe hW
  go_enter Tryd.func14, Tryd.ntmps14
  go_wp2_with (fail)
  obtain ⟨w0, hw0⟩ : ∃ w0, w.alloc (.cells #[.int .i64 op, .int .i64 ((rd : Nat) : Int), .int .i64 ((rs1 : Nat) : Int), .int .i64 0, .int .i64 imm, .int .i64 0] 29) = w0 := ⟨_, rfl⟩
  have HN0 : Hid (SixAt w0 w.heap.size ⟨op, ((rd : Nat) : Int), ((rs1 : Nat) : Int), 0, imm, 0⟩ ∧ Below w.heap.size w w0 ∧ w0.heap.size = w.heap.size + 1) := by
    rw [← hw0]; exact ⟨SixAt.new w ⟨op, ((rd : Nat) : Int), ((rs1 : Nat) : Int), 0, imm, 0⟩ _, (Below.refl _ w).alloc (Nat.le_refl _) _, by simp⟩
  rw [hw0]
  clear hw0
  refine (HC.out _).mono ?_
  rintro e w2 ⟨rfl, hb2⟩
  replace hb2 : Below (w.heap.size + 1) w0 w2 := by rw [← HN0.out.2.2]; exact hb2
  obtain ⟨c0, c1, c2, c3, c4, c5⟩ := HN0.out.1.below hb2 (by omega)
  simp only at c0 c1 c2 c3 c4 c5
  go_wp2_with (first | (go_at_call 22; refine (HK.out _).mono ?_; rintro e w3 ⟨rfl, rfl⟩))
  have hof : Off w0 (w.heap.size + 1) w3 := ⟨hb2, HN0.out.2.2⟩
  have hofd := hof.drew
  go_region_held3 (fun w' => w'.cell? ⟨w.heap.size, 0, none⟩ = some (.int .i64 op) ∧ w'.cell? ⟨w.heap.size, 1, none⟩ = some (.int .i64 ((rd : Nat) : Int)) ∧ w'.cell? ⟨w.heap.size, 2, none⟩ = some (.int .i64 ((rs1 : Nat) : Int)) ∧ w'.cell? ⟨w.heap.size, 3, none⟩ = some (.int .i64 0) ∧ w'.cell? ⟨w.heap.size, 4, none⟩ = some (.int .i64 imm) ∧ w'.cell? ⟨w.heap.size, 5, none⟩ = some (.int .i64 0) ∧ Off w0 (w.heap.size + 1) w') (go_keep)
    (first | (go_at_call 26; refine (Calls.six (g := w.heap.size) (n := w.heap.size + 1) (w0 := w0) (c0 := .int .i64 op) (c1 := .int .i64 ((rd : Nat) : Int)) (c2 := .int .i64 ((rs1 : Nat) : Int)) (c3 := .int .i64 0) (c4 := .int .i64 imm) (c5 := .int .i64 0) (by omega) ?_ (HP.out _)).mono ?_; (simp [*]); rintro e w' ⟨rfl, e0, e1, e2, e3, e4, e5, hoff⟩))
  go_wp2
  go_ret2
  refine ⟨ret_enc ?_, HN0.out.2.1.trans (hoff.1.mono (by omega))⟩
  have hL := HL.out
  have hW := HW.out
  rw [hL]
  clear hL HL HW c0 c1 c2 c3 c4 c5 e0 e1 e2 e3 e4 e5
  have hu : u32N imm = (imm % 4294967296).toNat := rfl
  generalize u32N imm = u at *
  first | omega | (simp only [IntKind.wrap_u32']; omega)

set_option maxHeartbeats 4000000 in
set_option maxRecDepth 100000 in
theorem renc_F (op : Nat) (hop : op < 57) (W : Nat) (hWe : wordN op = W) (hW : W = W % 128 + W / 4096 % 8 * 4096) (rd rs1 : Nat) (imm : Int) (hrd : rd < 32) (hrs1 : rs1 < 32) (himm : -2048 ≤ imm ∧ imm ≤ 2047) (hk : kindN op = 70) (w : World) :
    Calls Tryd.prog 14 #[.agg #[.int .i64 op, .int .i64 ((rd : Nat) : Int), .int .i64 ((rs1 : Nat) : Int), .int .i64 0, .int .i64 imm, .int .i64 0]] w fun e w' => e = .returned (.tuple #[.int .u32 (laidK 70 W ⟨op, ((rd : Nat) : Int), ((rs1 : Nat) : Int), 0, imm, 0⟩ : Nat), .int .i64 0]) ∧ Below w.heap.size w w' := by
  have HK := hide (rkind_yes op hop)
  rw [hk] at HK
  have HC : Hid (∀ w, Calls Tryd.prog 16 #[.agg #[.int .i64 op, .int .i64 ((rd : Nat) : Int), .int .i64 ((rs1 : Nat) : Int), .int .i64 0, .int .i64 imm, .int .i64 0]] w fun e w' => e = .returned (.int .i64 0) ∧ Below w.heap.size w w') := fun w => by
    refine (rcheck_F op hop ((rd : Nat) : Int) ((rs1 : Nat) : Int) 0 imm 0 hk w).mono ?_
    rintro e w' ⟨⟨r, rfl, hr⟩, hb⟩
    rcases hr with ⟨rfl, _⟩ | ⟨_, hn⟩
    · exact ⟨rfl, hb⟩
    · exact absurd (by simp [ValidK] <;> omega) hn
  clear hk
  have HP := hide (rplain_any op hop)
  rw [hWe] at HP
  have HW := hide hW
  have HL := hide (laid_I 70 (by decide) W hW op rd rs1 imm hrd hrs1)
  clear hWe hW
  go_enter Tryd.func14, Tryd.ntmps14
  go_wp2_with (fail)
  obtain ⟨w0, hw0⟩ : ∃ w0, w.alloc (.cells #[.int .i64 op, .int .i64 ((rd : Nat) : Int), .int .i64 ((rs1 : Nat) : Int), .int .i64 0, .int .i64 imm, .int .i64 0] 29) = w0 := ⟨_, rfl⟩
  have HN0 : Hid (SixAt w0 w.heap.size ⟨op, ((rd : Nat) : Int), ((rs1 : Nat) : Int), 0, imm, 0⟩ ∧ Below w.heap.size w w0 ∧ w0.heap.size = w.heap.size + 1) := by
    rw [← hw0]; exact ⟨SixAt.new w ⟨op, ((rd : Nat) : Int), ((rs1 : Nat) : Int), 0, imm, 0⟩ _, (Below.refl _ w).alloc (Nat.le_refl _) _, by simp⟩
  rw [hw0]
  clear hw0
  refine (HC.out _).mono ?_
  rintro e w2 ⟨rfl, hb2⟩
  replace hb2 : Below (w.heap.size + 1) w0 w2 := by rw [← HN0.out.2.2]; exact hb2
  obtain ⟨c0, c1, c2, c3, c4, c5⟩ := HN0.out.1.below hb2 (by omega)
  simp only at c0 c1 c2 c3 c4 c5
  go_wp2_with (first | (go_at_call 22; refine (HK.out _).mono ?_; rintro e w3 ⟨rfl, rfl⟩))
  have hof : Off w0 (w.heap.size + 1) w3 := ⟨hb2, HN0.out.2.2⟩
  have hofd := hof.drew
  go_region_held3 (fun w' => w'.cell? ⟨w.heap.size, 0, none⟩ = some (.int .i64 op) ∧ w'.cell? ⟨w.heap.size, 1, none⟩ = some (.int .i64 ((rd : Nat) : Int)) ∧ w'.cell? ⟨w.heap.size, 2, none⟩ = some (.int .i64 ((rs1 : Nat) : Int)) ∧ w'.cell? ⟨w.heap.size, 3, none⟩ = some (.int .i64 0) ∧ w'.cell? ⟨w.heap.size, 4, none⟩ = some (.int .i64 imm) ∧ w'.cell? ⟨w.heap.size, 5, none⟩ = some (.int .i64 0) ∧ Off w0 (w.heap.size + 1) w') (go_keep)
    (first | (go_at_call 26; refine (Calls.six (g := w.heap.size) (n := w.heap.size + 1) (w0 := w0) (c0 := .int .i64 op) (c1 := .int .i64 ((rd : Nat) : Int)) (c2 := .int .i64 ((rs1 : Nat) : Int)) (c3 := .int .i64 0) (c4 := .int .i64 imm) (c5 := .int .i64 0) (by omega) ?_ (HP.out _)).mono ?_; (simp [*]); rintro e w' ⟨rfl, e0, e1, e2, e3, e4, e5, hoff⟩))
  go_wp2
  go_ret2
  refine ⟨ret_enc ?_, HN0.out.2.1.trans (hoff.1.mono (by omega))⟩
  have hL := HL.out
  have hW := HW.out
  rw [hL]
  clear hL HL HW c0 c1 c2 c3 c4 c5 e0 e1 e2 e3 e4 e5
  have hu : u32N imm = (imm % 4294967296).toNat := rfl
  generalize u32N imm = u at *
  first | omega | (simp only [IntKind.wrap_u32']; omega)
end Go.Proofs.YtccndehhbccmgaaDoor
