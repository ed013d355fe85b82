/-
  What the document's Check and Encode answer, whatever instruction is handed in.
-/
import Derived.Test.YtccndehhbccmgaaDoorREncS
import Derived.Test.YtccndehhbccmgaaDoorREncT
import Derived.Test.YtccndehhbccmgaaDoorREncV
import Derived.Test.YtccndehhbccmgaaDoorREncW
import Derived.Test.YtccndehhbccmgaaDoorREncX
import Derived.Test.YtccndehhbccmgaaDoorInAns
namespace Go.Proofs.YtccndehhbccmgaaDoor
open Go.RowKit
set_option linter.unusedVariables false

theorem enc_valid (op : Nat) (hop : op < 57) (i : I6) (hi : i.op = op) (hv : ValidK (kindN op) i) : encN i = 0 ∧ encW i = laidK (kindN op) (wordN op) i := by
  have ht := (valid_ok op hop i hi hv).1
  have eo : i.op.toNat = op := by rw [hi]; rfl
  have ho : encOk i = true := by unfold encOk; rw [eo, ht, I6.same_self]; simp; omega
  unfold encN encW
  rw [ho, eo]
  exact ⟨rfl, rfl⟩
theorem enc_not (op : Nat) (hop : op < 57) (i : I6) (hi : i.op = op) (hv : ¬ ValidK (kindN op) i) : encN i = 1 ∧ encW i = 0 := by
  have eo : i.op.toNat = op := by rw [hi]; rfl
  have ho : encOk i = false := by
    unfold encOk
    rw [eo]
    have : ¬ toldN op (laidN op i) = i := fun h => hv (told_ok op hop i h)
    rw [I6.same_not this]; simp
  unfold encN encW
  rw [ho]
  exact ⟨rfl, rfl⟩
theorem enc_bad (i : I6) (h : ¬ (0 ≤ i.op ∧ i.op < 57)) : encN i = 1 ∧ encW i = 0 := by
  have ho : encOk i = false := by unfold encOk; simp [h]
  unfold encN encW
  rw [ho]
  exact ⟨rfl, rfl⟩

set_option maxHeartbeats 2000000 in
set_option maxRecDepth 100000 in
theorem rcheck_bad (i : I6) (h : i.op < 0 ∨ 56 < i.op) (w : World) :
    Calls Tryd.prog 16 #[.agg i.cells] w fun e w' => e = .returned (.int .i64 1) ∧ Below w.heap.size w w' := by
  have HK := hide (rkind_no i.op h)
  unfold I6.cells
  clear h
  go_enter Tryd.func16, Tryd.ntmps16
  go_wp2_with (first | (go_at_call 22; refine (HK.out _).mono ?_; rintro e w2 ⟨rfl, rfl⟩))
  go_ret
  exact ⟨rfl, (Below.refl _ _).alloc (Nat.le_refl _) _⟩

theorem rcheck_op (op : Nat) (hop : op < 57) (i : I6) (hi : i.op = op) (w : World) :
    Calls Tryd.prog 16 #[.agg i.cells] w fun e w' => (∃ r : Int, e = .returned (.int .i64 r) ∧ CheckAns (kindN op) i r) ∧ Below w.heap.size w w' := by
  obtain ⟨o, rd, rs1, rs2, imm, csr⟩ := i
  simp only at hi
  subst hi
  have hk := kindN_is op hop
  have key : ∀ k, kindN op = k → IsKind k → Calls Tryd.prog 16 #[.agg (I6.mk op rd rs1 rs2 imm csr).cells] w fun e w' => (∃ r : Int, e = .returned (.int .i64 r) ∧ CheckAns k (I6.mk op rd rs1 rs2 imm csr) r) ∧ Below w.heap.size w w' := by
    intro k e hk
    rcases hk with rfl | rfl | rfl | rfl | rfl | rfl | rfl | rfl | rfl | rfl | rfl
    · exact rcheck_U op hop rd rs1 rs2 imm csr e w
    · exact rcheck_J op hop rd rs1 rs2 imm csr e w
    · exact rcheck_I op hop rd rs1 rs2 imm csr e w
    · exact rcheck_L op hop rd rs1 rs2 imm csr e w
    · exact rcheck_F op hop rd rs1 rs2 imm csr e w
    · exact rcheck_C op hop rd rs1 rs2 imm csr e w
    · exact rcheck_B op hop rd rs1 rs2 imm csr e w
    · exact rcheck_S op hop rd rs1 rs2 imm csr e w
    · exact rcheck_H op hop rd rs1 rs2 imm csr e w
    · exact rcheck_R op hop rd rs1 rs2 imm csr e w
    · exact rcheck_N op hop rd rs1 rs2 imm csr e w
  exact key _ rfl hk

theorem rcheck_all (i : I6) (w : World) :
    Calls Tryd.prog 16 #[.agg i.cells] w fun e w' => e = .returned (.int .i64 (encN i)) ∧ Below w.heap.size w w' := by
  by_cases h : 0 ≤ i.op ∧ i.op < 57
  · obtain ⟨h1, h2⟩ := op_nat h
    refine (rcheck_op _ h1 i h2 w).mono ?_
    rintro e w' ⟨⟨r, rfl, hr⟩, hb⟩
    rcases hr with ⟨rfl, hv⟩ | ⟨rfl, hv⟩
    · rw [(enc_valid _ h1 i h2 hv).1]; exact ⟨rfl, hb⟩
    · rw [(enc_not _ h1 i h2 hv).1]; exact ⟨rfl, hb⟩
  · rw [(enc_bad i h).1]
    exact rcheck_bad i (by omega) w

set_option maxHeartbeats 2000000 in
set_option maxRecDepth 100000 in
theorem renc_no (i : I6) (hn : encN i = 1) (w : World) :
    Calls Tryd.prog 14 #[.agg i.cells] w fun e w' => e = .returned (.tuple #[.int .u32 0, .int .i64 1]) ∧ Below w.heap.size w w' := by
  have HC := hide (rcheck_all i)
  rw [hn] at HC
  clear hn
  unfold I6.cells at *
  go_enter Tryd.func14, Tryd.ntmps14
  go_wp2_with (first | (go_at_call 16; refine (HC.out _).mono ?_; rintro e w2 ⟨rfl, hb2⟩))
  go_ret2
  exact ⟨rfl, ((Below.refl _ w).alloc (Nat.le_refl _) _).trans (hb2.mono (by simp))⟩

theorem renc_op (op : Nat) (hop : op < 57) (i : I6) (hi : i.op = op) (hv : ValidK (kindN op) i) (w : World) :
    Calls Tryd.prog 14 #[.agg i.cells] w fun e w' => e = .returned (.tuple #[.int .u32 (laidK (kindN op) (wordN op) i : Nat), .int .i64 0]) ∧ Below w.heap.size w w' := by
  obtain ⟨o, rd, rs1, rs2, imm, csr⟩ := i
  simp only at hi
  subst hi
  have hk := kindN_is op hop
  have hr := word_rest op hop
  have hl := wordN_lt op
  have key : ∀ k, kindN op = k → IsKind k → restK k (wordN op) = wordN op → ValidK k (I6.mk op rd rs1 rs2 imm csr) → Calls Tryd.prog 14 #[.agg (I6.mk op rd rs1 rs2 imm csr).cells] w fun e w' => e = .returned (.tuple #[.int .u32 (laidK k (wordN op) (I6.mk op rd rs1 rs2 imm csr) : Nat), .int .i64 0]) ∧ Below w.heap.size w w' := by
    intro k e hk hW hv
    obtain ⟨h1, h2, h3, h4, h5⟩ := hv
    rcases hk with rfl | rfl | rfl | rfl | rfl | rfl | rfl | rfl | rfl | rfl | rfl
    · replace h1 : 0 ≤ rd ∧ rd ≤ 31 := h1
      obtain ⟨nrd, rfl, brd⟩ := nat_of h1
      replace h2 : rs1 = 0 := h2
      subst h2
      replace h3 : rs2 = 0 := h3
      subst h3
      replace h4 : csr = 0 := h4
      subst h4
      exact renc_U op hop (wordN op) rfl (rest_lt (by decide) hW) nrd imm brd h5 e w
    · replace h1 : 0 ≤ rd ∧ rd ≤ 31 := h1
      obtain ⟨nrd, rfl, brd⟩ := nat_of h1
      replace h2 : rs1 = 0 := h2
      subst h2
      replace h3 : rs2 = 0 := h3
      subst h3
      replace h4 : csr = 0 := h4
      subst h4
      exact renc_J op hop (wordN op) rfl (rest_lt (by decide) hW) nrd imm brd h5 e w
    · replace h1 : 0 ≤ rd ∧ rd ≤ 31 := h1
      obtain ⟨nrd, rfl, brd⟩ := nat_of h1
      replace h2 : 0 ≤ rs1 ∧ rs1 ≤ 31 := h2
      obtain ⟨nrs1, rfl, brs1⟩ := nat_of h2
      replace h3 : rs2 = 0 := h3
      subst h3
      replace h4 : csr = 0 := h4
      subst h4
      exact renc_I op hop (wordN op) rfl hW.symm nrd nrs1 imm brd brs1 h5 e w
    · replace h1 : 0 ≤ rd ∧ rd ≤ 31 := h1
      obtain ⟨nrd, rfl, brd⟩ := nat_of h1
      replace h2 : 0 ≤ rs1 ∧ rs1 ≤ 31 := h2
      obtain ⟨nrs1, rfl, brs1⟩ := nat_of h2
      replace h3 : rs2 = 0 := h3
      subst h3
      replace h4 : csr = 0 := h4
      subst h4
      exact renc_L op hop (wordN op) rfl hW.symm nrd nrs1 imm brd brs1 h5 e w
    · replace h1 : 0 ≤ rd ∧ rd ≤ 31 := h1
      obtain ⟨nrd, rfl, brd⟩ := nat_of h1
      replace h2 : 0 ≤ rs1 ∧ rs1 ≤ 31 := h2
      obtain ⟨nrs1, rfl, brs1⟩ := nat_of h2
      replace h3 : rs2 = 0 := h3
      subst h3
      replace h4 : csr = 0 := h4
      subst h4
      exact renc_F op hop (wordN op) rfl hW.symm nrd nrs1 imm brd brs1 h5 e w
    · replace h1 : 0 ≤ rd ∧ rd ≤ 31 := h1
      obtain ⟨nrd, rfl, brd⟩ := nat_of h1
      replace h2 : 0 ≤ rs1 ∧ rs1 ≤ 31 := h2
      obtain ⟨nrs1, rfl, brs1⟩ := nat_of h2
      replace h3 : rs2 = 0 := h3
      subst h3
      replace h4 : 0 ≤ csr ∧ csr ≤ 4095 := h4
      obtain ⟨ncsr, rfl, bcsr⟩ := nat_of12 h4
      replace h5 : imm = 0 := h5
      subst h5
      exact renc_C op hop (wordN op) rfl hW.symm nrd nrs1 ncsr brd brs1 bcsr e w
    · replace h1 : rd = 0 := h1
      subst h1
      replace h2 : 0 ≤ rs1 ∧ rs1 ≤ 31 := h2
      obtain ⟨nrs1, rfl, brs1⟩ := nat_of h2
      replace h3 : 0 ≤ rs2 ∧ rs2 ≤ 31 := h3
      obtain ⟨nrs2, rfl, brs2⟩ := nat_of h3
      replace h4 : csr = 0 := h4
      subst h4
      exact renc_B op hop (wordN op) rfl hW.symm nrs1 nrs2 imm brs1 brs2 h5 e w
    · replace h1 : rd = 0 := h1
      subst h1
      replace h2 : 0 ≤ rs1 ∧ rs1 ≤ 31 := h2
      obtain ⟨nrs1, rfl, brs1⟩ := nat_of h2
      replace h3 : 0 ≤ rs2 ∧ rs2 ≤ 31 := h3
      obtain ⟨nrs2, rfl, brs2⟩ := nat_of h3
      replace h4 : csr = 0 := h4
      subst h4
      exact renc_S op hop (wordN op) rfl hW.symm nrs1 nrs2 imm brs1 brs2 h5 e w
    · replace h1 : 0 ≤ rd ∧ rd ≤ 31 := h1
      obtain ⟨nrd, rfl, brd⟩ := nat_of h1
      replace h2 : 0 ≤ rs1 ∧ rs1 ≤ 31 := h2
      obtain ⟨nrs1, rfl, brs1⟩ := nat_of h2
      replace h3 : rs2 = 0 := h3
      subst h3
      replace h4 : csr = 0 := h4
      subst h4
      exact renc_H op hop (wordN op) rfl ⟨hW.symm, hl⟩ nrd nrs1 imm brd brs1 h5 e w
    · replace h1 : 0 ≤ rd ∧ rd ≤ 31 := h1
      obtain ⟨nrd, rfl, brd⟩ := nat_of h1
      replace h2 : 0 ≤ rs1 ∧ rs1 ≤ 31 := h2
      obtain ⟨nrs1, rfl, brs1⟩ := nat_of h2
      replace h3 : 0 ≤ rs2 ∧ rs2 ≤ 31 := h3
      obtain ⟨nrs2, rfl, brs2⟩ := nat_of h3
      replace h4 : csr = 0 := h4
      subst h4
      replace h5 : imm = 0 := h5
      subst h5
      exact renc_R op hop (wordN op) rfl ⟨hW.symm, hl⟩ nrd nrs1 nrs2 brd brs1 brs2 e w
    · replace h1 : rd = 0 := h1
      subst h1
      replace h2 : rs1 = 0 := h2
      subst h2
      replace h3 : rs2 = 0 := h3
      subst h3
      replace h4 : csr = 0 := h4
      subst h4
      replace h5 : imm = 0 := h5
      subst h5
      exact renc_N op hop (wordN op) rfl hl   e w
  exact key _ rfl hk hr hv

theorem rencode_all (i : I6) (w : World) :
    Calls Tryd.prog 14 #[.agg i.cells] w fun e w' => e = .returned (.tuple #[.int .u32 (encW i : Nat), .int .i64 (encN i)]) ∧ Below w.heap.size w w' := by
  by_cases h : 0 ≤ i.op ∧ i.op < 57
  · obtain ⟨h1, h2⟩ := op_nat h
    by_cases hv : ValidK (kindN i.op.toNat) i
    · obtain ⟨e1, e2⟩ := enc_valid _ h1 i h2 hv
      rw [e1, e2]
      exact renc_op _ h1 i h2 hv w
    · obtain ⟨e1, e2⟩ := enc_not _ h1 i h2 hv
      rw [e2, e1]
      exact renc_no i e1 w
  · obtain ⟨e1, e2⟩ := enc_bad i h
    rw [e2, e1]
    exact renc_no i e1 w
end Go.Proofs.YtccndehhbccmgaaDoor
