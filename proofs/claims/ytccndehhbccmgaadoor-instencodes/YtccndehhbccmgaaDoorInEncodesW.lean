/-
  InstEncodes' walk.
-/
import Derived.Test.YtccndehhbccmgaaDoorREncA
import Derived.Test.YtccndehhbccmgaaDoorInLaw4
import Derived.Test.YtccndehhbccmgaaDoorInBackW
namespace Go.Proofs.YtccndehhbccmgaaDoor
open Go.RowKit
set_option linter.unusedVariables false

theorem Calls.six' {P : Program} {f : Nat} {args : Array Value} {g n : Nat} {w0 w1 : World} {c0 c1 c2 c3 c4 c5 r : Value} (hg : g < n)
    (hs : w1.cell? ⟨g, 0, none⟩ = some c0 ∧ w1.cell? ⟨g, 1, none⟩ = some c1 ∧ w1.cell? ⟨g, 2, none⟩ = some c2 ∧ w1.cell? ⟨g, 3, none⟩ = some c3 ∧ w1.cell? ⟨g, 4, none⟩ = some c4 ∧ w1.cell? ⟨g, 5, none⟩ = some c5 ∧ Off w0 n w1)
    (h : Off w0 n w1 → Calls P f args w1 fun e w2 => e = .returned r ∧ Below w1.heap.size w1 w2) :
    Calls P f args w1 fun e w2 => e = .returned r ∧ w2.cell? ⟨g, 0, none⟩ = some c0 ∧ w2.cell? ⟨g, 1, none⟩ = some c1 ∧ w2.cell? ⟨g, 2, none⟩ = some c2 ∧ w2.cell? ⟨g, 3, none⟩ = some c3 ∧ w2.cell? ⟨g, 4, none⟩ = some c4 ∧ w2.cell? ⟨g, 5, none⟩ = some c5 ∧ Off w0 n w2 :=
  Calls.six hg hs (h hs.2.2.2.2.2.2)

set_option maxHeartbeats 8000000 in
set_option maxRecDepth 100000 in
theorem encodes_walk (i : I6) (hi : ∀ z ∈ [i.op, i.rd, i.rs1, i.rs2, i.imm, i.csr], (Lit.int .i64 z).wf = true) (w : World) (hT : TabsAt w) (hH : HandleAt w) :
    Calls Tryd.prog 4 #[.agg i.cells] w fun e w' => e = .returned (.bool true) ∧ Below w.heap.size w w' := by
  have HT := hide hT
  have HH := hide hH
  have HS := hide sure_any
  have HE := hide (encode_all i)
  have HR := hide (rencode_all i)
  have HC := hide (check_all i)
  have HRC := hide (rcheck_all i)
  have HNU := hide num_all
  have HN := hide one_new
  clear hT hH hi
  unfold I6.cells at *
  generalize encN i = n at *
  generalize encW i = z at *
  go_enter Tryd.func4, Tryd.ntmps4
  go_wp2_with (fail)
  obtain ⟨w0, hw0⟩ : ∃ w0, w.alloc (.cells #[.int .i64 i.op, .int .i64 i.rd, .int .i64 i.rs1, .int .i64 i.rs2, .int .i64 i.imm, .int .i64 i.csr] 29) = w0 := ⟨_, rfl⟩
  have HN0 := hide (HN.out _ _ _ w0 hw0)
  rw [hw0]
  clear hw0
  have hb := Below.refl (w.heap.size + 1) w0
  go_wp2_with (first | (go_at_call 13; refine (HE.out _ ?_).mono ?_; exact HT.out.below (HN0.out.2.1.trans (hb.mono (by omega))); rintro e w2 ⟨rfl, hb2⟩; replace hb := below_step HN0.out.2.2 hb hb2; clear hb2; obtain ⟨c0, c1, c2, c3, c4, c5⟩ := HN0.out.1.below hb (by omega)) | (go_at_call 14; refine (HR.out _).mono ?_; rintro e w2 ⟨rfl, hb2⟩; replace hb := below_step HN0.out.2.2 hb hb2; clear hb2; obtain ⟨c0, c1, c2, c3, c4, c5⟩ := HN0.out.1.below hb (by omega)))
  have hof : Off w0 (w.heap.size + 1) _ := ⟨hb, HN0.out.2.2⟩
  have hofd := hof.drew
  have HT1 := hide (fun w1 (ho : Off w0 (w.heap.size + 1) w1) => HT.out.below (HN0.out.2.1.trans (ho.1.mono (by omega))))
  have HH1 := hide (fun w1 (ho : Off w0 (w.heap.size + 1) w1) => HH.out.below (HN0.out.2.1.trans (ho.1.mono (by omega))))
  go_region_held3 (fun w' => w'.cell? ⟨w.heap.size, 0, none⟩ = some (.int .i64 i.op) ∧ w'.cell? ⟨w.heap.size, 1, none⟩ = some (.int .i64 i.rd) ∧ w'.cell? ⟨w.heap.size, 2, none⟩ = some (.int .i64 i.rs1) ∧ w'.cell? ⟨w.heap.size, 3, none⟩ = some (.int .i64 i.rs2) ∧ w'.cell? ⟨w.heap.size, 4, none⟩ = some (.int .i64 i.imm) ∧ w'.cell? ⟨w.heap.size, 5, none⟩ = some (.int .i64 i.csr) ∧ Off w0 (w.heap.size + 1) w') (go_keep)
    (first | (go_at_call 11; refine (Calls.six' (g := w.heap.size) (n := w.heap.size + 1) (w0 := w0) (c0 := .int .i64 i.op) (c1 := .int .i64 i.rd) (c2 := .int .i64 i.rs1) (c3 := .int .i64 i.rs2) (c4 := .int .i64 i.imm) (c5 := .int .i64 i.csr) (by omega) ?_ (fun ho => HNU.out _ _ (HH1.out _ ho))).mono ?_; (simp [*]); rintro e w' ⟨rfl, e0, e1, e2, e3, e4, e5, hoff⟩) | (go_at_call 15; refine (Calls.six' (g := w.heap.size) (n := w.heap.size + 1) (w0 := w0) (c0 := .int .i64 i.op) (c1 := .int .i64 i.rd) (c2 := .int .i64 i.rs1) (c3 := .int .i64 i.rs2) (c4 := .int .i64 i.imm) (c5 := .int .i64 i.csr) (by omega) ?_ (fun ho => HC.out _ (HT1.out _ ho))).mono ?_; (simp [*]); rintro e w' ⟨rfl, e0, e1, e2, e3, e4, e5, hoff⟩) | (go_at_call 16; refine (Calls.six' (g := w.heap.size) (n := w.heap.size + 1) (w0 := w0) (c0 := .int .i64 i.op) (c1 := .int .i64 i.rd) (c2 := .int .i64 i.rs1) (c3 := .int .i64 i.rs2) (c4 := .int .i64 i.imm) (c5 := .int .i64 i.csr) (by omega) ?_ (fun ho => HRC.out _)).mono ?_; (simp [*]); rintro e w' ⟨rfl, e0, e1, e2, e3, e4, e5, hoff⟩) | (go_at_call 12; refine (Calls.six' (g := w.heap.size) (n := w.heap.size + 1) (w0 := w0) (c0 := .int .i64 i.op) (c1 := .int .i64 i.rd) (c2 := .int .i64 i.rs1) (c3 := .int .i64 i.rs2) (c4 := .int .i64 i.imm) (c5 := .int .i64 i.csr) (by omega) ?_ (fun ho => HS.out _ (HT1.out _ ho))).mono ?_; (simp [*]); rintro e w' ⟨rfl, e0, e1, e2, e3, e4, e5, hoff⟩))
  go_wp2
  go_ret
  exact ⟨rfl, HN0.out.2.1.trans (hoff.1.mono (by omega))⟩
end Go.Proofs.YtccndehhbccmgaaDoor
