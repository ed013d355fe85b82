/-
  What the document's Encode answers.
-/
import Derived.Test.YtccndehhbccmgaaDoorRNames
import Derived.Test.YtccndehhbccmgaaDoorInEnc
import Derived.Test.YtccndehhbccmgaaDoorInForm
import Derived.Test.YtccndehhbccmgaaDoorRCheck
import Derived.Test.YtccndehhbccmgaaDoorRDown
import Derived.Deep.RegionHeld3
namespace Go.Proofs.YtccndehhbccmgaaDoor
open Go.RowKit
set_option linter.unusedVariables false

/-- Nothing that lay in a world of n blocks is turned. -/
def Off (w0 : World) (n : Nat) (w : World) : Prop := Below n w0 w ∧ w0.heap.size = n
theorem Off.step {w0 a b : World} {n : Nat} (h : Off w0 n a) (k : Below a.heap.size a b) : Off w0 n b := ⟨h.1.trans (k.mono (by rw [← h.2]; exact h.1.size)), h.2⟩
theorem Off.drew {w0 a : World} {n : Nat} (h : Off w0 n a) : Off w0 n a.drew := ⟨h.1.drew, h.2⟩
theorem Off.cell {w0 a b : World} {n g j : Nat} {c : Value} (h : Off w0 n a) (k : Below a.heap.size a b) (hg : g < n) (hc : a.cell? ⟨g, j, none⟩ = some c) : b.cell? ⟨g, j, none⟩ = some c :=
  (k.cell (p := ⟨g, j, none⟩) (Nat.lt_of_lt_of_le hg (by rw [← h.2]; exact h.1.size))).trans hc

theorem Calls.six {P : Program} {f : Nat} {args : Array Value} {g n : Nat} {w0 w1 : World} {c0 c1 c2 c3 c4 c5 r : Value} (hg : g < n)
    (hs : w1.cell? ⟨g, 0, none⟩ = some c0 ∧ w1.cell? ⟨g, 1, none⟩ = some c1 ∧ w1.cell? ⟨g, 2, none⟩ = some c2 ∧ w1.cell? ⟨g, 3, none⟩ = some c3 ∧ w1.cell? ⟨g, 4, none⟩ = some c4 ∧ w1.cell? ⟨g, 5, none⟩ = some c5 ∧ Off w0 n w1)
    (h : Calls P f args w1 fun e w2 => e = .returned r ∧ Below w1.heap.size w1 w2) :
    Calls P f args w1 fun e w2 => e = .returned r ∧ w2.cell? ⟨g, 0, none⟩ = some c0 ∧ w2.cell? ⟨g, 1, none⟩ = some c1 ∧ w2.cell? ⟨g, 2, none⟩ = some c2 ∧ w2.cell? ⟨g, 3, none⟩ = some c3 ∧ w2.cell? ⟨g, 4, none⟩ = some c4 ∧ w2.cell? ⟨g, 5, none⟩ = some c5 ∧ Off w0 n w2 :=
  h.mono fun e w2 ⟨he, hb⟩ => ⟨he, hs.2.2.2.2.2.2.cell hb hg hs.1, hs.2.2.2.2.2.2.cell hb hg hs.2.1, hs.2.2.2.2.2.2.cell hb hg hs.2.2.1, hs.2.2.2.2.2.2.cell hb hg hs.2.2.2.1, hs.2.2.2.2.2.2.cell hb hg hs.2.2.2.2.1, hs.2.2.2.2.2.2.cell hb hg hs.2.2.2.2.2.1, hs.2.2.2.2.2.2.step hb⟩


theorem ret_enc {a b : Int} (h : a = b) : Ending.returned (.tuple #[.int .u32 a, .int .i64 0]) = .returned (.tuple #[.int .u32 b, .int .i64 0]) := by rw [h]

/-- The first of an instruction's word: all but the number. -/
theorem base_word (W rd rs1 rs2 csr : Nat) (hW : W < 4294967296) (h1 : rd < 32) (h2 : rs1 < 32) (h3 : rs2 < 32) (h4 : csr < 4096) (h : W + rd * 128 + rs1 * 32768 + rs2 * 1048576 + csr * 1048576 < 4294967296) :
    IntKind.u32.wrap (IntKind.u32.wrap (IntKind.u32.wrap (IntKind.u32.wrap ((W : Int) + IntKind.u32.wrap (IntKind.u32.wrap (rd : Int) * 128)) + IntKind.u32.wrap (IntKind.u32.wrap (rs1 : Int) * 32768)) + IntKind.u32.wrap (IntKind.u32.wrap (rs2 : Int) * 1048576)) + IntKind.u32.wrap (IntKind.u32.wrap (csr : Int) * 1048576)) = ((W + rd * 128 + rs1 * 32768 + rs2 * 1048576 + csr * 1048576 : Nat) : Int) := by
  simp only [IntKind.wrap_u32']
  omega
end Go.Proofs.YtccndehhbccmgaaDoor
