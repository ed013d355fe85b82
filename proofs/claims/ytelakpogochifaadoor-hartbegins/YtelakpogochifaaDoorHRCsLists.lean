/-
  What the document's only and but answer of the lists that its calls lay.
-/
import Derived.Test.YtelakpogochifaaDoorRCsOnly
import Derived.Test.YtelakpogochifaaDoorRCsBut
import Derived.Test.YtelakpogochifaaDoorHRCsRow
import Derived.Deep.QuietTactic
import Derived.BigQuiet
namespace Go.Proofs.YtelakpogochifaaDoor
open Go.RowKit
set_option linter.unusedVariables false

theorem only2_at (v : Nat) (hv : v < 4294967296) (w : World) (b : Nat) (t : TypeId) (h : RowAt w b #[.int .i64 3, .int .i64 7] t) :
    Calls Tryd.prog 78 #[.int .u32 v, .slice (some ⟨b, 0, none⟩) 2 2] w fun e w' => e = .returned (.int .u32 (v &&& 136 : Nat)) ∧ Below w.heap.size w w' := by
  have hi : IntsAt w b [3, 7] := ⟨h.lt, fun j hj => by
    rw [h.cell j]
    match j, hj with
    | 0, _ => rfl
    | 1, _ => rfl⟩
  have h := ronly_any v hv [3, 7] (by decide) (by decide) b w hi
  rw [only2 v hv] at h
  exact h
theorem only3_at (v : Nat) (hv : v < 4294967296) (w : World) (b : Nat) (t : TypeId) (h : RowAt w b #[.int .i64 3, .int .i64 7, .int .i64 11] t) :
    Calls Tryd.prog 78 #[.int .u32 v, .slice (some ⟨b, 0, none⟩) 3 3] w fun e w' => e = .returned (.int .u32 (v &&& 2184 : Nat)) ∧ Below w.heap.size w w' := by
  have hi : IntsAt w b [3, 7, 11] := ⟨h.lt, fun j hj => by
    rw [h.cell j]
    match j, hj with
    | 0, _ => rfl
    | 1, _ => rfl
    | 2, _ => rfl⟩
  have h := ronly_any v hv [3, 7, 11] (by decide) (by decide) b w hi
  rw [only3 v hv] at h
  exact h
theorem but1_at (v : Nat) (hv : v < 4294967296) (w : World) (b : Nat) (t : TypeId) (h : RowAt w b #[.int .i64 1] t) :
    Calls Tryd.prog 79 #[.int .u32 v, .slice (some ⟨b, 0, none⟩) 1 1] w fun e w' => e = .returned (.int .u32 (v &&& 4294967293 : Nat)) ∧ Below w.heap.size w w' := by
  have hi : IntsAt w b [1] := ⟨h.lt, fun j hj => by
    rw [h.cell j]
    match j, hj with
    | 0, _ => rfl⟩
  have h := rbut_any v hv [1] (by decide) b w hi
  rw [but1 v hv] at h
  exact h
theorem but2_at (v : Nat) (hv : v < 4294967296) (w : World) (b : Nat) (t : TypeId) (h : RowAt w b #[.int .i64 0, .int .i64 1] t) :
    Calls Tryd.prog 79 #[.int .u32 v, .slice (some ⟨b, 0, none⟩) 2 2] w fun e w' => e = .returned (.int .u32 (v &&& 4294967292 : Nat)) ∧ Below w.heap.size w w' := by
  have hi : IntsAt w b [0, 1] := ⟨h.lt, fun j hj => by
    rw [h.cell j]
    match j, hj with
    | 0, _ => rfl
    | 1, _ => rfl⟩
  have h := rbut_any v hv [0, 1] (by decide) b w hi
  rw [but2 v hv] at h
  exact h
theorem size_rst : (Tryd.prog.info? 26).map (·.size) = some 8 := by kernel_rfl
end Go.Proofs.YtelakpogochifaaDoor
