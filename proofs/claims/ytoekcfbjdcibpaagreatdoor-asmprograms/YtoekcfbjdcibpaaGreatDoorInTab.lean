/-
  The tables of inst as plain numbers, and the variables that hold them.
-/
import Derived.Test.YtoekcfbjdcibpaaGreatDoorBase
import Derived.Below
namespace Go.Proofs.YtoekcfbjdcibpaaGreatDoor
open Go.RowKit

def kindL : List Nat := [85, 85, 74, 73, 66, 66, 66, 66, 66, 66, 76, 76, 76, 76, 76, 83, 83, 83, 73, 73, 73, 73, 73, 73, 72, 72, 72, 82, 82, 82, 82, 82, 82, 82, 82, 82, 82, 82, 82, 82, 82, 82, 82, 82, 82, 70, 70, 78, 78, 78, 78, 67, 67, 67, 67, 67, 67]
def wordL : List Nat := [55, 23, 111, 103, 99, 4195, 16483, 20579, 24675, 28771, 3, 4099, 8195, 16387, 20483, 35, 4131, 8227, 19, 8211, 12307, 16403, 24595, 28691, 4115, 20499, 1073762323, 51, 1073741875, 4147, 8243, 12339, 16435, 20531, 1073762355, 24627, 28723, 33554483, 33558579, 33562675, 33566771, 33570867, 33574963, 33579059, 33583155, 15, 4111, 115, 1048691, 807403635, 273678451, 4211, 8307, 12403, 20595, 24691, 28787]
def nameL : List (List UInt8) := [[108, 117, 105], [97, 117, 105, 112, 99], [106, 97, 108], [106, 97, 108, 114], [98, 101, 113], [98, 110, 101], [98, 108, 116], [98, 103, 101], [98, 108, 116, 117], [98, 103, 101, 117], [108, 98], [108, 104], [108, 119], [108, 98, 117], [108, 104, 117], [115, 98], [115, 104], [115, 119], [97, 100, 100, 105], [115, 108, 116, 105], [115, 108, 116, 105, 117], [120, 111, 114, 105], [111, 114, 105], [97, 110, 100, 105], [115, 108, 108, 105], [115, 114, 108, 105], [115, 114, 97, 105], [97, 100, 100], [115, 117, 98], [115, 108, 108], [115, 108, 116], [115, 108, 116, 117], [120, 111, 114], [115, 114, 108], [115, 114, 97], [111, 114], [97, 110, 100], [109, 117, 108], [109, 117, 108, 104], [109, 117, 108, 104, 115, 117], [109, 117, 108, 104, 117], [100, 105, 118], [100, 105, 118, 117], [114, 101, 109], [114, 101, 109, 117], [102, 101, 110, 99, 101], [102, 101, 110, 99, 101, 46, 105], [101, 99, 97, 108, 108], [101, 98, 114, 101, 97, 107], [109, 114, 101, 116], [119, 102, 105], [99, 115, 114, 114, 119], [99, 115, 114, 114, 115], [99, 115, 114, 114, 99], [99, 115, 114, 114, 119, 105], [99, 115, 114, 114, 115, 105], [99, 115, 114, 114, 99, 105]]

def kindN (op : Nat) : Nat := kindL.getD op 0
def wordN (op : Nat) : Nat := wordL.getD op 0
def nameN (op : Nat) : ByteArray := ⟨(nameL.getD op []).toArray⟩

def KindsAt (w : World) : Prop := ∀ j, j < 57 → w.cell? ⟨0, j, none⟩ = some (.int .u8 (kindN j : Nat))
def WordsAt (w : World) : Prop := ∀ j, j < 57 → w.cell? ⟨1, j, none⟩ = some (.int .u32 (wordN j : Nat))
def NamesAt (w : World) : Prop := ∀ j, j < 57 → w.cell? ⟨2, j, none⟩ = some (.string (nameN j))

theorem KindsAt.lt {w : World} (h : KindsAt w) : 0 < w.heap.size := block_lt_of_cell (h 0 (by decide))
theorem WordsAt.lt {w : World} (h : WordsAt w) : 1 < w.heap.size := block_lt_of_cell (h 0 (by decide))
theorem NamesAt.lt {w : World} (h : NamesAt w) : 2 < w.heap.size := block_lt_of_cell (h 0 (by decide))
theorem KindsAt.below {w w' : World} (h : KindsAt w) (hb : Below w.heap.size w w') : KindsAt w' := fun j hj => (hb.cell (p := ⟨0, j, none⟩) h.lt).trans (h j hj)
theorem WordsAt.below {w w' : World} (h : WordsAt w) (hb : Below w.heap.size w w') : WordsAt w' := fun j hj => (hb.cell (p := ⟨1, j, none⟩) h.lt).trans (h j hj)
theorem NamesAt.below {w w' : World} (h : NamesAt w) (hb : Below w.heap.size w w') : NamesAt w' := fun j hj => (hb.cell (p := ⟨2, j, none⟩) h.lt).trans (h j hj)

theorem kindN_le (op : Nat) : kindN op < 256 := by
  by_cases h : op < 57
  · have : ∀ x ∈ kindL, x < 256 := by decide
    unfold kindN
    rw [List.getD_eq_getElem?_getD, List.getElem?_eq_getElem (show op < kindL.length from h)]
    exact this _ (List.getElem_mem _)
  · unfold kindN
    rw [List.getD_eq_getElem?_getD, List.getElem?_eq_none (show kindL.length ≤ op by simp [kindL]; omega)]
    decide
theorem wordN_lt (op : Nat) : wordN op < 4294967296 := by
  by_cases h : op < 57
  · have : ∀ x ∈ wordL, x < 4294967296 := by decide
    unfold wordN
    rw [List.getD_eq_getElem?_getD, List.getElem?_eq_getElem (show op < wordL.length from h)]
    exact this _ (List.getElem_mem _)
  · unfold wordN
    rw [List.getD_eq_getElem?_getD, List.getElem?_eq_none (show wordL.length ≤ op by simp [wordL]; omega)]
    decide
end Go.Proofs.YtoekcfbjdcibpaaGreatDoor
