/-
  Names, kinds and finds of operations, whatever is handed in.
-/
import Derived.Test.YtoekcfbjdcibpaaGreatDoorInAns
import Derived.Test.YtoekcfbjdcibpaaGreatDoorInFind
namespace Go.Proofs.YtoekcfbjdcibpaaGreatDoor
open Go.RowKit
set_option linter.unusedVariables false

theorem nameL_inj : ∀ i, i < 57 → ∀ j, j < 57 → nameL.getD i [] = nameL.getD j [] → i = j := by decide +kernel
theorem nameN_inj (i j : Nat) (hi : i < 57) (hj : j < 57) (h : nameN i = nameN j) : i = j := by
  unfold nameN at h
  simp only [ByteArray.mk.injEq] at h
  exact nameL_inj i hi j hj (by simpa using congrArg Array.toList h)
theorem nameN_some (i : Nat) (hi : i < 57) : nameN i ≠ ⟨#[]⟩ := by
  have : ∀ x ∈ nameL, x ≠ [] := by decide +kernel
  unfold nameN
  have hi' : i < nameL.length := hi
  rw [List.getD_eq_getElem?_getD, List.getElem?_eq_getElem hi']
  have h := this _ (List.getElem_mem hi')
  simp only [Option.getD_some]
  intro e
  simp only [ByteArray.mk.injEq] at e
  apply h
  simpa using congrArg Array.toList e
theorem kindN_some (i : Nat) (hi : i < 57) : kindN i ≠ 0 := by
  rcases kindN_is i hi with h | h | h | h | h | h | h | h | h | h | h <;> omega

def nameC (c : Int) : ByteArray := if 0 ≤ c ∧ c < 57 then nameN c.toNat else ⟨#[]⟩
def kindC (c : Int) : Nat := if 0 ≤ c ∧ c < 57 then kindN c.toNat else 0
def fndOp (s : ByteArray) : Option Nat := (List.range 57).find? fun op => decide (nameN op = s)
def fndK (s : ByteArray) : Int := match fndOp s with | some op => (op : Int) | none => 0
def fndN (s : ByteArray) : Int := match fndOp s with | some _ => 0 | none => 6

theorem name_all (c : Int) (w : World) (hT : TabsAt w) : Calls Tryz.prog 22 #[.int .i64 c] w fun e w' => e = .returned (.string (nameC c)) ∧ w' = w := by
  unfold nameC
  by_cases h : 0 ≤ c ∧ c < 57
  · obtain ⟨k, rfl⟩ := Int.eq_ofNat_of_zero_le h.1
    rw [if_pos h]
    exact name_yes k (by omega) w hT.2
  · rw [if_neg h]
    exact name_no c (by omega) w
theorem kind_all (c : Int) (w : World) (hT : TabsAt w) : Calls Tryz.prog 57 #[.int .i64 c] w fun e w' => e = .returned (.int .u8 (kindC c : Nat)) ∧ w' = w := by
  unfold kindC
  by_cases h : 0 ≤ c ∧ c < 57
  · obtain ⟨k, rfl⟩ := Int.eq_ofNat_of_zero_le h.1
    rw [if_pos h]
    exact kind_yes k (by omega) w hT.1.1
  · rw [if_neg h]
    exact kind_no c (by omega) w
theorem fndOp_some {s : ByteArray} {op : Nat} (h : fndOp s = some op) : op < 57 ∧ nameN op = s := by
  unfold fndOp at h
  have h1 := List.find?_some h
  have h2 := List.mem_of_find?_eq_some h
  exact ⟨List.mem_range.1 h2, by simpa using h1⟩
theorem fndOp_none {s : ByteArray} (h : fndOp s = none) : ∀ j, j < 57 → nameN j ≠ s := by
  unfold fndOp at h
  rw [List.find?_eq_none] at h
  intro j hj
  have := h j (List.mem_range.2 hj)
  simpa using this

theorem find_all (s : ByteArray) (w : World) (hT : TabsAt w) : Calls Tryz.prog 34 #[.string s] w fun e w' => e = .returned (.tuple #[.int .i64 (fndK s), errno (fndN s)]) ∧ w' = w := by
  unfold fndK fndN
  cases hf : fndOp s with
  | none => exact find_none s (fndOp_none hf) w hT.2
  | some op =>
    obtain ⟨h1, rfl⟩ := fndOp_some hf
    exact find_hit _ op h1 rfl (fun j hj e => by have := nameN_inj j op (by omega) h1 e; omega) w hT.2
end Go.Proofs.YtoekcfbjdcibpaaGreatDoor
