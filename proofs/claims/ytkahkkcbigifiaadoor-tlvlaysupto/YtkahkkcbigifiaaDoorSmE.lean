/-
  Errors by number; what the program's Cut answers, in one form.
-/
import Derived.Test.YtkahkkcbigifiaaDoorSmApp
import Derived.Test.YtkahkkcbigifiaaDoorNum
import Derived.Test.YtkahkkcbigifiaaDoorAs
namespace Go.Proofs.YtkahkkcbigifiaaDoor
open Go.RowKit
set_option linter.unusedVariables false
set_option linter.unusedSimpArgs false

/-- An error with this number, none where it is 0. -/
def errS (n : Nat) : Value := if n = 0 then .nilIface else .iface 80 (.int .i64 (n : Nat))
theorem nums_any (n : Nat) (w : World) (hg : HandleAt w) : Calls Tryd.prog 16 #[errS n] w fun e w' => e = .returned (.int .i64 (n : Nat)) ∧ Below w.heap.size w w' := by
  by_cases h : n = 0
  · subst h
    exact num_nil w
  · unfold errS
    rw [if_neg h]
    exact num_err n w hg
theorem HandleAt.below {w w' : World} (h : HandleAt w) (hb : Below w.heap.size w w') : HandleAt w' := by
  have hl : 0 < w.heap.size := by
    rcases Nat.lt_or_ge 0 w.heap.size with h' | h'
    · exact h'
    · simp [HandleAt, World.cell?, Array.getElem?_eq_none h'] at h
  exact (hb.cell (p := ⟨0, 0, none⟩) hl).trans h
theorem Rd.nil (B : Nat) (w : World) : Rd B w (.slice Option.none 0 0) [] := ⟨(fun _ h => nomatch h), Option.none, 0, rfl, Nat.le_refl _, by decide, fun h => absurd h (by decide)⟩
/-- What Cut answers, together. -/
def cutL (l : List Nat) : List Nat := if 4 ≤ l.length ∧ okL l = true then l.take (l.length - 4) else []
def cutE (l : List Nat) : Nat := if l.length < 4 then 12 else if okL l = true then 0 else 11
theorem cutu_any {B : Nat} {v : Value} {l : List Nat} (w : World) (h : Rd B w v l) (hB : B ≤ w.heap.size) (hn : l.length ≤ 100000) (hT : TabAt w) :
    Calls Tryd.prog 56 #[v] w fun e w' => ∃ v', e = .returned (.tuple #[v', errS (cutE l)]) ∧ Rd w'.heap.size w' v' (cutL l) ∧ Below w.heap.size w w' := by
  refine (cut_any w h hB hn hT).mono ?_
  rintro e w' (⟨h4, rfl, rfl⟩ | ⟨h4, ⟨h5, v', rfl, h6, h7⟩ | ⟨h5, rfl, h6⟩⟩)
  · rw [cutE, cutL, if_pos h4, if_neg (by omega)]
    exact ⟨_, rfl, Rd.nil _ _, Below.refl _ _⟩
  · rw [cutE, cutL, if_neg (by omega), if_pos h5, if_pos ⟨h4, h5⟩]
    exact ⟨_, rfl, h6.rd, h7⟩
  · rw [cutE, cutL, if_neg (by omega), if_neg (by rw [h5]; decide), if_neg (by rw [h5]; simp)]
    exact ⟨_, rfl, Rd.nil _ _, h6⟩
/-- What Tail made is whole. -/
theorem cut_tail (l : List Nat) (hl : ∀ x ∈ l, x < 256) : cutL (l ++ tail4 (sumL l)) = l ∧ cutE (l ++ tail4 (sumL l)) = 0 := by
  have hlen : (l ++ tail4 (sumL l)).length = l.length + 4 := by rw [List.length_append]; rfl
  have hok : okL (l ++ tail4 (sumL l)) = true := by
    rw [ok_whole _ l.length hlen, List.take_left]
    simp
  constructor
  · rw [cutL, if_pos ⟨by omega, hok⟩, hlen, Nat.add_sub_cancel, List.take_left]
  · rw [cutE, if_neg (by omega), if_pos hok]

end Go.Proofs.YtkahkkcbigifiaaDoor
