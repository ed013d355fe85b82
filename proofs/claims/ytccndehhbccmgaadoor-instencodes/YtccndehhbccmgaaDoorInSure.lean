/-
  What must come whatever the input is, comes.
-/
import Derived.Test.YtccndehhbccmgaaDoorInDec
import Derived.Test.YtccndehhbccmgaaDoorInName
import Derived.Test.YtccndehhbccmgaaDoorInEq
namespace Go.Proofs.YtccndehhbccmgaaDoor
open Go.RowKit
set_option linter.unusedVariables false

theorem sure_match : matchN 18 5243027 = true := by decide +kernel
theorem sure_none : ∀ j, j < 18 → matchN j 5243027 = false := by decide +kernel
theorem sure_told : toldN 18 5243027 = ⟨18, 1, 0, 0, 5, 0⟩ := (I6.same_iff _ _).1 (by decide +kernel)
theorem sure_name : nameN 18 = ⟨#[97, 100, 100, 105]⟩ := by decide +kernel

def TabsAt (w : World) : Prop := (KindsAt w ∧ WordsAt w) ∧ NamesAt w
theorem TabsAt.below {w w' : World} (h : TabsAt w) (hb : Below w.heap.size w w') : TabsAt w' := ⟨⟨h.1.1.below hb, h.1.2.below hb⟩, h.2.below hb⟩

set_option maxHeartbeats 1000000 in
set_option maxRecDepth 100000 in
theorem sure_any (w : World) (hT : TabsAt w) :
    Calls Tryd.prog 12 #[] w fun e w' => e = .returned (.bool true) ∧ Below w.heap.size w w' := by
  have HD := hide (decode_hit 5243027 (by decide) 18 (by decide) sure_match sure_none w hT.1.1 hT.1.2)
  have HN := hide (fun w (h : NamesAt w) => name_yes 18 (by decide) w h)
  rw [sure_told] at HD
  rw [sure_name] at HN
  have he := eql_inst ⟨18, 1, 0, 0, 5, 0⟩ ⟨18, 1, 0, 0, 5, 0⟩
  rw [I6.same_self] at he
  have HNA := hide hT.2
  clear hT
  simp only [I6.cells] at HD he
  go_enter Tryd.func12, Tryd.ntmps12
  go_wp2_with (first | (go_at_call 9; refine HD.out.mono ?_; rintro e w2 ⟨rfl, hb2⟩) | (go_at_call 19; refine (HN.out _ ?_).mono ?_; exact HNA.out.below (hb2.alloc hb2.size _); rintro e w3 ⟨rfl, rfl⟩))
  go_ret
  exact ⟨rfl, hb2.alloc hb2.size _⟩
end Go.Proofs.YtccndehhbccmgaaDoor
