/-
  InstDecodes' walk.
-/
import Derived.Test.YtccndehhbccmgaaDoorRDec2
import Derived.Test.YtccndehhbccmgaaDoorInLaw4
import Derived.Test.YtccndehhbccmgaaDoorInBackW
namespace Go.Proofs.YtccndehhbccmgaaDoor
open Go.RowKit
set_option linter.unusedVariables false

set_option maxHeartbeats 2000000 in
set_option maxRecDepth 100000 in
theorem decodes_walk (v : Nat) (hv : v < 4294967296) (w : World) (hT : TabsAt w) (hH : HandleAt w) :
    Calls Tryd.prog 3 #[.int .u32 v] w fun e w' => e = .returned (.bool true) ∧ Below w.heap.size w w' := by
  have HT := hide hT
  have HH := hide hH
  have HS := hide sure_any
  have HD := hide (decode_all v hv w hT)
  have HR := hide (rdecode_all v hv)
  have HNU := hide num_all
  have heq := eql_inst (decI v) (decI v)
  rw [I6.same_self] at heq
  clear hT hH
  unfold I6.cells at *
  generalize decI v = i at *
  generalize decN v = n at *
  go_enter Tryd.func3, Tryd.ntmps3
  go_wp2_with (first | (go_at_call 9; refine HD.out.mono ?_; rintro e w2 ⟨rfl, hb2⟩) | (go_at_call 10; refine (HR.out _).mono ?_; rintro e w3 ⟨rfl, hb3⟩; obtain ⟨c0, c1, c2, c3, c4, c5⟩ := ((SixAt.new w2 i 24).below hb3 (by simp)).more; replace hb3 := (hb2.alloc hb2.size _).trans (hb3.mono (by have := hb2.size; simp; omega))) | (go_at_call 11; refine (HNU.out _ _ ?_).mono ?_; exact HH.out.below (hb3.alloc hb3.size _); rintro e w4 ⟨rfl, hb4⟩; replace hb4 := (hb3.alloc hb3.size _).trans (hb4.mono (by have := hb3.size; simp; omega))) | (go_at_call 12; refine (HS.out _ ?_).mono ?_; exact HT.out.below hb4; rintro e w5 ⟨rfl, hb5⟩))
  go_ret
  exact ⟨rfl, hb4.trans (hb5.mono hb4.size)⟩
end Go.Proofs.YtccndehhbccmgaaDoor
