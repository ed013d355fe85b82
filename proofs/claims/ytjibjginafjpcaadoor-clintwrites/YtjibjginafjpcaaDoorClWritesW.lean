/-
  ClintWrites, walked.
-/
import Derived.Test.YtjibjginafjpcaaDoorClWrite
import Derived.Test.YtjibjginafjpcaaDoorClRefW
import Derived.Test.YtjibjginafjpcaaDoorClSure
import Derived.Test.YtjibjginafjpcaaDoorNum
namespace Go.Proofs.YtjibjginafjpcaaDoor
open Go.RowKit
set_option linter.unusedVariables false

theorem HandleAt.below {w w' : World} (h : HandleAt w) (hb : Below w.heap.size w w') : HandleAt w' := by
  have hlt : 0 < w.heap.size := by
    rcases Nat.lt_or_ge 0 w.heap.size with h' | h'
    · exact h'
    · simp [HandleAt, World.cell?, Array.getElem?_eq_none h'] at h
  exact (hb.cell hlt).trans h
theorem num_of (n : Nat) (w : World) (hg : HandleAt w) : Calls Tryd.prog 7 #[errP n] w fun e w' => e = .returned (.int .i64 (n : Nat)) ∧ Below w.heap.size w w' := by
  by_cases h : n = 0
  · subst h; exact num_nil w
  · have e : errP n = .iface 48 (.int .i64 (n : Int)) := by unfold errP; rw [if_neg h]
    rw [e]; exact num_err n w hg
set_option maxHeartbeats 2000000 in
set_option maxRecDepth 20000 in
theorem writes_walk (s : S3) (hs : s.Ok) (a v : Nat) (hv : v < 4294967296) (w : World) (hH : HandleAt w) :
    Calls Tryd.prog 4 #[.agg s.cells, .int .u32 (a : Nat), .int .u32 (v : Nat)] w fun e w' => e = .returned (.bool true) ∧ Below w.heap.size w w' := by
  have HH := hide hH
  clear hH
  have HB := hide (fun w => write_any s hs a v hv w)
  have HRB := hide (fun w => rwrite_any s hs a v hv w)
  have HS := hide (fun w => sure_any w)
  have HNE := hide (fun w hg => num_of (writeV s a v).2 w hg)
  generalize writeV s a v = zb at HB HRB HNE
  obtain ⟨z, n⟩ := zb
  simp only at HB HRB HNE
  generalize errP n = en at *
  go_enter Tryd.func4, Tryd.ntmps4
  go_wp2_with (first | ((with_reducible refine bx_r w.heap.size s ?_ ?_ ?_); exact rfl; exact rfl; intro W hg hb hz) | ((with_reducible refine ld_r w.heap.size s hg ?_ ?_); exact rfl) | (go_at_call 15; (with_reducible refine (HB.out _).mono ?_); rintro e W ⟨rfl, hbc⟩; replace hg := hg.bl hbc; obtain ⟨NX, hNX⟩ : ∃ n, W.heap.size = n := ⟨_, rfl⟩; have lNX : w.heap.size + 1 ≤ NX := (by (have := hg.lt; omega)); replace hNX := hide hNX; replace hb := below_bl rfl hb hbc) | ((with_reducible refine al_p NX ?_ ?_); exact hNX.out; intro W hx hb' hz2; replace hg := hg.bl (hNX.out ▸ hb'); replace hb := hb.trans (hb'.mono (by omega))) | ((with_reducible refine st_p NX _ z hx ?_ ?_ ?_); exact rfl; exact rfl; intro W hnew ho; replace hg := hg.only ho (by omega); replace hx := hnew; replace hb := ho.bel _ _ (by omega) hb) | (go_at_call 16; (with_reducible refine (HRB.out _).mono ?_); rintro e W ⟨rfl, hbc⟩; replace hg := hg.bl hbc; replace hx := hx.bl hbc; obtain ⟨NY, hNY⟩ : ∃ n, W.heap.size = n := ⟨_, rfl⟩; have lNY : NX + 1 ≤ NY := (by (have := hx.lt; omega)); replace hNY := hide hNY; replace hb := below_bl rfl hb hbc) | ((with_reducible refine al_r NY ?_ ?_); exact hNY.out; intro W hy hb' hz3; replace hg := hg.bl (hNY.out ▸ hb'); replace hx := hx.bl (hNY.out ▸ hb'); replace hb := hb.trans (hb'.mono (by omega))) | ((with_reducible refine st_r NY _ z hy ?_ ?_ ?_); exact rfl; exact rfl; intro W hnew ho; replace hg := hg.only ho (by omega); replace hx := hx.only ho (by omega); replace hy := hnew; replace hb := ho.bel _ _ (by omega) hb) | ((with_reducible refine ld_p NX z hx ?_ ?_); exact rfl) | ((with_reducible refine ld_r NY z hy ?_ ?_); exact rfl) | ((with_reducible refine g_eqp z ?_ ?_ ?_ ?_); exact rfl; exact rfl; exact rfl) | (go_at_call 7; (with_reducible refine (HNE.out _ (HH.out.below hb)).mono ?_); rintro e W ⟨rfl, hbc⟩; replace hg := hg.bl hbc; replace hb := below_bl rfl hb hbc) | (go_at_call 14; (with_reducible refine (HS.out _).mono ?_); rintro e W ⟨rfl, hbc⟩; replace hb := below_bl rfl hb hbc))
  go_ret
  exact ⟨rfl, hb⟩
end Go.Proofs.YtjibjginafjpcaaDoor
