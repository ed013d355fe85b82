/-
  The document's Write: no queue.
-/
import Derived.Test.YtahgacdkofmbmaaDoorViRCheck
import Derived.Test.YtahgacdkofmbmaaDoorViRRead
import Derived.Test.YtahgacdkofmbmaaDoorViRStat
namespace Go.Proofs.YtahgacdkofmbmaaDoor
open Go.RowKit
set_option linter.unusedVariables false

attribute [local go_sem] V.at0 V.at1 V.at2 V.at3 V.at4 V.at5 V.at6 V.at7 V.at8 V.at9 V.at10 V.at11 V.at12 V.at13 V.at14 V.at15 V.at16 V.at17 V.at18 V.at19 V.at20 Qu.at0 Qu.at1 Qu.at2 Qu.at3 Qu.at4 Qu.at5 Qu.at6
set_option maxRecDepth 20000 in
set_option maxHeartbeats 2000000 in
theorem rwd_far (s : V) (ok : s.Ok) (a v : Nat) (hv : v < 4294967296) (hm : accV s a = 0) (n20 : a ≠ 20) (n36 : a ≠ 36) (n32 : a ≠ 32) (n48 : a ≠ 48) (n80 : a ≠ 80) (n100 : a ≠ 100) (n112 : a ≠ 112) (hs : 2 ≤ s.se) (w : World) :
    Calls Tryd.prog 22 #[.agg s.cells, .int .u32 (a : Nat), .int .u32 (v : Nat)] w fun e w' => e = .returned (.tuple #[.agg (writeV s a v).1.cells, .int .i64 (writeV s a v).2.1, .int .i64 ((writeV s a v).2.2 : Nat)]) ∧ Below w.heap.size w w' := by
  have HV : writeV s a v = (s, -1, 0) := by unfold writeV; rw [if_pos hm]; unfold writeS; rw [if_neg n20, if_neg n36, if_neg n32, if_neg n48, if_neg n80, if_neg n100, if_neg n112, if_neg (show ¬ s.se < 2 by omega)]
  rw [HV]; clear HV
  have HC := hide (fun w => vcheck_any s ok w)
  rw [(accV_ok hm).1] at HC
  replace HC : Hid (∀ w, Calls Tryd.prog 13 #[.agg s.cells] w fun e w' => e = .returned (.int .i64 0) ∧ Below w.heap.size w w') := HC
  have hA := accV_ok hm
  have h256 := hA.2.1
  have h4 := hA.2.2
  have g1 : decide ((a : Int) > 255) = false := by simp; omega
  have g2 : decide ((255 : Int) < (a : Int)) = false := by simp; omega
  have g3 : decide (255 < a) = false := by simp; omega
  have o1 : (((a : Int) % 4) != 0) = false := by simp; omega
  have o2 : ((((a % 4 : Nat)) : Int) != 0) = false := by simp; omega
  clear hA h4
  have l20 : ((a : Int) == 20) = false := by simp; omega
  have m20 : (a == 20) = false := by simp; omega
  have l36 : ((a : Int) == 36) = false := by simp; omega
  have m36 : (a == 36) = false := by simp; omega
  have l32 : ((a : Int) == 32) = false := by simp; omega
  have m32 : (a == 32) = false := by simp; omega
  have l48 : ((a : Int) == 48) = false := by simp; omega
  have m48 : (a == 48) = false := by simp; omega
  have l80 : ((a : Int) == 80) = false := by simp; omega
  have m80 : (a == 80) = false := by simp; omega
  have l100 : ((a : Int) == 100) = false := by simp; omega
  have m100 : (a == 100) = false := by simp; omega
  have l112 : ((a : Int) == 112) = false := by simp; omega
  have m112 : (a == 112) = false := by simp; omega
  have lse : (s.se : Int) > 1 := by omega
  have lseb : (1 : Int) < (s.se : Int) := by omega
  clear hs n20 n36 n32 n48 n80 n100 n112
  go_enter Tryd.func22, Tryd.ntmps22
  go_wp2_with (first | ((with_reducible refine bx_vr w.heap.size s ?_ ?_ ?_); exact rfl; exact rfl; intro W hr hb hz; have fx := hr.cell) | ((with_reducible refine al_vr (w.heap.size + 1) ?_ ?_); exact hz.out; intro W hq hb' hz'; replace hr := hr.bl (hz.out ▸ hb'); replace hb := hb.trans (hb'.mono (by omega)); replace hz := hz'; replace fx := hr.cell) | (go_at_call 13; (with_reducible refine (HC.out _).mono ?_); rintro e W ⟨rfl, hbc⟩; replace hr := hr.bl hbc; replace hq := hq.bl hbc; replace fx := hr.cell; replace hb := below_bl rfl hb hbc) | ((with_reducible refine ld_se w.heap.size _ _ hr ?_ ?_ ?_); exact rfl; exact rfl) | ((with_reducible refine ld_vr w.heap.size _ hr ?_ ?_ ?_); exact rfl; exact rfl) | ((with_reducible refine st_vr (w.heap.size + 1) _ s hq ?_ ?_ ?_); exact rfl; exact rfl; intro W hnew ho; replace hr := hr.only ho (by omega); replace hq := hnew; replace hb := ho.bel _ _ (by omega) hb))
  all_goals (refine bodyPost_ret (results_cell_two' Tryd.results22 _ _ (w.heap.size + 1) _ _ _ rfl hq Tryd.underlying31 rfl size_vr) rfl ?_; exact ⟨rfl, hb⟩)

end Go.Proofs.YtahgacdkofmbmaaDoor
