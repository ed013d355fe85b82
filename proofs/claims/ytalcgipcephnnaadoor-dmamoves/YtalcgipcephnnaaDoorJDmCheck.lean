/-
  What dma's orderMayBe and Check answer.
-/
import Derived.Test.YtalcgipcephnnaaDoorJDmEq
import Derived.Deep.RegionHeld3
namespace Go.Proofs.YtalcgipcephnnaaDoor
open Go.RowKit
set_option linter.unusedVariables false
set_option linter.unusedSimpArgs false

attribute [local go_sem] E.at0 E.at1 E.at2 E.at3 E.at4 E.at5 E.at6 E.at7 E.at8 E.at9 E.at10
theorem cq (x : Nat) (k : Nat) : ((x : Int) == (k : Int)) = (x == k) := castq x k
set_option maxHeartbeats 1000000 in
theorem over_any (s : E)  (w : World) :
    Calls Tryd.prog 29 #[.agg s.cells] w fun e w' => e = .returned (.bool (isOv s)) ∧ Below w.heap.size w w' := by
  obtain ⟨t0, ht0⟩ : ∃ b, (s.cd == 2) = b := ⟨_, rfl⟩
  obtain ⟨t1, ht1⟩ : ∃ b, (s.cd == 3) = b := ⟨_, rfl⟩
  have e0 : ((s.cd : Int) == 2) = t0 := (castq s.cd 2).trans ht0
  have e1 : ((s.cd : Int) == 3) = t1 := (castq s.cd 3).trans ht1
  have HV : isOv s = (t0 || t1) := by unfold isOv; rw [ht0, ht1]
  rw [HV]
  clear HV ht0 ht1
  cases t0 <;> cases t1
  all_goals
    go_enter Tryd.func29, Tryd.ntmps29
    go_wp2_with (first | ((with_reducible refine bx_ep w.heap.size s ?_ ?_ ?_); exact rfl; exact rfl; intro W hr hb hz; have fx := hr.cell))
    go_ret
    exact ⟨rfl, hb⟩

set_option maxHeartbeats 1000000 in
theorem wo_any (s : E)  (w : World) :
    Calls Tryd.prog 56 #[.agg s.cells] w fun e w' => e = .returned (.agg (noOrd s).cells) ∧ Below w.heap.size w w' := by
  go_enter Tryd.func56, Tryd.ntmps56
  go_wp2_with (first | ((with_reducible refine bx_ep w.heap.size s ?_ ?_ ?_); exact rfl; exact rfl; intro W hr hb hz) | ((with_reducible refine al_ep (w.heap.size + 1) ?_ ?_); exact hz.out; intro W hq hb' hz'; replace hr := hr.bl (hz.out ▸ hb'); replace hb := hb.trans (hb'.mono (by omega)); replace hz := hz') | ((with_reducible refine st_ehv w.heap.size _ false _ hr ?_ ?_ ?_); exact rfl; exact rfl; intro W hnew ho; replace hq := hq.only ho (by omega); replace hr := hnew; replace hb := ho.bel _ _ (by omega) hb) | ((with_reducible refine st_efr w.heap.size _ 0 _ hr ?_ ?_ ?_); exact rfl; exact rfl; intro W hnew ho; replace hq := hq.only ho (by omega); replace hr := hnew; replace hb := ho.bel _ _ (by omega) hb) | ((with_reducible refine st_ett w.heap.size _ 0 _ hr ?_ ?_ ?_); exact rfl; exact rfl; intro W hnew ho; replace hq := hq.only ho (by omega); replace hr := hnew; replace hb := ho.bel _ _ (by omega) hb) | ((with_reducible refine st_elf w.heap.size _ 0 _ hr ?_ ?_ ?_); exact rfl; exact rfl; intro W hnew ho; replace hq := hq.only ho (by omega); replace hr := hnew; replace hb := ho.bel _ _ (by omega) hb) | ((with_reducible refine st_enx w.heap.size _ 0 _ hr ?_ ?_ ?_); exact rfl; exact rfl; intro W hnew ho; replace hq := hq.only ho (by omega); replace hr := hnew; replace hb := ho.bel _ _ (by omega) hb) | ((with_reducible refine ld_ep w.heap.size _ hr ?_ ?_ ?_); exact rfl; exact rfl) | ((with_reducible refine st_ep (w.heap.size + 1) _ (noOrd s) hq ?_ ?_ ?_); exact rfl; exact rfl; intro W hnew ho; replace hr := hr.only ho (by omega); replace hq := hnew; replace hb := ho.bel _ _ (by omega) hb))
  refine bodyPost_ret (results_cell_row Tryd.results56 _ _ (w.heap.size + 1) _ _ _ _ rfl hq Tryd.underlying29 rfl size_ep) rfl ?_
  exact ⟨rfl, hb⟩

theorem truth_any (b : Bool) (w : World) : Calls Tryd.prog 26 #[.bool b] w fun e w' => e = .returned (.int .u32 (b2n b : Nat)) ∧ w' = w := by
  cases b
  all_goals
    go_enter Tryd.func26, Tryd.ntmps26
    go_wp2
    go_ret
    exact ⟨rfl, rfl⟩
set_option maxHeartbeats 1000000 in
theorem end_any (s : E) (c : Nat)  (w : World) :
    Calls Tryd.prog 62 #[.agg s.cells, .int .u32 (c : Nat)] w fun e w' => e = .returned (.agg (endE s c).cells) ∧ Below w.heap.size w w' := by
  have HW := hide (fun w => wo_any s w)
  go_enter Tryd.func62, Tryd.ntmps62
  go_wp2_with (first | ((with_reducible refine bx_ep w.heap.size s ?_ ?_ ?_); exact rfl; exact rfl; intro W hr hb hz) | ((with_reducible refine al_ep (w.heap.size + 1) ?_ ?_); exact hz.out; intro W hq hb' hz'; replace hr := hr.bl (hz.out ▸ hb'); replace hb := hb.trans (hb'.mono (by omega)); replace hz := hz') | ((with_reducible refine ld_ep w.heap.size _ hr ?_ ?_ ?_); exact rfl; exact rfl) | (go_at_call 56; (with_reducible refine (HW.out _).mono ?_); rintro e W ⟨rfl, hbc⟩; replace hr := hr.bl hbc; replace hq := hq.bl hbc; replace hb := below_bl rfl hb hbc) | ((with_reducible refine st_ep w.heap.size _ (noOrd s) hr ?_ ?_ ?_); exact rfl; exact rfl; intro W hnew ho; replace hq := hq.only ho (by omega); replace hr := hnew; replace hb := ho.bel _ _ (by omega) hb) | ((with_reducible refine st_ecd w.heap.size _ c _ hr ?_ ?_ ?_); exact rfl; exact rfl; intro W hnew ho; replace hq := hq.only ho (by omega); replace hr := hnew; replace hb := ho.bel _ _ (by omega) hb) | ((with_reducible refine st_eak w.heap.size _ true _ hr ?_ ?_ ?_); exact rfl; exact rfl; intro W hnew ho; replace hq := hq.only ho (by omega); replace hr := hnew; replace hb := ho.bel _ _ (by omega) hb) | ((with_reducible refine st_ep (w.heap.size + 1) _ (endE s c) hq ?_ ?_ ?_); exact rfl; exact rfl; intro W hnew ho; replace hr := hr.only ho (by omega); replace hq := hnew; replace hb := ho.bel _ _ (by omega) hb))
  refine bodyPost_ret (results_cell_row Tryd.results62 _ _ (w.heap.size + 1) _ _ _ _ rfl hq Tryd.underlying29 rfl size_ep) rfl ?_
  exact ⟨rfl, hb⟩

set_option maxHeartbeats 1000000 in
theorem sos_go (s : E) (v : Nat) (h0 : v = 1) (h1 : s.cd ≠ 1) (w : World) :
    Calls Tryd.prog 27 #[.agg s.cells, .int .u32 (v : Nat)] w fun e w' => e = .returned (.agg (goE s v).cells) ∧ Below w.heap.size w w' := by
  have HV : goE s v = ({ zeroE with cd := 1, hd := s.hd, pl := s.hd } : E) := by unfold goE; rw [if_pos ⟨h0, h1⟩]
  rw [HV]; clear HV
  subst h0
  have t1 : ((s.cd : Int) == 1) = false := (castq s.cd 1).trans (by simp [h1])
  go_enter Tryd.func27, Tryd.ntmps27
  go_wp2_with (first | ((with_reducible refine bx_ep w.heap.size s ?_ ?_ ?_); exact rfl; exact rfl; intro W hr hb hz; have fx := hr.cell) | ((with_reducible refine al_ep (w.heap.size + 1) ?_ ?_); exact hz.out; intro W hq hb' hz'; replace hr := hr.bl (hz.out ▸ hb'); replace fx := hr.cell; replace hb := hb.trans (hb'.mono (by omega)); replace hz := hz') | ((with_reducible refine ld_ep w.heap.size _ hr ?_ ?_ ?_); exact rfl; exact rfl) | ((with_reducible refine st_ep (w.heap.size + 1) _ ({ zeroE with cd := 1, hd := s.hd, pl := s.hd } : E) hq ?_ ?_ ?_); exact rfl; exact rfl; intro W hnew ho; replace hr := hr.only ho (by omega); replace hq := hnew; replace hb := ho.bel _ _ (by omega) hb))
  refine bodyPost_ret (results_cell_row Tryd.results27 _ _ (w.heap.size + 1) _ _ _ _ rfl hq Tryd.underlying29 rfl size_ep) rfl ?_
  exact ⟨rfl, hb⟩

set_option maxHeartbeats 1000000 in
theorem sos_stop (s : E) (v : Nat) (h0 : v = 2) (w : World) :
    Calls Tryd.prog 27 #[.agg s.cells, .int .u32 (v : Nat)] w fun e w' => e = .returned (.agg (goE s v).cells) ∧ Below w.heap.size w w' := by
  have HV : goE s v = ({ zeroE with hd := s.hd, mv := s.mv } : E) := by unfold goE; rw [if_neg (by omega), if_pos h0]
  rw [HV]; clear HV
  subst h0
  go_enter Tryd.func27, Tryd.ntmps27
  go_wp2_with (first | ((with_reducible refine bx_ep w.heap.size s ?_ ?_ ?_); exact rfl; exact rfl; intro W hr hb hz; have fx := hr.cell) | ((with_reducible refine al_ep (w.heap.size + 1) ?_ ?_); exact hz.out; intro W hq hb' hz'; replace hr := hr.bl (hz.out ▸ hb'); replace fx := hr.cell; replace hb := hb.trans (hb'.mono (by omega)); replace hz := hz') | ((with_reducible refine ld_ep w.heap.size _ hr ?_ ?_ ?_); exact rfl; exact rfl) | ((with_reducible refine st_ep (w.heap.size + 1) _ ({ zeroE with hd := s.hd, mv := s.mv } : E) hq ?_ ?_ ?_); exact rfl; exact rfl; intro W hnew ho; replace hr := hr.only ho (by omega); replace hq := hnew; replace hb := ho.bel _ _ (by omega) hb))
  refine bodyPost_ret (results_cell_row Tryd.results27 _ _ (w.heap.size + 1) _ _ _ _ rfl hq Tryd.underlying29 rfl size_ep) rfl ?_
  exact ⟨rfl, hb⟩

set_option maxHeartbeats 1000000 in
theorem sos_no1 (s : E) (v : Nat) (h0 : v = 1) (h1 : s.cd = 1) (w : World) :
    Calls Tryd.prog 27 #[.agg s.cells, .int .u32 (v : Nat)] w fun e w' => e = .returned (.agg (goE s v).cells) ∧ Below w.heap.size w w' := by
  have HV : goE s v = s := by unfold goE; rw [if_neg (by omega), if_neg (by omega)]
  rw [HV]; clear HV
  subst h0
  have t1 : ((s.cd : Int) == 1) = true := (castq s.cd 1).trans (by simp [h1])
  go_enter Tryd.func27, Tryd.ntmps27
  go_wp2_with (first | ((with_reducible refine bx_ep w.heap.size s ?_ ?_ ?_); exact rfl; exact rfl; intro W hr hb hz; have fx := hr.cell) | ((with_reducible refine al_ep (w.heap.size + 1) ?_ ?_); exact hz.out; intro W hq hb' hz'; replace hr := hr.bl (hz.out ▸ hb'); replace fx := hr.cell; replace hb := hb.trans (hb'.mono (by omega)); replace hz := hz') | ((with_reducible refine ld_ep w.heap.size _ hr ?_ ?_ ?_); exact rfl; exact rfl) | ((with_reducible refine st_ep (w.heap.size + 1) _ s hq ?_ ?_ ?_); exact rfl; exact rfl; intro W hnew ho; replace hr := hr.only ho (by omega); replace hq := hnew; replace hb := ho.bel _ _ (by omega) hb))
  refine bodyPost_ret (results_cell_row Tryd.results27 _ _ (w.heap.size + 1) _ _ _ _ rfl hq Tryd.underlying29 rfl size_ep) rfl ?_
  exact ⟨rfl, hb⟩

set_option maxHeartbeats 1000000 in
theorem sos_no2 (s : E) (v : Nat) (h0 : v ≠ 1) (h1 : v ≠ 2) (w : World) :
    Calls Tryd.prog 27 #[.agg s.cells, .int .u32 (v : Nat)] w fun e w' => e = .returned (.agg (goE s v).cells) ∧ Below w.heap.size w w' := by
  have HV : goE s v = s := by unfold goE; rw [if_neg (by omega), if_neg h1]
  rw [HV]; clear HV
  have t1 : ((v : Int) == 1) = false := (castq v 1).trans (by simp [h0])
  have t2 : ((v : Int) == 2) = false := (castq v 2).trans (by simp [h1])
  go_enter Tryd.func27, Tryd.ntmps27
  go_wp2_with (first | ((with_reducible refine bx_ep w.heap.size s ?_ ?_ ?_); exact rfl; exact rfl; intro W hr hb hz; have fx := hr.cell) | ((with_reducible refine al_ep (w.heap.size + 1) ?_ ?_); exact hz.out; intro W hq hb' hz'; replace hr := hr.bl (hz.out ▸ hb'); replace fx := hr.cell; replace hb := hb.trans (hb'.mono (by omega)); replace hz := hz') | ((with_reducible refine ld_ep w.heap.size _ hr ?_ ?_ ?_); exact rfl; exact rfl) | ((with_reducible refine st_ep (w.heap.size + 1) _ s hq ?_ ?_ ?_); exact rfl; exact rfl; intro W hnew ho; replace hr := hr.only ho (by omega); replace hq := hnew; replace hb := ho.bel _ _ (by omega) hb))
  refine bodyPost_ret (results_cell_row Tryd.results27 _ _ (w.heap.size + 1) _ _ _ _ rfl hq Tryd.underlying29 rfl size_ep) rfl ?_
  exact ⟨rfl, hb⟩

theorem sos_any (s : E) (v : Nat) (w : World) :
    Calls Tryd.prog 27 #[.agg s.cells, .int .u32 (v : Nat)] w fun e w' => e = .returned (.agg (goE s v).cells) ∧ Below w.heap.size w w' := by
  by_cases h0 : v = 1
  · by_cases h1 : s.cd = 1
    · exact sos_no1 s v h0 h1 w
    · exact sos_go s v h0 h1 w
  · by_cases h1 : v = 2
    · exact sos_stop s v h1 w
    · exact sos_no2 s v h0 h1 w
end Go.Proofs.YtalcgipcephnnaaDoor
namespace Go.Proofs.YtalcgipcephnnaaDoor
open Go.RowKit
set_option linter.unusedVariables false
set_option linter.unusedSimpArgs false

attribute [local go_sem] E.at0 E.at1 E.at2 E.at3 E.at4 E.at5 E.at6 E.at7 E.at8 E.at9 E.at10
set_option maxHeartbeats 1000000 in
theorem ord_no (s : E) (h0 : s.hv = false) (w : World) :
    Calls Tryd.prog 30 #[.agg s.cells] w fun e w' => e = .returned (.bool (ordB s)) ∧ Below w.heap.size w w' := by
  have HV : ordB s = eqE s (noOrd s) := by
    have e : (s.hv == false) = true := by rw [h0]; rfl
    unfold ordB same0 eqE noOrd
    rw [h0]
    simp
  rw [HV]; clear HV
  have HW := hide (fun w => wo_any s w)
  go_enter Tryd.func30, Tryd.ntmps30
  go_wp2_with (first | ((with_reducible refine bx_ep w.heap.size s ?_ ?_ ?_); exact rfl; exact rfl; intro W hr hb hz; have fx := hr.cell))
  refine wp_region_held_drew (S := (fun V => RowAt V w.heap.size s.cells 29 ∧ Below w.heap.size w V)) (by kernel_rfl) ?_ (fun hHeld => ?_)
  · exact ⟨hr.dr, hb.drew⟩
  generalize W.drew = V at hHeld ⊢
  clear hr hb fx
  refine wpAnyH_take (i := 0) (oi := ?oi2) (v := .agg s.cells) ?hi2 (by kernel_rfl) (by kernel_rfl) (by kernel_rfl) ?hQ2 ?hy2 (by assumption) ?rest2
  case hi2 => (simp only [List.getElem?_toArray, List.getElem?_cons_zero]; rfl)
  case hQ2 => exact fun _ _ _ h => h
  case hy2 => exact y_ep w.heap.size s (fun V hV => hV.1) rfl rfl
  simp only [Act.put, List.setIfInBounds_toArray, List.set_cons_zero, List.set_cons_succ]
  refine wpAnyH_take (i := 1) (oi := ?oi3) (v := .agg s.cells) ?hi3 (by kernel_rfl) (by kernel_rfl) (by kernel_rfl) ?hQ3 ?hy3 (by assumption) ?rest3
  case hi3 => (simp only [List.getElem?_toArray, List.getElem?_cons_zero, List.getElem?_cons_succ]; rfl)
  case hQ3 => exact fun _ _ _ h => h
  case hy3 => exact y_ep w.heap.size s (fun V hV => hV.1) rfl rfl
  simp only [Act.put, List.setIfInBounds_toArray, List.set_cons_zero, List.set_cons_succ]
  refine wpAnyH_ready (rs := [2]) (by kernel_rfl) (by simp) ?_
  refine AllReadyH.cons (o := ?oi1) ?hi1 (fun K hK => ?_) AllReadyH.nil
  case hi1 => (simp only [List.getElem?_toArray, List.getElem?_cons_zero, List.getElem?_cons_succ]; rfl)
  go_simp
  (with_reducible refine (HW.out _).mono ?_)
  rintro e V ⟨rfl, hbc⟩
  have hH2 := hide (And.intro (hHeld.1.bl hbc) (below_bl rfl hHeld.2 hbc))
  clear hHeld hbc
  go_simp
  refine hK.out _ _ ?_ (fun hHeld => ?_)
  · exact hH2.out
  clear hK K
  clear hH2
  refine wpAnyH_take (i := 3) (oi := ?oi4) (v := .bool (eqE s (noOrd s))) ?hi4 (by kernel_rfl) (by kernel_rfl) (by kernel_rfl) ?hQ4 ?hy4 (by assumption) ?rest4
  case hi4 => (simp only [List.getElem?_toArray, List.getElem?_cons_zero, List.getElem?_cons_succ]; rfl)
  case hQ4 => exact fun _ _ _ h => h
  case hy4 => exact y_eqe s (noOrd s) rfl rfl rfl
  simp only [Act.put, List.setIfInBounds_toArray, List.set_cons_zero, List.set_cons_succ]
  refine wpAnyH_take (i := 4) (oi := ?oi5) (v := .bool (eqE s (noOrd s))) ?hi5 (by kernel_rfl) (by kernel_rfl) (by kernel_rfl) ?hQ5 ?hy5 (by assumption) ?rest5
  case hi5 => (simp only [List.getElem?_toArray, List.getElem?_cons_zero, List.getElem?_cons_succ]; rfl)
  case hQ5 => exact fun _ _ _ h => h
  case hy5 => exact Or.inl ⟨by rfl, by (intro w hSw; (try dsimp only at hSw); go_simp )⟩
  simp only [Act.put, List.setIfInBounds_toArray, List.set_cons_zero, List.set_cons_succ]
  refine wpAnyH_done (by kernel_rfl) ?_ _
  have hb := hHeld.2
  clear hHeld
  go_wp2
  go_ret
  exact ⟨rfl, hb⟩

set_option maxHeartbeats 1000000 in
theorem ord_yes (s : E) (h0 : s.hv = true) (w : World) :
    Calls Tryd.prog 30 #[.agg s.cells] w fun e w' => e = .returned (.bool (ordB s)) ∧ Below w.heap.size w w' := by
  obtain ⟨t0, ht0⟩ : ∃ b, (s.cd == 1) = b := ⟨_, rfl⟩
  obtain ⟨t1, ht1⟩ : ∃ b, decide (1 ≤ s.lf) = b := ⟨_, rfl⟩
  obtain ⟨t2, ht2⟩ : ∃ b, decide (s.lf ≤ 65536) = b := ⟨_, rfl⟩
  have e0 : ((s.cd : Int) == 1) = t0 := (castq s.cd 1).trans ht0
  have e1 : decide ((1 : Int) ≤ (s.lf : Int)) = t1 := (by rw [← ht1]; exact decide_eq_decide.2 (by omega))
  have e2 : decide ((s.lf : Int) ≤ 65536) = t2 := (by rw [← ht2]; exact decide_eq_decide.2 (by omega))
  have HV : ordB s = (t0 && (t1 && t2)) := by unfold ordB; rw [h0, ht0, ht1, ht2]; rfl
  rw [HV]
  clear HV ht0
  cases t0 <;> cases t1 <;> cases t2
  all_goals
    go_enter Tryd.func30, Tryd.ntmps30
    go_wp2_with (first | ((with_reducible refine bx_ep w.heap.size s ?_ ?_ ?_); exact rfl; exact rfl; intro W hr hb hz; have fx := hr.cell))
    go_ret
    exact ⟨rfl, hb⟩

theorem ord_any (s : E) (w : World) :
    Calls Tryd.prog 30 #[.agg s.cells] w fun e w' => e = .returned (.bool (ordB s)) ∧ Below w.heap.size w w' := by
  cases h : s.hv with
  | false => exact ord_no s h w
  | true => exact ord_yes s h w
set_option maxHeartbeats 4000000 in
theorem echeck_any (s : E)  (w : World) :
    Calls Tryd.prog 14 #[.agg s.cells] w fun e w' => e = .returned (errP (chkE (mayE s))) ∧ Below w.heap.size w w' := by
  have HO := hide (fun w => over_any s w)
  have HM := hide (fun w => ord_any s w)
  obtain ⟨t0, ht0⟩ : ∃ b, decide (s.cd ≤ 3) = b := ⟨_, rfl⟩
  obtain ⟨t1, ht1⟩ : ∃ b, decide (s.st ≤ 64) = b := ⟨_, rfl⟩
  have HV : mayE s = (t0 && (t1 && ((!s.ak || isOv s) && ordB s))) := by unfold mayE; rw [ht0, ht1]
  have e0 : decide ((3 : Int) < (s.cd : Int)) = !t0 := (by rw [← ht0, ← decide_not]; exact decide_eq_decide.2 (by omega))
  have e1 : decide ((64 : Int) < (s.st : Int)) = !t1 := (by rw [← ht1, ← decide_not]; exact decide_eq_decide.2 (by omega))
  have f0 : decide (3 < s.cd) = !t0 := (by rw [← ht0, ← decide_not]; exact decide_eq_decide.2 (by omega))
  have f1 : decide (64 < s.st) = !t1 := (by rw [← ht1, ← decide_not]; exact decide_eq_decide.2 (by omega))
  rw [HV]
  clear HV ht0 ht1
  generalize isOv s = q1 at *
  generalize ordB s = q2 at *
  obtain ⟨q0, hq0⟩ : ∃ b, s.ak = b := ⟨_, rfl⟩
  rw [hq0]
  cases t0 <;> cases t1 <;> cases q0 <;> cases q1 <;> cases q2
  all_goals
    simp only [Bool.not_true, Bool.not_false] at e0 e1 f0 f1
    have HE : errP (chkE true) = .nilIface := rfl
    have HE1 : errP (chkE false) = .iface 69 (.int .i64 1) := rfl
    simp only [Bool.true_and, Bool.and_true, Bool.false_and, Bool.and_false, Bool.not_true, Bool.not_false, Bool.true_or, Bool.false_or, Bool.or_true, Bool.or_false, HE, HE1]
    clear HE HE1
    go_enter Tryd.func14, Tryd.ntmps14
    go_wp2_with (first | ((with_reducible refine bx_ep w.heap.size s ?_ ?_ ?_); exact rfl; exact rfl; intro W hr hb hz; have fx := hr.cell) | ((with_reducible refine ld_ep w.heap.size _ hr ?_ ?_ ?_); exact rfl; exact rfl) | (go_at_call 29; (with_reducible refine (HO.out _).mono ?_); rintro e W ⟨rfl, hbc⟩; replace hr := hr.bl hbc; replace fx := hr.cell; replace hb := below_bl rfl hb hbc) | (go_at_call 30; (with_reducible refine (HM.out _).mono ?_); rintro e W ⟨rfl, hbc⟩; replace hr := hr.bl hbc; replace fx := hr.cell; replace hb := below_bl rfl hb hbc))
    go_ret
    exact ⟨rfl, hb⟩

end Go.Proofs.YtalcgipcephnnaaDoor
