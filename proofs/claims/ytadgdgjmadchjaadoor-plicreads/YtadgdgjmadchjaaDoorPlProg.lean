/-
  What plic.bit, isPriority, Level, serve and end answer.
-/
import Derived.Test.YtadgdgjmadchjaaDoorPlRow
import Derived.BigQuiet
import Derived.Deep.RegionHeldLaw
namespace Go.Proofs.YtadgdgjmadchjaaDoor
open Go.RowKit
set_option linter.unusedVariables false

attribute [local go_sem] P5.at0 P5.at1 P5.at2 P5.at3 P5.at4 P5.at5 P5.at6 P5.at7 P5.at8 P5.at9 P5.at10 P5.at11
set_option maxHeartbeats 400000 in
theorem pbit_any (n : Nat) (hn : n ≤ 7) (w : World) :
    Calls Tryd.prog 21 #[.int .i64 n] w fun e w' => e = .returned (.int .u32 (2 ^ n : Nat)) ∧ w' = w := by
  have HP : Hid (((1 : Int) * 2 ^ n % 4294967296) = ((2 ^ n : Nat) : Int)) := by
    have h7 : n = 0 ∨ n = 1 ∨ n = 2 ∨ n = 3 ∨ n = 4 ∨ n = 5 ∨ n = 6 ∨ n = 7 := by omega
    rcases h7 with rfl | rfl | rfl | rfl | rfl | rfl | rfl | rfl <;> exact hide (by decide)
  go_enter Tryd.func21, Tryd.ntmps21
  go_wp2
  go_ret
  exact ⟨ret_int (by have := HP.out; simpa using this), rfl⟩
set_option maxHeartbeats 400000 in
theorem isPr_any (a : Nat) (w : World) :
    Calls Tryd.prog 15 #[.int .u32 a] w fun e w' => e = .returned (.bool (isPr a)) ∧ w' = w := by
  by_cases h : a < 32
  · have t0 : ((a : Int) < 32) := by omega
    by_cases h4 : a % 4 = 0
    · have t1 : ((a : Int) % 4 == 0) = true := by simp; omega
      have HA : Hid (isPr a = true) := by unfold isPr; rw [decide_eq_true h, decide_eq_true h4]; exact hide rfl
      rw [HA.out]; clear h h4
      go_enter Tryd.func15, Tryd.ntmps15
      go_wp2
      go_ret
      exact ⟨rfl, rfl⟩
    · have t1 : ((a : Int) % 4 == 0) = false := by simp; omega
      have HA : Hid (isPr a = false) := by unfold isPr; rw [decide_eq_true h, decide_eq_false h4]; exact hide rfl
      rw [HA.out]; clear h h4
      go_enter Tryd.func15, Tryd.ntmps15
      go_wp2
      go_ret
      exact ⟨rfl, rfl⟩
  · have t0 : decide ((a : Int) < 32) = false := by simp; omega
    have HA : Hid (isPr a = false) := by unfold isPr; rw [decide_eq_false h]; exact hide rfl
    rw [HA.out]; clear h
    go_enter Tryd.func15, Tryd.ntmps15
    go_wp2
    go_ret
    exact ⟨rfl, rfl⟩
set_option maxHeartbeats 1000000 in
theorem level_any (s : P5) (hs : s.Ok) (l : Nat) (hl : l < 4294967296) (w : World) :
    Calls Tryd.prog 23 #[.agg s.cells, .int .u32 l] w fun e w' => e = .returned (.agg (levelV s l).cells) ∧ Below w.heap.size w w' := by
  have h3 := hs.pe
  have h4 := hs.bu
  have E0 : bits .and .u32 (l : Int) 254 = ((l &&& 254 : Nat) : Int) := u32_and_nat l 254 hl (by decide)
  have hl2 : l &&& 254 < 4294967296 := and_lt_l (n := 32) hl
  have HV : Hid (Value.int .u32 (bits .or .u32 (s.pe : Int) (bits .andNot .u32 ((l &&& 254 : Nat) : Int) (s.bu : Int))) = .int .u32 (((levelV s l).pe : Nat) : Int)) := hide (by
    rw [u32_andNot_nat _ _ hl2 h4, u32_or_nat _ _ h3 (and_lt_l (n := 32) hl2)]; rfl)
  go_enter Tryd.func23, Tryd.ntmps23
  go_wp2_with (first | ((with_reducible refine bx_p w.heap.size s ?_ ?_ ?_); exact rfl; exact rfl; intro W hr hb hz) | ((with_reducible refine al_p (w.heap.size + 1) ?_ ?_); exact hz.out; intro W hq hb' hz'; replace hr := hr.bl (hz.out ▸ hb'); replace hb := hb.trans (hb'.mono (by omega)); replace hz := hz') | ((with_reducible refine ld_pe w.heap.size _ _ hr ?_ ?_); exact rfl) | ((with_reducible refine ld_bu w.heap.size _ _ hr ?_ ?_); exact rfl) | ((with_reducible refine st_pe w.heap.size _ (levelV s l).pe _ hr ?_ ?_ ?_); exact rfl; exact HV.out; intro W hnew ho; replace hq := hq.only ho (by omega); replace hr := hnew; replace hb := ho.bel _ _ (by omega) hb) | ((with_reducible refine ld_p w.heap.size _ hr ?_ ?_); exact rfl) | ((with_reducible refine st_p (w.heap.size + 1) _ (levelV s l) hq ?_ ?_ ?_); exact rfl; exact rfl; intro W hnew ho; replace hr := hr.only ho (by omega); replace hq := hnew; replace hb := ho.bel _ _ (by omega) hb))
  refine bodyPost_ret (results_cell_row Tryd.results23 _ _ (w.heap.size + 1) _ _ _ _ rfl hq Tryd.underlying26 rfl size_p) rfl ?_
  exact ⟨rfl, hb⟩

set_option maxHeartbeats 1000000 in
theorem serve_none (s : P5) (w : World) :
    Calls Tryd.prog 16 #[.agg s.cells, .int .i64 0] w fun e w' => e = .returned (.agg (serveV s 0).cells) ∧ Below w.heap.size w w' := by
  go_enter Tryd.func16, Tryd.ntmps16
  go_wp2_with (first | ((with_reducible refine bx_p w.heap.size s ?_ ?_ ?_); exact rfl; exact rfl; intro W hr hb hz) | ((with_reducible refine al_p (w.heap.size + 1) ?_ ?_); exact hz.out; intro W hq hb' hz'; replace hr := hr.bl (hz.out ▸ hb'); replace hb := hb.trans (hb'.mono (by omega)); replace hz := hz') | ((with_reducible refine ld_p w.heap.size _ hr ?_ ?_); exact rfl) | ((with_reducible refine st_p (w.heap.size + 1) _ s hq ?_ ?_ ?_); exact rfl; exact rfl; intro W hnew ho; replace hr := hr.only ho (by omega); replace hq := hnew; replace hb := ho.bel _ _ (by omega) hb))
  refine bodyPost_ret (results_cell_row Tryd.results16 _ _ (w.heap.size + 1) _ _ _ _ rfl hq Tryd.underlying26 rfl size_p) rfl ?_
  exact ⟨rfl, hb⟩

set_option maxHeartbeats 1000000 in
theorem serve_one (s : P5) (hs : s.Ok) (n : Nat) (h0 : 0 < n) (hn : n ≤ 7) (w : World) :
    Calls Tryd.prog 16 #[.agg s.cells, .int .i64 n] w fun e w' => e = .returned (.agg (serveV s n).cells) ∧ Below w.heap.size w w' := by
  have h3 := hs.pe
  have h4 := hs.bu
  have hp : 2 ^ n < 4294967296 := pow_lt32 (by omega)
  have HB := hide (fun w => pbit_any n hn w)
  have t0 : ((n : Int) == 0) = false := by simp; omega
  have E1 := hide (u32_andNot_nat s.pe (2 ^ n) h3 hp)
  have E2 := hide (u32_or_nat s.bu (2 ^ n) h4 hp)
  have HV : Hid (serveV s n = ⟨s.pr, s.en, s.th, s.pe &&& (4294967295 - 2 ^ n), s.bu ||| 2 ^ n⟩) := hide (by unfold serveV; rw [if_neg (by omega)])
  rw [HV.out]
  generalize hpe : s.pe &&& (4294967295 - 2 ^ n) = x3 at *
  generalize hbu : s.bu ||| 2 ^ n = x4 at *
  generalize hpw : 2 ^ n = pw at *
  go_enter Tryd.func16, Tryd.ntmps16
  go_wp2_with (first | ((with_reducible refine bx_p w.heap.size s ?_ ?_ ?_); exact rfl; exact rfl; intro W hr hb hz) | ((with_reducible refine al_p (w.heap.size + 1) ?_ ?_); exact hz.out; intro W hq hb' hz'; replace hr := hr.bl (hz.out ▸ hb'); replace hb := hb.trans (hb'.mono (by omega)); replace hz := hz'))
  refine wp_region_held_drew (S := (fun V => Below w.heap.size w V)) (by kernel_rfl) ?_ (fun hHeld => ?_)
  · exact hb.drew
  replace hr := hr.dr
  replace hq := hq.dr
  clear hb
  refine wpAnyH_take (i := 0) (oi := ?oi1) (v := .pointer (some ⟨w.heap.size, 10, none⟩)) ?hi1 (by kernel_rfl) (by kernel_rfl) (by kernel_rfl) ?hQ1 ?hy1 (by assumption) ?rest1
  case hi1 => (simp only [List.getElem?_toArray, List.getElem?_cons_zero]; rfl)
  case hQ1 => exact fun _ _ _ h => h
  case hy1 => exact Or.inl ⟨by rfl, by (intro w hSw; (try dsimp only at hSw); go_simp )⟩
  simp only [Act.put, List.setIfInBounds_toArray, List.set_cons_zero, List.set_cons_succ]
  refine wpAnyH_take (i := 2) (oi := ?oi2) (v := .int .i64 (n : Nat)) ?hi2 (by kernel_rfl) (by kernel_rfl) (by kernel_rfl) ?hQ2 ?hy2 (by assumption) ?rest2
  case hi2 => (simp only [List.getElem?_toArray, List.getElem?_cons_zero, List.getElem?_cons_succ]; rfl)
  case hQ2 => exact fun _ _ _ h => h
  case hy2 => exact Or.inl ⟨by rfl, by (intro w hSw; (try dsimp only at hSw); go_simp )⟩
  simp only [Act.put, List.setIfInBounds_toArray, List.set_cons_zero, List.set_cons_succ]
  refine wpAnyH_ready (rs := [1, 3]) (by kernel_rfl) (by simp) ?_
  refine AllReadyH.cons (o := ?oi3) ?hi3 (fun K hK => ?b3) (AllReadyH.cons (o := ?oi4) ?hi4 (fun K hK => ?b4) AllReadyH.nil)
  case hi3 => (simp only [List.getElem?_toArray, List.getElem?_cons_zero, List.getElem?_cons_succ]; rfl)
  case hi4 => (simp only [List.getElem?_toArray, List.getElem?_cons_zero, List.getElem?_cons_succ]; rfl)
  case b3 =>
    rw [if_pos (by rfl)]
    (with_reducible refine l_w w.heap.size 10 _ _ (s).pe hr ?_ ?_ ?_)
    · exact rfl
    · exact rfl
    refine hK.out _ _ ?_ (fun _ => ?_)
    · exact hHeld
    clear hK K
    refine wpAnyH_ready (rs := [3]) (by kernel_rfl) (by simp) ?_
    refine AllReadyH.cons (o := ?oi5) ?hi5 (fun K hK => ?_) AllReadyH.nil
    case hi5 => (simp only [List.getElem?_toArray, List.getElem?_cons_zero, List.getElem?_cons_succ]; rfl)
    go_simp
    refine (HB.out _).mono ?_
    rintro e V ⟨rfl, rfl⟩
    go_simp
    refine hK.out _ _ ?_ (fun hHeld => ?_)
    · exact hHeld
    clear hK K
    refine wpAnyH_take (i := 4) (oi := ?oi6) (v := .int .u32 (x3 : Nat)) ?hi6 (by kernel_rfl) (by kernel_rfl) (by kernel_rfl) ?hQ6 ?hy6 (by assumption) ?rest6
    case hi6 => (simp only [List.getElem?_toArray, List.getElem?_cons_zero, List.getElem?_cons_succ]; rfl)
    case hQ6 => exact fun _ _ _ h => h
    case hy6 => exact Or.inl ⟨by rfl, by (intro w hSw; (try dsimp only at hSw); go_simp; exact E1.out)⟩
    simp only [Act.put, List.setIfInBounds_toArray, List.set_cons_zero, List.set_cons_succ]
    refine wpAnyH_take (i := 5) (oi := ?oi7) (v := .pointer (some ⟨w.heap.size, 10, none⟩)) ?hi7 (by kernel_rfl) (by kernel_rfl) (by kernel_rfl) ?hQ7 ?hy7 (by assumption) ?rest7
    case hi7 => (simp only [List.getElem?_toArray, List.getElem?_cons_zero, List.getElem?_cons_succ]; rfl)
    case hQ7 => exact fun _ _ _ h => h
    case hy7 => exact Or.inl ⟨by rfl, by (intro w hSw; (try dsimp only at hSw); go_simp )⟩
    simp only [Act.put, List.setIfInBounds_toArray, List.set_cons_zero, List.set_cons_succ]
    refine wpAnyH_ready (rs := [6]) (by kernel_rfl) (by simp) ?_
    refine AllReadyH.cons (o := ?oi8) ?hi8 (fun K hK => ?_) AllReadyH.nil
    case hi8 => (simp only [List.getElem?_toArray, List.getElem?_cons_zero, List.getElem?_cons_succ]; rfl)
    rw [if_pos (by rfl)]
    (with_reducible refine s_w w.heap.size 10 _ (P5.cells ⟨s.pr, s.en, s.th, x3, s.bu⟩) _ x3 hr ?_ ?_ ?_ ?_ ?_)
    · exact rfl
    · (rw [P5.size]; decide)
    · exact rfl
    · exact rfl
    intro V hnew ho
    replace hq := hq.only ho (by omega)
    have hb := ho.bel _ _ (by omega) hHeld
    replace hr := hnew
    clear hHeld hnew ho
    refine hK.out _ _ ?_ (fun hHeld => ?_)
    · exact hb
    clear hK K
    refine wpAnyH_done (by kernel_rfl) ?_ _
    have hb := hHeld
    go_wp2
    refine wp_region_held_drew (S := (fun V => Below w.heap.size w V)) (by kernel_rfl) ?_ (fun hHeld => ?_)
    · exact hb.drew
    replace hr := hr.dr
    replace hq := hq.dr
    clear hb
    refine wpAnyH_take (i := 0) (oi := ?oi9) (v := .pointer (some ⟨w.heap.size, 11, none⟩)) ?hi9 (by kernel_rfl) (by kernel_rfl) (by kernel_rfl) ?hQ9 ?hy9 (by assumption) ?rest9
    case hi9 => (simp only [List.getElem?_toArray, List.getElem?_cons_zero]; rfl)
    case hQ9 => exact fun _ _ _ h => h
    case hy9 => exact Or.inl ⟨by rfl, by (intro w hSw; (try dsimp only at hSw); go_simp )⟩
    simp only [Act.put, List.setIfInBounds_toArray, List.set_cons_zero, List.set_cons_succ]
    refine wpAnyH_take (i := 2) (oi := ?oi10) (v := .int .i64 (n : Nat)) ?hi10 (by kernel_rfl) (by kernel_rfl) (by kernel_rfl) ?hQ10 ?hy10 (by assumption) ?rest10
    case hi10 => (simp only [List.getElem?_toArray, List.getElem?_cons_zero, List.getElem?_cons_succ]; rfl)
    case hQ10 => exact fun _ _ _ h => h
    case hy10 => exact Or.inl ⟨by rfl, by (intro w hSw; (try dsimp only at hSw); go_simp )⟩
    simp only [Act.put, List.setIfInBounds_toArray, List.set_cons_zero, List.set_cons_succ]
    refine wpAnyH_ready (rs := [1, 3]) (by kernel_rfl) (by simp) ?_
    refine AllReadyH.cons (o := ?oi11) ?hi11 (fun K hK => ?b11) (AllReadyH.cons (o := ?oi12) ?hi12 (fun K hK => ?b12) AllReadyH.nil)
    case hi11 => (simp only [List.getElem?_toArray, List.getElem?_cons_zero, List.getElem?_cons_succ]; rfl)
    case hi12 => (simp only [List.getElem?_toArray, List.getElem?_cons_zero, List.getElem?_cons_succ]; rfl)
    case b11 =>
      rw [if_pos (by rfl)]
      (with_reducible refine l_w w.heap.size 11 _ _ ((⟨s.pr, s.en, s.th, x3, s.bu⟩ : P5)).bu hr ?_ ?_ ?_)
      · exact rfl
      · exact rfl
      refine hK.out _ _ ?_ (fun _ => ?_)
      · exact hHeld
      clear hK K
      refine wpAnyH_ready (rs := [3]) (by kernel_rfl) (by simp) ?_
      refine AllReadyH.cons (o := ?oi13) ?hi13 (fun K hK => ?_) AllReadyH.nil
      case hi13 => (simp only [List.getElem?_toArray, List.getElem?_cons_zero, List.getElem?_cons_succ]; rfl)
      go_simp
      refine (HB.out _).mono ?_
      rintro e V ⟨rfl, rfl⟩
      go_simp
      refine hK.out _ _ ?_ (fun hHeld => ?_)
      · exact hHeld
      clear hK K
      refine wpAnyH_take (i := 4) (oi := ?oi14) (v := .int .u32 (x4 : Nat)) ?hi14 (by kernel_rfl) (by kernel_rfl) (by kernel_rfl) ?hQ14 ?hy14 (by assumption) ?rest14
      case hi14 => (simp only [List.getElem?_toArray, List.getElem?_cons_zero, List.getElem?_cons_succ]; rfl)
      case hQ14 => exact fun _ _ _ h => h
      case hy14 => exact Or.inl ⟨by rfl, by (intro w hSw; (try dsimp only at hSw); go_simp; exact E2.out)⟩
      simp only [Act.put, List.setIfInBounds_toArray, List.set_cons_zero, List.set_cons_succ]
      refine wpAnyH_take (i := 5) (oi := ?oi15) (v := .pointer (some ⟨w.heap.size, 11, none⟩)) ?hi15 (by kernel_rfl) (by kernel_rfl) (by kernel_rfl) ?hQ15 ?hy15 (by assumption) ?rest15
      case hi15 => (simp only [List.getElem?_toArray, List.getElem?_cons_zero, List.getElem?_cons_succ]; rfl)
      case hQ15 => exact fun _ _ _ h => h
      case hy15 => exact Or.inl ⟨by rfl, by (intro w hSw; (try dsimp only at hSw); go_simp )⟩
      simp only [Act.put, List.setIfInBounds_toArray, List.set_cons_zero, List.set_cons_succ]
      refine wpAnyH_ready (rs := [6]) (by kernel_rfl) (by simp) ?_
      refine AllReadyH.cons (o := ?oi16) ?hi16 (fun K hK => ?_) AllReadyH.nil
      case hi16 => (simp only [List.getElem?_toArray, List.getElem?_cons_zero, List.getElem?_cons_succ]; rfl)
      rw [if_pos (by rfl)]
      (with_reducible refine s_w w.heap.size 11 _ (P5.cells ⟨s.pr, s.en, s.th, x3, x4⟩) _ x4 hr ?_ ?_ ?_ ?_ ?_)
      · exact rfl
      · (rw [P5.size]; decide)
      · exact rfl
      · exact rfl
      intro V hnew ho
      replace hq := hq.only ho (by omega)
      have hb := ho.bel _ _ (by omega) hHeld
      replace hr := hnew
      clear hHeld hnew ho
      refine hK.out _ _ ?_ (fun hHeld => ?_)
      · exact hb
      clear hK K
      refine wpAnyH_done (by kernel_rfl) ?_ _
      have hb := hHeld
      go_wp2_with (first | ((with_reducible refine ld_p w.heap.size _ hr ?_ ?_); exact rfl) | ((with_reducible refine st_p (w.heap.size + 1) _ ⟨s.pr, s.en, s.th, x3, x4⟩ hq ?_ ?_ ?_); exact rfl; exact rfl; intro W hnew ho; replace hr := hr.only ho (by omega); replace hq := hnew; replace hb := ho.bel _ _ (by omega) hb))
      refine bodyPost_ret (results_cell_row Tryd.results16 _ _ (w.heap.size + 1) _ _ _ _ rfl hq Tryd.underlying26 rfl size_p) rfl ?_
      exact ⟨rfl, hb⟩
    case b12 =>
      go_simp
      refine (HB.out _).mono ?_
      rintro e V ⟨rfl, rfl⟩
      go_simp
      refine hK.out _ _ ?_ (fun _ => ?_)
      · exact hHeld
      clear hK K
      refine wpAnyH_ready (rs := [1]) (by kernel_rfl) (by simp) ?_
      refine AllReadyH.cons (o := ?oi17) ?hi17 (fun K hK => ?_) AllReadyH.nil
      case hi17 => (simp only [List.getElem?_toArray, List.getElem?_cons_zero, List.getElem?_cons_succ]; rfl)
      rw [if_pos (by rfl)]
      (with_reducible refine l_w w.heap.size 11 _ _ ((⟨s.pr, s.en, s.th, x3, s.bu⟩ : P5)).bu hr ?_ ?_ ?_)
      · exact rfl
      · exact rfl
      refine hK.out _ _ ?_ (fun hHeld => ?_)
      · exact hHeld
      clear hK K
      refine wpAnyH_take (i := 4) (oi := ?oi18) (v := .int .u32 (x4 : Nat)) ?hi18 (by kernel_rfl) (by kernel_rfl) (by kernel_rfl) ?hQ18 ?hy18 (by assumption) ?rest18
      case hi18 => (simp only [List.getElem?_toArray, List.getElem?_cons_zero, List.getElem?_cons_succ]; rfl)
      case hQ18 => exact fun _ _ _ h => h
      case hy18 => exact Or.inl ⟨by rfl, by (intro w hSw; (try dsimp only at hSw); go_simp; exact E2.out)⟩
      simp only [Act.put, List.setIfInBounds_toArray, List.set_cons_zero, List.set_cons_succ]
      refine wpAnyH_take (i := 5) (oi := ?oi19) (v := .pointer (some ⟨w.heap.size, 11, none⟩)) ?hi19 (by kernel_rfl) (by kernel_rfl) (by kernel_rfl) ?hQ19 ?hy19 (by assumption) ?rest19
      case hi19 => (simp only [List.getElem?_toArray, List.getElem?_cons_zero, List.getElem?_cons_succ]; rfl)
      case hQ19 => exact fun _ _ _ h => h
      case hy19 => exact Or.inl ⟨by rfl, by (intro w hSw; (try dsimp only at hSw); go_simp )⟩
      simp only [Act.put, List.setIfInBounds_toArray, List.set_cons_zero, List.set_cons_succ]
      refine wpAnyH_ready (rs := [6]) (by kernel_rfl) (by simp) ?_
      refine AllReadyH.cons (o := ?oi20) ?hi20 (fun K hK => ?_) AllReadyH.nil
      case hi20 => (simp only [List.getElem?_toArray, List.getElem?_cons_zero, List.getElem?_cons_succ]; rfl)
      rw [if_pos (by rfl)]
      (with_reducible refine s_w w.heap.size 11 _ (P5.cells ⟨s.pr, s.en, s.th, x3, x4⟩) _ x4 hr ?_ ?_ ?_ ?_ ?_)
      · exact rfl
      · (rw [P5.size]; decide)
      · exact rfl
      · exact rfl
      intro V hnew ho
      replace hq := hq.only ho (by omega)
      have hb := ho.bel _ _ (by omega) hHeld
      replace hr := hnew
      clear hHeld hnew ho
      refine hK.out _ _ ?_ (fun hHeld => ?_)
      · exact hb
      clear hK K
      refine wpAnyH_done (by kernel_rfl) ?_ _
      have hb := hHeld
      go_wp2_with (first | ((with_reducible refine ld_p w.heap.size _ hr ?_ ?_); exact rfl) | ((with_reducible refine st_p (w.heap.size + 1) _ ⟨s.pr, s.en, s.th, x3, x4⟩ hq ?_ ?_ ?_); exact rfl; exact rfl; intro W hnew ho; replace hr := hr.only ho (by omega); replace hq := hnew; replace hb := ho.bel _ _ (by omega) hb))
      refine bodyPost_ret (results_cell_row Tryd.results16 _ _ (w.heap.size + 1) _ _ _ _ rfl hq Tryd.underlying26 rfl size_p) rfl ?_
      exact ⟨rfl, hb⟩
  case b4 =>
    go_simp
    refine (HB.out _).mono ?_
    rintro e V ⟨rfl, rfl⟩
    go_simp
    refine hK.out _ _ ?_ (fun _ => ?_)
    · exact hHeld
    clear hK K
    refine wpAnyH_ready (rs := [1]) (by kernel_rfl) (by simp) ?_
    refine AllReadyH.cons (o := ?oi21) ?hi21 (fun K hK => ?_) AllReadyH.nil
    case hi21 => (simp only [List.getElem?_toArray, List.getElem?_cons_zero, List.getElem?_cons_succ]; rfl)
    rw [if_pos (by rfl)]
    (with_reducible refine l_w w.heap.size 10 _ _ (s).pe hr ?_ ?_ ?_)
    · exact rfl
    · exact rfl
    refine hK.out _ _ ?_ (fun hHeld => ?_)
    · exact hHeld
    clear hK K
    refine wpAnyH_take (i := 4) (oi := ?oi22) (v := .int .u32 (x3 : Nat)) ?hi22 (by kernel_rfl) (by kernel_rfl) (by kernel_rfl) ?hQ22 ?hy22 (by assumption) ?rest22
    case hi22 => (simp only [List.getElem?_toArray, List.getElem?_cons_zero, List.getElem?_cons_succ]; rfl)
    case hQ22 => exact fun _ _ _ h => h
    case hy22 => exact Or.inl ⟨by rfl, by (intro w hSw; (try dsimp only at hSw); go_simp; exact E1.out)⟩
    simp only [Act.put, List.setIfInBounds_toArray, List.set_cons_zero, List.set_cons_succ]
    refine wpAnyH_take (i := 5) (oi := ?oi23) (v := .pointer (some ⟨w.heap.size, 10, none⟩)) ?hi23 (by kernel_rfl) (by kernel_rfl) (by kernel_rfl) ?hQ23 ?hy23 (by assumption) ?rest23
    case hi23 => (simp only [List.getElem?_toArray, List.getElem?_cons_zero, List.getElem?_cons_succ]; rfl)
    case hQ23 => exact fun _ _ _ h => h
    case hy23 => exact Or.inl ⟨by rfl, by (intro w hSw; (try dsimp only at hSw); go_simp )⟩
    simp only [Act.put, List.setIfInBounds_toArray, List.set_cons_zero, List.set_cons_succ]
    refine wpAnyH_ready (rs := [6]) (by kernel_rfl) (by simp) ?_
    refine AllReadyH.cons (o := ?oi24) ?hi24 (fun K hK => ?_) AllReadyH.nil
    case hi24 => (simp only [List.getElem?_toArray, List.getElem?_cons_zero, List.getElem?_cons_succ]; rfl)
    rw [if_pos (by rfl)]
    (with_reducible refine s_w w.heap.size 10 _ (P5.cells ⟨s.pr, s.en, s.th, x3, s.bu⟩) _ x3 hr ?_ ?_ ?_ ?_ ?_)
    · exact rfl
    · (rw [P5.size]; decide)
    · exact rfl
    · exact rfl
    intro V hnew ho
    replace hq := hq.only ho (by omega)
    have hb := ho.bel _ _ (by omega) hHeld
    replace hr := hnew
    clear hHeld hnew ho
    refine hK.out _ _ ?_ (fun hHeld => ?_)
    · exact hb
    clear hK K
    refine wpAnyH_done (by kernel_rfl) ?_ _
    have hb := hHeld
    go_wp2
    refine wp_region_held_drew (S := (fun V => Below w.heap.size w V)) (by kernel_rfl) ?_ (fun hHeld => ?_)
    · exact hb.drew
    replace hr := hr.dr
    replace hq := hq.dr
    clear hb
    refine wpAnyH_take (i := 0) (oi := ?oi25) (v := .pointer (some ⟨w.heap.size, 11, none⟩)) ?hi25 (by kernel_rfl) (by kernel_rfl) (by kernel_rfl) ?hQ25 ?hy25 (by assumption) ?rest25
    case hi25 => (simp only [List.getElem?_toArray, List.getElem?_cons_zero]; rfl)
    case hQ25 => exact fun _ _ _ h => h
    case hy25 => exact Or.inl ⟨by rfl, by (intro w hSw; (try dsimp only at hSw); go_simp )⟩
    simp only [Act.put, List.setIfInBounds_toArray, List.set_cons_zero, List.set_cons_succ]
    refine wpAnyH_take (i := 2) (oi := ?oi26) (v := .int .i64 (n : Nat)) ?hi26 (by kernel_rfl) (by kernel_rfl) (by kernel_rfl) ?hQ26 ?hy26 (by assumption) ?rest26
    case hi26 => (simp only [List.getElem?_toArray, List.getElem?_cons_zero, List.getElem?_cons_succ]; rfl)
    case hQ26 => exact fun _ _ _ h => h
    case hy26 => exact Or.inl ⟨by rfl, by (intro w hSw; (try dsimp only at hSw); go_simp )⟩
    simp only [Act.put, List.setIfInBounds_toArray, List.set_cons_zero, List.set_cons_succ]
    refine wpAnyH_ready (rs := [1, 3]) (by kernel_rfl) (by simp) ?_
    refine AllReadyH.cons (o := ?oi27) ?hi27 (fun K hK => ?b27) (AllReadyH.cons (o := ?oi28) ?hi28 (fun K hK => ?b28) AllReadyH.nil)
    case hi27 => (simp only [List.getElem?_toArray, List.getElem?_cons_zero, List.getElem?_cons_succ]; rfl)
    case hi28 => (simp only [List.getElem?_toArray, List.getElem?_cons_zero, List.getElem?_cons_succ]; rfl)
    case b27 =>
      rw [if_pos (by rfl)]
      (with_reducible refine l_w w.heap.size 11 _ _ ((⟨s.pr, s.en, s.th, x3, s.bu⟩ : P5)).bu hr ?_ ?_ ?_)
      · exact rfl
      · exact rfl
      refine hK.out _ _ ?_ (fun _ => ?_)
      · exact hHeld
      clear hK K
      refine wpAnyH_ready (rs := [3]) (by kernel_rfl) (by simp) ?_
      refine AllReadyH.cons (o := ?oi29) ?hi29 (fun K hK => ?_) AllReadyH.nil
      case hi29 => (simp only [List.getElem?_toArray, List.getElem?_cons_zero, List.getElem?_cons_succ]; rfl)
      go_simp
      refine (HB.out _).mono ?_
      rintro e V ⟨rfl, rfl⟩
      go_simp
      refine hK.out _ _ ?_ (fun hHeld => ?_)
      · exact hHeld
      clear hK K
      refine wpAnyH_take (i := 4) (oi := ?oi30) (v := .int .u32 (x4 : Nat)) ?hi30 (by kernel_rfl) (by kernel_rfl) (by kernel_rfl) ?hQ30 ?hy30 (by assumption) ?rest30
      case hi30 => (simp only [List.getElem?_toArray, List.getElem?_cons_zero, List.getElem?_cons_succ]; rfl)
      case hQ30 => exact fun _ _ _ h => h
      case hy30 => exact Or.inl ⟨by rfl, by (intro w hSw; (try dsimp only at hSw); go_simp; exact E2.out)⟩
      simp only [Act.put, List.setIfInBounds_toArray, List.set_cons_zero, List.set_cons_succ]
      refine wpAnyH_take (i := 5) (oi := ?oi31) (v := .pointer (some ⟨w.heap.size, 11, none⟩)) ?hi31 (by kernel_rfl) (by kernel_rfl) (by kernel_rfl) ?hQ31 ?hy31 (by assumption) ?rest31
      case hi31 => (simp only [List.getElem?_toArray, List.getElem?_cons_zero, List.getElem?_cons_succ]; rfl)
      case hQ31 => exact fun _ _ _ h => h
      case hy31 => exact Or.inl ⟨by rfl, by (intro w hSw; (try dsimp only at hSw); go_simp )⟩
      simp only [Act.put, List.setIfInBounds_toArray, List.set_cons_zero, List.set_cons_succ]
      refine wpAnyH_ready (rs := [6]) (by kernel_rfl) (by simp) ?_
      refine AllReadyH.cons (o := ?oi32) ?hi32 (fun K hK => ?_) AllReadyH.nil
      case hi32 => (simp only [List.getElem?_toArray, List.getElem?_cons_zero, List.getElem?_cons_succ]; rfl)
      rw [if_pos (by rfl)]
      (with_reducible refine s_w w.heap.size 11 _ (P5.cells ⟨s.pr, s.en, s.th, x3, x4⟩) _ x4 hr ?_ ?_ ?_ ?_ ?_)
      · exact rfl
      · (rw [P5.size]; decide)
      · exact rfl
      · exact rfl
      intro V hnew ho
      replace hq := hq.only ho (by omega)
      have hb := ho.bel _ _ (by omega) hHeld
      replace hr := hnew
      clear hHeld hnew ho
      refine hK.out _ _ ?_ (fun hHeld => ?_)
      · exact hb
      clear hK K
      refine wpAnyH_done (by kernel_rfl) ?_ _
      have hb := hHeld
      go_wp2_with (first | ((with_reducible refine ld_p w.heap.size _ hr ?_ ?_); exact rfl) | ((with_reducible refine st_p (w.heap.size + 1) _ ⟨s.pr, s.en, s.th, x3, x4⟩ hq ?_ ?_ ?_); exact rfl; exact rfl; intro W hnew ho; replace hr := hr.only ho (by omega); replace hq := hnew; replace hb := ho.bel _ _ (by omega) hb))
      refine bodyPost_ret (results_cell_row Tryd.results16 _ _ (w.heap.size + 1) _ _ _ _ rfl hq Tryd.underlying26 rfl size_p) rfl ?_
      exact ⟨rfl, hb⟩
    case b28 =>
      go_simp
      refine (HB.out _).mono ?_
      rintro e V ⟨rfl, rfl⟩
      go_simp
      refine hK.out _ _ ?_ (fun _ => ?_)
      · exact hHeld
      clear hK K
      refine wpAnyH_ready (rs := [1]) (by kernel_rfl) (by simp) ?_
      refine AllReadyH.cons (o := ?oi33) ?hi33 (fun K hK => ?_) AllReadyH.nil
      case hi33 => (simp only [List.getElem?_toArray, List.getElem?_cons_zero, List.getElem?_cons_succ]; rfl)
      rw [if_pos (by rfl)]
      (with_reducible refine l_w w.heap.size 11 _ _ ((⟨s.pr, s.en, s.th, x3, s.bu⟩ : P5)).bu hr ?_ ?_ ?_)
      · exact rfl
      · exact rfl
      refine hK.out _ _ ?_ (fun hHeld => ?_)
      · exact hHeld
      clear hK K
      refine wpAnyH_take (i := 4) (oi := ?oi34) (v := .int .u32 (x4 : Nat)) ?hi34 (by kernel_rfl) (by kernel_rfl) (by kernel_rfl) ?hQ34 ?hy34 (by assumption) ?rest34
      case hi34 => (simp only [List.getElem?_toArray, List.getElem?_cons_zero, List.getElem?_cons_succ]; rfl)
      case hQ34 => exact fun _ _ _ h => h
      case hy34 => exact Or.inl ⟨by rfl, by (intro w hSw; (try dsimp only at hSw); go_simp; exact E2.out)⟩
      simp only [Act.put, List.setIfInBounds_toArray, List.set_cons_zero, List.set_cons_succ]
      refine wpAnyH_take (i := 5) (oi := ?oi35) (v := .pointer (some ⟨w.heap.size, 11, none⟩)) ?hi35 (by kernel_rfl) (by kernel_rfl) (by kernel_rfl) ?hQ35 ?hy35 (by assumption) ?rest35
      case hi35 => (simp only [List.getElem?_toArray, List.getElem?_cons_zero, List.getElem?_cons_succ]; rfl)
      case hQ35 => exact fun _ _ _ h => h
      case hy35 => exact Or.inl ⟨by rfl, by (intro w hSw; (try dsimp only at hSw); go_simp )⟩
      simp only [Act.put, List.setIfInBounds_toArray, List.set_cons_zero, List.set_cons_succ]
      refine wpAnyH_ready (rs := [6]) (by kernel_rfl) (by simp) ?_
      refine AllReadyH.cons (o := ?oi36) ?hi36 (fun K hK => ?_) AllReadyH.nil
      case hi36 => (simp only [List.getElem?_toArray, List.getElem?_cons_zero, List.getElem?_cons_succ]; rfl)
      rw [if_pos (by rfl)]
      (with_reducible refine s_w w.heap.size 11 _ (P5.cells ⟨s.pr, s.en, s.th, x3, x4⟩) _ x4 hr ?_ ?_ ?_ ?_ ?_)
      · exact rfl
      · (rw [P5.size]; decide)
      · exact rfl
      · exact rfl
      intro V hnew ho
      replace hq := hq.only ho (by omega)
      have hb := ho.bel _ _ (by omega) hHeld
      replace hr := hnew
      clear hHeld hnew ho
      refine hK.out _ _ ?_ (fun hHeld => ?_)
      · exact hb
      clear hK K
      refine wpAnyH_done (by kernel_rfl) ?_ _
      have hb := hHeld
      go_wp2_with (first | ((with_reducible refine ld_p w.heap.size _ hr ?_ ?_); exact rfl) | ((with_reducible refine st_p (w.heap.size + 1) _ ⟨s.pr, s.en, s.th, x3, x4⟩ hq ?_ ?_ ?_); exact rfl; exact rfl; intro W hnew ho; replace hr := hr.only ho (by omega); replace hq := hnew; replace hb := ho.bel _ _ (by omega) hb))
      refine bodyPost_ret (results_cell_row Tryd.results16 _ _ (w.heap.size + 1) _ _ _ _ rfl hq Tryd.underlying26 rfl size_p) rfl ?_
      exact ⟨rfl, hb⟩

set_option maxHeartbeats 1000000 in
theorem end_low (s : P5) (v : Nat) (h0 : v < 1) (w : World) :
    Calls Tryd.prog 24 #[.agg s.cells, .int .u32 (v : Nat)] w fun e w' => e = .returned (.agg (endV s v).cells) ∧ Below w.heap.size w w' := by
  have HV : Hid (endV s v = s) := hide (by unfold endV; rw [if_pos (by omega)])
  rw [HV.out]
  have t0 : ((v : Int) < 1) := by omega
  go_enter Tryd.func24, Tryd.ntmps24
  go_wp2_with (first | ((with_reducible refine bx_p w.heap.size s ?_ ?_ ?_); exact rfl; exact rfl; intro W hr hb hz) | ((with_reducible refine al_p (w.heap.size + 1) ?_ ?_); exact hz.out; intro W hq hb' hz'; replace hr := hr.bl (hz.out ▸ hb'); replace hb := hb.trans (hb'.mono (by omega)); replace hz := hz') | ((with_reducible refine ld_p w.heap.size _ hr ?_ ?_); exact rfl) | ((with_reducible refine st_p (w.heap.size + 1) _ s hq ?_ ?_ ?_); exact rfl; exact rfl; intro W hnew ho; replace hr := hr.only ho (by omega); replace hq := hnew; replace hb := ho.bel _ _ (by omega) hb))
  refine bodyPost_ret (results_cell_row Tryd.results24 _ _ (w.heap.size + 1) _ _ _ _ rfl hq Tryd.underlying26 rfl size_p) rfl ?_
  exact ⟨rfl, hb⟩

set_option maxHeartbeats 1000000 in
theorem end_high (s : P5) (v : Nat) (h0 : 7 < v) (w : World) :
    Calls Tryd.prog 24 #[.agg s.cells, .int .u32 (v : Nat)] w fun e w' => e = .returned (.agg (endV s v).cells) ∧ Below w.heap.size w w' := by
  have HV : Hid (endV s v = s) := hide (by unfold endV; rw [if_pos (by omega)])
  rw [HV.out]
  have t0 : decide ((v : Int) < 1) = false := by simp; omega
  have t1 : (v : Int) > 7 := by omega
  go_enter Tryd.func24, Tryd.ntmps24
  go_wp2_with (first | ((with_reducible refine bx_p w.heap.size s ?_ ?_ ?_); exact rfl; exact rfl; intro W hr hb hz) | ((with_reducible refine al_p (w.heap.size + 1) ?_ ?_); exact hz.out; intro W hq hb' hz'; replace hr := hr.bl (hz.out ▸ hb'); replace hb := hb.trans (hb'.mono (by omega)); replace hz := hz') | ((with_reducible refine ld_p w.heap.size _ hr ?_ ?_); exact rfl) | ((with_reducible refine st_p (w.heap.size + 1) _ s hq ?_ ?_ ?_); exact rfl; exact rfl; intro W hnew ho; replace hr := hr.only ho (by omega); replace hq := hnew; replace hb := ho.bel _ _ (by omega) hb))
  refine bodyPost_ret (results_cell_row Tryd.results24 _ _ (w.heap.size + 1) _ _ _ _ rfl hq Tryd.underlying26 rfl size_p) rfl ?_
  exact ⟨rfl, hb⟩

set_option maxHeartbeats 1000000 in
theorem end_one (s : P5) (hs : s.Ok) (n : Nat) (h0 : 0 < n) (hn : n ≤ 7) (w : World) :
    Calls Tryd.prog 24 #[.agg s.cells, .int .u32 n] w fun e w' => e = .returned (.agg (endV s n).cells) ∧ Below w.heap.size w w' := by
  have h4 := hs.bu
  have hp : 2 ^ n < 4294967296 := pow_lt32 (by omega)
  have HB := hide (fun w => pbit_any n hn w)
  have t0 : decide ((n : Int) < 1) = false := by simp; omega
  have t1 : decide ((n : Int) > 7) = false := by simp; omega
  have t2 : decide ((7 : Int) < (n : Int)) = false := by simp; omega
  have E2 := hide (u32_andNot_nat s.bu (2 ^ n) h4 hp)
  have HV : Hid (endV s n = ⟨s.pr, s.en, s.th, s.pe, s.bu &&& (4294967295 - 2 ^ n)⟩) := hide (by unfold endV; rw [if_neg (by omega)])
  rw [HV.out]
  generalize hbu : s.bu &&& (4294967295 - 2 ^ n) = x4 at *
  generalize hpw : 2 ^ n = pw at *
  go_enter Tryd.func24, Tryd.ntmps24
  go_wp2_with (first | ((with_reducible refine bx_p w.heap.size s ?_ ?_ ?_); exact rfl; exact rfl; intro W hr hb hz) | ((with_reducible refine al_p (w.heap.size + 1) ?_ ?_); exact hz.out; intro W hq hb' hz'; replace hr := hr.bl (hz.out ▸ hb'); replace hb := hb.trans (hb'.mono (by omega)); replace hz := hz'))
  refine wp_region_held_drew (S := (fun V => Below w.heap.size w V)) (by kernel_rfl) ?_ (fun hHeld => ?_)
  · exact hb.drew
  replace hr := hr.dr
  replace hq := hq.dr
  clear hb
  refine wpAnyH_take (i := 0) (oi := ?oi37) (v := .pointer (some ⟨w.heap.size, 11, none⟩)) ?hi37 (by kernel_rfl) (by kernel_rfl) (by kernel_rfl) ?hQ37 ?hy37 (by assumption) ?rest37
  case hi37 => (simp only [List.getElem?_toArray, List.getElem?_cons_zero]; rfl)
  case hQ37 => exact fun _ _ _ h => h
  case hy37 => exact Or.inl ⟨by rfl, by (intro w hSw; (try dsimp only at hSw); go_simp )⟩
  simp only [Act.put, List.setIfInBounds_toArray, List.set_cons_zero, List.set_cons_succ]
  refine wpAnyH_take (i := 2) (oi := ?oi38) (v := .int .u32 (n : Nat)) ?hi38 (by kernel_rfl) (by kernel_rfl) (by kernel_rfl) ?hQ38 ?hy38 (by assumption) ?rest38
  case hi38 => (simp only [List.getElem?_toArray, List.getElem?_cons_zero, List.getElem?_cons_succ]; rfl)
  case hQ38 => exact fun _ _ _ h => h
  case hy38 => exact Or.inl ⟨by rfl, by (intro w hSw; (try dsimp only at hSw); go_simp )⟩
  simp only [Act.put, List.setIfInBounds_toArray, List.set_cons_zero, List.set_cons_succ]
  refine wpAnyH_take (i := 3) (oi := ?oi39) (v := .int .i64 (n : Nat)) ?hi39 (by kernel_rfl) (by kernel_rfl) (by kernel_rfl) ?hQ39 ?hy39 (by assumption) ?rest39
  case hi39 => (simp only [List.getElem?_toArray, List.getElem?_cons_zero, List.getElem?_cons_succ]; rfl)
  case hQ39 => exact fun _ _ _ h => h
  case hy39 => exact Or.inl ⟨by rfl, by (intro w hSw; (try dsimp only at hSw); go_simp; exact i64_in _ (by omega) (by omega))⟩
  simp only [Act.put, List.setIfInBounds_toArray, List.set_cons_zero, List.set_cons_succ]
  refine wpAnyH_ready (rs := [1, 4]) (by kernel_rfl) (by simp) ?_
  refine AllReadyH.cons (o := ?oi40) ?hi40 (fun K hK => ?b40) (AllReadyH.cons (o := ?oi41) ?hi41 (fun K hK => ?b41) AllReadyH.nil)
  case hi40 => (simp only [List.getElem?_toArray, List.getElem?_cons_zero, List.getElem?_cons_succ]; rfl)
  case hi41 => (simp only [List.getElem?_toArray, List.getElem?_cons_zero, List.getElem?_cons_succ]; rfl)
  case b40 =>
    rw [if_pos (by rfl)]
    (with_reducible refine l_w w.heap.size 11 _ _ (s).bu hr ?_ ?_ ?_)
    · exact rfl
    · exact rfl
    refine hK.out _ _ ?_ (fun _ => ?_)
    · exact hHeld
    clear hK K
    refine wpAnyH_ready (rs := [4]) (by kernel_rfl) (by simp) ?_
    refine AllReadyH.cons (o := ?oi42) ?hi42 (fun K hK => ?_) AllReadyH.nil
    case hi42 => (simp only [List.getElem?_toArray, List.getElem?_cons_zero, List.getElem?_cons_succ]; rfl)
    go_simp
    refine (HB.out _).mono ?_
    rintro e V ⟨rfl, rfl⟩
    go_simp
    refine hK.out _ _ ?_ (fun hHeld => ?_)
    · exact hHeld
    clear hK K
    refine wpAnyH_take (i := 5) (oi := ?oi43) (v := .int .u32 (x4 : Nat)) ?hi43 (by kernel_rfl) (by kernel_rfl) (by kernel_rfl) ?hQ43 ?hy43 (by assumption) ?rest43
    case hi43 => (simp only [List.getElem?_toArray, List.getElem?_cons_zero, List.getElem?_cons_succ]; rfl)
    case hQ43 => exact fun _ _ _ h => h
    case hy43 => exact Or.inl ⟨by rfl, by (intro w hSw; (try dsimp only at hSw); go_simp; exact E2.out)⟩
    simp only [Act.put, List.setIfInBounds_toArray, List.set_cons_zero, List.set_cons_succ]
    refine wpAnyH_take (i := 6) (oi := ?oi44) (v := .pointer (some ⟨w.heap.size, 11, none⟩)) ?hi44 (by kernel_rfl) (by kernel_rfl) (by kernel_rfl) ?hQ44 ?hy44 (by assumption) ?rest44
    case hi44 => (simp only [List.getElem?_toArray, List.getElem?_cons_zero, List.getElem?_cons_succ]; rfl)
    case hQ44 => exact fun _ _ _ h => h
    case hy44 => exact Or.inl ⟨by rfl, by (intro w hSw; (try dsimp only at hSw); go_simp )⟩
    simp only [Act.put, List.setIfInBounds_toArray, List.set_cons_zero, List.set_cons_succ]
    refine wpAnyH_ready (rs := [7]) (by kernel_rfl) (by simp) ?_
    refine AllReadyH.cons (o := ?oi45) ?hi45 (fun K hK => ?_) AllReadyH.nil
    case hi45 => (simp only [List.getElem?_toArray, List.getElem?_cons_zero, List.getElem?_cons_succ]; rfl)
    rw [if_pos (by rfl)]
    (with_reducible refine s_w w.heap.size 11 _ (P5.cells ⟨s.pr, s.en, s.th, s.pe, x4⟩) _ x4 hr ?_ ?_ ?_ ?_ ?_)
    · exact rfl
    · (rw [P5.size]; decide)
    · exact rfl
    · exact rfl
    intro V hnew ho
    replace hq := hq.only ho (by omega)
    have hb := ho.bel _ _ (by omega) hHeld
    replace hr := hnew
    clear hHeld hnew ho
    refine hK.out _ _ ?_ (fun hHeld => ?_)
    · exact hb
    clear hK K
    refine wpAnyH_done (by kernel_rfl) ?_ _
    have hb := hHeld
    go_wp2_with (first | ((with_reducible refine ld_p w.heap.size _ hr ?_ ?_); exact rfl) | ((with_reducible refine st_p (w.heap.size + 1) _ ⟨s.pr, s.en, s.th, s.pe, x4⟩ hq ?_ ?_ ?_); exact rfl; exact rfl; intro W hnew ho; replace hr := hr.only ho (by omega); replace hq := hnew; replace hb := ho.bel _ _ (by omega) hb))
    refine bodyPost_ret (results_cell_row Tryd.results24 _ _ (w.heap.size + 1) _ _ _ _ rfl hq Tryd.underlying26 rfl size_p) rfl ?_
    exact ⟨rfl, hb⟩
  case b41 =>
    go_simp
    refine (HB.out _).mono ?_
    rintro e V ⟨rfl, rfl⟩
    go_simp
    refine hK.out _ _ ?_ (fun _ => ?_)
    · exact hHeld
    clear hK K
    refine wpAnyH_ready (rs := [1]) (by kernel_rfl) (by simp) ?_
    refine AllReadyH.cons (o := ?oi46) ?hi46 (fun K hK => ?_) AllReadyH.nil
    case hi46 => (simp only [List.getElem?_toArray, List.getElem?_cons_zero, List.getElem?_cons_succ]; rfl)
    rw [if_pos (by rfl)]
    (with_reducible refine l_w w.heap.size 11 _ _ (s).bu hr ?_ ?_ ?_)
    · exact rfl
    · exact rfl
    refine hK.out _ _ ?_ (fun hHeld => ?_)
    · exact hHeld
    clear hK K
    refine wpAnyH_take (i := 5) (oi := ?oi47) (v := .int .u32 (x4 : Nat)) ?hi47 (by kernel_rfl) (by kernel_rfl) (by kernel_rfl) ?hQ47 ?hy47 (by assumption) ?rest47
    case hi47 => (simp only [List.getElem?_toArray, List.getElem?_cons_zero, List.getElem?_cons_succ]; rfl)
    case hQ47 => exact fun _ _ _ h => h
    case hy47 => exact Or.inl ⟨by rfl, by (intro w hSw; (try dsimp only at hSw); go_simp; exact E2.out)⟩
    simp only [Act.put, List.setIfInBounds_toArray, List.set_cons_zero, List.set_cons_succ]
    refine wpAnyH_take (i := 6) (oi := ?oi48) (v := .pointer (some ⟨w.heap.size, 11, none⟩)) ?hi48 (by kernel_rfl) (by kernel_rfl) (by kernel_rfl) ?hQ48 ?hy48 (by assumption) ?rest48
    case hi48 => (simp only [List.getElem?_toArray, List.getElem?_cons_zero, List.getElem?_cons_succ]; rfl)
    case hQ48 => exact fun _ _ _ h => h
    case hy48 => exact Or.inl ⟨by rfl, by (intro w hSw; (try dsimp only at hSw); go_simp )⟩
    simp only [Act.put, List.setIfInBounds_toArray, List.set_cons_zero, List.set_cons_succ]
    refine wpAnyH_ready (rs := [7]) (by kernel_rfl) (by simp) ?_
    refine AllReadyH.cons (o := ?oi49) ?hi49 (fun K hK => ?_) AllReadyH.nil
    case hi49 => (simp only [List.getElem?_toArray, List.getElem?_cons_zero, List.getElem?_cons_succ]; rfl)
    rw [if_pos (by rfl)]
    (with_reducible refine s_w w.heap.size 11 _ (P5.cells ⟨s.pr, s.en, s.th, s.pe, x4⟩) _ x4 hr ?_ ?_ ?_ ?_ ?_)
    · exact rfl
    · (rw [P5.size]; decide)
    · exact rfl
    · exact rfl
    intro V hnew ho
    replace hq := hq.only ho (by omega)
    have hb := ho.bel _ _ (by omega) hHeld
    replace hr := hnew
    clear hHeld hnew ho
    refine hK.out _ _ ?_ (fun hHeld => ?_)
    · exact hb
    clear hK K
    refine wpAnyH_done (by kernel_rfl) ?_ _
    have hb := hHeld
    go_wp2_with (first | ((with_reducible refine ld_p w.heap.size _ hr ?_ ?_); exact rfl) | ((with_reducible refine st_p (w.heap.size + 1) _ ⟨s.pr, s.en, s.th, s.pe, x4⟩ hq ?_ ?_ ?_); exact rfl; exact rfl; intro W hnew ho; replace hr := hr.only ho (by omega); replace hq := hnew; replace hb := ho.bel _ _ (by omega) hb))
    refine bodyPost_ret (results_cell_row Tryd.results24 _ _ (w.heap.size + 1) _ _ _ _ rfl hq Tryd.underlying26 rfl size_p) rfl ?_
    exact ⟨rfl, hb⟩

theorem end_any (s : P5) (hs : s.Ok) (v : Nat) (hv : v < 4294967296) (w : World) :
    Calls Tryd.prog 24 #[.agg s.cells, .int .u32 (v : Nat)] w fun e w' => e = .returned (.agg (endV s v).cells) ∧ Below w.heap.size w w' := by
  by_cases h0 : v < 1
  · exact end_low s v h0 w
  by_cases h7 : 7 < v
  · exact end_high s v h7 w
  · exact end_one s hs v (by omega) (by omega) w
end Go.Proofs.YtadgdgjmadchjaaDoor
