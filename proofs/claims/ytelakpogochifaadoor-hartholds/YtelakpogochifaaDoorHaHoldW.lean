/-
  HartHolds, walked.
-/
import Derived.Test.YtelakpogochifaaDoorHaDone
import Derived.Test.YtelakpogochifaaDoorHaG2
import Derived.Deep.CutRange
namespace Go.Proofs.YtelakpogochifaaDoor
open Go.RowKit
set_option linter.unusedVariables false

attribute [local go_sem] H.at33 A6.at0 A6.at1 A6.at2 A6.at3 A6.at4 A6.at5

set_option maxHeartbeats 1000000 in
set_option maxRecDepth 20000 in
theorem holds_no (h : H) (ok : h.Ok) (p1 p2 : Option Addr) (n1 c1 n2 c2 : Nat) (hm : mayH h = false) (w : World) (hA : HartAt w) :
    Calls Tryd.prog 5 #[.agg h.cells, .slice p1 n1 c1, .slice p2 n2 c2] w fun e w' => e = .returned (.bool true) ∧ Below w.heap.size w w' := by
  have HA := hide hA
  clear hA
  have HG := hide (fun w => give_any h w)
  have HC := hide (fun w => check_any h ok w)
  have HS := hide (fun w hw => sure_any w hw)
  rw [hm] at HC
  simp only [checkV] at HC
  clear hm
  go_enter Tryd.func5, Tryd.ntmps5
  go_wp2_with (first | ((with_reducible refine bx_g w.heap.size h ?_ ?_ ?_); exact rfl; exact rfl; intro W hg hb hz) | ((with_reducible refine ld_g w.heap.size h hg ?_ ?_); exact rfl) | (go_at_call 9; refine (HG.out _).mono ?_; rintro e W ⟨rfl, hbc⟩; obtain ⟨NX, hNX⟩ : ∃ n, W.heap.size = n := ⟨_, rfl⟩; have lNX : w.heap.size + 1 ≤ NX := (by (have := hz.out; have := hbc.size; omega)); replace hNX := hide hNX; replace hb := below_bl rfl hb hbc) | ((with_reducible refine al_h NX ?_ ?_); exact hNX.out; intro W hx hb' hz2; replace hb := hb.trans (hb'.mono (by omega))) | ((with_reducible refine st_h NX _ h hx ?_ ?_ ?_); exact rfl; exact rfl; intro W hnew ho; replace hx := hnew; replace hb := ho.bel _ _ (by omega) hb) | ((with_reducible refine ld_h NX h hx ?_ ?_); exact rfl) | (go_at_call 15; refine (HC.out _).mono ?_; rintro e W ⟨rfl, hbc⟩; replace hx := hx.bl hbc; replace hb := below_bl rfl hb hbc) | (go_at_call 11; refine (HS.out _ (HA.out.below hb)).mono ?_; rintro e W ⟨rfl, hbc⟩; replace hb := below_bl rfl hb hbc))
  go_ret
  exact ⟨rfl, hb⟩

set_option maxHeartbeats 8000000 in
set_option maxRecDepth 20000 in
theorem holds_yes (h : H) (ok : h.Ok) (p1 p2 : Option Addr) (n1 c1 n2 c2 : Nat) (hn1 : n1 ≤ 9223372036854775807) (hn2 : n2 ≤ 9223372036854775807) (hm : mayH h = true) (w : World) (hA : HartAt w) (hO : OrderAt w)
    (H1 : Hid (∀ j, j < n1 → ∃ b o v : Nat, p1 = some ⟨b, o, none⟩ ∧ w.cell? ⟨b, o + j, none⟩ = some (.int .u32 (v : Nat)) ∧ v < 4294967296))
    (H2 : Hid (∀ j, j < n2 → ∃ b o v : Nat, p2 = some ⟨b, o, none⟩ ∧ w.cell? ⟨b, o + j, none⟩ = some (.int .u32 (v : Nat)) ∧ v < 4294967296)) :
    Calls Tryd.prog 5 #[.agg h.cells, .slice p1 n1 c1, .slice p2 n2 c2] w fun e w' => e = .returned (.bool true) ∧ Below w.heap.size w w' := by
  have HA := hide hA
  clear hA
  have HG := hide (fun w => give_any h w)
  have HC := hide (fun w => check_any h ok w)
  have HS := hide (fun w hw => sure_any w hw)
  rw [hm] at HC
  simp only [checkV] at HC
  have HO := hide hO
  clear hO
  go_enter Tryd.func5, Tryd.ntmps5
  go_wp2_with (first | ((with_reducible refine bx_g w.heap.size h ?_ ?_ ?_); exact rfl; exact rfl; intro W hg hb hz) | ((with_reducible refine ld_g w.heap.size h hg ?_ ?_); exact rfl) | (go_at_call 9; refine (HG.out _).mono ?_; rintro e W ⟨rfl, hbc⟩; obtain ⟨NX, hNX⟩ : ∃ n, W.heap.size = n := ⟨_, rfl⟩; have lNX : w.heap.size + 1 ≤ NX := (by (have := hz.out; have := hbc.size; omega)); replace hNX := hide hNX; replace hb := below_bl rfl hb hbc) | ((with_reducible refine al_h NX ?_ ?_); exact hNX.out; intro W hx hb' hz2; replace hb := hb.trans (hb'.mono (by omega))) | ((with_reducible refine st_h NX _ h hx ?_ ?_ ?_); exact rfl; exact rfl; intro W hnew ho; replace hx := hnew; replace hb := ho.bel _ _ (by omega) hb) | ((with_reducible refine ld_h NX h hx ?_ ?_); exact rfl) | (go_at_call 15; refine (HC.out _).mono ?_; rintro e W ⟨rfl, hbc⟩; replace hx := hx.bl hbc; replace hb := below_bl rfl hb hbc))
  go_loopw [8] (fun iv wr => ∃ (i : Nat) (x : H), iv = .int .i64 i ∧ i ≤ 60 ∧ Fine x ∧ RowAt wr NX x.cells 31 ∧ Below w.heap.size w wr) (fun iv _ => 60 - (intOf iv).toNat)
  case atStart => exact ⟨0, h, rfl, by omega, ⟨ok, hm⟩, hx, hb⟩
  case round =>
    clear hx hb
    obtain ⟨i, x, rfl, hi60, fx, hx, hb⟩ := hrel
    by_cases hi1 : i < n1
    · have t1 : (i : Int) < n1 := by omega
      by_cases hi2 : i < 60
      · have t2 : (i : Int) < 60 := by omega
        obtain ⟨b1, o1, v1, hp1, hc1, hv1⟩ := H1.out i hi1
        subst hp1
        go_upto_if 33 with (fail)
        go_cut [9] from 20 to 116 (fun s9 wx => ∃ l : Nat, l < 4294967296 ∧ s9 = .int .u32 (l : Nat) ∧ wx = wr)
        case first =>
          by_cases hi3 : i < n2
          · have t3 : (i : Int) < n2 := by omega
            obtain ⟨b2, o2, l2, hp2, hc2, hl2⟩ := H2.out i hi3
            subst hp2
            have c2 := cell_bl hb hc2
            clear hc2
            go_wp2_with (fail)
            go_meet
            case rel => exact ⟨l2, hl2, rfl, rfl⟩
          · have t3 : ¬ (i : Int) < n2 := by omega
            go_wp2_with (fail)
            go_meet
            case rel => exact ⟨0, by decide, rfl, rfl⟩
        case rest =>
          obtain ⟨l, hl, rfl, rfl⟩ := hcut
          have HB := hide (fun w hO => begin_any x fx.1 l hl w hO)
          obtain ⟨fy, hyw⟩ := begin_fine fx l
          obtain ⟨y, hye⟩ : ∃ y, (beginH x l).1 = y := ⟨_, rfl⟩
          rw [hye] at HB fy hyw
          have HCy := hide (fun w => check_any y fy.1 w)
          rw [fy.2] at HCy
          simp only [checkV] at HCy
          cases hbq : (beginH x l).2 with
          | false =>
            rw [hbq] at HB hyw
            have hw2 := hyw rfl
            clear hye hbq hyw
            go_wp2_with (first | (go_at_call 12; (with_reducible refine (HB.out _ ?_).mono ?_); exact HO.out.below hb; rintro e W ⟨rfl, hbc⟩; replace hx := hx.bl hbc; obtain ⟨NY, hNY⟩ : ∃ n, W.heap.size = n := ⟨_, rfl⟩; have lNY : NX + 1 ≤ NY := (by (have := hx.lt; omega)); replace hNY := hide hNY; replace hb := below_bl rfl hb hbc) | ((with_reducible refine al_h NY ?_ ?_); exact hNY.out; intro W hy hb' hzY; replace hx := hx.bl (hNY.out ▸ hb'); replace hb := hb.trans (hb'.mono (by omega))) | ((with_reducible refine st_h NY _ y hy ?_ ?_ ?_); exact rfl; exact rfl; intro W hnew ho; replace hx := hx.only ho (by omega); replace hy := hnew; replace hb := ho.bel _ _ (by omega) hb) | (go_at_call 15; (with_reducible refine (HCy.out _).mono ?_); rintro e W ⟨rfl, hbc⟩; replace hx := hx.bl hbc; replace hy := hy.bl hbc; replace hb := below_bl rfl hb hbc) | ((with_reducible refine ld_h NX _ hx ?_ ?_); exact rfl) | ((with_reducible refine ld_h NY _ hy ?_ ?_); exact rfl) | ((with_reducible refine st_h NX _ y hx ?_ ?_ ?_); exact rfl; exact rfl; intro W hnew ho; replace hx := hnew; replace hb := ho.bel _ _ (by omega) hb) | ((with_reducible refine ld_wt NX _ hx ?_ ?_); exact rfl))
            go_roundw
            case rel => exact ⟨i + 1, y, by go_num, by omega, fy, hx, hb⟩
            case measure => simp [intOf]; omega
          | true =>
            rw [hbq] at HB
            clear hye hbq hyw
            have HD := hide (fun w hA => do_all y fy.1 v1 hv1 l hl w hA)
            have hdf := do_fine fy v1 l hv1 hl
            obtain ⟨z, hze⟩ : ∃ z, (doH y v1 l).1 = z := ⟨_, rfl⟩
            obtain ⟨ac, hae⟩ : ∃ a, (doH y v1 l).2 = a := ⟨_, rfl⟩
            rw [hze, hae] at HD hdf
            clear hze hae
            go_upto_region 17 with (first | (go_at_call 12; (with_reducible refine (HB.out _ ?_).mono ?_); exact HO.out.below hb; rintro e W ⟨rfl, hbc⟩; replace hx := hx.bl hbc; obtain ⟨NY, hNY⟩ : ∃ n, W.heap.size = n := ⟨_, rfl⟩; have lNY : NX + 1 ≤ NY := (by (have := hx.lt; omega)); replace hNY := hide hNY; replace hb := below_bl rfl hb hbc) | ((with_reducible refine al_h NY ?_ ?_); exact hNY.out; intro W hy hb' hzY; replace hx := hx.bl (hNY.out ▸ hb'); replace hb := hb.trans (hb'.mono (by omega))) | ((with_reducible refine st_h NY _ y hy ?_ ?_ ?_); exact rfl; exact rfl; intro W hnew ho; replace hx := hx.only ho (by omega); replace hy := hnew; replace hb := ho.bel _ _ (by omega) hb) | (go_at_call 15; (with_reducible refine (HCy.out _).mono ?_); rintro e W ⟨rfl, hbc⟩; replace hx := hx.bl hbc; replace hy := hy.bl hbc; replace hb := below_bl rfl hb hbc) | ((with_reducible refine ld_h NX _ hx ?_ ?_); exact rfl) | ((with_reducible refine ld_h NY _ hy ?_ ?_); exact rfl) | ((with_reducible refine st_h NX _ y hx ?_ ?_ ?_); exact rfl; exact rfl; intro W hnew ho; replace hx := hnew; replace hb := ho.bel _ _ (by omega) hb) | ((with_reducible refine ld_wt NX _ hx ?_ ?_); exact rfl))
            go_cut [12, 13] from 20 to 116 (fun s12 s13 wx => ∃ NZ NA : Nat, s12 = .pointer (some ⟨NZ, 0, none⟩) ∧ s13 = .pointer (some ⟨NA, 0, none⟩) ∧ RowAt wx NX y.cells 31 ∧ RowAt wx NZ z.cells 31 ∧ RowAt wx NA ac.cells 33 ∧ Below w.heap.size w wx ∧ NX + 1 ≤ NZ ∧ NX + 1 ≤ NA ∧ NZ ≠ NA)
            case first =>
              refine wp_region_held_drew (S := (fun V => RowAt V NX y.cells 31 ∧ Below w.heap.size w V)) (by kernel_rfl) ?_ (fun hHeld => ?_)
              · exact ⟨hx.dr, hb.drew⟩
              generalize W.drew = V at hHeld ⊢
              refine wpAnyH_take (i := 0) (oi := ?oi1) (v := .agg y.cells) ?hi1 (by kernel_rfl) (by kernel_rfl) (by kernel_rfl) ?hQ1 ?hy1 (by assumption) ?rest1
              case hi1 => (simp only [List.getElem?_toArray, List.getElem?_cons_zero]; rfl)
              case hQ1 => exact fun _ _ _ h => h
              case hy1 => exact y_h NX y (fun V hV => hV.1) rfl
              simp only [Act.put, List.setIfInBounds_toArray, List.set_cons_zero, List.set_cons_succ]
              refine wpAnyH_take (i := 1) (oi := ?oi2) (v := .slice (some ⟨b1, o1, none⟩) n1 c1) ?hi2 (by kernel_rfl) (by kernel_rfl) (by kernel_rfl) ?hQ2 ?hy2 (by assumption) ?rest2
              case hi2 => (simp only [List.getElem?_toArray, List.getElem?_cons_zero, List.getElem?_cons_succ]; rfl)
              case hQ2 => exact fun _ _ _ h => h
              case hy2 => exact Or.inl ⟨by rfl, by (intro w hSw; (try dsimp only at hSw); go_simp )⟩
              simp only [Act.put, List.setIfInBounds_toArray, List.set_cons_zero, List.set_cons_succ]
              refine wpAnyH_take (i := 2) (oi := ?oi3) (v := .int .i64 (i : Nat)) ?hi3 (by kernel_rfl) (by kernel_rfl) (by kernel_rfl) ?hQ3 ?hy3 (by assumption) ?rest3
              case hi3 => (simp only [List.getElem?_toArray, List.getElem?_cons_zero, List.getElem?_cons_succ]; rfl)
              case hQ3 => exact fun _ _ _ h => h
              case hy3 => exact Or.inl ⟨by rfl, by (intro w hSw; (try dsimp only at hSw); go_simp )⟩
              simp only [Act.put, List.setIfInBounds_toArray, List.set_cons_zero, List.set_cons_succ]
              refine wpAnyH_take (i := 3) (oi := ?oi4) (v := .pointer (some ⟨b1, o1 + i, none⟩)) ?hi4 (by kernel_rfl) (by kernel_rfl) (by kernel_rfl) ?hQ4 ?hy4 (by assumption) ?rest4
              case hi4 => (simp only [List.getElem?_toArray, List.getElem?_cons_zero, List.getElem?_cons_succ]; rfl)
              case hQ4 => exact fun _ _ _ h => h
              case hy4 => exact Or.inl ⟨by rfl, by (intro w hSw; (try dsimp only at hSw); go_simp )⟩
              simp only [Act.put, List.setIfInBounds_toArray, List.set_cons_zero, List.set_cons_succ]
              refine wpAnyH_take (i := 4) (oi := ?oi5) (v := .int .u32 (v1 : Nat)) ?hi5 (by kernel_rfl) (by kernel_rfl) (by kernel_rfl) ?hQ5 ?hy5 (by assumption) ?rest5
              case hi5 => (simp only [List.getElem?_toArray, List.getElem?_cons_zero, List.getElem?_cons_succ]; rfl)
              case hQ5 => exact fun _ _ _ h => h
              case hy5 => exact y_word b1 (o1 + i) _ (fun V hV => cell_bl hV.2 hc1) rfl
              simp only [Act.put, List.setIfInBounds_toArray, List.set_cons_zero, List.set_cons_succ]
              refine wpAnyH_take (i := 5) (oi := ?oi6) (v := .int .u32 (l : Nat)) ?hi6 (by kernel_rfl) (by kernel_rfl) (by kernel_rfl) ?hQ6 ?hy6 (by assumption) ?rest6
              case hi6 => (simp only [List.getElem?_toArray, List.getElem?_cons_zero, List.getElem?_cons_succ]; rfl)
              case hQ6 => exact fun _ _ _ h => h
              case hy6 => exact Or.inl ⟨by rfl, by (intro w hSw; (try dsimp only at hSw); go_simp )⟩
              simp only [Act.put, List.setIfInBounds_toArray, List.set_cons_zero, List.set_cons_succ]
              refine wpAnyH_ready (rs := [6, 10, 11]) (by kernel_rfl) (by simp) ?_
              refine AllReadyH.cons (o := ?oi7) ?hi7 (fun K hK => ?b7) (AllReadyH.cons (o := ?oi8) ?hi8 (fun K hK => ?b8) (AllReadyH.cons (o := ?oi9) ?hi9 (fun K hK => ?b9) AllReadyH.nil))
              case hi7 => (simp only [List.getElem?_toArray, List.getElem?_cons_zero, List.getElem?_cons_succ]; rfl)
              case hi8 => (simp only [List.getElem?_toArray, List.getElem?_cons_zero, List.getElem?_cons_succ]; rfl)
              case hi9 => (simp only [List.getElem?_toArray, List.getElem?_cons_zero, List.getElem?_cons_succ]; rfl)
              case b7 =>
                go_simp
                (with_reducible refine (HD.out _ ?_).mono ?_)
                · exact HA.out.below hHeld.2
                rintro e V ⟨rfl, hbc⟩
                replace hx := hHeld.1.bl hbc
                replace hb := below_bl rfl hHeld.2 hbc
                clear hHeld
                go_simp
                refine hK.out _ _ ?_ (fun hHeld => ?_)
                · exact ⟨hx, hb⟩
                clear hK K
                refine wpAnyH_take (i := 7) (oi := ?oi10) (v := .tuple #[.agg z.cells, .agg ac.cells]) ?hi10 (by kernel_rfl) (by kernel_rfl) (by kernel_rfl) ?hQ10 ?hy10 (by assumption) ?rest10
                case hi10 => (simp only [List.getElem?_toArray, List.getElem?_cons_zero, List.getElem?_cons_succ]; rfl)
                case hQ10 => exact fun _ _ _ h => h
                case hy10 => exact Or.inl ⟨by rfl, by (intro w hSw; (try dsimp only at hSw); go_simp )⟩
                simp only [Act.put, List.setIfInBounds_toArray, List.set_cons_zero, List.set_cons_succ]
                refine wpAnyH_take (i := 8) (oi := ?oi11) (v := .agg z.cells) ?hi11 (by kernel_rfl) (by kernel_rfl) (by kernel_rfl) ?hQ11 ?hy11 (by assumption) ?rest11
                case hi11 => (simp only [List.getElem?_toArray, List.getElem?_cons_zero, List.getElem?_cons_succ]; rfl)
                case hQ11 => exact fun _ _ _ h => h
                case hy11 => exact Or.inl ⟨by rfl, by (intro w hSw; (try dsimp only at hSw); go_simp )⟩
                simp only [Act.put, List.setIfInBounds_toArray, List.set_cons_zero, List.set_cons_succ]
                refine wpAnyH_take (i := 9) (oi := ?oi12) (v := .agg ac.cells) ?hi12 (by kernel_rfl) (by kernel_rfl) (by kernel_rfl) ?hQ12 ?hy12 (by assumption) ?rest12
                case hi12 => (simp only [List.getElem?_toArray, List.getElem?_cons_zero, List.getElem?_cons_succ]; rfl)
                case hQ12 => exact fun _ _ _ h => h
                case hy12 => exact Or.inl ⟨by rfl, by (intro w hSw; (try dsimp only at hSw); go_simp )⟩
                simp only [Act.put, List.setIfInBounds_toArray, List.set_cons_zero, List.set_cons_succ]
                refine wpAnyH_ready (rs := [10, 11]) (by kernel_rfl) (by simp) ?_
                refine AllReadyH.cons (o := ?oi13) ?hi13 (fun K hK => ?b13) (AllReadyH.cons (o := ?oi14) ?hi14 (fun K hK => ?b14) AllReadyH.nil)
                case hi13 => (simp only [List.getElem?_toArray, List.getElem?_cons_zero, List.getElem?_cons_succ]; rfl)
                case hi14 => (simp only [List.getElem?_toArray, List.getElem?_cons_zero, List.getElem?_cons_succ]; rfl)
                case b13 =>
                  replace hx := hHeld.1
                  replace hb := hHeld.2
                  obtain ⟨NZ, hNZ⟩ : ∃ n, V.heap.size = n := ⟨_, rfl⟩
                  have lNZ : NX + 1 ≤ NZ := by have := hx.lt; omega
                  replace hNZ := hide hNZ
                  rw [if_pos (by rfl)]
                  (with_reducible refine s_alloc NZ ?_ _ zero_hart ?_)
                  · exact hNZ.out
                  intro V hz hb' hzY
                  replace hx := hx.bl (hNZ.out ▸ hb')
                  replace hb := hb.trans (hb'.mono (by omega))
                  simp only [Act.put, List.setIfInBounds_toArray, List.set_cons_zero, List.set_cons_succ]
                  clear hHeld
                  refine hK.out _ _ ?_ (fun hHeld => ?_)
                  · exact ⟨hx, hb⟩
                  clear hK K
                  refine wpAnyH_ready (rs := [11]) (by kernel_rfl) (by simp) ?_
                  refine AllReadyH.cons (o := ?oi15) ?hi15 (fun K hK => ?b15) AllReadyH.nil
                  case hi15 => (simp only [List.getElem?_toArray, List.getElem?_cons_zero, List.getElem?_cons_succ]; rfl)
                  case b15 =>
                    replace hx := hHeld.1
                    replace hb := hHeld.2
                    obtain ⟨NA, hNA⟩ : ∃ n, V.heap.size = n := ⟨_, rfl⟩
                    have lNA : NX + 1 ≤ NA := by have := hx.lt; omega
                    have neNA : NZ < NA := by have := hz.lt; omega
                    replace hNA := hide hNA
                    rw [if_pos (by rfl)]
                    (with_reducible refine s_alloc NA ?_ _ zero_acc ?_)
                    · exact hNA.out
                    intro V ha hb' hzY
                    replace hx := hx.bl (hNA.out ▸ hb')
                    replace hz := hz.bl (hNA.out ▸ hb')
                    replace hb := hb.trans (hb'.mono (by omega))
                    simp only [Act.put, List.setIfInBounds_toArray, List.set_cons_zero, List.set_cons_succ]
                    clear hHeld
                    refine hK.out _ _ ?_ (fun hHeld => ?_)
                    · exact ⟨hx, hb⟩
                    clear hK K
                    refine wpAnyH_ready (rs := [12]) (by kernel_rfl) (by simp) ?_
                    refine AllReadyH.cons (o := ?oi16) ?hi16 (fun K hK => ?_) AllReadyH.nil
                    case hi16 => (simp only [List.getElem?_toArray, List.getElem?_cons_zero, List.getElem?_cons_succ]; rfl)
                    rw [if_pos (by rfl)]
                    (with_reducible refine s_h NZ _ z hz ?_ ?_ ?_)
                    · exact rfl
                    · exact rfl
                    intro V hnew ho
                    replace hx := hx.only ho (by omega)
                    replace ha := ha.only ho (by omega)
                    replace hz := hnew
                    replace hb := ho.bel _ _ (by omega) hb
                    clear hHeld
                    refine hK.out _ _ ?_ (fun hHeld => ?_)
                    · exact ⟨hx, hb⟩
                    clear hK K
                    refine wpAnyH_ready (rs := [13]) (by kernel_rfl) (by simp) ?_
                    refine AllReadyH.cons (o := ?oi17) ?hi17 (fun K hK => ?_) AllReadyH.nil
                    case hi17 => (simp only [List.getElem?_toArray, List.getElem?_cons_zero, List.getElem?_cons_succ]; rfl)
                    rw [if_pos (by rfl)]
                    (with_reducible refine s_a NA _ ac ha ?_ ?_ ?_)
                    · exact rfl
                    · exact rfl
                    intro V hnew ho
                    replace hx := hx.only ho (by omega)
                    replace hz := hz.only ho (by omega)
                    replace ha := hnew
                    replace hb := ho.bel _ _ (by omega) hb
                    clear hHeld
                    refine hK.out _ _ ?_ (fun hHeld => ?_)
                    · exact ⟨hx, hb⟩
                    clear hK K
                    refine wpAnyH_done (by kernel_rfl) ?_ _
                    go_wp2_with (fail)
                    go_meet
                    case rel => exact ⟨NZ, NA, rfl, rfl, hx, hz, ha, hb, lNZ, lNA, by omega⟩
                case b14 =>
                  replace hx := hHeld.1
                  replace hb := hHeld.2
                  obtain ⟨NA, hNA⟩ : ∃ n, V.heap.size = n := ⟨_, rfl⟩
                  have lNA : NX + 1 ≤ NA := by have := hx.lt; omega
                  replace hNA := hide hNA
                  rw [if_pos (by rfl)]
                  (with_reducible refine s_alloc NA ?_ _ zero_acc ?_)
                  · exact hNA.out
                  intro V ha hb' hzY
                  replace hx := hx.bl (hNA.out ▸ hb')
                  replace hb := hb.trans (hb'.mono (by omega))
                  simp only [Act.put, List.setIfInBounds_toArray, List.set_cons_zero, List.set_cons_succ]
                  clear hHeld
                  refine hK.out _ _ ?_ (fun hHeld => ?_)
                  · exact ⟨hx, hb⟩
                  clear hK K
                  refine wpAnyH_ready (rs := [10]) (by kernel_rfl) (by simp) ?_
                  refine AllReadyH.cons (o := ?oi18) ?hi18 (fun K hK => ?b18) AllReadyH.nil
                  case hi18 => (simp only [List.getElem?_toArray, List.getElem?_cons_zero, List.getElem?_cons_succ]; rfl)
                  case b18 =>
                    replace hx := hHeld.1
                    replace hb := hHeld.2
                    obtain ⟨NZ, hNZ⟩ : ∃ n, V.heap.size = n := ⟨_, rfl⟩
                    have lNZ : NX + 1 ≤ NZ := by have := hx.lt; omega
                    have neNZ : NA < NZ := by have := ha.lt; omega
                    replace hNZ := hide hNZ
                    rw [if_pos (by rfl)]
                    (with_reducible refine s_alloc NZ ?_ _ zero_hart ?_)
                    · exact hNZ.out
                    intro V hz hb' hzY
                    replace hx := hx.bl (hNZ.out ▸ hb')
                    replace ha := ha.bl (hNZ.out ▸ hb')
                    replace hb := hb.trans (hb'.mono (by omega))
                    simp only [Act.put, List.setIfInBounds_toArray, List.set_cons_zero, List.set_cons_succ]
                    clear hHeld
                    refine hK.out _ _ ?_ (fun hHeld => ?_)
                    · exact ⟨hx, hb⟩
                    clear hK K
                    refine wpAnyH_ready (rs := [12]) (by kernel_rfl) (by simp) ?_
                    refine AllReadyH.cons (o := ?oi19) ?hi19 (fun K hK => ?_) AllReadyH.nil
                    case hi19 => (simp only [List.getElem?_toArray, List.getElem?_cons_zero, List.getElem?_cons_succ]; rfl)
                    rw [if_pos (by rfl)]
                    (with_reducible refine s_h NZ _ z hz ?_ ?_ ?_)
                    · exact rfl
                    · exact rfl
                    intro V hnew ho
                    replace hx := hx.only ho (by omega)
                    replace ha := ha.only ho (by omega)
                    replace hz := hnew
                    replace hb := ho.bel _ _ (by omega) hb
                    clear hHeld
                    refine hK.out _ _ ?_ (fun hHeld => ?_)
                    · exact ⟨hx, hb⟩
                    clear hK K
                    refine wpAnyH_ready (rs := [13]) (by kernel_rfl) (by simp) ?_
                    refine AllReadyH.cons (o := ?oi20) ?hi20 (fun K hK => ?_) AllReadyH.nil
                    case hi20 => (simp only [List.getElem?_toArray, List.getElem?_cons_zero, List.getElem?_cons_succ]; rfl)
                    rw [if_pos (by rfl)]
                    (with_reducible refine s_a NA _ ac ha ?_ ?_ ?_)
                    · exact rfl
                    · exact rfl
                    intro V hnew ho
                    replace hx := hx.only ho (by omega)
                    replace hz := hz.only ho (by omega)
                    replace ha := hnew
                    replace hb := ho.bel _ _ (by omega) hb
                    clear hHeld
                    refine hK.out _ _ ?_ (fun hHeld => ?_)
                    · exact ⟨hx, hb⟩
                    clear hK K
                    refine wpAnyH_done (by kernel_rfl) ?_ _
                    go_wp2_with (fail)
                    go_meet
                    case rel => exact ⟨NZ, NA, rfl, rfl, hx, hz, ha, hb, lNZ, lNA, by omega⟩
              case b8 =>
                replace hx := hHeld.1
                replace hb := hHeld.2
                obtain ⟨NZ, hNZ⟩ : ∃ n, V.heap.size = n := ⟨_, rfl⟩
                have lNZ : NX + 1 ≤ NZ := by have := hx.lt; omega
                replace hNZ := hide hNZ
                rw [if_pos (by rfl)]
                (with_reducible refine s_alloc NZ ?_ _ zero_hart ?_)
                · exact hNZ.out
                intro V hz hb' hzY
                replace hx := hx.bl (hNZ.out ▸ hb')
                replace hb := hb.trans (hb'.mono (by omega))
                simp only [Act.put, List.setIfInBounds_toArray, List.set_cons_zero, List.set_cons_succ]
                clear hHeld
                refine hK.out _ _ ?_ (fun hHeld => ?_)
                · exact ⟨hx, hb⟩
                clear hK K
                refine wpAnyH_ready (rs := [6, 11]) (by kernel_rfl) (by simp) ?_
                refine AllReadyH.cons (o := ?oi21) ?hi21 (fun K hK => ?b21) (AllReadyH.cons (o := ?oi22) ?hi22 (fun K hK => ?b22) AllReadyH.nil)
                case hi21 => (simp only [List.getElem?_toArray, List.getElem?_cons_zero, List.getElem?_cons_succ]; rfl)
                case hi22 => (simp only [List.getElem?_toArray, List.getElem?_cons_zero, List.getElem?_cons_succ]; rfl)
                case b21 =>
                  go_simp
                  (with_reducible refine (HD.out _ ?_).mono ?_)
                  · exact HA.out.below hHeld.2
                  rintro e V ⟨rfl, hbc⟩
                  replace hx := hHeld.1.bl hbc
                  replace hb := below_bl rfl hHeld.2 hbc
                  replace hz := hz.bl hbc
                  clear hHeld
                  go_simp
                  refine hK.out _ _ ?_ (fun hHeld => ?_)
                  · exact ⟨hx, hb⟩
                  clear hK K
                  refine wpAnyH_take (i := 7) (oi := ?oi23) (v := .tuple #[.agg z.cells, .agg ac.cells]) ?hi23 (by kernel_rfl) (by kernel_rfl) (by kernel_rfl) ?hQ23 ?hy23 (by assumption) ?rest23
                  case hi23 => (simp only [List.getElem?_toArray, List.getElem?_cons_zero, List.getElem?_cons_succ]; rfl)
                  case hQ23 => exact fun _ _ _ h => h
                  case hy23 => exact Or.inl ⟨by rfl, by (intro w hSw; (try dsimp only at hSw); go_simp )⟩
                  simp only [Act.put, List.setIfInBounds_toArray, List.set_cons_zero, List.set_cons_succ]
                  refine wpAnyH_take (i := 8) (oi := ?oi24) (v := .agg z.cells) ?hi24 (by kernel_rfl) (by kernel_rfl) (by kernel_rfl) ?hQ24 ?hy24 (by assumption) ?rest24
                  case hi24 => (simp only [List.getElem?_toArray, List.getElem?_cons_zero, List.getElem?_cons_succ]; rfl)
                  case hQ24 => exact fun _ _ _ h => h
                  case hy24 => exact Or.inl ⟨by rfl, by (intro w hSw; (try dsimp only at hSw); go_simp )⟩
                  simp only [Act.put, List.setIfInBounds_toArray, List.set_cons_zero, List.set_cons_succ]
                  refine wpAnyH_take (i := 9) (oi := ?oi25) (v := .agg ac.cells) ?hi25 (by kernel_rfl) (by kernel_rfl) (by kernel_rfl) ?hQ25 ?hy25 (by assumption) ?rest25
                  case hi25 => (simp only [List.getElem?_toArray, List.getElem?_cons_zero, List.getElem?_cons_succ]; rfl)
                  case hQ25 => exact fun _ _ _ h => h
                  case hy25 => exact Or.inl ⟨by rfl, by (intro w hSw; (try dsimp only at hSw); go_simp )⟩
                  simp only [Act.put, List.setIfInBounds_toArray, List.set_cons_zero, List.set_cons_succ]
                  refine wpAnyH_ready (rs := [11]) (by kernel_rfl) (by simp) ?_
                  refine AllReadyH.cons (o := ?oi26) ?hi26 (fun K hK => ?b26) AllReadyH.nil
                  case hi26 => (simp only [List.getElem?_toArray, List.getElem?_cons_zero, List.getElem?_cons_succ]; rfl)
                  case b26 =>
                    replace hx := hHeld.1
                    replace hb := hHeld.2
                    obtain ⟨NA, hNA⟩ : ∃ n, V.heap.size = n := ⟨_, rfl⟩
                    have lNA : NX + 1 ≤ NA := by have := hx.lt; omega
                    have neNA : NZ < NA := by have := hz.lt; omega
                    replace hNA := hide hNA
                    rw [if_pos (by rfl)]
                    (with_reducible refine s_alloc NA ?_ _ zero_acc ?_)
                    · exact hNA.out
                    intro V ha hb' hzY
                    replace hx := hx.bl (hNA.out ▸ hb')
                    replace hz := hz.bl (hNA.out ▸ hb')
                    replace hb := hb.trans (hb'.mono (by omega))
                    simp only [Act.put, List.setIfInBounds_toArray, List.set_cons_zero, List.set_cons_succ]
                    clear hHeld
                    refine hK.out _ _ ?_ (fun hHeld => ?_)
                    · exact ⟨hx, hb⟩
                    clear hK K
                    refine wpAnyH_ready (rs := [12]) (by kernel_rfl) (by simp) ?_
                    refine AllReadyH.cons (o := ?oi27) ?hi27 (fun K hK => ?_) AllReadyH.nil
                    case hi27 => (simp only [List.getElem?_toArray, List.getElem?_cons_zero, List.getElem?_cons_succ]; rfl)
                    rw [if_pos (by rfl)]
                    (with_reducible refine s_h NZ _ z hz ?_ ?_ ?_)
                    · exact rfl
                    · exact rfl
                    intro V hnew ho
                    replace hx := hx.only ho (by omega)
                    replace ha := ha.only ho (by omega)
                    replace hz := hnew
                    replace hb := ho.bel _ _ (by omega) hb
                    clear hHeld
                    refine hK.out _ _ ?_ (fun hHeld => ?_)
                    · exact ⟨hx, hb⟩
                    clear hK K
                    refine wpAnyH_ready (rs := [13]) (by kernel_rfl) (by simp) ?_
                    refine AllReadyH.cons (o := ?oi28) ?hi28 (fun K hK => ?_) AllReadyH.nil
                    case hi28 => (simp only [List.getElem?_toArray, List.getElem?_cons_zero, List.getElem?_cons_succ]; rfl)
                    rw [if_pos (by rfl)]
                    (with_reducible refine s_a NA _ ac ha ?_ ?_ ?_)
                    · exact rfl
                    · exact rfl
                    intro V hnew ho
                    replace hx := hx.only ho (by omega)
                    replace hz := hz.only ho (by omega)
                    replace ha := hnew
                    replace hb := ho.bel _ _ (by omega) hb
                    clear hHeld
                    refine hK.out _ _ ?_ (fun hHeld => ?_)
                    · exact ⟨hx, hb⟩
                    clear hK K
                    refine wpAnyH_done (by kernel_rfl) ?_ _
                    go_wp2_with (fail)
                    go_meet
                    case rel => exact ⟨NZ, NA, rfl, rfl, hx, hz, ha, hb, lNZ, lNA, by omega⟩
                case b22 =>
                  replace hx := hHeld.1
                  replace hb := hHeld.2
                  obtain ⟨NA, hNA⟩ : ∃ n, V.heap.size = n := ⟨_, rfl⟩
                  have lNA : NX + 1 ≤ NA := by have := hx.lt; omega
                  have neNA : NZ < NA := by have := hz.lt; omega
                  replace hNA := hide hNA
                  rw [if_pos (by rfl)]
                  (with_reducible refine s_alloc NA ?_ _ zero_acc ?_)
                  · exact hNA.out
                  intro V ha hb' hzY
                  replace hx := hx.bl (hNA.out ▸ hb')
                  replace hz := hz.bl (hNA.out ▸ hb')
                  replace hb := hb.trans (hb'.mono (by omega))
                  simp only [Act.put, List.setIfInBounds_toArray, List.set_cons_zero, List.set_cons_succ]
                  clear hHeld
                  refine hK.out _ _ ?_ (fun hHeld => ?_)
                  · exact ⟨hx, hb⟩
                  clear hK K
                  refine wpAnyH_ready (rs := [6]) (by kernel_rfl) (by simp) ?_
                  refine AllReadyH.cons (o := ?oi29) ?hi29 (fun K hK => ?b29) AllReadyH.nil
                  case hi29 => (simp only [List.getElem?_toArray, List.getElem?_cons_zero, List.getElem?_cons_succ]; rfl)
                  case b29 =>
                    go_simp
                    (with_reducible refine (HD.out _ ?_).mono ?_)
                    · exact HA.out.below hHeld.2
                    rintro e V ⟨rfl, hbc⟩
                    replace hx := hHeld.1.bl hbc
                    replace hb := below_bl rfl hHeld.2 hbc
                    replace hz := hz.bl hbc
                    replace ha := ha.bl hbc
                    clear hHeld
                    go_simp
                    refine hK.out _ _ ?_ (fun hHeld => ?_)
                    · exact ⟨hx, hb⟩
                    clear hK K
                    refine wpAnyH_take (i := 7) (oi := ?oi30) (v := .tuple #[.agg z.cells, .agg ac.cells]) ?hi30 (by kernel_rfl) (by kernel_rfl) (by kernel_rfl) ?hQ30 ?hy30 (by assumption) ?rest30
                    case hi30 => (simp only [List.getElem?_toArray, List.getElem?_cons_zero, List.getElem?_cons_succ]; rfl)
                    case hQ30 => exact fun _ _ _ h => h
                    case hy30 => exact Or.inl ⟨by rfl, by (intro w hSw; (try dsimp only at hSw); go_simp )⟩
                    simp only [Act.put, List.setIfInBounds_toArray, List.set_cons_zero, List.set_cons_succ]
                    refine wpAnyH_take (i := 8) (oi := ?oi31) (v := .agg z.cells) ?hi31 (by kernel_rfl) (by kernel_rfl) (by kernel_rfl) ?hQ31 ?hy31 (by assumption) ?rest31
                    case hi31 => (simp only [List.getElem?_toArray, List.getElem?_cons_zero, List.getElem?_cons_succ]; rfl)
                    case hQ31 => exact fun _ _ _ h => h
                    case hy31 => exact Or.inl ⟨by rfl, by (intro w hSw; (try dsimp only at hSw); go_simp )⟩
                    simp only [Act.put, List.setIfInBounds_toArray, List.set_cons_zero, List.set_cons_succ]
                    refine wpAnyH_take (i := 9) (oi := ?oi32) (v := .agg ac.cells) ?hi32 (by kernel_rfl) (by kernel_rfl) (by kernel_rfl) ?hQ32 ?hy32 (by assumption) ?rest32
                    case hi32 => (simp only [List.getElem?_toArray, List.getElem?_cons_zero, List.getElem?_cons_succ]; rfl)
                    case hQ32 => exact fun _ _ _ h => h
                    case hy32 => exact Or.inl ⟨by rfl, by (intro w hSw; (try dsimp only at hSw); go_simp )⟩
                    simp only [Act.put, List.setIfInBounds_toArray, List.set_cons_zero, List.set_cons_succ]
                    refine wpAnyH_ready (rs := [12]) (by kernel_rfl) (by simp) ?_
                    refine AllReadyH.cons (o := ?oi33) ?hi33 (fun K hK => ?_) AllReadyH.nil
                    case hi33 => (simp only [List.getElem?_toArray, List.getElem?_cons_zero, List.getElem?_cons_succ]; rfl)
                    rw [if_pos (by rfl)]
                    (with_reducible refine s_h NZ _ z hz ?_ ?_ ?_)
                    · exact rfl
                    · exact rfl
                    intro V hnew ho
                    replace hx := hx.only ho (by omega)
                    replace ha := ha.only ho (by omega)
                    replace hz := hnew
                    replace hb := ho.bel _ _ (by omega) hb
                    clear hHeld
                    refine hK.out _ _ ?_ (fun hHeld => ?_)
                    · exact ⟨hx, hb⟩
                    clear hK K
                    refine wpAnyH_ready (rs := [13]) (by kernel_rfl) (by simp) ?_
                    refine AllReadyH.cons (o := ?oi34) ?hi34 (fun K hK => ?_) AllReadyH.nil
                    case hi34 => (simp only [List.getElem?_toArray, List.getElem?_cons_zero, List.getElem?_cons_succ]; rfl)
                    rw [if_pos (by rfl)]
                    (with_reducible refine s_a NA _ ac ha ?_ ?_ ?_)
                    · exact rfl
                    · exact rfl
                    intro V hnew ho
                    replace hx := hx.only ho (by omega)
                    replace hz := hz.only ho (by omega)
                    replace ha := hnew
                    replace hb := ho.bel _ _ (by omega) hb
                    clear hHeld
                    refine hK.out _ _ ?_ (fun hHeld => ?_)
                    · exact ⟨hx, hb⟩
                    clear hK K
                    refine wpAnyH_done (by kernel_rfl) ?_ _
                    go_wp2_with (fail)
                    go_meet
                    case rel => exact ⟨NZ, NA, rfl, rfl, hx, hz, ha, hb, lNZ, lNA, by omega⟩
              case b9 =>
                replace hx := hHeld.1
                replace hb := hHeld.2
                obtain ⟨NA, hNA⟩ : ∃ n, V.heap.size = n := ⟨_, rfl⟩
                have lNA : NX + 1 ≤ NA := by have := hx.lt; omega
                replace hNA := hide hNA
                rw [if_pos (by rfl)]
                (with_reducible refine s_alloc NA ?_ _ zero_acc ?_)
                · exact hNA.out
                intro V ha hb' hzY
                replace hx := hx.bl (hNA.out ▸ hb')
                replace hb := hb.trans (hb'.mono (by omega))
                simp only [Act.put, List.setIfInBounds_toArray, List.set_cons_zero, List.set_cons_succ]
                clear hHeld
                refine hK.out _ _ ?_ (fun hHeld => ?_)
                · exact ⟨hx, hb⟩
                clear hK K
                refine wpAnyH_ready (rs := [6, 10]) (by kernel_rfl) (by simp) ?_
                refine AllReadyH.cons (o := ?oi35) ?hi35 (fun K hK => ?b35) (AllReadyH.cons (o := ?oi36) ?hi36 (fun K hK => ?b36) AllReadyH.nil)
                case hi35 => (simp only [List.getElem?_toArray, List.getElem?_cons_zero, List.getElem?_cons_succ]; rfl)
                case hi36 => (simp only [List.getElem?_toArray, List.getElem?_cons_zero, List.getElem?_cons_succ]; rfl)
                case b35 =>
                  go_simp
                  (with_reducible refine (HD.out _ ?_).mono ?_)
                  · exact HA.out.below hHeld.2
                  rintro e V ⟨rfl, hbc⟩
                  replace hx := hHeld.1.bl hbc
                  replace hb := below_bl rfl hHeld.2 hbc
                  replace ha := ha.bl hbc
                  clear hHeld
                  go_simp
                  refine hK.out _ _ ?_ (fun hHeld => ?_)
                  · exact ⟨hx, hb⟩
                  clear hK K
                  refine wpAnyH_take (i := 7) (oi := ?oi37) (v := .tuple #[.agg z.cells, .agg ac.cells]) ?hi37 (by kernel_rfl) (by kernel_rfl) (by kernel_rfl) ?hQ37 ?hy37 (by assumption) ?rest37
                  case hi37 => (simp only [List.getElem?_toArray, List.getElem?_cons_zero, List.getElem?_cons_succ]; rfl)
                  case hQ37 => exact fun _ _ _ h => h
                  case hy37 => exact Or.inl ⟨by rfl, by (intro w hSw; (try dsimp only at hSw); go_simp )⟩
                  simp only [Act.put, List.setIfInBounds_toArray, List.set_cons_zero, List.set_cons_succ]
                  refine wpAnyH_take (i := 8) (oi := ?oi38) (v := .agg z.cells) ?hi38 (by kernel_rfl) (by kernel_rfl) (by kernel_rfl) ?hQ38 ?hy38 (by assumption) ?rest38
                  case hi38 => (simp only [List.getElem?_toArray, List.getElem?_cons_zero, List.getElem?_cons_succ]; rfl)
                  case hQ38 => exact fun _ _ _ h => h
                  case hy38 => exact Or.inl ⟨by rfl, by (intro w hSw; (try dsimp only at hSw); go_simp )⟩
                  simp only [Act.put, List.setIfInBounds_toArray, List.set_cons_zero, List.set_cons_succ]
                  refine wpAnyH_take (i := 9) (oi := ?oi39) (v := .agg ac.cells) ?hi39 (by kernel_rfl) (by kernel_rfl) (by kernel_rfl) ?hQ39 ?hy39 (by assumption) ?rest39
                  case hi39 => (simp only [List.getElem?_toArray, List.getElem?_cons_zero, List.getElem?_cons_succ]; rfl)
                  case hQ39 => exact fun _ _ _ h => h
                  case hy39 => exact Or.inl ⟨by rfl, by (intro w hSw; (try dsimp only at hSw); go_simp )⟩
                  simp only [Act.put, List.setIfInBounds_toArray, List.set_cons_zero, List.set_cons_succ]
                  refine wpAnyH_ready (rs := [10]) (by kernel_rfl) (by simp) ?_
                  refine AllReadyH.cons (o := ?oi40) ?hi40 (fun K hK => ?b40) AllReadyH.nil
                  case hi40 => (simp only [List.getElem?_toArray, List.getElem?_cons_zero, List.getElem?_cons_succ]; rfl)
                  case b40 =>
                    replace hx := hHeld.1
                    replace hb := hHeld.2
                    obtain ⟨NZ, hNZ⟩ : ∃ n, V.heap.size = n := ⟨_, rfl⟩
                    have lNZ : NX + 1 ≤ NZ := by have := hx.lt; omega
                    have neNZ : NA < NZ := by have := ha.lt; omega
                    replace hNZ := hide hNZ
                    rw [if_pos (by rfl)]
                    (with_reducible refine s_alloc NZ ?_ _ zero_hart ?_)
                    · exact hNZ.out
                    intro V hz hb' hzY
                    replace hx := hx.bl (hNZ.out ▸ hb')
                    replace ha := ha.bl (hNZ.out ▸ hb')
                    replace hb := hb.trans (hb'.mono (by omega))
                    simp only [Act.put, List.setIfInBounds_toArray, List.set_cons_zero, List.set_cons_succ]
                    clear hHeld
                    refine hK.out _ _ ?_ (fun hHeld => ?_)
                    · exact ⟨hx, hb⟩
                    clear hK K
                    refine wpAnyH_ready (rs := [12]) (by kernel_rfl) (by simp) ?_
                    refine AllReadyH.cons (o := ?oi41) ?hi41 (fun K hK => ?_) AllReadyH.nil
                    case hi41 => (simp only [List.getElem?_toArray, List.getElem?_cons_zero, List.getElem?_cons_succ]; rfl)
                    rw [if_pos (by rfl)]
                    (with_reducible refine s_h NZ _ z hz ?_ ?_ ?_)
                    · exact rfl
                    · exact rfl
                    intro V hnew ho
                    replace hx := hx.only ho (by omega)
                    replace ha := ha.only ho (by omega)
                    replace hz := hnew
                    replace hb := ho.bel _ _ (by omega) hb
                    clear hHeld
                    refine hK.out _ _ ?_ (fun hHeld => ?_)
                    · exact ⟨hx, hb⟩
                    clear hK K
                    refine wpAnyH_ready (rs := [13]) (by kernel_rfl) (by simp) ?_
                    refine AllReadyH.cons (o := ?oi42) ?hi42 (fun K hK => ?_) AllReadyH.nil
                    case hi42 => (simp only [List.getElem?_toArray, List.getElem?_cons_zero, List.getElem?_cons_succ]; rfl)
                    rw [if_pos (by rfl)]
                    (with_reducible refine s_a NA _ ac ha ?_ ?_ ?_)
                    · exact rfl
                    · exact rfl
                    intro V hnew ho
                    replace hx := hx.only ho (by omega)
                    replace hz := hz.only ho (by omega)
                    replace ha := hnew
                    replace hb := ho.bel _ _ (by omega) hb
                    clear hHeld
                    refine hK.out _ _ ?_ (fun hHeld => ?_)
                    · exact ⟨hx, hb⟩
                    clear hK K
                    refine wpAnyH_done (by kernel_rfl) ?_ _
                    go_wp2_with (fail)
                    go_meet
                    case rel => exact ⟨NZ, NA, rfl, rfl, hx, hz, ha, hb, lNZ, lNA, by omega⟩
                case b36 =>
                  replace hx := hHeld.1
                  replace hb := hHeld.2
                  obtain ⟨NZ, hNZ⟩ : ∃ n, V.heap.size = n := ⟨_, rfl⟩
                  have lNZ : NX + 1 ≤ NZ := by have := hx.lt; omega
                  have neNZ : NA < NZ := by have := ha.lt; omega
                  replace hNZ := hide hNZ
                  rw [if_pos (by rfl)]
                  (with_reducible refine s_alloc NZ ?_ _ zero_hart ?_)
                  · exact hNZ.out
                  intro V hz hb' hzY
                  replace hx := hx.bl (hNZ.out ▸ hb')
                  replace ha := ha.bl (hNZ.out ▸ hb')
                  replace hb := hb.trans (hb'.mono (by omega))
                  simp only [Act.put, List.setIfInBounds_toArray, List.set_cons_zero, List.set_cons_succ]
                  clear hHeld
                  refine hK.out _ _ ?_ (fun hHeld => ?_)
                  · exact ⟨hx, hb⟩
                  clear hK K
                  refine wpAnyH_ready (rs := [6]) (by kernel_rfl) (by simp) ?_
                  refine AllReadyH.cons (o := ?oi43) ?hi43 (fun K hK => ?b43) AllReadyH.nil
                  case hi43 => (simp only [List.getElem?_toArray, List.getElem?_cons_zero, List.getElem?_cons_succ]; rfl)
                  case b43 =>
                    go_simp
                    (with_reducible refine (HD.out _ ?_).mono ?_)
                    · exact HA.out.below hHeld.2
                    rintro e V ⟨rfl, hbc⟩
                    replace hx := hHeld.1.bl hbc
                    replace hb := below_bl rfl hHeld.2 hbc
                    replace ha := ha.bl hbc
                    replace hz := hz.bl hbc
                    clear hHeld
                    go_simp
                    refine hK.out _ _ ?_ (fun hHeld => ?_)
                    · exact ⟨hx, hb⟩
                    clear hK K
                    refine wpAnyH_take (i := 7) (oi := ?oi44) (v := .tuple #[.agg z.cells, .agg ac.cells]) ?hi44 (by kernel_rfl) (by kernel_rfl) (by kernel_rfl) ?hQ44 ?hy44 (by assumption) ?rest44
                    case hi44 => (simp only [List.getElem?_toArray, List.getElem?_cons_zero, List.getElem?_cons_succ]; rfl)
                    case hQ44 => exact fun _ _ _ h => h
                    case hy44 => exact Or.inl ⟨by rfl, by (intro w hSw; (try dsimp only at hSw); go_simp )⟩
                    simp only [Act.put, List.setIfInBounds_toArray, List.set_cons_zero, List.set_cons_succ]
                    refine wpAnyH_take (i := 8) (oi := ?oi45) (v := .agg z.cells) ?hi45 (by kernel_rfl) (by kernel_rfl) (by kernel_rfl) ?hQ45 ?hy45 (by assumption) ?rest45
                    case hi45 => (simp only [List.getElem?_toArray, List.getElem?_cons_zero, List.getElem?_cons_succ]; rfl)
                    case hQ45 => exact fun _ _ _ h => h
                    case hy45 => exact Or.inl ⟨by rfl, by (intro w hSw; (try dsimp only at hSw); go_simp )⟩
                    simp only [Act.put, List.setIfInBounds_toArray, List.set_cons_zero, List.set_cons_succ]
                    refine wpAnyH_take (i := 9) (oi := ?oi46) (v := .agg ac.cells) ?hi46 (by kernel_rfl) (by kernel_rfl) (by kernel_rfl) ?hQ46 ?hy46 (by assumption) ?rest46
                    case hi46 => (simp only [List.getElem?_toArray, List.getElem?_cons_zero, List.getElem?_cons_succ]; rfl)
                    case hQ46 => exact fun _ _ _ h => h
                    case hy46 => exact Or.inl ⟨by rfl, by (intro w hSw; (try dsimp only at hSw); go_simp )⟩
                    simp only [Act.put, List.setIfInBounds_toArray, List.set_cons_zero, List.set_cons_succ]
                    refine wpAnyH_ready (rs := [12]) (by kernel_rfl) (by simp) ?_
                    refine AllReadyH.cons (o := ?oi47) ?hi47 (fun K hK => ?_) AllReadyH.nil
                    case hi47 => (simp only [List.getElem?_toArray, List.getElem?_cons_zero, List.getElem?_cons_succ]; rfl)
                    rw [if_pos (by rfl)]
                    (with_reducible refine s_h NZ _ z hz ?_ ?_ ?_)
                    · exact rfl
                    · exact rfl
                    intro V hnew ho
                    replace hx := hx.only ho (by omega)
                    replace ha := ha.only ho (by omega)
                    replace hz := hnew
                    replace hb := ho.bel _ _ (by omega) hb
                    clear hHeld
                    refine hK.out _ _ ?_ (fun hHeld => ?_)
                    · exact ⟨hx, hb⟩
                    clear hK K
                    refine wpAnyH_ready (rs := [13]) (by kernel_rfl) (by simp) ?_
                    refine AllReadyH.cons (o := ?oi48) ?hi48 (fun K hK => ?_) AllReadyH.nil
                    case hi48 => (simp only [List.getElem?_toArray, List.getElem?_cons_zero, List.getElem?_cons_succ]; rfl)
                    rw [if_pos (by rfl)]
                    (with_reducible refine s_a NA _ ac ha ?_ ?_ ?_)
                    · exact rfl
                    · exact rfl
                    intro V hnew ho
                    replace hx := hx.only ho (by omega)
                    replace hz := hz.only ho (by omega)
                    replace ha := hnew
                    replace hb := ho.bel _ _ (by omega) hb
                    clear hHeld
                    refine hK.out _ _ ?_ (fun hHeld => ?_)
                    · exact ⟨hx, hb⟩
                    clear hK K
                    refine wpAnyH_done (by kernel_rfl) ?_ _
                    go_wp2_with (fail)
                    go_meet
                    case rel => exact ⟨NZ, NA, rfl, rfl, hx, hz, ha, hb, lNZ, lNA, by omega⟩
            case rest =>
              obtain ⟨NZ, NA, rfl, rfl, hx, hz, ha, hb, lNZ, lNA, hne⟩ := hcut
              rcases hdf with ⟨rfl, fz⟩ | ⟨hzy, kd, pl, n, sg, rd, va, rfl, hkd, hn, hpn, hpl, hrd⟩
              · have HCz := hide (fun w => check_any z fz.1 w)
                rw [fz.2] at HCz
                simp only [checkV] at HCz
                have fa := ha.cell
                have a0 : noA.kind = 0 := rfl
                go_wp2_with (first | ((with_reducible refine ld_h NZ _ hz ?_ ?_); exact rfl) | (go_at_call 15; (with_reducible refine (HCz.out _).mono ?_); rintro e W ⟨rfl, hbc⟩; replace hx := hx.bl hbc; replace hz := hz.bl hbc; replace hb := below_bl rfl hb hbc) | ((with_reducible refine st_h NX _ z hx ?_ ?_ ?_); exact rfl; exact rfl; intro W hnew ho; replace hx := hnew; replace hb := ho.bel _ _ (by omega) hb))
                go_roundw
                case rel => exact ⟨i + 1, z, by go_num, by omega, fz, hx, hb⟩
                case measure => simp [intOf]; omega
              · replace hzy := hzy.symm
                subst hzy
                rcases hkd with rfl | rfl
                · rcases hn with rfl | rfl | rfl
                  · by_cases h3 : l % 3 = 0
                    · have fa := ha.cell
                      have e0 : ((l : Int) % 3 == 0) = true := by simp; omega
                      have e1 : ((pl : Int) % 1 != 0) = false := by simp <;> omega
                      have e2 : (0 : Int) ≤ rd := by omega
                      have e3 : (rd : Int) ≤ 31 := by omega
                      have e4 : decide ((31 : Int) < (rd : Int)) = false := by simp <;> omega
                      have e5 : decide ((rd : Int) < 0) = false := by simp <;> omega
                      have HF := hide (fun w => fault_1 y fy.1 pl rd va 1 sg hrd w)
                      have fz' : Fine (trapH y 5 pl) := fine_trap fy (by decide) hpl
                      have HCz := hide (fun w => check_any (trapH y 5 pl) fz'.1 w)
                      rw [fz'.2] at HCz
                      simp only [checkV] at HCz
                      go_wp2_with (first | ((with_reducible refine gl_h NZ y hz ?_ ?_ ?_); exact rfl; exact rfl) | ((with_reducible refine gl_h NX y hx ?_ ?_ ?_); exact rfl; exact rfl) | ((with_reducible refine g_neh y ?_ ?_ ?_ ?_); exact rfl; exact rfl; exact rfl) | ((with_reducible refine ld_h NZ _ hz ?_ ?_); exact rfl) | ((with_reducible refine ld_a NA _ ha ?_ ?_); exact rfl) | (go_at_call 19; (with_reducible refine (HF.out _).mono ?_); rintro e W ⟨rfl, hbc⟩; replace hx := hx.bl hbc; replace hz := hz.bl hbc; replace ha := ha.bl hbc; replace hb := below_bl rfl hb hbc) | ((with_reducible refine st_h NZ _ (trapH y 5 pl) hz ?_ ?_ ?_); exact rfl; exact rfl; intro W hnew ho; replace hx := hx.only ho (by omega); replace ha := ha.only ho (by omega); replace hz := hnew; replace hb := ho.bel _ _ (by omega) hb) | (go_at_call 15; (with_reducible refine (HCz.out _).mono ?_); rintro e W ⟨rfl, hbc⟩; replace hx := hx.bl hbc; replace hz := hz.bl hbc; replace hb := below_bl rfl hb hbc) | ((with_reducible refine st_h NX _ (trapH y 5 pl) hx ?_ ?_ ?_); exact rfl; exact rfl; intro W hnew ho; replace hx := hnew; replace hb := ho.bel _ _ (by omega) hb))
                      go_roundw
                      case rel => exact ⟨i + 1, (trapH y 5 pl), by go_num, by omega, fz', hx, hb⟩
                      case measure => simp [intOf]; omega
                    · have fa := ha.cell
                      have e0 : ((l : Int) % 3 == 0) = false := by simp; omega
                      have e1 : ((pl : Int) % 1 != 0) = false := by simp <;> omega
                      have e2 : (0 : Int) ≤ rd := by omega
                      have e3 : (rd : Int) ≤ 31 := by omega
                      have e4 : decide ((31 : Int) < (rd : Int)) = false := by simp <;> omega
                      have e5 : decide ((rd : Int) < 0) = false := by simp <;> omega
                      obtain ⟨L, hLl, hL⟩ : ∃ L : Nat, L < 4294967296 ∧ Hid (∀ w, Calls Tryd.prog 47 #[.agg (A6.cells ⟨1, pl, 1, sg, (rd : Nat), va⟩), .int .u32 l] w fun e w' => e = .returned (.int .u32 (L : Nat)) ∧ Below w.heap.size w w') := by
                        cases sg with
                        | true => exact ⟨_, signW_lt l hl _, hide (fun w => loaded_1t pl rd va l hl w)⟩
                        | false => exact ⟨_, fieldW_lt _ _ _, hide (fun w => loaded_1f pl rd va l hl w)⟩
                      have HF := hide (fun w => done_1 y fy.1 pl rd va l 1 sg hrd L hLl hL w)
                      have fz' : Fine (nextH (writeH y rd L)) := fine_next (fine_write fy rd hLl)
                      have HCz := hide (fun w => check_any (nextH (writeH y rd L)) fz'.1 w)
                      rw [fz'.2] at HCz
                      simp only [checkV] at HCz
                      go_wp2_with (first | ((with_reducible refine gl_h NZ y hz ?_ ?_ ?_); exact rfl; exact rfl) | ((with_reducible refine gl_h NX y hx ?_ ?_ ?_); exact rfl; exact rfl) | ((with_reducible refine g_neh y ?_ ?_ ?_ ?_); exact rfl; exact rfl; exact rfl) | ((with_reducible refine ld_h NZ _ hz ?_ ?_); exact rfl) | ((with_reducible refine ld_a NA _ ha ?_ ?_); exact rfl) | (go_at_call 20; (with_reducible refine (HF.out _).mono ?_); rintro e W ⟨rfl, hbc⟩; replace hx := hx.bl hbc; replace hz := hz.bl hbc; replace ha := ha.bl hbc; replace hb := below_bl rfl hb hbc) | ((with_reducible refine st_h NZ _ (nextH (writeH y rd L)) hz ?_ ?_ ?_); exact rfl; exact rfl; intro W hnew ho; replace hx := hx.only ho (by omega); replace ha := ha.only ho (by omega); replace hz := hnew; replace hb := ho.bel _ _ (by omega) hb) | (go_at_call 15; (with_reducible refine (HCz.out _).mono ?_); rintro e W ⟨rfl, hbc⟩; replace hx := hx.bl hbc; replace hz := hz.bl hbc; replace hb := below_bl rfl hb hbc) | ((with_reducible refine st_h NX _ (nextH (writeH y rd L)) hx ?_ ?_ ?_); exact rfl; exact rfl; intro W hnew ho; replace hx := hnew; replace hb := ho.bel _ _ (by omega) hb))
                      go_roundw
                      case rel => exact ⟨i + 1, (nextH (writeH y rd L)), by go_num, by omega, fz', hx, hb⟩
                      case measure => simp [intOf]; omega
                  · by_cases h3 : l % 3 = 0
                    · have fa := ha.cell
                      have e0 : ((l : Int) % 3 == 0) = true := by simp; omega
                      have e1 : ((pl : Int) % 2 != 0) = false := by simp <;> omega
                      have e2 : (0 : Int) ≤ rd := by omega
                      have e3 : (rd : Int) ≤ 31 := by omega
                      have e4 : decide ((31 : Int) < (rd : Int)) = false := by simp <;> omega
                      have e5 : decide ((rd : Int) < 0) = false := by simp <;> omega
                      have HF := hide (fun w => fault_1 y fy.1 pl rd va 2 sg hrd w)
                      have fz' : Fine (trapH y 5 pl) := fine_trap fy (by decide) hpl
                      have HCz := hide (fun w => check_any (trapH y 5 pl) fz'.1 w)
                      rw [fz'.2] at HCz
                      simp only [checkV] at HCz
                      go_wp2_with (first | ((with_reducible refine gl_h NZ y hz ?_ ?_ ?_); exact rfl; exact rfl) | ((with_reducible refine gl_h NX y hx ?_ ?_ ?_); exact rfl; exact rfl) | ((with_reducible refine g_neh y ?_ ?_ ?_ ?_); exact rfl; exact rfl; exact rfl) | ((with_reducible refine ld_h NZ _ hz ?_ ?_); exact rfl) | ((with_reducible refine ld_a NA _ ha ?_ ?_); exact rfl) | (go_at_call 19; (with_reducible refine (HF.out _).mono ?_); rintro e W ⟨rfl, hbc⟩; replace hx := hx.bl hbc; replace hz := hz.bl hbc; replace ha := ha.bl hbc; replace hb := below_bl rfl hb hbc) | ((with_reducible refine st_h NZ _ (trapH y 5 pl) hz ?_ ?_ ?_); exact rfl; exact rfl; intro W hnew ho; replace hx := hx.only ho (by omega); replace ha := ha.only ho (by omega); replace hz := hnew; replace hb := ho.bel _ _ (by omega) hb) | (go_at_call 15; (with_reducible refine (HCz.out _).mono ?_); rintro e W ⟨rfl, hbc⟩; replace hx := hx.bl hbc; replace hz := hz.bl hbc; replace hb := below_bl rfl hb hbc) | ((with_reducible refine st_h NX _ (trapH y 5 pl) hx ?_ ?_ ?_); exact rfl; exact rfl; intro W hnew ho; replace hx := hnew; replace hb := ho.bel _ _ (by omega) hb))
                      go_roundw
                      case rel => exact ⟨i + 1, (trapH y 5 pl), by go_num, by omega, fz', hx, hb⟩
                      case measure => simp [intOf]; omega
                    · have fa := ha.cell
                      have e0 : ((l : Int) % 3 == 0) = false := by simp; omega
                      have e1 : ((pl : Int) % 2 != 0) = false := by simp <;> omega
                      have e2 : (0 : Int) ≤ rd := by omega
                      have e3 : (rd : Int) ≤ 31 := by omega
                      have e4 : decide ((31 : Int) < (rd : Int)) = false := by simp <;> omega
                      have e5 : decide ((rd : Int) < 0) = false := by simp <;> omega
                      obtain ⟨L, hLl, hL⟩ : ∃ L : Nat, L < 4294967296 ∧ Hid (∀ w, Calls Tryd.prog 47 #[.agg (A6.cells ⟨1, pl, 2, sg, (rd : Nat), va⟩), .int .u32 l] w fun e w' => e = .returned (.int .u32 (L : Nat)) ∧ Below w.heap.size w w') := by
                        cases sg with
                        | true => exact ⟨_, signW_lt l hl _, hide (fun w => loaded_2t pl rd va l hl w)⟩
                        | false => exact ⟨_, fieldW_lt _ _ _, hide (fun w => loaded_2f pl rd va l hl w)⟩
                      have HF := hide (fun w => done_1 y fy.1 pl rd va l 2 sg hrd L hLl hL w)
                      have fz' : Fine (nextH (writeH y rd L)) := fine_next (fine_write fy rd hLl)
                      have HCz := hide (fun w => check_any (nextH (writeH y rd L)) fz'.1 w)
                      rw [fz'.2] at HCz
                      simp only [checkV] at HCz
                      go_wp2_with (first | ((with_reducible refine gl_h NZ y hz ?_ ?_ ?_); exact rfl; exact rfl) | ((with_reducible refine gl_h NX y hx ?_ ?_ ?_); exact rfl; exact rfl) | ((with_reducible refine g_neh y ?_ ?_ ?_ ?_); exact rfl; exact rfl; exact rfl) | ((with_reducible refine ld_h NZ _ hz ?_ ?_); exact rfl) | ((with_reducible refine ld_a NA _ ha ?_ ?_); exact rfl) | (go_at_call 20; (with_reducible refine (HF.out _).mono ?_); rintro e W ⟨rfl, hbc⟩; replace hx := hx.bl hbc; replace hz := hz.bl hbc; replace ha := ha.bl hbc; replace hb := below_bl rfl hb hbc) | ((with_reducible refine st_h NZ _ (nextH (writeH y rd L)) hz ?_ ?_ ?_); exact rfl; exact rfl; intro W hnew ho; replace hx := hx.only ho (by omega); replace ha := ha.only ho (by omega); replace hz := hnew; replace hb := ho.bel _ _ (by omega) hb) | (go_at_call 15; (with_reducible refine (HCz.out _).mono ?_); rintro e W ⟨rfl, hbc⟩; replace hx := hx.bl hbc; replace hz := hz.bl hbc; replace hb := below_bl rfl hb hbc) | ((with_reducible refine st_h NX _ (nextH (writeH y rd L)) hx ?_ ?_ ?_); exact rfl; exact rfl; intro W hnew ho; replace hx := hnew; replace hb := ho.bel _ _ (by omega) hb))
                      go_roundw
                      case rel => exact ⟨i + 1, (nextH (writeH y rd L)), by go_num, by omega, fz', hx, hb⟩
                      case measure => simp [intOf]; omega
                  · by_cases h3 : l % 3 = 0
                    · have fa := ha.cell
                      have e0 : ((l : Int) % 3 == 0) = true := by simp; omega
                      have e1 : ((pl : Int) % 4 != 0) = false := by simp <;> omega
                      have e2 : (0 : Int) ≤ rd := by omega
                      have e3 : (rd : Int) ≤ 31 := by omega
                      have e4 : decide ((31 : Int) < (rd : Int)) = false := by simp <;> omega
                      have e5 : decide ((rd : Int) < 0) = false := by simp <;> omega
                      have HF := hide (fun w => fault_1 y fy.1 pl rd va 4 sg hrd w)
                      have fz' : Fine (trapH y 5 pl) := fine_trap fy (by decide) hpl
                      have HCz := hide (fun w => check_any (trapH y 5 pl) fz'.1 w)
                      rw [fz'.2] at HCz
                      simp only [checkV] at HCz
                      go_wp2_with (first | ((with_reducible refine gl_h NZ y hz ?_ ?_ ?_); exact rfl; exact rfl) | ((with_reducible refine gl_h NX y hx ?_ ?_ ?_); exact rfl; exact rfl) | ((with_reducible refine g_neh y ?_ ?_ ?_ ?_); exact rfl; exact rfl; exact rfl) | ((with_reducible refine ld_h NZ _ hz ?_ ?_); exact rfl) | ((with_reducible refine ld_a NA _ ha ?_ ?_); exact rfl) | (go_at_call 19; (with_reducible refine (HF.out _).mono ?_); rintro e W ⟨rfl, hbc⟩; replace hx := hx.bl hbc; replace hz := hz.bl hbc; replace ha := ha.bl hbc; replace hb := below_bl rfl hb hbc) | ((with_reducible refine st_h NZ _ (trapH y 5 pl) hz ?_ ?_ ?_); exact rfl; exact rfl; intro W hnew ho; replace hx := hx.only ho (by omega); replace ha := ha.only ho (by omega); replace hz := hnew; replace hb := ho.bel _ _ (by omega) hb) | (go_at_call 15; (with_reducible refine (HCz.out _).mono ?_); rintro e W ⟨rfl, hbc⟩; replace hx := hx.bl hbc; replace hz := hz.bl hbc; replace hb := below_bl rfl hb hbc) | ((with_reducible refine st_h NX _ (trapH y 5 pl) hx ?_ ?_ ?_); exact rfl; exact rfl; intro W hnew ho; replace hx := hnew; replace hb := ho.bel _ _ (by omega) hb))
                      go_roundw
                      case rel => exact ⟨i + 1, (trapH y 5 pl), by go_num, by omega, fz', hx, hb⟩
                      case measure => simp [intOf]; omega
                    · have fa := ha.cell
                      have e0 : ((l : Int) % 3 == 0) = false := by simp; omega
                      have e1 : ((pl : Int) % 4 != 0) = false := by simp <;> omega
                      have e2 : (0 : Int) ≤ rd := by omega
                      have e3 : (rd : Int) ≤ 31 := by omega
                      have e4 : decide ((31 : Int) < (rd : Int)) = false := by simp <;> omega
                      have e5 : decide ((rd : Int) < 0) = false := by simp <;> omega
                      obtain ⟨L, hLl, hL⟩ : ∃ L : Nat, L < 4294967296 ∧ Hid (∀ w, Calls Tryd.prog 47 #[.agg (A6.cells ⟨1, pl, 4, sg, (rd : Nat), va⟩), .int .u32 l] w fun e w' => e = .returned (.int .u32 (L : Nat)) ∧ Below w.heap.size w w') := by
                        cases sg with
                        | true => exact ⟨_, signW_lt l hl _, hide (fun w => loaded_4t pl rd va l hl w)⟩
                        | false => exact ⟨_, fieldW_lt _ _ _, hide (fun w => loaded_4f pl rd va l hl w)⟩
                      have HF := hide (fun w => done_1 y fy.1 pl rd va l 4 sg hrd L hLl hL w)
                      have fz' : Fine (nextH (writeH y rd L)) := fine_next (fine_write fy rd hLl)
                      have HCz := hide (fun w => check_any (nextH (writeH y rd L)) fz'.1 w)
                      rw [fz'.2] at HCz
                      simp only [checkV] at HCz
                      go_wp2_with (first | ((with_reducible refine gl_h NZ y hz ?_ ?_ ?_); exact rfl; exact rfl) | ((with_reducible refine gl_h NX y hx ?_ ?_ ?_); exact rfl; exact rfl) | ((with_reducible refine g_neh y ?_ ?_ ?_ ?_); exact rfl; exact rfl; exact rfl) | ((with_reducible refine ld_h NZ _ hz ?_ ?_); exact rfl) | ((with_reducible refine ld_a NA _ ha ?_ ?_); exact rfl) | (go_at_call 20; (with_reducible refine (HF.out _).mono ?_); rintro e W ⟨rfl, hbc⟩; replace hx := hx.bl hbc; replace hz := hz.bl hbc; replace ha := ha.bl hbc; replace hb := below_bl rfl hb hbc) | ((with_reducible refine st_h NZ _ (nextH (writeH y rd L)) hz ?_ ?_ ?_); exact rfl; exact rfl; intro W hnew ho; replace hx := hx.only ho (by omega); replace ha := ha.only ho (by omega); replace hz := hnew; replace hb := ho.bel _ _ (by omega) hb) | (go_at_call 15; (with_reducible refine (HCz.out _).mono ?_); rintro e W ⟨rfl, hbc⟩; replace hx := hx.bl hbc; replace hz := hz.bl hbc; replace hb := below_bl rfl hb hbc) | ((with_reducible refine st_h NX _ (nextH (writeH y rd L)) hx ?_ ?_ ?_); exact rfl; exact rfl; intro W hnew ho; replace hx := hnew; replace hb := ho.bel _ _ (by omega) hb))
                      go_roundw
                      case rel => exact ⟨i + 1, (nextH (writeH y rd L)), by go_num, by omega, fz', hx, hb⟩
                      case measure => simp [intOf]; omega
                · rcases hn with rfl | rfl | rfl
                  · by_cases h3 : l % 3 = 0
                    · have fa := ha.cell
                      have e0 : ((l : Int) % 3 == 0) = true := by simp; omega
                      have e1 : ((pl : Int) % 1 != 0) = false := by simp <;> omega
                      have e2 : (0 : Int) ≤ rd := by omega
                      have e3 : (rd : Int) ≤ 31 := by omega
                      have e4 : decide ((31 : Int) < (rd : Int)) = false := by simp <;> omega
                      have e5 : decide ((rd : Int) < 0) = false := by simp <;> omega
                      have HF := hide (fun w => fault_2 y fy.1 pl rd va 1 sg hrd w)
                      have fz' : Fine (trapH y 7 pl) := fine_trap fy (by decide) hpl
                      have HCz := hide (fun w => check_any (trapH y 7 pl) fz'.1 w)
                      rw [fz'.2] at HCz
                      simp only [checkV] at HCz
                      go_wp2_with (first | ((with_reducible refine gl_h NZ y hz ?_ ?_ ?_); exact rfl; exact rfl) | ((with_reducible refine gl_h NX y hx ?_ ?_ ?_); exact rfl; exact rfl) | ((with_reducible refine g_neh y ?_ ?_ ?_ ?_); exact rfl; exact rfl; exact rfl) | ((with_reducible refine ld_h NZ _ hz ?_ ?_); exact rfl) | ((with_reducible refine ld_a NA _ ha ?_ ?_); exact rfl) | (go_at_call 19; (with_reducible refine (HF.out _).mono ?_); rintro e W ⟨rfl, hbc⟩; replace hx := hx.bl hbc; replace hz := hz.bl hbc; replace ha := ha.bl hbc; replace hb := below_bl rfl hb hbc) | ((with_reducible refine st_h NZ _ (trapH y 7 pl) hz ?_ ?_ ?_); exact rfl; exact rfl; intro W hnew ho; replace hx := hx.only ho (by omega); replace ha := ha.only ho (by omega); replace hz := hnew; replace hb := ho.bel _ _ (by omega) hb) | (go_at_call 15; (with_reducible refine (HCz.out _).mono ?_); rintro e W ⟨rfl, hbc⟩; replace hx := hx.bl hbc; replace hz := hz.bl hbc; replace hb := below_bl rfl hb hbc) | ((with_reducible refine st_h NX _ (trapH y 7 pl) hx ?_ ?_ ?_); exact rfl; exact rfl; intro W hnew ho; replace hx := hnew; replace hb := ho.bel _ _ (by omega) hb))
                      go_roundw
                      case rel => exact ⟨i + 1, (trapH y 7 pl), by go_num, by omega, fz', hx, hb⟩
                      case measure => simp [intOf]; omega
                    · have fa := ha.cell
                      have e0 : ((l : Int) % 3 == 0) = false := by simp; omega
                      have e1 : ((pl : Int) % 1 != 0) = false := by simp <;> omega
                      have e2 : (0 : Int) ≤ rd := by omega
                      have e3 : (rd : Int) ≤ 31 := by omega
                      have e4 : decide ((31 : Int) < (rd : Int)) = false := by simp <;> omega
                      have e5 : decide ((rd : Int) < 0) = false := by simp <;> omega
                      have HF := hide (fun w => done_2 y fy.1 pl rd va l 1 sg hrd w)
                      have fz' : Fine (nextH y) := fine_next fy
                      have HCz := hide (fun w => check_any (nextH y) fz'.1 w)
                      rw [fz'.2] at HCz
                      simp only [checkV] at HCz
                      go_wp2_with (first | ((with_reducible refine gl_h NZ y hz ?_ ?_ ?_); exact rfl; exact rfl) | ((with_reducible refine gl_h NX y hx ?_ ?_ ?_); exact rfl; exact rfl) | ((with_reducible refine g_neh y ?_ ?_ ?_ ?_); exact rfl; exact rfl; exact rfl) | ((with_reducible refine ld_h NZ _ hz ?_ ?_); exact rfl) | ((with_reducible refine ld_a NA _ ha ?_ ?_); exact rfl) | (go_at_call 20; (with_reducible refine (HF.out _).mono ?_); rintro e W ⟨rfl, hbc⟩; replace hx := hx.bl hbc; replace hz := hz.bl hbc; replace ha := ha.bl hbc; replace hb := below_bl rfl hb hbc) | ((with_reducible refine st_h NZ _ (nextH y) hz ?_ ?_ ?_); exact rfl; exact rfl; intro W hnew ho; replace hx := hx.only ho (by omega); replace ha := ha.only ho (by omega); replace hz := hnew; replace hb := ho.bel _ _ (by omega) hb) | (go_at_call 15; (with_reducible refine (HCz.out _).mono ?_); rintro e W ⟨rfl, hbc⟩; replace hx := hx.bl hbc; replace hz := hz.bl hbc; replace hb := below_bl rfl hb hbc) | ((with_reducible refine st_h NX _ (nextH y) hx ?_ ?_ ?_); exact rfl; exact rfl; intro W hnew ho; replace hx := hnew; replace hb := ho.bel _ _ (by omega) hb))
                      go_roundw
                      case rel => exact ⟨i + 1, (nextH y), by go_num, by omega, fz', hx, hb⟩
                      case measure => simp [intOf]; omega
                  · by_cases h3 : l % 3 = 0
                    · have fa := ha.cell
                      have e0 : ((l : Int) % 3 == 0) = true := by simp; omega
                      have e1 : ((pl : Int) % 2 != 0) = false := by simp <;> omega
                      have e2 : (0 : Int) ≤ rd := by omega
                      have e3 : (rd : Int) ≤ 31 := by omega
                      have e4 : decide ((31 : Int) < (rd : Int)) = false := by simp <;> omega
                      have e5 : decide ((rd : Int) < 0) = false := by simp <;> omega
                      have HF := hide (fun w => fault_2 y fy.1 pl rd va 2 sg hrd w)
                      have fz' : Fine (trapH y 7 pl) := fine_trap fy (by decide) hpl
                      have HCz := hide (fun w => check_any (trapH y 7 pl) fz'.1 w)
                      rw [fz'.2] at HCz
                      simp only [checkV] at HCz
                      go_wp2_with (first | ((with_reducible refine gl_h NZ y hz ?_ ?_ ?_); exact rfl; exact rfl) | ((with_reducible refine gl_h NX y hx ?_ ?_ ?_); exact rfl; exact rfl) | ((with_reducible refine g_neh y ?_ ?_ ?_ ?_); exact rfl; exact rfl; exact rfl) | ((with_reducible refine ld_h NZ _ hz ?_ ?_); exact rfl) | ((with_reducible refine ld_a NA _ ha ?_ ?_); exact rfl) | (go_at_call 19; (with_reducible refine (HF.out _).mono ?_); rintro e W ⟨rfl, hbc⟩; replace hx := hx.bl hbc; replace hz := hz.bl hbc; replace ha := ha.bl hbc; replace hb := below_bl rfl hb hbc) | ((with_reducible refine st_h NZ _ (trapH y 7 pl) hz ?_ ?_ ?_); exact rfl; exact rfl; intro W hnew ho; replace hx := hx.only ho (by omega); replace ha := ha.only ho (by omega); replace hz := hnew; replace hb := ho.bel _ _ (by omega) hb) | (go_at_call 15; (with_reducible refine (HCz.out _).mono ?_); rintro e W ⟨rfl, hbc⟩; replace hx := hx.bl hbc; replace hz := hz.bl hbc; replace hb := below_bl rfl hb hbc) | ((with_reducible refine st_h NX _ (trapH y 7 pl) hx ?_ ?_ ?_); exact rfl; exact rfl; intro W hnew ho; replace hx := hnew; replace hb := ho.bel _ _ (by omega) hb))
                      go_roundw
                      case rel => exact ⟨i + 1, (trapH y 7 pl), by go_num, by omega, fz', hx, hb⟩
                      case measure => simp [intOf]; omega
                    · have fa := ha.cell
                      have e0 : ((l : Int) % 3 == 0) = false := by simp; omega
                      have e1 : ((pl : Int) % 2 != 0) = false := by simp <;> omega
                      have e2 : (0 : Int) ≤ rd := by omega
                      have e3 : (rd : Int) ≤ 31 := by omega
                      have e4 : decide ((31 : Int) < (rd : Int)) = false := by simp <;> omega
                      have e5 : decide ((rd : Int) < 0) = false := by simp <;> omega
                      have HF := hide (fun w => done_2 y fy.1 pl rd va l 2 sg hrd w)
                      have fz' : Fine (nextH y) := fine_next fy
                      have HCz := hide (fun w => check_any (nextH y) fz'.1 w)
                      rw [fz'.2] at HCz
                      simp only [checkV] at HCz
                      go_wp2_with (first | ((with_reducible refine gl_h NZ y hz ?_ ?_ ?_); exact rfl; exact rfl) | ((with_reducible refine gl_h NX y hx ?_ ?_ ?_); exact rfl; exact rfl) | ((with_reducible refine g_neh y ?_ ?_ ?_ ?_); exact rfl; exact rfl; exact rfl) | ((with_reducible refine ld_h NZ _ hz ?_ ?_); exact rfl) | ((with_reducible refine ld_a NA _ ha ?_ ?_); exact rfl) | (go_at_call 20; (with_reducible refine (HF.out _).mono ?_); rintro e W ⟨rfl, hbc⟩; replace hx := hx.bl hbc; replace hz := hz.bl hbc; replace ha := ha.bl hbc; replace hb := below_bl rfl hb hbc) | ((with_reducible refine st_h NZ _ (nextH y) hz ?_ ?_ ?_); exact rfl; exact rfl; intro W hnew ho; replace hx := hx.only ho (by omega); replace ha := ha.only ho (by omega); replace hz := hnew; replace hb := ho.bel _ _ (by omega) hb) | (go_at_call 15; (with_reducible refine (HCz.out _).mono ?_); rintro e W ⟨rfl, hbc⟩; replace hx := hx.bl hbc; replace hz := hz.bl hbc; replace hb := below_bl rfl hb hbc) | ((with_reducible refine st_h NX _ (nextH y) hx ?_ ?_ ?_); exact rfl; exact rfl; intro W hnew ho; replace hx := hnew; replace hb := ho.bel _ _ (by omega) hb))
                      go_roundw
                      case rel => exact ⟨i + 1, (nextH y), by go_num, by omega, fz', hx, hb⟩
                      case measure => simp [intOf]; omega
                  · by_cases h3 : l % 3 = 0
                    · have fa := ha.cell
                      have e0 : ((l : Int) % 3 == 0) = true := by simp; omega
                      have e1 : ((pl : Int) % 4 != 0) = false := by simp <;> omega
                      have e2 : (0 : Int) ≤ rd := by omega
                      have e3 : (rd : Int) ≤ 31 := by omega
                      have e4 : decide ((31 : Int) < (rd : Int)) = false := by simp <;> omega
                      have e5 : decide ((rd : Int) < 0) = false := by simp <;> omega
                      have HF := hide (fun w => fault_2 y fy.1 pl rd va 4 sg hrd w)
                      have fz' : Fine (trapH y 7 pl) := fine_trap fy (by decide) hpl
                      have HCz := hide (fun w => check_any (trapH y 7 pl) fz'.1 w)
                      rw [fz'.2] at HCz
                      simp only [checkV] at HCz
                      go_wp2_with (first | ((with_reducible refine gl_h NZ y hz ?_ ?_ ?_); exact rfl; exact rfl) | ((with_reducible refine gl_h NX y hx ?_ ?_ ?_); exact rfl; exact rfl) | ((with_reducible refine g_neh y ?_ ?_ ?_ ?_); exact rfl; exact rfl; exact rfl) | ((with_reducible refine ld_h NZ _ hz ?_ ?_); exact rfl) | ((with_reducible refine ld_a NA _ ha ?_ ?_); exact rfl) | (go_at_call 19; (with_reducible refine (HF.out _).mono ?_); rintro e W ⟨rfl, hbc⟩; replace hx := hx.bl hbc; replace hz := hz.bl hbc; replace ha := ha.bl hbc; replace hb := below_bl rfl hb hbc) | ((with_reducible refine st_h NZ _ (trapH y 7 pl) hz ?_ ?_ ?_); exact rfl; exact rfl; intro W hnew ho; replace hx := hx.only ho (by omega); replace ha := ha.only ho (by omega); replace hz := hnew; replace hb := ho.bel _ _ (by omega) hb) | (go_at_call 15; (with_reducible refine (HCz.out _).mono ?_); rintro e W ⟨rfl, hbc⟩; replace hx := hx.bl hbc; replace hz := hz.bl hbc; replace hb := below_bl rfl hb hbc) | ((with_reducible refine st_h NX _ (trapH y 7 pl) hx ?_ ?_ ?_); exact rfl; exact rfl; intro W hnew ho; replace hx := hnew; replace hb := ho.bel _ _ (by omega) hb))
                      go_roundw
                      case rel => exact ⟨i + 1, (trapH y 7 pl), by go_num, by omega, fz', hx, hb⟩
                      case measure => simp [intOf]; omega
                    · have fa := ha.cell
                      have e0 : ((l : Int) % 3 == 0) = false := by simp; omega
                      have e1 : ((pl : Int) % 4 != 0) = false := by simp <;> omega
                      have e2 : (0 : Int) ≤ rd := by omega
                      have e3 : (rd : Int) ≤ 31 := by omega
                      have e4 : decide ((31 : Int) < (rd : Int)) = false := by simp <;> omega
                      have e5 : decide ((rd : Int) < 0) = false := by simp <;> omega
                      have HF := hide (fun w => done_2 y fy.1 pl rd va l 4 sg hrd w)
                      have fz' : Fine (nextH y) := fine_next fy
                      have HCz := hide (fun w => check_any (nextH y) fz'.1 w)
                      rw [fz'.2] at HCz
                      simp only [checkV] at HCz
                      go_wp2_with (first | ((with_reducible refine gl_h NZ y hz ?_ ?_ ?_); exact rfl; exact rfl) | ((with_reducible refine gl_h NX y hx ?_ ?_ ?_); exact rfl; exact rfl) | ((with_reducible refine g_neh y ?_ ?_ ?_ ?_); exact rfl; exact rfl; exact rfl) | ((with_reducible refine ld_h NZ _ hz ?_ ?_); exact rfl) | ((with_reducible refine ld_a NA _ ha ?_ ?_); exact rfl) | (go_at_call 20; (with_reducible refine (HF.out _).mono ?_); rintro e W ⟨rfl, hbc⟩; replace hx := hx.bl hbc; replace hz := hz.bl hbc; replace ha := ha.bl hbc; replace hb := below_bl rfl hb hbc) | ((with_reducible refine st_h NZ _ (nextH y) hz ?_ ?_ ?_); exact rfl; exact rfl; intro W hnew ho; replace hx := hx.only ho (by omega); replace ha := ha.only ho (by omega); replace hz := hnew; replace hb := ho.bel _ _ (by omega) hb) | (go_at_call 15; (with_reducible refine (HCz.out _).mono ?_); rintro e W ⟨rfl, hbc⟩; replace hx := hx.bl hbc; replace hz := hz.bl hbc; replace hb := below_bl rfl hb hbc) | ((with_reducible refine st_h NX _ (nextH y) hx ?_ ?_ ?_); exact rfl; exact rfl; intro W hnew ho; replace hx := hnew; replace hb := ho.bel _ _ (by omega) hb))
                      go_roundw
                      case rel => exact ⟨i + 1, (nextH y), by go_num, by omega, fz', hx, hb⟩
                      case measure => simp [intOf]; omega
      · have t2 : ¬ (i : Int) < 60 := by omega
        go_wp2_with (first | (go_at_call 11; refine (HS.out _ (HA.out.below hb)).mono ?_; rintro e W ⟨rfl, hbc⟩; replace hb := below_bl rfl hb hbc))
        go_ret
        exact ⟨rfl, hb⟩
    · have t1 : ¬ (i : Int) < n1 := by omega
      go_wp2_with (first | (go_at_call 11; refine (HS.out _ (HA.out.below hb)).mono ?_; rintro e W ⟨rfl, hbc⟩; replace hb := below_bl rfl hb hbc))
      go_ret
      exact ⟨rfl, hb⟩

end Go.Proofs.YtelakpogochifaaDoor
