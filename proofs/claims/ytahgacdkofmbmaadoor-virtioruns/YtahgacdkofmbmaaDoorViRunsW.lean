/-
  VirtioRuns, walked.
-/
import Derived.Test.YtahgacdkofmbmaaDoorViSure
import Derived.Test.YtahgacdkofmbmaaDoorViGive
import Derived.Test.YtahgacdkofmbmaaDoorViRWrite
import Derived.Test.YtahgacdkofmbmaaDoorViLaid
namespace Go.Proofs.YtahgacdkofmbmaaDoor
open Go.RowKit
set_option linter.unusedVariables false

attribute [local go_sem] V.at0 V.at1 V.at2 V.at3 V.at4 V.at5 V.at6 V.at7 V.at8 V.at9 V.at10 V.at11 V.at12 V.at13 V.at14 V.at15 V.at16 V.at17 V.at18 V.at19 V.at20 Qu.at0 Qu.at1 Qu.at2 Qu.at3 Qu.at4 Qu.at5 Qu.at6
set_option maxHeartbeats 8000000 in
set_option maxRecDepth 20000 in
theorem runs_walk (la : Option Addr) (len cap : Nat) (g : Nat → Nat → Nat) (w : World) (hl : PairsAt w w.heap.size la len g) (hlc : len ≤ cap) (hcm : cap ≤ 9223372036854775807) (hO : OffAt w) (hH : HandleAt w) :
    Calls Tryd.prog 5 #[.slice la len cap] w fun e w' => e = .returned (.bool true) ∧ Below w.heap.size w w' := by
  have HO := hide hO
  have HH := hide hH
  clear hO hH
  have HG := hide (fun s w => give_any s w)
  have HS := hide (fun w (hO : OffAt w) => sure_any w hO)
  have HL := hide hl
  clear hl
  go_enter Tryd.func5, Tryd.ntmps5
  go_wp2_with (first | ((with_reducible refine al_vp w.heap.size ?_ ?_); exact rfl; intro W hx hb hz) | ((with_reducible refine al_vr (w.heap.size + 1) ?_ ?_); exact hz.out; intro W hv hb' hz'; replace hx := hx.bl (hz.out ▸ hb'); replace hb := hb.trans (hb'.mono (by omega))) | ((with_reducible refine st_vp w.heap.size _ zeroV hx ?_ ?_ ?_); exact rfl; exact rfl; intro W hnew ho; replace hv := hv.only ho (by omega); replace hx := hnew; replace hb := ho.bel _ _ (Nat.le_refl _) hb) | ((with_reducible refine st_vr (w.heap.size + 1) _ zeroV hv ?_ ?_ ?_); exact rfl; exact rfl; intro W hnew ho; replace hx := hx.only ho (by omega); replace hv := hnew; replace hb := ho.bel _ _ (by omega) hb))
  clear hz
  go_loopw [5] (fun iv wr => ∃ (k : Nat) (x : V), k ≤ 60 ∧ k ≤ len ∧ iv = .int .i64 (k : Nat) ∧ x.Ok ∧ RowAt wr w.heap.size x.cells 37 ∧ RowAt wr (w.heap.size + 1) x.cells 31 ∧ Below w.heap.size w wr) (fun iv _ => 60 - (intOf iv).toNat)
  case atStart => exact ⟨0, zeroV, Nat.zero_le _, Nat.zero_le _, rfl, zeroV_ok, hx, hv, hb⟩
  case round =>
    clear hx hv hb
    obtain ⟨k, x, hk, hkl, rfl, okx, hx, hv, hb⟩ := hrel
    by_cases hlt : k < len ∧ k < 60
    · obtain ⟨hlt1, hlt2⟩ := hlt
      obtain ⟨lb, lo, rfl, hlb, hc0, hc1⟩ := HL.out.lies k hlt1
      obtain ⟨hs0, hs1⟩ := HL.out.small k hlt1
      obtain ⟨vv, hvv⟩ : ∃ a, g k 1 = a := ⟨_, rfl⟩
      obtain ⟨av, hav⟩ : ∃ a, g k 0 = a := ⟨_, rfl⟩
      rw [hvv] at hc1 hs1
      rw [hav] at hc0 hs0
      clear hvv hav
      have HW := hide (fun w (hO : OffAt w) => write_any x okx av vv hs1 w hO)
      have HR := hide (fun w => rwrite_any x okx av vv hs1 w)
      have okz := writeV_ok okx av hs1
      have HNE := hide (fun w hg => num_all (writeV x av vv).2.2 w hg)
      generalize writeV x av vv = zb at HW HR okz HNE
      obtain ⟨z, n, e0⟩ := zb
      simp only at HW HR okz HNE
      generalize errR e0 = en at HW HNE
      have lt1 : (k : Int) < (len : Int) := by omega
      have lt2 : (k : Int) < 60 := by omega
      go_wp2_with (fail)
      refine wp_region_held_drew (S := (fun V => RowAt V w.heap.size x.cells 37 ∧ RowAt V (w.heap.size + 1) x.cells 31 ∧ Below w.heap.size w V)) (by kernel_rfl) ?_ (fun hHeld => ?_)
      · exact ⟨hx.dr, hv.dr, hb.drew⟩
      generalize World.drew _ = V at hHeld  ⊢
      clear hx hv hb
      refine wpAnyH_take (i := 0) (oi := ?oi74) (v := .agg x.cells) ?hi74 (by kernel_rfl) (by kernel_rfl) (by kernel_rfl) ?hQ74 ?hy74 (by assumption) ?rest74
      case hi74 => (simp only [List.getElem?_toArray, List.getElem?_cons_zero]; rfl)
      case hQ74 => exact fun _ _ _ h => h
      case hy74 => exact y_vp w.heap.size x (fun V hV => hV.1) rfl rfl
      simp only [Act.put, List.setIfInBounds_toArray, List.set_cons_zero, List.set_cons_succ]
      refine wpAnyH_take (i := 1) (oi := ?oi64) (v := .slice (some ⟨lb, lo, none⟩) len cap) ?hi64 (by kernel_rfl) (by kernel_rfl) (by kernel_rfl) ?hQ64 ?hy64 (by assumption) ?rest64
      case hi64 => (simp only [List.getElem?_toArray, List.getElem?_cons_zero, List.getElem?_cons_succ]; rfl)
      case hQ64 => exact fun _ _ _ h => h
      case hy64 => exact Or.inl ⟨by rfl, by (intro w hSw; (try dsimp only at hSw); go_simp )⟩
      simp only [Act.put, List.setIfInBounds_toArray, List.set_cons_zero, List.set_cons_succ]
      refine wpAnyH_take (i := 2) (oi := ?oi65) (v := .int .i64 (k : Nat)) ?hi65 (by kernel_rfl) (by kernel_rfl) (by kernel_rfl) ?hQ65 ?hy65 (by assumption) ?rest65
      case hi65 => (simp only [List.getElem?_toArray, List.getElem?_cons_zero, List.getElem?_cons_succ]; rfl)
      case hQ65 => exact fun _ _ _ h => h
      case hy65 => exact Or.inl ⟨by rfl, by (intro w hSw; (try dsimp only at hSw); go_simp )⟩
      simp only [Act.put, List.setIfInBounds_toArray, List.set_cons_zero, List.set_cons_succ]
      refine wpAnyH_take (i := 3) (oi := ?oi66) (v := .pointer (some ⟨lb, lo + k * 2, none⟩)) ?hi66 (by kernel_rfl) (by kernel_rfl) (by kernel_rfl) ?hQ66 ?hy66 (by assumption) ?rest66
      case hi66 => (simp only [List.getElem?_toArray, List.getElem?_cons_zero, List.getElem?_cons_succ]; rfl)
      case hQ66 => exact fun _ _ _ h => h
      case hy66 => exact Or.inl ⟨by rfl, by (intro w hSw; (try dsimp only at hSw); go_simp )⟩
      simp only [Act.put, List.setIfInBounds_toArray, List.set_cons_zero, List.set_cons_succ]
      refine wpAnyH_take (i := 4) (oi := ?oi67) (v := .pointer (some ⟨lb, lo + k * 2, none⟩)) ?hi67 (by kernel_rfl) (by kernel_rfl) (by kernel_rfl) ?hQ67 ?hy67 (by assumption) ?rest67
      case hi67 => (simp only [List.getElem?_toArray, List.getElem?_cons_zero, List.getElem?_cons_succ]; rfl)
      case hQ67 => exact fun _ _ _ h => h
      case hy67 => exact Or.inl ⟨by rfl, by (intro w hSw; (try dsimp only at hSw); go_simp )⟩
      simp only [Act.put, List.setIfInBounds_toArray, List.set_cons_zero, List.set_cons_succ]
      refine wpAnyH_take (i := 5) (oi := ?oi68) (v := .int .u32 (av : Nat)) ?hi68 (by kernel_rfl) (by kernel_rfl) (by kernel_rfl) ?hQ68 ?hy68 (by assumption) ?rest68
      case hi68 => (simp only [List.getElem?_toArray, List.getElem?_cons_zero, List.getElem?_cons_succ]; rfl)
      case hQ68 => exact fun _ _ _ h => h
      case hy68 => exact y_cell lb (lo + k * 2) _ (fun V hV => (hV.2.2.cell (p := ⟨lb, lo + k * 2, none⟩) hlb).trans hc0) _ Tryd.underlying22 rfl rfl
      simp only [Act.put, List.setIfInBounds_toArray, List.set_cons_zero, List.set_cons_succ]
      refine wpAnyH_take (i := 6) (oi := ?oi69) (v := .slice (some ⟨lb, lo, none⟩) len cap) ?hi69 (by kernel_rfl) (by kernel_rfl) (by kernel_rfl) ?hQ69 ?hy69 (by assumption) ?rest69
      case hi69 => (simp only [List.getElem?_toArray, List.getElem?_cons_zero, List.getElem?_cons_succ]; rfl)
      case hQ69 => exact fun _ _ _ h => h
      case hy69 => exact Or.inl ⟨by rfl, by (intro w hSw; (try dsimp only at hSw); go_simp )⟩
      simp only [Act.put, List.setIfInBounds_toArray, List.set_cons_zero, List.set_cons_succ]
      refine wpAnyH_take (i := 7) (oi := ?oi70) (v := .int .i64 (k : Nat)) ?hi70 (by kernel_rfl) (by kernel_rfl) (by kernel_rfl) ?hQ70 ?hy70 (by assumption) ?rest70
      case hi70 => (simp only [List.getElem?_toArray, List.getElem?_cons_zero, List.getElem?_cons_succ]; rfl)
      case hQ70 => exact fun _ _ _ h => h
      case hy70 => exact Or.inl ⟨by rfl, by (intro w hSw; (try dsimp only at hSw); go_simp )⟩
      simp only [Act.put, List.setIfInBounds_toArray, List.set_cons_zero, List.set_cons_succ]
      refine wpAnyH_take (i := 8) (oi := ?oi71) (v := .pointer (some ⟨lb, lo + k * 2, none⟩)) ?hi71 (by kernel_rfl) (by kernel_rfl) (by kernel_rfl) ?hQ71 ?hy71 (by assumption) ?rest71
      case hi71 => (simp only [List.getElem?_toArray, List.getElem?_cons_zero, List.getElem?_cons_succ]; rfl)
      case hQ71 => exact fun _ _ _ h => h
      case hy71 => exact Or.inl ⟨by rfl, by (intro w hSw; (try dsimp only at hSw); go_simp )⟩
      simp only [Act.put, List.setIfInBounds_toArray, List.set_cons_zero, List.set_cons_succ]
      refine wpAnyH_take (i := 9) (oi := ?oi72) (v := .pointer (some ⟨lb, lo + k * 2 + 1, none⟩)) ?hi72 (by kernel_rfl) (by kernel_rfl) (by kernel_rfl) ?hQ72 ?hy72 (by assumption) ?rest72
      case hi72 => (simp only [List.getElem?_toArray, List.getElem?_cons_zero, List.getElem?_cons_succ]; rfl)
      case hQ72 => exact fun _ _ _ h => h
      case hy72 => exact Or.inl ⟨by rfl, by (intro w hSw; (try dsimp only at hSw); go_simp )⟩
      simp only [Act.put, List.setIfInBounds_toArray, List.set_cons_zero, List.set_cons_succ]
      refine wpAnyH_take (i := 10) (oi := ?oi73) (v := .int .u32 (vv : Nat)) ?hi73 (by kernel_rfl) (by kernel_rfl) (by kernel_rfl) ?hQ73 ?hy73 (by assumption) ?rest73
      case hi73 => (simp only [List.getElem?_toArray, List.getElem?_cons_zero, List.getElem?_cons_succ]; rfl)
      case hQ73 => exact fun _ _ _ h => h
      case hy73 => exact y_cell lb (lo + k * 2 + 1) _ (fun V hV => (hV.2.2.cell (p := ⟨lb, lo + k * 2 + 1, none⟩) hlb).trans hc1) _ Tryd.underlying22 rfl rfl
      simp only [Act.put, List.setIfInBounds_toArray, List.set_cons_zero, List.set_cons_succ]
      refine wpAnyH_ready (rs := [11, 16]) (by kernel_rfl) (by simp) ?_
      refine AllReadyH.cons (o := ?oi75) ?hi75 (fun K hK => ?b75) (AllReadyH.cons (o := ?oi76) ?hi76 (fun K hK => ?b76) AllReadyH.nil)
      case hi75 => (simp only [List.getElem?_toArray, List.getElem?_cons_zero, List.getElem?_cons_succ]; rfl)
      case hi76 => (simp only [List.getElem?_toArray, List.getElem?_cons_zero, List.getElem?_cons_succ]; rfl)
      case b75 =>
        go_simp
        (with_reducible refine (HW.out _ (HO.out.bl hHeld.2.2)).mono ?_)
        rintro e V ⟨rfl, hbc⟩
        have hH2 := hide (And.intro (hHeld.1.bl hbc) (And.intro (hHeld.2.1.bl hbc) (below_bl rfl hHeld.2.2 hbc)))
        clear hHeld hbc
        go_simp
        refine hK.out _ _ ?_ (fun hHeld => ?_)
        · exact hH2.out
        clear hK K hH2
        refine wpAnyH_take (i := 12) (oi := ?oi77) (v := .tuple #[.agg z.cells, .int .i64 n, en]) ?hi77 (by kernel_rfl) (by kernel_rfl) (by kernel_rfl) ?hQ77 ?hy77 (by assumption) ?rest77
        case hi77 => (simp only [List.getElem?_toArray, List.getElem?_cons_zero, List.getElem?_cons_succ]; rfl)
        case hQ77 => exact fun _ _ _ h => h
        case hy77 => exact Or.inl ⟨by rfl, by (intro w hSw; (try dsimp only at hSw); go_simp )⟩
        simp only [Act.put, List.setIfInBounds_toArray, List.set_cons_zero, List.set_cons_succ]
        refine wpAnyH_take (i := 13) (oi := ?oi78) (v := .agg z.cells) ?hi78 (by kernel_rfl) (by kernel_rfl) (by kernel_rfl) ?hQ78 ?hy78 (by assumption) ?rest78
        case hi78 => (simp only [List.getElem?_toArray, List.getElem?_cons_zero, List.getElem?_cons_succ]; rfl)
        case hQ78 => exact fun _ _ _ h => h
        case hy78 => exact Or.inl ⟨by rfl, by (intro w hSw; (try dsimp only at hSw); go_simp )⟩
        simp only [Act.put, List.setIfInBounds_toArray, List.set_cons_zero, List.set_cons_succ]
        refine wpAnyH_take (i := 14) (oi := ?oi79) (v := .int .i64 n) ?hi79 (by kernel_rfl) (by kernel_rfl) (by kernel_rfl) ?hQ79 ?hy79 (by assumption) ?rest79
        case hi79 => (simp only [List.getElem?_toArray, List.getElem?_cons_zero, List.getElem?_cons_succ]; rfl)
        case hQ79 => exact fun _ _ _ h => h
        case hy79 => exact Or.inl ⟨by rfl, by (intro w hSw; (try dsimp only at hSw); go_simp )⟩
        simp only [Act.put, List.setIfInBounds_toArray, List.set_cons_zero, List.set_cons_succ]
        refine wpAnyH_take (i := 15) (oi := ?oi80) (v := en) ?hi80 (by kernel_rfl) (by kernel_rfl) (by kernel_rfl) ?hQ80 ?hy80 (by assumption) ?rest80
        case hi80 => (simp only [List.getElem?_toArray, List.getElem?_cons_zero, List.getElem?_cons_succ]; rfl)
        case hQ80 => exact fun _ _ _ h => h
        case hy80 => exact Or.inl ⟨by rfl, by (intro w hSw; (try dsimp only at hSw); go_simp )⟩
        simp only [Act.put, List.setIfInBounds_toArray, List.set_cons_zero, List.set_cons_succ]
        refine wpAnyH_ready (rs := [16]) (by kernel_rfl) (by simp) ?_
        refine AllReadyH.cons (o := ?oi81) ?hi81 (fun K hK => ?_) AllReadyH.nil
        case hi81 => (simp only [List.getElem?_toArray, List.getElem?_cons_zero, List.getElem?_cons_succ]; rfl)
        obtain ⟨NY, hNY⟩ : ∃ n, V.heap.size = n := ⟨_, rfl⟩
        have lNY0 : w.heap.size < NY := by have := hHeld.1.lt; omega
        have lNY1 : (w.heap.size + 1) < NY := by have := hHeld.2.1.lt; omega
        have lNYw : w.heap.size ≤ NY := by have := (hHeld.2.2).size; omega
        replace hNY := hide hNY
        rw [if_pos (by rfl)]
        (with_reducible refine s_allocv NY ?_ _ zero_vp ?_)
        · exact hNY.out
        intro V hy hb' hzY
        have hH2 := hide (And.intro (hHeld.1.bl (hNY.out ▸ hb')) (And.intro (hHeld.2.1.bl (hNY.out ▸ hb')) (hHeld.2.2.trans (hb'.mono (by omega)))))
        simp only [Act.put, List.setIfInBounds_toArray, List.set_cons_zero, List.set_cons_succ]
        clear hHeld hb' hzY
        refine hK.out _ _ ?_ (fun hHeld => ?_)
        · exact hH2.out
        clear hK K
        clear hH2
        refine wpAnyH_ready (rs := [17]) (by kernel_rfl) (by simp) ?_
        refine AllReadyH.cons (o := ?oi82) ?hi82 (fun K hK => ?_) AllReadyH.nil
        case hi82 => (simp only [List.getElem?_toArray, List.getElem?_cons_zero, List.getElem?_cons_succ]; rfl)
        rw [if_pos (by rfl)]
        (with_reducible refine s_vp NY _ z hy ?_ ?_ ?_)
        · exact rfl
        · exact rfl
        intro V hnew ho
        have hH2 := hide (And.intro (hHeld.1.only ho (by omega)) (And.intro (hHeld.2.1.only ho (by omega)) (ho.bel _ _ (by omega) hHeld.2.2)))
        replace hy := hnew
        clear hHeld
        refine hK.out _ _ ?_ (fun hHeld => ?_)
        · exact hH2.out
        clear hK K
        clear hH2
        refine wpAnyH_take (i := 18) (oi := ?oi83) (v := .int .i64 n) ?hi83 (by kernel_rfl) (by kernel_rfl) (by kernel_rfl) ?hQ83 ?hy83 (by assumption) ?rest83
        case hi83 => (simp only [List.getElem?_toArray, List.getElem?_cons_zero, List.getElem?_cons_succ]; rfl)
        case hQ83 => exact fun _ _ _ h => h
        case hy83 => exact Or.inl ⟨by rfl, by (intro w hSw; (try dsimp only at hSw); go_simp )⟩
        simp only [Act.put, List.setIfInBounds_toArray, List.set_cons_zero, List.set_cons_succ]
        refine wpAnyH_take (i := 19) (oi := ?oi84) (v := en) ?hi84 (by kernel_rfl) (by kernel_rfl) (by kernel_rfl) ?hQ84 ?hy84 (by assumption) ?rest84
        case hi84 => (simp only [List.getElem?_toArray, List.getElem?_cons_zero, List.getElem?_cons_succ]; rfl)
        case hQ84 => exact fun _ _ _ h => h
        case hy84 => exact Or.inl ⟨by rfl, by (intro w hSw; (try dsimp only at hSw); go_simp )⟩
        simp only [Act.put, List.setIfInBounds_toArray, List.set_cons_zero, List.set_cons_succ]
        refine wpAnyH_done (by kernel_rfl) ?_ _
        have hx := hHeld.1
        have hv := hHeld.2.1
        have hb := hHeld.2.2
        clear hHeld
        go_wp2_with (fail)
        refine wp_region_held_drew (S := (fun V => RowAt V w.heap.size x.cells 37 ∧ RowAt V (w.heap.size + 1) x.cells 31 ∧ RowAt V NY z.cells 37 ∧ Below w.heap.size w V)) (by kernel_rfl) ?_ (fun hHeld => ?_)
        · exact ⟨hx.dr, hv.dr, hy.dr, hb.drew⟩
        generalize World.drew _ = V at hHeld  ⊢
        clear hx hv hy hb
        refine wpAnyH_take (i := 0) (oi := ?oi95) (v := .agg x.cells) ?hi95 (by kernel_rfl) (by kernel_rfl) (by kernel_rfl) ?hQ95 ?hy95 (by assumption) ?rest95
        case hi95 => (simp only [List.getElem?_toArray, List.getElem?_cons_zero]; rfl)
        case hQ95 => exact fun _ _ _ h => h
        case hy95 => exact y_vr (w.heap.size + 1) x (fun V hV => hV.2.1) rfl rfl
        simp only [Act.put, List.setIfInBounds_toArray, List.set_cons_zero, List.set_cons_succ]
        refine wpAnyH_take (i := 1) (oi := ?oi85) (v := .slice (some ⟨lb, lo, none⟩) len cap) ?hi85 (by kernel_rfl) (by kernel_rfl) (by kernel_rfl) ?hQ85 ?hy85 (by assumption) ?rest85
        case hi85 => (simp only [List.getElem?_toArray, List.getElem?_cons_zero, List.getElem?_cons_succ]; rfl)
        case hQ85 => exact fun _ _ _ h => h
        case hy85 => exact Or.inl ⟨by rfl, by (intro w hSw; (try dsimp only at hSw); go_simp )⟩
        simp only [Act.put, List.setIfInBounds_toArray, List.set_cons_zero, List.set_cons_succ]
        refine wpAnyH_take (i := 2) (oi := ?oi86) (v := .int .i64 (k : Nat)) ?hi86 (by kernel_rfl) (by kernel_rfl) (by kernel_rfl) ?hQ86 ?hy86 (by assumption) ?rest86
        case hi86 => (simp only [List.getElem?_toArray, List.getElem?_cons_zero, List.getElem?_cons_succ]; rfl)
        case hQ86 => exact fun _ _ _ h => h
        case hy86 => exact Or.inl ⟨by rfl, by (intro w hSw; (try dsimp only at hSw); go_simp )⟩
        simp only [Act.put, List.setIfInBounds_toArray, List.set_cons_zero, List.set_cons_succ]
        refine wpAnyH_take (i := 3) (oi := ?oi87) (v := .pointer (some ⟨lb, lo + k * 2, none⟩)) ?hi87 (by kernel_rfl) (by kernel_rfl) (by kernel_rfl) ?hQ87 ?hy87 (by assumption) ?rest87
        case hi87 => (simp only [List.getElem?_toArray, List.getElem?_cons_zero, List.getElem?_cons_succ]; rfl)
        case hQ87 => exact fun _ _ _ h => h
        case hy87 => exact Or.inl ⟨by rfl, by (intro w hSw; (try dsimp only at hSw); go_simp )⟩
        simp only [Act.put, List.setIfInBounds_toArray, List.set_cons_zero, List.set_cons_succ]
        refine wpAnyH_take (i := 4) (oi := ?oi88) (v := .pointer (some ⟨lb, lo + k * 2, none⟩)) ?hi88 (by kernel_rfl) (by kernel_rfl) (by kernel_rfl) ?hQ88 ?hy88 (by assumption) ?rest88
        case hi88 => (simp only [List.getElem?_toArray, List.getElem?_cons_zero, List.getElem?_cons_succ]; rfl)
        case hQ88 => exact fun _ _ _ h => h
        case hy88 => exact Or.inl ⟨by rfl, by (intro w hSw; (try dsimp only at hSw); go_simp )⟩
        simp only [Act.put, List.setIfInBounds_toArray, List.set_cons_zero, List.set_cons_succ]
        refine wpAnyH_take (i := 5) (oi := ?oi89) (v := .int .u32 (av : Nat)) ?hi89 (by kernel_rfl) (by kernel_rfl) (by kernel_rfl) ?hQ89 ?hy89 (by assumption) ?rest89
        case hi89 => (simp only [List.getElem?_toArray, List.getElem?_cons_zero, List.getElem?_cons_succ]; rfl)
        case hQ89 => exact fun _ _ _ h => h
        case hy89 => exact y_cell lb (lo + k * 2) _ (fun V hV => (hV.2.2.2.cell (p := ⟨lb, lo + k * 2, none⟩) hlb).trans hc0) _ Tryd.underlying22 rfl rfl
        simp only [Act.put, List.setIfInBounds_toArray, List.set_cons_zero, List.set_cons_succ]
        refine wpAnyH_take (i := 6) (oi := ?oi90) (v := .slice (some ⟨lb, lo, none⟩) len cap) ?hi90 (by kernel_rfl) (by kernel_rfl) (by kernel_rfl) ?hQ90 ?hy90 (by assumption) ?rest90
        case hi90 => (simp only [List.getElem?_toArray, List.getElem?_cons_zero, List.getElem?_cons_succ]; rfl)
        case hQ90 => exact fun _ _ _ h => h
        case hy90 => exact Or.inl ⟨by rfl, by (intro w hSw; (try dsimp only at hSw); go_simp )⟩
        simp only [Act.put, List.setIfInBounds_toArray, List.set_cons_zero, List.set_cons_succ]
        refine wpAnyH_take (i := 7) (oi := ?oi91) (v := .int .i64 (k : Nat)) ?hi91 (by kernel_rfl) (by kernel_rfl) (by kernel_rfl) ?hQ91 ?hy91 (by assumption) ?rest91
        case hi91 => (simp only [List.getElem?_toArray, List.getElem?_cons_zero, List.getElem?_cons_succ]; rfl)
        case hQ91 => exact fun _ _ _ h => h
        case hy91 => exact Or.inl ⟨by rfl, by (intro w hSw; (try dsimp only at hSw); go_simp )⟩
        simp only [Act.put, List.setIfInBounds_toArray, List.set_cons_zero, List.set_cons_succ]
        refine wpAnyH_take (i := 8) (oi := ?oi92) (v := .pointer (some ⟨lb, lo + k * 2, none⟩)) ?hi92 (by kernel_rfl) (by kernel_rfl) (by kernel_rfl) ?hQ92 ?hy92 (by assumption) ?rest92
        case hi92 => (simp only [List.getElem?_toArray, List.getElem?_cons_zero, List.getElem?_cons_succ]; rfl)
        case hQ92 => exact fun _ _ _ h => h
        case hy92 => exact Or.inl ⟨by rfl, by (intro w hSw; (try dsimp only at hSw); go_simp )⟩
        simp only [Act.put, List.setIfInBounds_toArray, List.set_cons_zero, List.set_cons_succ]
        refine wpAnyH_take (i := 9) (oi := ?oi93) (v := .pointer (some ⟨lb, lo + k * 2 + 1, none⟩)) ?hi93 (by kernel_rfl) (by kernel_rfl) (by kernel_rfl) ?hQ93 ?hy93 (by assumption) ?rest93
        case hi93 => (simp only [List.getElem?_toArray, List.getElem?_cons_zero, List.getElem?_cons_succ]; rfl)
        case hQ93 => exact fun _ _ _ h => h
        case hy93 => exact Or.inl ⟨by rfl, by (intro w hSw; (try dsimp only at hSw); go_simp )⟩
        simp only [Act.put, List.setIfInBounds_toArray, List.set_cons_zero, List.set_cons_succ]
        refine wpAnyH_take (i := 10) (oi := ?oi94) (v := .int .u32 (vv : Nat)) ?hi94 (by kernel_rfl) (by kernel_rfl) (by kernel_rfl) ?hQ94 ?hy94 (by assumption) ?rest94
        case hi94 => (simp only [List.getElem?_toArray, List.getElem?_cons_zero, List.getElem?_cons_succ]; rfl)
        case hQ94 => exact fun _ _ _ h => h
        case hy94 => exact y_cell lb (lo + k * 2 + 1) _ (fun V hV => (hV.2.2.2.cell (p := ⟨lb, lo + k * 2 + 1, none⟩) hlb).trans hc1) _ Tryd.underlying22 rfl rfl
        simp only [Act.put, List.setIfInBounds_toArray, List.set_cons_zero, List.set_cons_succ]
        refine wpAnyH_ready (rs := [11, 16]) (by kernel_rfl) (by simp) ?_
        refine AllReadyH.cons (o := ?oi96) ?hi96 (fun K hK => ?b96) (AllReadyH.cons (o := ?oi97) ?hi97 (fun K hK => ?b97) AllReadyH.nil)
        case hi96 => (simp only [List.getElem?_toArray, List.getElem?_cons_zero, List.getElem?_cons_succ]; rfl)
        case hi97 => (simp only [List.getElem?_toArray, List.getElem?_cons_zero, List.getElem?_cons_succ]; rfl)
        case b96 =>
          go_simp
          (with_reducible refine (HR.out _).mono ?_)
          rintro e V ⟨rfl, hbc⟩
          have hH2 := hide (And.intro (hHeld.1.bl hbc) (And.intro (hHeld.2.1.bl hbc) (And.intro (hHeld.2.2.1.bl hbc) (below_bl rfl hHeld.2.2.2 hbc))))
          clear hHeld hbc
          go_simp
          refine hK.out _ _ ?_ (fun hHeld => ?_)
          · exact hH2.out
          clear hK K hH2
          refine wpAnyH_take (i := 12) (oi := ?oi98) (v := .tuple #[.agg z.cells, .int .i64 n, (.int .i64 (e0 : Nat))]) ?hi98 (by kernel_rfl) (by kernel_rfl) (by kernel_rfl) ?hQ98 ?hy98 (by assumption) ?rest98
          case hi98 => (simp only [List.getElem?_toArray, List.getElem?_cons_zero, List.getElem?_cons_succ]; rfl)
          case hQ98 => exact fun _ _ _ h => h
          case hy98 => exact Or.inl ⟨by rfl, by (intro w hSw; (try dsimp only at hSw); go_simp )⟩
          simp only [Act.put, List.setIfInBounds_toArray, List.set_cons_zero, List.set_cons_succ]
          refine wpAnyH_take (i := 13) (oi := ?oi99) (v := .agg z.cells) ?hi99 (by kernel_rfl) (by kernel_rfl) (by kernel_rfl) ?hQ99 ?hy99 (by assumption) ?rest99
          case hi99 => (simp only [List.getElem?_toArray, List.getElem?_cons_zero, List.getElem?_cons_succ]; rfl)
          case hQ99 => exact fun _ _ _ h => h
          case hy99 => exact Or.inl ⟨by rfl, by (intro w hSw; (try dsimp only at hSw); go_simp )⟩
          simp only [Act.put, List.setIfInBounds_toArray, List.set_cons_zero, List.set_cons_succ]
          refine wpAnyH_take (i := 14) (oi := ?oi100) (v := .int .i64 n) ?hi100 (by kernel_rfl) (by kernel_rfl) (by kernel_rfl) ?hQ100 ?hy100 (by assumption) ?rest100
          case hi100 => (simp only [List.getElem?_toArray, List.getElem?_cons_zero, List.getElem?_cons_succ]; rfl)
          case hQ100 => exact fun _ _ _ h => h
          case hy100 => exact Or.inl ⟨by rfl, by (intro w hSw; (try dsimp only at hSw); go_simp )⟩
          simp only [Act.put, List.setIfInBounds_toArray, List.set_cons_zero, List.set_cons_succ]
          refine wpAnyH_take (i := 15) (oi := ?oi101) (v := (.int .i64 (e0 : Nat))) ?hi101 (by kernel_rfl) (by kernel_rfl) (by kernel_rfl) ?hQ101 ?hy101 (by assumption) ?rest101
          case hi101 => (simp only [List.getElem?_toArray, List.getElem?_cons_zero, List.getElem?_cons_succ]; rfl)
          case hQ101 => exact fun _ _ _ h => h
          case hy101 => exact Or.inl ⟨by rfl, by (intro w hSw; (try dsimp only at hSw); go_simp )⟩
          simp only [Act.put, List.setIfInBounds_toArray, List.set_cons_zero, List.set_cons_succ]
          refine wpAnyH_ready (rs := [16]) (by kernel_rfl) (by simp) ?_
          refine AllReadyH.cons (o := ?oi102) ?hi102 (fun K hK => ?_) AllReadyH.nil
          case hi102 => (simp only [List.getElem?_toArray, List.getElem?_cons_zero, List.getElem?_cons_succ]; rfl)
          obtain ⟨NV, hNV⟩ : ∃ n, V.heap.size = n := ⟨_, rfl⟩
          have lNV0 : w.heap.size < NV := by have := hHeld.1.lt; omega
          have lNV1 : (w.heap.size + 1) < NV := by have := hHeld.2.1.lt; omega
          have lNV2 : NY < NV := by have := hHeld.2.2.1.lt; omega
          have lNVw : w.heap.size ≤ NV := by have := (hHeld.2.2.2).size; omega
          replace hNV := hide hNV
          rw [if_pos (by rfl)]
          (with_reducible refine s_allocv NV ?_ _ zero_vr ?_)
          · exact hNV.out
          intro V hu hb' hzY
          have hH2 := hide (And.intro (hHeld.1.bl (hNV.out ▸ hb')) (And.intro (hHeld.2.1.bl (hNV.out ▸ hb')) (And.intro (hHeld.2.2.1.bl (hNV.out ▸ hb')) (hHeld.2.2.2.trans (hb'.mono (by omega))))))
          simp only [Act.put, List.setIfInBounds_toArray, List.set_cons_zero, List.set_cons_succ]
          clear hHeld hb' hzY
          refine hK.out _ _ ?_ (fun hHeld => ?_)
          · exact hH2.out
          clear hK K
          clear hH2
          refine wpAnyH_ready (rs := [17]) (by kernel_rfl) (by simp) ?_
          refine AllReadyH.cons (o := ?oi103) ?hi103 (fun K hK => ?_) AllReadyH.nil
          case hi103 => (simp only [List.getElem?_toArray, List.getElem?_cons_zero, List.getElem?_cons_succ]; rfl)
          rw [if_pos (by rfl)]
          (with_reducible refine s_vr NV _ z hu ?_ ?_ ?_)
          · exact rfl
          · exact rfl
          intro V hnew ho
          have hH2 := hide (And.intro (hHeld.1.only ho (by omega)) (And.intro (hHeld.2.1.only ho (by omega)) (And.intro (hHeld.2.2.1.only ho (by omega)) (ho.bel _ _ (by omega) hHeld.2.2.2))))
          replace hu := hnew
          clear hHeld
          refine hK.out _ _ ?_ (fun hHeld => ?_)
          · exact hH2.out
          clear hK K
          clear hH2
          refine wpAnyH_take (i := 18) (oi := ?oi104) (v := .int .i64 n) ?hi104 (by kernel_rfl) (by kernel_rfl) (by kernel_rfl) ?hQ104 ?hy104 (by assumption) ?rest104
          case hi104 => (simp only [List.getElem?_toArray, List.getElem?_cons_zero, List.getElem?_cons_succ]; rfl)
          case hQ104 => exact fun _ _ _ h => h
          case hy104 => exact Or.inl ⟨by rfl, by (intro w hSw; (try dsimp only at hSw); go_simp )⟩
          simp only [Act.put, List.setIfInBounds_toArray, List.set_cons_zero, List.set_cons_succ]
          refine wpAnyH_take (i := 19) (oi := ?oi105) (v := (.int .i64 (e0 : Nat))) ?hi105 (by kernel_rfl) (by kernel_rfl) (by kernel_rfl) ?hQ105 ?hy105 (by assumption) ?rest105
          case hi105 => (simp only [List.getElem?_toArray, List.getElem?_cons_zero, List.getElem?_cons_succ]; rfl)
          case hQ105 => exact fun _ _ _ h => h
          case hy105 => exact Or.inl ⟨by rfl, by (intro w hSw; (try dsimp only at hSw); go_simp )⟩
          simp only [Act.put, List.setIfInBounds_toArray, List.set_cons_zero, List.set_cons_succ]
          refine wpAnyH_done (by kernel_rfl) ?_ _
          have hx := hHeld.1
          have hv := hHeld.2.1
          have hy := hHeld.2.2.1
          have hb := hHeld.2.2.2
          clear hHeld
          go_wp2_with (fail)
          refine wp_region_held_drew (S := (fun V => RowAt V NY z.cells 37 ∧ RowAt V NV z.cells 31 ∧ Below w.heap.size w V)) (by kernel_rfl) ?_ (fun hHeld => ?_)
          · exact ⟨hy.dr, hu.dr, hb.drew⟩
          replace hx := hx.dr
          replace hv := hv.dr
          generalize World.drew _ = V at hHeld hx hv ⊢
          clear hy hu hb
          refine wpAnyH_take (i := 0) (oi := ?oi106) (v := .int .i64 n) ?hi106 (by kernel_rfl) (by kernel_rfl) (by kernel_rfl) ?hQ106 ?hy106 (by assumption) ?rest106
          case hi106 => (simp only [List.getElem?_toArray, List.getElem?_cons_zero]; rfl)
          case hQ106 => exact fun _ _ _ h => h
          case hy106 => exact Or.inl ⟨by rfl, by (intro w hSw; (try dsimp only at hSw); go_simp )⟩
          simp only [Act.put, List.setIfInBounds_toArray, List.set_cons_zero, List.set_cons_succ]
          refine wpAnyH_take (i := 1) (oi := ?oi107) (v := .int .i64 n) ?hi107 (by kernel_rfl) (by kernel_rfl) (by kernel_rfl) ?hQ107 ?hy107 (by assumption) ?rest107
          case hi107 => (simp only [List.getElem?_toArray, List.getElem?_cons_zero, List.getElem?_cons_succ]; rfl)
          case hQ107 => exact fun _ _ _ h => h
          case hy107 => exact Or.inl ⟨by rfl, by (intro w hSw; (try dsimp only at hSw); go_simp )⟩
          simp only [Act.put, List.setIfInBounds_toArray, List.set_cons_zero, List.set_cons_succ]
          refine wpAnyH_take (i := 2) (oi := ?oi108) (v := .bool false) ?hi108 (by kernel_rfl) (by kernel_rfl) (by kernel_rfl) ?hQ108 ?hy108 (by assumption) ?rest108
          case hi108 => (simp only [List.getElem?_toArray, List.getElem?_cons_zero, List.getElem?_cons_succ]; rfl)
          case hQ108 => exact fun _ _ _ h => h
          case hy108 => exact Or.inl ⟨by rfl, by (intro w hSw; (try dsimp only at hSw); go_simp )⟩
          simp only [Act.put, List.setIfInBounds_toArray, List.set_cons_zero, List.set_cons_succ]
          refine wpAnyH_take (i := 3) (oi := ?oi109) (v := .bool false) ?hi109 (by kernel_rfl) (by kernel_rfl) (by kernel_rfl) ?hQ109 ?hy109 (by assumption) ?rest109
          case hi109 => (simp only [List.getElem?_toArray, List.getElem?_cons_zero, List.getElem?_cons_succ]; rfl)
          case hQ109 => exact fun _ _ _ h => h
          case hy109 => exact Or.inl ⟨by rfl, by (intro w hSw; (try dsimp only at hSw); go_simp )⟩
          simp only [Act.put, List.setIfInBounds_toArray, List.set_cons_zero, List.set_cons_succ]
          refine wpAnyH_take (i := 4) (oi := ?oi110) (v := en) ?hi110 (by kernel_rfl) (by kernel_rfl) (by kernel_rfl) ?hQ110 ?hy110 (by assumption) ?rest110
          case hi110 => (simp only [List.getElem?_toArray, List.getElem?_cons_zero, List.getElem?_cons_succ]; rfl)
          case hQ110 => exact fun _ _ _ h => h
          case hy110 => exact Or.inl ⟨by rfl, by (intro w hSw; (try dsimp only at hSw); go_simp )⟩
          simp only [Act.put, List.setIfInBounds_toArray, List.set_cons_zero, List.set_cons_succ]
          refine wpAnyH_take (i := 6) (oi := ?oi111) (v := .int .i64 (e0 : Nat)) ?hi111 (by kernel_rfl) (by kernel_rfl) (by kernel_rfl) ?hQ111 ?hy111 (by assumption) ?rest111
          case hi111 => (simp only [List.getElem?_toArray, List.getElem?_cons_zero, List.getElem?_cons_succ]; rfl)
          case hQ111 => exact fun _ _ _ h => h
          case hy111 => exact Or.inl ⟨by rfl, by (intro w hSw; (try dsimp only at hSw); go_simp )⟩
          simp only [Act.put, List.setIfInBounds_toArray, List.set_cons_zero, List.set_cons_succ]
          refine wpAnyH_ready (rs := [5]) (by kernel_rfl) (by simp) ?_
          refine AllReadyH.cons (o := ?oi112) ?hi112 (fun K hK => ?_) AllReadyH.nil
          case hi112 => (simp only [List.getElem?_toArray, List.getElem?_cons_zero, List.getElem?_cons_succ]; rfl)
          rw [if_pos (by rfl)]
          go_simp
          (with_reducible refine (HNE.out _ (HH.out.below hHeld.2.2)).mono ?_)
          rintro e V ⟨rfl, hbc⟩
          have hH2 := hide (And.intro (hHeld.1.bl hbc) (And.intro (hHeld.2.1.bl hbc) (below_bl rfl hHeld.2.2 hbc)))
          replace hx := hx.bl hbc
          replace hv := hv.bl hbc
          clear hHeld hbc
          go_simp
          refine hK.out _ _ ?_ (fun hHeld => ?_)
          · exact hH2.out
          clear hK K
          clear hH2
          refine wpAnyH_take (i := 7) (oi := ?oi113) (v := .bool false) ?hi113 (by kernel_rfl) (by kernel_rfl) (by kernel_rfl) ?hQ113 ?hy113 (by assumption) ?rest113
          case hi113 => (simp only [List.getElem?_toArray, List.getElem?_cons_zero, List.getElem?_cons_succ]; rfl)
          case hQ113 => exact fun _ _ _ h => h
          case hy113 => exact Or.inl ⟨by rfl, by (intro w hSw; (try dsimp only at hSw); go_simp )⟩
          simp only [Act.put, List.setIfInBounds_toArray, List.set_cons_zero, List.set_cons_succ]
          refine wpAnyH_take (i := 8) (oi := ?oi114) (v := .bool false) ?hi114 (by kernel_rfl) (by kernel_rfl) (by kernel_rfl) ?hQ114 ?hy114 (by assumption) ?rest114
          case hi114 => (simp only [List.getElem?_toArray, List.getElem?_cons_zero, List.getElem?_cons_succ]; rfl)
          case hQ114 => exact fun _ _ _ h => h
          case hy114 => exact Or.inl ⟨by rfl, by (intro w hSw; (try dsimp only at hSw); go_simp )⟩
          simp only [Act.put, List.setIfInBounds_toArray, List.set_cons_zero, List.set_cons_succ]
          refine wpAnyH_take (i := 9) (oi := ?oi115) (v := .bool false) ?hi115 (by kernel_rfl) (by kernel_rfl) (by kernel_rfl) ?hQ115 ?hy115 (by assumption) ?rest115
          case hi115 => (simp only [List.getElem?_toArray, List.getElem?_cons_zero, List.getElem?_cons_succ]; rfl)
          case hQ115 => exact fun _ _ _ h => h
          case hy115 => exact Or.inl ⟨by rfl, by (intro w hSw; (try dsimp only at hSw); go_simp )⟩
          simp only [Act.put, List.setIfInBounds_toArray, List.set_cons_zero, List.set_cons_succ]
          refine wpAnyH_take (i := 10) (oi := ?oi116) (v := .agg z.cells) ?hi116 (by kernel_rfl) (by kernel_rfl) (by kernel_rfl) ?hQ116 ?hy116 (by assumption) ?rest116
          case hi116 => (simp only [List.getElem?_toArray, List.getElem?_cons_zero, List.getElem?_cons_succ]; rfl)
          case hQ116 => exact fun _ _ _ h => h
          case hy116 => exact y_vp NY z (fun V hV => hV.1) rfl (by rfl)
          simp only [Act.put, List.setIfInBounds_toArray, List.set_cons_zero, List.set_cons_succ]
          refine wpAnyH_take (i := 11) (oi := ?oi117) (v := .agg z.cells) ?hi117 (by kernel_rfl) (by kernel_rfl) (by kernel_rfl) ?hQ117 ?hy117 (by assumption) ?rest117
          case hi117 => (simp only [List.getElem?_toArray, List.getElem?_cons_zero, List.getElem?_cons_succ]; rfl)
          case hQ117 => exact fun _ _ _ h => h
          case hy117 => exact y_vr NV z (fun V hV => hV.2.1) rfl (by rfl)
          simp only [Act.put, List.setIfInBounds_toArray, List.set_cons_zero, List.set_cons_succ]
          refine wpAnyH_ready (rs := [12]) (by kernel_rfl) (by simp) ?_
          refine AllReadyH.cons (o := ?oi118) ?hi118 (fun K hK => ?_) AllReadyH.nil
          case hi118 => (simp only [List.getElem?_toArray, List.getElem?_cons_zero, List.getElem?_cons_succ]; rfl)
          rw [if_pos (by rfl)]
          go_simp
          (with_reducible refine (HG.out _ _).mono ?_)
          rintro e V ⟨rfl, hbc⟩
          have hH2 := hide (And.intro (hHeld.1.bl hbc) (And.intro (hHeld.2.1.bl hbc) (below_bl rfl hHeld.2.2 hbc)))
          replace hx := hx.bl hbc
          replace hv := hv.bl hbc
          clear hHeld hbc
          go_simp
          refine hK.out _ _ ?_ (fun hHeld => ?_)
          · exact hH2.out
          clear hK K
          clear hH2
          refine wpAnyH_take (i := 13) (oi := ?oi119) (v := .bool false) ?hi119 (by kernel_rfl) (by kernel_rfl) (by kernel_rfl) ?hQ119 ?hy119 (by assumption) ?rest119
          case hi119 => (simp only [List.getElem?_toArray, List.getElem?_cons_zero, List.getElem?_cons_succ]; rfl)
          case hQ119 => exact fun _ _ _ h => h
          case hy119 => exact y_nev z rfl rfl (by rfl)
          simp only [Act.put, List.setIfInBounds_toArray, List.set_cons_zero, List.set_cons_succ]
          refine wpAnyH_take (i := 14) (oi := ?oi120) (v := .bool false) ?hi120 (by kernel_rfl) (by kernel_rfl) (by kernel_rfl) ?hQ120 ?hy120 (by assumption) ?rest120
          case hi120 => (simp only [List.getElem?_toArray, List.getElem?_cons_zero, List.getElem?_cons_succ]; rfl)
          case hQ120 => exact fun _ _ _ h => h
          case hy120 => exact Or.inl ⟨by rfl, by (intro w hSw; (try dsimp only at hSw); go_simp )⟩
          simp only [Act.put, List.setIfInBounds_toArray, List.set_cons_zero, List.set_cons_succ]
          refine wpAnyH_done (by kernel_rfl) ?_ _
          have hy := hHeld.1
          have hu := hHeld.2.1
          have hb := hHeld.2.2
          clear hHeld
          by_cases he : e0 = 0
          · have t0 : ((e0 : Int) == 0) = true := by simp [he]
            go_wp2_with (fail)
            refine wp_region_held_drew (S := (fun V => RowAt V NY z.cells 37 ∧ RowAt V NV z.cells 31 ∧ Below w.heap.size w V)) (by kernel_rfl) ?_ (fun hHeld => ?_)
            · exact ⟨hy.dr, hu.dr, hb.drew⟩
            replace hx := hx.dr
            replace hv := hv.dr
            generalize World.drew _ = V at hHeld hx hv ⊢
            clear hy hu hb
            refine wpAnyH_take (i := 0) (oi := ?oi121) (v := .agg z.cells) ?hi121 (by kernel_rfl) (by kernel_rfl) (by kernel_rfl) ?hQ121 ?hy121 (by assumption) ?rest121
            case hi121 => (simp only [List.getElem?_toArray, List.getElem?_cons_zero]; rfl)
            case hQ121 => exact fun _ _ _ h => h
            case hy121 => exact y_vp NY z (fun V hV => hV.1) rfl rfl
            simp only [Act.put, List.setIfInBounds_toArray, List.set_cons_zero, List.set_cons_succ]
            refine wpAnyH_take (i := 1) (oi := ?oi122) (v := .agg z.cells) ?hi122 (by kernel_rfl) (by kernel_rfl) (by kernel_rfl) ?hQ122 ?hy122 (by assumption) ?rest122
            case hi122 => (simp only [List.getElem?_toArray, List.getElem?_cons_zero, List.getElem?_cons_succ]; rfl)
            case hQ122 => exact fun _ _ _ h => h
            case hy122 => exact y_vr NV z (fun V hV => hV.2.1) rfl rfl
            simp only [Act.put, List.setIfInBounds_toArray, List.set_cons_zero, List.set_cons_succ]
            refine wpAnyH_ready (rs := [2]) (by kernel_rfl) (by simp) ?_
            refine AllReadyH.cons (o := ?oi123) ?hi123 (fun K hK => ?_) AllReadyH.nil
            case hi123 => (simp only [List.getElem?_toArray, List.getElem?_cons_zero, List.getElem?_cons_succ]; rfl)
            rw [if_pos (by rfl)]
            (with_reducible refine s_vp w.heap.size _ z hx ?_ ?_ ?_)
            · exact rfl
            · exact rfl
            intro V hnew ho
            have hH2 := hide (And.intro (hHeld.1.only ho (by omega)) (And.intro (hHeld.2.1.only ho (by omega)) (ho.bel _ _ (by omega) hHeld.2.2)))
            replace hx := hnew
            replace hv := hv.only ho (by omega)
            clear hHeld
            refine hK.out _ _ ?_ (fun hHeld => ?_)
            · exact hH2.out
            clear hK K
            clear hH2
            refine wpAnyH_ready (rs := [3]) (by kernel_rfl) (by simp) ?_
            refine AllReadyH.cons (o := ?oi124) ?hi124 (fun K hK => ?_) AllReadyH.nil
            case hi124 => (simp only [List.getElem?_toArray, List.getElem?_cons_zero, List.getElem?_cons_succ]; rfl)
            rw [if_pos (by rfl)]
            (with_reducible refine s_vr (w.heap.size + 1) _ z hv ?_ ?_ ?_)
            · exact rfl
            · exact rfl
            intro V hnew ho
            have hH2 := hide (And.intro (hHeld.1.only ho (by omega)) (And.intro (hHeld.2.1.only ho (by omega)) (ho.bel _ _ (by omega) hHeld.2.2)))
            replace hv := hnew
            replace hx := hx.only ho (by omega)
            clear hHeld
            refine hK.out _ _ ?_ (fun hHeld => ?_)
            · exact hH2.out
            clear hK K
            clear hH2
            refine wpAnyH_done (by kernel_rfl) ?_ _
            have hy := hHeld.1
            have hu := hHeld.2.1
            have hb := hHeld.2.2
            clear hHeld
            go_wp2
            go_roundw
            case rel => exact ⟨k + 1, z, by omega, by omega, by go_num, okz, hx, hv, hb⟩
            case measure => simp [intOf]; omega
          · have t0 : ((e0 : Int) == 0) = false := by simp [he]
            have t0b : (e0 == 0) = false := by simp [he]
            go_wp2
            go_roundw
            case rel => exact ⟨k + 1, x, by omega, by omega, by go_num, okx, hx, hv, hb⟩
            case measure => simp [intOf]; omega
        case b97 =>
          obtain ⟨NV, hNV⟩ : ∃ n, V.heap.size = n := ⟨_, rfl⟩
          have lNV0 : w.heap.size < NV := by have := hHeld.1.lt; omega
          have lNV1 : (w.heap.size + 1) < NV := by have := hHeld.2.1.lt; omega
          have lNV2 : NY < NV := by have := hHeld.2.2.1.lt; omega
          have lNVw : w.heap.size ≤ NV := by have := (hHeld.2.2.2).size; omega
          replace hNV := hide hNV
          rw [if_pos (by rfl)]
          (with_reducible refine s_allocv NV ?_ _ zero_vr ?_)
          · exact hNV.out
          intro V hu hb' hzY
          have hH2 := hide (And.intro (hHeld.1.bl (hNV.out ▸ hb')) (And.intro (hHeld.2.1.bl (hNV.out ▸ hb')) (And.intro (hHeld.2.2.1.bl (hNV.out ▸ hb')) (hHeld.2.2.2.trans (hb'.mono (by omega))))))
          simp only [Act.put, List.setIfInBounds_toArray, List.set_cons_zero, List.set_cons_succ]
          clear hHeld hb' hzY
          refine hK.out _ _ ?_ (fun hHeld => ?_)
          · exact hH2.out
          clear hK K hH2
          refine wpAnyH_ready (rs := [11]) (by kernel_rfl) (by simp) ?_
          refine AllReadyH.cons (o := ?oi125) ?hi125 (fun K hK => ?_) AllReadyH.nil
          case hi125 => (simp only [List.getElem?_toArray, List.getElem?_cons_zero, List.getElem?_cons_succ]; rfl)
          go_simp
          (with_reducible refine (HR.out _).mono ?_)
          rintro e V ⟨rfl, hbc⟩
          have hH2 := hide (And.intro (hHeld.1.bl hbc) (And.intro (hHeld.2.1.bl hbc) (And.intro (hHeld.2.2.1.bl hbc) (below_bl rfl hHeld.2.2.2 hbc))))
          replace hu := hu.bl hbc
          clear hHeld hbc
          go_simp
          refine hK.out _ _ ?_ (fun hHeld => ?_)
          · exact hH2.out
          clear hK K
          clear hH2
          refine wpAnyH_take (i := 12) (oi := ?oi126) (v := .tuple #[.agg z.cells, .int .i64 n, (.int .i64 (e0 : Nat))]) ?hi126 (by kernel_rfl) (by kernel_rfl) (by kernel_rfl) ?hQ126 ?hy126 (by assumption) ?rest126
          case hi126 => (simp only [List.getElem?_toArray, List.getElem?_cons_zero, List.getElem?_cons_succ]; rfl)
          case hQ126 => exact fun _ _ _ h => h
          case hy126 => exact Or.inl ⟨by rfl, by (intro w hSw; (try dsimp only at hSw); go_simp )⟩
          simp only [Act.put, List.setIfInBounds_toArray, List.set_cons_zero, List.set_cons_succ]
          refine wpAnyH_take (i := 13) (oi := ?oi127) (v := .agg z.cells) ?hi127 (by kernel_rfl) (by kernel_rfl) (by kernel_rfl) ?hQ127 ?hy127 (by assumption) ?rest127
          case hi127 => (simp only [List.getElem?_toArray, List.getElem?_cons_zero, List.getElem?_cons_succ]; rfl)
          case hQ127 => exact fun _ _ _ h => h
          case hy127 => exact Or.inl ⟨by rfl, by (intro w hSw; (try dsimp only at hSw); go_simp )⟩
          simp only [Act.put, List.setIfInBounds_toArray, List.set_cons_zero, List.set_cons_succ]
          refine wpAnyH_take (i := 14) (oi := ?oi128) (v := .int .i64 n) ?hi128 (by kernel_rfl) (by kernel_rfl) (by kernel_rfl) ?hQ128 ?hy128 (by assumption) ?rest128
          case hi128 => (simp only [List.getElem?_toArray, List.getElem?_cons_zero, List.getElem?_cons_succ]; rfl)
          case hQ128 => exact fun _ _ _ h => h
          case hy128 => exact Or.inl ⟨by rfl, by (intro w hSw; (try dsimp only at hSw); go_simp )⟩
          simp only [Act.put, List.setIfInBounds_toArray, List.set_cons_zero, List.set_cons_succ]
          refine wpAnyH_take (i := 15) (oi := ?oi129) (v := (.int .i64 (e0 : Nat))) ?hi129 (by kernel_rfl) (by kernel_rfl) (by kernel_rfl) ?hQ129 ?hy129 (by assumption) ?rest129
          case hi129 => (simp only [List.getElem?_toArray, List.getElem?_cons_zero, List.getElem?_cons_succ]; rfl)
          case hQ129 => exact fun _ _ _ h => h
          case hy129 => exact Or.inl ⟨by rfl, by (intro w hSw; (try dsimp only at hSw); go_simp )⟩
          simp only [Act.put, List.setIfInBounds_toArray, List.set_cons_zero, List.set_cons_succ]
          refine wpAnyH_ready (rs := [17]) (by kernel_rfl) (by simp) ?_
          refine AllReadyH.cons (o := ?oi130) ?hi130 (fun K hK => ?_) AllReadyH.nil
          case hi130 => (simp only [List.getElem?_toArray, List.getElem?_cons_zero, List.getElem?_cons_succ]; rfl)
          rw [if_pos (by rfl)]
          (with_reducible refine s_vr NV _ z hu ?_ ?_ ?_)
          · exact rfl
          · exact rfl
          intro V hnew ho
          have hH2 := hide (And.intro (hHeld.1.only ho (by omega)) (And.intro (hHeld.2.1.only ho (by omega)) (And.intro (hHeld.2.2.1.only ho (by omega)) (ho.bel _ _ (by omega) hHeld.2.2.2))))
          replace hu := hnew
          clear hHeld
          refine hK.out _ _ ?_ (fun hHeld => ?_)
          · exact hH2.out
          clear hK K
          clear hH2
          refine wpAnyH_take (i := 18) (oi := ?oi131) (v := .int .i64 n) ?hi131 (by kernel_rfl) (by kernel_rfl) (by kernel_rfl) ?hQ131 ?hy131 (by assumption) ?rest131
          case hi131 => (simp only [List.getElem?_toArray, List.getElem?_cons_zero, List.getElem?_cons_succ]; rfl)
          case hQ131 => exact fun _ _ _ h => h
          case hy131 => exact Or.inl ⟨by rfl, by (intro w hSw; (try dsimp only at hSw); go_simp )⟩
          simp only [Act.put, List.setIfInBounds_toArray, List.set_cons_zero, List.set_cons_succ]
          refine wpAnyH_take (i := 19) (oi := ?oi132) (v := (.int .i64 (e0 : Nat))) ?hi132 (by kernel_rfl) (by kernel_rfl) (by kernel_rfl) ?hQ132 ?hy132 (by assumption) ?rest132
          case hi132 => (simp only [List.getElem?_toArray, List.getElem?_cons_zero, List.getElem?_cons_succ]; rfl)
          case hQ132 => exact fun _ _ _ h => h
          case hy132 => exact Or.inl ⟨by rfl, by (intro w hSw; (try dsimp only at hSw); go_simp )⟩
          simp only [Act.put, List.setIfInBounds_toArray, List.set_cons_zero, List.set_cons_succ]
          refine wpAnyH_done (by kernel_rfl) ?_ _
          have hx := hHeld.1
          have hv := hHeld.2.1
          have hy := hHeld.2.2.1
          have hb := hHeld.2.2.2
          clear hHeld
          go_wp2_with (fail)
          refine wp_region_held_drew (S := (fun V => RowAt V NY z.cells 37 ∧ RowAt V NV z.cells 31 ∧ Below w.heap.size w V)) (by kernel_rfl) ?_ (fun hHeld => ?_)
          · exact ⟨hy.dr, hu.dr, hb.drew⟩
          replace hx := hx.dr
          replace hv := hv.dr
          generalize World.drew _ = V at hHeld hx hv ⊢
          clear hy hu hb
          refine wpAnyH_take (i := 0) (oi := ?oi133) (v := .int .i64 n) ?hi133 (by kernel_rfl) (by kernel_rfl) (by kernel_rfl) ?hQ133 ?hy133 (by assumption) ?rest133
          case hi133 => (simp only [List.getElem?_toArray, List.getElem?_cons_zero]; rfl)
          case hQ133 => exact fun _ _ _ h => h
          case hy133 => exact Or.inl ⟨by rfl, by (intro w hSw; (try dsimp only at hSw); go_simp )⟩
          simp only [Act.put, List.setIfInBounds_toArray, List.set_cons_zero, List.set_cons_succ]
          refine wpAnyH_take (i := 1) (oi := ?oi134) (v := .int .i64 n) ?hi134 (by kernel_rfl) (by kernel_rfl) (by kernel_rfl) ?hQ134 ?hy134 (by assumption) ?rest134
          case hi134 => (simp only [List.getElem?_toArray, List.getElem?_cons_zero, List.getElem?_cons_succ]; rfl)
          case hQ134 => exact fun _ _ _ h => h
          case hy134 => exact Or.inl ⟨by rfl, by (intro w hSw; (try dsimp only at hSw); go_simp )⟩
          simp only [Act.put, List.setIfInBounds_toArray, List.set_cons_zero, List.set_cons_succ]
          refine wpAnyH_take (i := 2) (oi := ?oi135) (v := .bool false) ?hi135 (by kernel_rfl) (by kernel_rfl) (by kernel_rfl) ?hQ135 ?hy135 (by assumption) ?rest135
          case hi135 => (simp only [List.getElem?_toArray, List.getElem?_cons_zero, List.getElem?_cons_succ]; rfl)
          case hQ135 => exact fun _ _ _ h => h
          case hy135 => exact Or.inl ⟨by rfl, by (intro w hSw; (try dsimp only at hSw); go_simp )⟩
          simp only [Act.put, List.setIfInBounds_toArray, List.set_cons_zero, List.set_cons_succ]
          refine wpAnyH_take (i := 3) (oi := ?oi136) (v := .bool false) ?hi136 (by kernel_rfl) (by kernel_rfl) (by kernel_rfl) ?hQ136 ?hy136 (by assumption) ?rest136
          case hi136 => (simp only [List.getElem?_toArray, List.getElem?_cons_zero, List.getElem?_cons_succ]; rfl)
          case hQ136 => exact fun _ _ _ h => h
          case hy136 => exact Or.inl ⟨by rfl, by (intro w hSw; (try dsimp only at hSw); go_simp )⟩
          simp only [Act.put, List.setIfInBounds_toArray, List.set_cons_zero, List.set_cons_succ]
          refine wpAnyH_take (i := 4) (oi := ?oi137) (v := en) ?hi137 (by kernel_rfl) (by kernel_rfl) (by kernel_rfl) ?hQ137 ?hy137 (by assumption) ?rest137
          case hi137 => (simp only [List.getElem?_toArray, List.getElem?_cons_zero, List.getElem?_cons_succ]; rfl)
          case hQ137 => exact fun _ _ _ h => h
          case hy137 => exact Or.inl ⟨by rfl, by (intro w hSw; (try dsimp only at hSw); go_simp )⟩
          simp only [Act.put, List.setIfInBounds_toArray, List.set_cons_zero, List.set_cons_succ]
          refine wpAnyH_take (i := 6) (oi := ?oi138) (v := .int .i64 (e0 : Nat)) ?hi138 (by kernel_rfl) (by kernel_rfl) (by kernel_rfl) ?hQ138 ?hy138 (by assumption) ?rest138
          case hi138 => (simp only [List.getElem?_toArray, List.getElem?_cons_zero, List.getElem?_cons_succ]; rfl)
          case hQ138 => exact fun _ _ _ h => h
          case hy138 => exact Or.inl ⟨by rfl, by (intro w hSw; (try dsimp only at hSw); go_simp )⟩
          simp only [Act.put, List.setIfInBounds_toArray, List.set_cons_zero, List.set_cons_succ]
          refine wpAnyH_ready (rs := [5]) (by kernel_rfl) (by simp) ?_
          refine AllReadyH.cons (o := ?oi139) ?hi139 (fun K hK => ?_) AllReadyH.nil
          case hi139 => (simp only [List.getElem?_toArray, List.getElem?_cons_zero, List.getElem?_cons_succ]; rfl)
          rw [if_pos (by rfl)]
          go_simp
          (with_reducible refine (HNE.out _ (HH.out.below hHeld.2.2)).mono ?_)
          rintro e V ⟨rfl, hbc⟩
          have hH2 := hide (And.intro (hHeld.1.bl hbc) (And.intro (hHeld.2.1.bl hbc) (below_bl rfl hHeld.2.2 hbc)))
          replace hx := hx.bl hbc
          replace hv := hv.bl hbc
          clear hHeld hbc
          go_simp
          refine hK.out _ _ ?_ (fun hHeld => ?_)
          · exact hH2.out
          clear hK K
          clear hH2
          refine wpAnyH_take (i := 7) (oi := ?oi140) (v := .bool false) ?hi140 (by kernel_rfl) (by kernel_rfl) (by kernel_rfl) ?hQ140 ?hy140 (by assumption) ?rest140
          case hi140 => (simp only [List.getElem?_toArray, List.getElem?_cons_zero, List.getElem?_cons_succ]; rfl)
          case hQ140 => exact fun _ _ _ h => h
          case hy140 => exact Or.inl ⟨by rfl, by (intro w hSw; (try dsimp only at hSw); go_simp )⟩
          simp only [Act.put, List.setIfInBounds_toArray, List.set_cons_zero, List.set_cons_succ]
          refine wpAnyH_take (i := 8) (oi := ?oi141) (v := .bool false) ?hi141 (by kernel_rfl) (by kernel_rfl) (by kernel_rfl) ?hQ141 ?hy141 (by assumption) ?rest141
          case hi141 => (simp only [List.getElem?_toArray, List.getElem?_cons_zero, List.getElem?_cons_succ]; rfl)
          case hQ141 => exact fun _ _ _ h => h
          case hy141 => exact Or.inl ⟨by rfl, by (intro w hSw; (try dsimp only at hSw); go_simp )⟩
          simp only [Act.put, List.setIfInBounds_toArray, List.set_cons_zero, List.set_cons_succ]
          refine wpAnyH_take (i := 9) (oi := ?oi142) (v := .bool false) ?hi142 (by kernel_rfl) (by kernel_rfl) (by kernel_rfl) ?hQ142 ?hy142 (by assumption) ?rest142
          case hi142 => (simp only [List.getElem?_toArray, List.getElem?_cons_zero, List.getElem?_cons_succ]; rfl)
          case hQ142 => exact fun _ _ _ h => h
          case hy142 => exact Or.inl ⟨by rfl, by (intro w hSw; (try dsimp only at hSw); go_simp )⟩
          simp only [Act.put, List.setIfInBounds_toArray, List.set_cons_zero, List.set_cons_succ]
          refine wpAnyH_take (i := 10) (oi := ?oi143) (v := .agg z.cells) ?hi143 (by kernel_rfl) (by kernel_rfl) (by kernel_rfl) ?hQ143 ?hy143 (by assumption) ?rest143
          case hi143 => (simp only [List.getElem?_toArray, List.getElem?_cons_zero, List.getElem?_cons_succ]; rfl)
          case hQ143 => exact fun _ _ _ h => h
          case hy143 => exact y_vp NY z (fun V hV => hV.1) rfl (by rfl)
          simp only [Act.put, List.setIfInBounds_toArray, List.set_cons_zero, List.set_cons_succ]
          refine wpAnyH_take (i := 11) (oi := ?oi144) (v := .agg z.cells) ?hi144 (by kernel_rfl) (by kernel_rfl) (by kernel_rfl) ?hQ144 ?hy144 (by assumption) ?rest144
          case hi144 => (simp only [List.getElem?_toArray, List.getElem?_cons_zero, List.getElem?_cons_succ]; rfl)
          case hQ144 => exact fun _ _ _ h => h
          case hy144 => exact y_vr NV z (fun V hV => hV.2.1) rfl (by rfl)
          simp only [Act.put, List.setIfInBounds_toArray, List.set_cons_zero, List.set_cons_succ]
          refine wpAnyH_ready (rs := [12]) (by kernel_rfl) (by simp) ?_
          refine AllReadyH.cons (o := ?oi145) ?hi145 (fun K hK => ?_) AllReadyH.nil
          case hi145 => (simp only [List.getElem?_toArray, List.getElem?_cons_zero, List.getElem?_cons_succ]; rfl)
          rw [if_pos (by rfl)]
          go_simp
          (with_reducible refine (HG.out _ _).mono ?_)
          rintro e V ⟨rfl, hbc⟩
          have hH2 := hide (And.intro (hHeld.1.bl hbc) (And.intro (hHeld.2.1.bl hbc) (below_bl rfl hHeld.2.2 hbc)))
          replace hx := hx.bl hbc
          replace hv := hv.bl hbc
          clear hHeld hbc
          go_simp
          refine hK.out _ _ ?_ (fun hHeld => ?_)
          · exact hH2.out
          clear hK K
          clear hH2
          refine wpAnyH_take (i := 13) (oi := ?oi146) (v := .bool false) ?hi146 (by kernel_rfl) (by kernel_rfl) (by kernel_rfl) ?hQ146 ?hy146 (by assumption) ?rest146
          case hi146 => (simp only [List.getElem?_toArray, List.getElem?_cons_zero, List.getElem?_cons_succ]; rfl)
          case hQ146 => exact fun _ _ _ h => h
          case hy146 => exact y_nev z rfl rfl (by rfl)
          simp only [Act.put, List.setIfInBounds_toArray, List.set_cons_zero, List.set_cons_succ]
          refine wpAnyH_take (i := 14) (oi := ?oi147) (v := .bool false) ?hi147 (by kernel_rfl) (by kernel_rfl) (by kernel_rfl) ?hQ147 ?hy147 (by assumption) ?rest147
          case hi147 => (simp only [List.getElem?_toArray, List.getElem?_cons_zero, List.getElem?_cons_succ]; rfl)
          case hQ147 => exact fun _ _ _ h => h
          case hy147 => exact Or.inl ⟨by rfl, by (intro w hSw; (try dsimp only at hSw); go_simp )⟩
          simp only [Act.put, List.setIfInBounds_toArray, List.set_cons_zero, List.set_cons_succ]
          refine wpAnyH_done (by kernel_rfl) ?_ _
          have hy := hHeld.1
          have hu := hHeld.2.1
          have hb := hHeld.2.2
          clear hHeld
          by_cases he : e0 = 0
          · have t0 : ((e0 : Int) == 0) = true := by simp [he]
            go_wp2_with (fail)
            refine wp_region_held_drew (S := (fun V => RowAt V NY z.cells 37 ∧ RowAt V NV z.cells 31 ∧ Below w.heap.size w V)) (by kernel_rfl) ?_ (fun hHeld => ?_)
            · exact ⟨hy.dr, hu.dr, hb.drew⟩
            replace hx := hx.dr
            replace hv := hv.dr
            generalize World.drew _ = V at hHeld hx hv ⊢
            clear hy hu hb
            refine wpAnyH_take (i := 0) (oi := ?oi148) (v := .agg z.cells) ?hi148 (by kernel_rfl) (by kernel_rfl) (by kernel_rfl) ?hQ148 ?hy148 (by assumption) ?rest148
            case hi148 => (simp only [List.getElem?_toArray, List.getElem?_cons_zero]; rfl)
            case hQ148 => exact fun _ _ _ h => h
            case hy148 => exact y_vp NY z (fun V hV => hV.1) rfl rfl
            simp only [Act.put, List.setIfInBounds_toArray, List.set_cons_zero, List.set_cons_succ]
            refine wpAnyH_take (i := 1) (oi := ?oi149) (v := .agg z.cells) ?hi149 (by kernel_rfl) (by kernel_rfl) (by kernel_rfl) ?hQ149 ?hy149 (by assumption) ?rest149
            case hi149 => (simp only [List.getElem?_toArray, List.getElem?_cons_zero, List.getElem?_cons_succ]; rfl)
            case hQ149 => exact fun _ _ _ h => h
            case hy149 => exact y_vr NV z (fun V hV => hV.2.1) rfl rfl
            simp only [Act.put, List.setIfInBounds_toArray, List.set_cons_zero, List.set_cons_succ]
            refine wpAnyH_ready (rs := [2]) (by kernel_rfl) (by simp) ?_
            refine AllReadyH.cons (o := ?oi150) ?hi150 (fun K hK => ?_) AllReadyH.nil
            case hi150 => (simp only [List.getElem?_toArray, List.getElem?_cons_zero, List.getElem?_cons_succ]; rfl)
            rw [if_pos (by rfl)]
            (with_reducible refine s_vp w.heap.size _ z hx ?_ ?_ ?_)
            · exact rfl
            · exact rfl
            intro V hnew ho
            have hH2 := hide (And.intro (hHeld.1.only ho (by omega)) (And.intro (hHeld.2.1.only ho (by omega)) (ho.bel _ _ (by omega) hHeld.2.2)))
            replace hx := hnew
            replace hv := hv.only ho (by omega)
            clear hHeld
            refine hK.out _ _ ?_ (fun hHeld => ?_)
            · exact hH2.out
            clear hK K
            clear hH2
            refine wpAnyH_ready (rs := [3]) (by kernel_rfl) (by simp) ?_
            refine AllReadyH.cons (o := ?oi151) ?hi151 (fun K hK => ?_) AllReadyH.nil
            case hi151 => (simp only [List.getElem?_toArray, List.getElem?_cons_zero, List.getElem?_cons_succ]; rfl)
            rw [if_pos (by rfl)]
            (with_reducible refine s_vr (w.heap.size + 1) _ z hv ?_ ?_ ?_)
            · exact rfl
            · exact rfl
            intro V hnew ho
            have hH2 := hide (And.intro (hHeld.1.only ho (by omega)) (And.intro (hHeld.2.1.only ho (by omega)) (ho.bel _ _ (by omega) hHeld.2.2)))
            replace hv := hnew
            replace hx := hx.only ho (by omega)
            clear hHeld
            refine hK.out _ _ ?_ (fun hHeld => ?_)
            · exact hH2.out
            clear hK K
            clear hH2
            refine wpAnyH_done (by kernel_rfl) ?_ _
            have hy := hHeld.1
            have hu := hHeld.2.1
            have hb := hHeld.2.2
            clear hHeld
            go_wp2
            go_roundw
            case rel => exact ⟨k + 1, z, by omega, by omega, by go_num, okz, hx, hv, hb⟩
            case measure => simp [intOf]; omega
          · have t0 : ((e0 : Int) == 0) = false := by simp [he]
            have t0b : (e0 == 0) = false := by simp [he]
            go_wp2
            go_roundw
            case rel => exact ⟨k + 1, x, by omega, by omega, by go_num, okx, hx, hv, hb⟩
            case measure => simp [intOf]; omega
      case b76 =>
        obtain ⟨NY, hNY⟩ : ∃ n, V.heap.size = n := ⟨_, rfl⟩
        have lNY0 : w.heap.size < NY := by have := hHeld.1.lt; omega
        have lNY1 : (w.heap.size + 1) < NY := by have := hHeld.2.1.lt; omega
        have lNYw : w.heap.size ≤ NY := by have := (hHeld.2.2).size; omega
        replace hNY := hide hNY
        rw [if_pos (by rfl)]
        (with_reducible refine s_allocv NY ?_ _ zero_vp ?_)
        · exact hNY.out
        intro V hy hb' hzY
        have hH2 := hide (And.intro (hHeld.1.bl (hNY.out ▸ hb')) (And.intro (hHeld.2.1.bl (hNY.out ▸ hb')) (hHeld.2.2.trans (hb'.mono (by omega)))))
        simp only [Act.put, List.setIfInBounds_toArray, List.set_cons_zero, List.set_cons_succ]
        clear hHeld hb' hzY
        refine hK.out _ _ ?_ (fun hHeld => ?_)
        · exact hH2.out
        clear hK K hH2
        refine wpAnyH_ready (rs := [11]) (by kernel_rfl) (by simp) ?_
        refine AllReadyH.cons (o := ?oi152) ?hi152 (fun K hK => ?_) AllReadyH.nil
        case hi152 => (simp only [List.getElem?_toArray, List.getElem?_cons_zero, List.getElem?_cons_succ]; rfl)
        go_simp
        (with_reducible refine (HW.out _ (HO.out.bl hHeld.2.2)).mono ?_)
        rintro e V ⟨rfl, hbc⟩
        have hH2 := hide (And.intro (hHeld.1.bl hbc) (And.intro (hHeld.2.1.bl hbc) (below_bl rfl hHeld.2.2 hbc)))
        replace hy := hy.bl hbc
        clear hHeld hbc
        go_simp
        refine hK.out _ _ ?_ (fun hHeld => ?_)
        · exact hH2.out
        clear hK K
        clear hH2
        refine wpAnyH_take (i := 12) (oi := ?oi153) (v := .tuple #[.agg z.cells, .int .i64 n, en]) ?hi153 (by kernel_rfl) (by kernel_rfl) (by kernel_rfl) ?hQ153 ?hy153 (by assumption) ?rest153
        case hi153 => (simp only [List.getElem?_toArray, List.getElem?_cons_zero, List.getElem?_cons_succ]; rfl)
        case hQ153 => exact fun _ _ _ h => h
        case hy153 => exact Or.inl ⟨by rfl, by (intro w hSw; (try dsimp only at hSw); go_simp )⟩
        simp only [Act.put, List.setIfInBounds_toArray, List.set_cons_zero, List.set_cons_succ]
        refine wpAnyH_take (i := 13) (oi := ?oi154) (v := .agg z.cells) ?hi154 (by kernel_rfl) (by kernel_rfl) (by kernel_rfl) ?hQ154 ?hy154 (by assumption) ?rest154
        case hi154 => (simp only [List.getElem?_toArray, List.getElem?_cons_zero, List.getElem?_cons_succ]; rfl)
        case hQ154 => exact fun _ _ _ h => h
        case hy154 => exact Or.inl ⟨by rfl, by (intro w hSw; (try dsimp only at hSw); go_simp )⟩
        simp only [Act.put, List.setIfInBounds_toArray, List.set_cons_zero, List.set_cons_succ]
        refine wpAnyH_take (i := 14) (oi := ?oi155) (v := .int .i64 n) ?hi155 (by kernel_rfl) (by kernel_rfl) (by kernel_rfl) ?hQ155 ?hy155 (by assumption) ?rest155
        case hi155 => (simp only [List.getElem?_toArray, List.getElem?_cons_zero, List.getElem?_cons_succ]; rfl)
        case hQ155 => exact fun _ _ _ h => h
        case hy155 => exact Or.inl ⟨by rfl, by (intro w hSw; (try dsimp only at hSw); go_simp )⟩
        simp only [Act.put, List.setIfInBounds_toArray, List.set_cons_zero, List.set_cons_succ]
        refine wpAnyH_take (i := 15) (oi := ?oi156) (v := en) ?hi156 (by kernel_rfl) (by kernel_rfl) (by kernel_rfl) ?hQ156 ?hy156 (by assumption) ?rest156
        case hi156 => (simp only [List.getElem?_toArray, List.getElem?_cons_zero, List.getElem?_cons_succ]; rfl)
        case hQ156 => exact fun _ _ _ h => h
        case hy156 => exact Or.inl ⟨by rfl, by (intro w hSw; (try dsimp only at hSw); go_simp )⟩
        simp only [Act.put, List.setIfInBounds_toArray, List.set_cons_zero, List.set_cons_succ]
        refine wpAnyH_ready (rs := [17]) (by kernel_rfl) (by simp) ?_
        refine AllReadyH.cons (o := ?oi157) ?hi157 (fun K hK => ?_) AllReadyH.nil
        case hi157 => (simp only [List.getElem?_toArray, List.getElem?_cons_zero, List.getElem?_cons_succ]; rfl)
        rw [if_pos (by rfl)]
        (with_reducible refine s_vp NY _ z hy ?_ ?_ ?_)
        · exact rfl
        · exact rfl
        intro V hnew ho
        have hH2 := hide (And.intro (hHeld.1.only ho (by omega)) (And.intro (hHeld.2.1.only ho (by omega)) (ho.bel _ _ (by omega) hHeld.2.2)))
        replace hy := hnew
        clear hHeld
        refine hK.out _ _ ?_ (fun hHeld => ?_)
        · exact hH2.out
        clear hK K
        clear hH2
        refine wpAnyH_take (i := 18) (oi := ?oi158) (v := .int .i64 n) ?hi158 (by kernel_rfl) (by kernel_rfl) (by kernel_rfl) ?hQ158 ?hy158 (by assumption) ?rest158
        case hi158 => (simp only [List.getElem?_toArray, List.getElem?_cons_zero, List.getElem?_cons_succ]; rfl)
        case hQ158 => exact fun _ _ _ h => h
        case hy158 => exact Or.inl ⟨by rfl, by (intro w hSw; (try dsimp only at hSw); go_simp )⟩
        simp only [Act.put, List.setIfInBounds_toArray, List.set_cons_zero, List.set_cons_succ]
        refine wpAnyH_take (i := 19) (oi := ?oi159) (v := en) ?hi159 (by kernel_rfl) (by kernel_rfl) (by kernel_rfl) ?hQ159 ?hy159 (by assumption) ?rest159
        case hi159 => (simp only [List.getElem?_toArray, List.getElem?_cons_zero, List.getElem?_cons_succ]; rfl)
        case hQ159 => exact fun _ _ _ h => h
        case hy159 => exact Or.inl ⟨by rfl, by (intro w hSw; (try dsimp only at hSw); go_simp )⟩
        simp only [Act.put, List.setIfInBounds_toArray, List.set_cons_zero, List.set_cons_succ]
        refine wpAnyH_done (by kernel_rfl) ?_ _
        have hx := hHeld.1
        have hv := hHeld.2.1
        have hb := hHeld.2.2
        clear hHeld
        go_wp2_with (fail)
        refine wp_region_held_drew (S := (fun V => RowAt V w.heap.size x.cells 37 ∧ RowAt V (w.heap.size + 1) x.cells 31 ∧ RowAt V NY z.cells 37 ∧ Below w.heap.size w V)) (by kernel_rfl) ?_ (fun hHeld => ?_)
        · exact ⟨hx.dr, hv.dr, hy.dr, hb.drew⟩
        generalize World.drew _ = V at hHeld  ⊢
        clear hx hv hy hb
        refine wpAnyH_take (i := 0) (oi := ?oi170) (v := .agg x.cells) ?hi170 (by kernel_rfl) (by kernel_rfl) (by kernel_rfl) ?hQ170 ?hy170 (by assumption) ?rest170
        case hi170 => (simp only [List.getElem?_toArray, List.getElem?_cons_zero]; rfl)
        case hQ170 => exact fun _ _ _ h => h
        case hy170 => exact y_vr (w.heap.size + 1) x (fun V hV => hV.2.1) rfl rfl
        simp only [Act.put, List.setIfInBounds_toArray, List.set_cons_zero, List.set_cons_succ]
        refine wpAnyH_take (i := 1) (oi := ?oi160) (v := .slice (some ⟨lb, lo, none⟩) len cap) ?hi160 (by kernel_rfl) (by kernel_rfl) (by kernel_rfl) ?hQ160 ?hy160 (by assumption) ?rest160
        case hi160 => (simp only [List.getElem?_toArray, List.getElem?_cons_zero, List.getElem?_cons_succ]; rfl)
        case hQ160 => exact fun _ _ _ h => h
        case hy160 => exact Or.inl ⟨by rfl, by (intro w hSw; (try dsimp only at hSw); go_simp )⟩
        simp only [Act.put, List.setIfInBounds_toArray, List.set_cons_zero, List.set_cons_succ]
        refine wpAnyH_take (i := 2) (oi := ?oi161) (v := .int .i64 (k : Nat)) ?hi161 (by kernel_rfl) (by kernel_rfl) (by kernel_rfl) ?hQ161 ?hy161 (by assumption) ?rest161
        case hi161 => (simp only [List.getElem?_toArray, List.getElem?_cons_zero, List.getElem?_cons_succ]; rfl)
        case hQ161 => exact fun _ _ _ h => h
        case hy161 => exact Or.inl ⟨by rfl, by (intro w hSw; (try dsimp only at hSw); go_simp )⟩
        simp only [Act.put, List.setIfInBounds_toArray, List.set_cons_zero, List.set_cons_succ]
        refine wpAnyH_take (i := 3) (oi := ?oi162) (v := .pointer (some ⟨lb, lo + k * 2, none⟩)) ?hi162 (by kernel_rfl) (by kernel_rfl) (by kernel_rfl) ?hQ162 ?hy162 (by assumption) ?rest162
        case hi162 => (simp only [List.getElem?_toArray, List.getElem?_cons_zero, List.getElem?_cons_succ]; rfl)
        case hQ162 => exact fun _ _ _ h => h
        case hy162 => exact Or.inl ⟨by rfl, by (intro w hSw; (try dsimp only at hSw); go_simp )⟩
        simp only [Act.put, List.setIfInBounds_toArray, List.set_cons_zero, List.set_cons_succ]
        refine wpAnyH_take (i := 4) (oi := ?oi163) (v := .pointer (some ⟨lb, lo + k * 2, none⟩)) ?hi163 (by kernel_rfl) (by kernel_rfl) (by kernel_rfl) ?hQ163 ?hy163 (by assumption) ?rest163
        case hi163 => (simp only [List.getElem?_toArray, List.getElem?_cons_zero, List.getElem?_cons_succ]; rfl)
        case hQ163 => exact fun _ _ _ h => h
        case hy163 => exact Or.inl ⟨by rfl, by (intro w hSw; (try dsimp only at hSw); go_simp )⟩
        simp only [Act.put, List.setIfInBounds_toArray, List.set_cons_zero, List.set_cons_succ]
        refine wpAnyH_take (i := 5) (oi := ?oi164) (v := .int .u32 (av : Nat)) ?hi164 (by kernel_rfl) (by kernel_rfl) (by kernel_rfl) ?hQ164 ?hy164 (by assumption) ?rest164
        case hi164 => (simp only [List.getElem?_toArray, List.getElem?_cons_zero, List.getElem?_cons_succ]; rfl)
        case hQ164 => exact fun _ _ _ h => h
        case hy164 => exact y_cell lb (lo + k * 2) _ (fun V hV => (hV.2.2.2.cell (p := ⟨lb, lo + k * 2, none⟩) hlb).trans hc0) _ Tryd.underlying22 rfl rfl
        simp only [Act.put, List.setIfInBounds_toArray, List.set_cons_zero, List.set_cons_succ]
        refine wpAnyH_take (i := 6) (oi := ?oi165) (v := .slice (some ⟨lb, lo, none⟩) len cap) ?hi165 (by kernel_rfl) (by kernel_rfl) (by kernel_rfl) ?hQ165 ?hy165 (by assumption) ?rest165
        case hi165 => (simp only [List.getElem?_toArray, List.getElem?_cons_zero, List.getElem?_cons_succ]; rfl)
        case hQ165 => exact fun _ _ _ h => h
        case hy165 => exact Or.inl ⟨by rfl, by (intro w hSw; (try dsimp only at hSw); go_simp )⟩
        simp only [Act.put, List.setIfInBounds_toArray, List.set_cons_zero, List.set_cons_succ]
        refine wpAnyH_take (i := 7) (oi := ?oi166) (v := .int .i64 (k : Nat)) ?hi166 (by kernel_rfl) (by kernel_rfl) (by kernel_rfl) ?hQ166 ?hy166 (by assumption) ?rest166
        case hi166 => (simp only [List.getElem?_toArray, List.getElem?_cons_zero, List.getElem?_cons_succ]; rfl)
        case hQ166 => exact fun _ _ _ h => h
        case hy166 => exact Or.inl ⟨by rfl, by (intro w hSw; (try dsimp only at hSw); go_simp )⟩
        simp only [Act.put, List.setIfInBounds_toArray, List.set_cons_zero, List.set_cons_succ]
        refine wpAnyH_take (i := 8) (oi := ?oi167) (v := .pointer (some ⟨lb, lo + k * 2, none⟩)) ?hi167 (by kernel_rfl) (by kernel_rfl) (by kernel_rfl) ?hQ167 ?hy167 (by assumption) ?rest167
        case hi167 => (simp only [List.getElem?_toArray, List.getElem?_cons_zero, List.getElem?_cons_succ]; rfl)
        case hQ167 => exact fun _ _ _ h => h
        case hy167 => exact Or.inl ⟨by rfl, by (intro w hSw; (try dsimp only at hSw); go_simp )⟩
        simp only [Act.put, List.setIfInBounds_toArray, List.set_cons_zero, List.set_cons_succ]
        refine wpAnyH_take (i := 9) (oi := ?oi168) (v := .pointer (some ⟨lb, lo + k * 2 + 1, none⟩)) ?hi168 (by kernel_rfl) (by kernel_rfl) (by kernel_rfl) ?hQ168 ?hy168 (by assumption) ?rest168
        case hi168 => (simp only [List.getElem?_toArray, List.getElem?_cons_zero, List.getElem?_cons_succ]; rfl)
        case hQ168 => exact fun _ _ _ h => h
        case hy168 => exact Or.inl ⟨by rfl, by (intro w hSw; (try dsimp only at hSw); go_simp )⟩
        simp only [Act.put, List.setIfInBounds_toArray, List.set_cons_zero, List.set_cons_succ]
        refine wpAnyH_take (i := 10) (oi := ?oi169) (v := .int .u32 (vv : Nat)) ?hi169 (by kernel_rfl) (by kernel_rfl) (by kernel_rfl) ?hQ169 ?hy169 (by assumption) ?rest169
        case hi169 => (simp only [List.getElem?_toArray, List.getElem?_cons_zero, List.getElem?_cons_succ]; rfl)
        case hQ169 => exact fun _ _ _ h => h
        case hy169 => exact y_cell lb (lo + k * 2 + 1) _ (fun V hV => (hV.2.2.2.cell (p := ⟨lb, lo + k * 2 + 1, none⟩) hlb).trans hc1) _ Tryd.underlying22 rfl rfl
        simp only [Act.put, List.setIfInBounds_toArray, List.set_cons_zero, List.set_cons_succ]
        refine wpAnyH_ready (rs := [11, 16]) (by kernel_rfl) (by simp) ?_
        refine AllReadyH.cons (o := ?oi171) ?hi171 (fun K hK => ?b171) (AllReadyH.cons (o := ?oi172) ?hi172 (fun K hK => ?b172) AllReadyH.nil)
        case hi171 => (simp only [List.getElem?_toArray, List.getElem?_cons_zero, List.getElem?_cons_succ]; rfl)
        case hi172 => (simp only [List.getElem?_toArray, List.getElem?_cons_zero, List.getElem?_cons_succ]; rfl)
        case b171 =>
          go_simp
          (with_reducible refine (HR.out _).mono ?_)
          rintro e V ⟨rfl, hbc⟩
          have hH2 := hide (And.intro (hHeld.1.bl hbc) (And.intro (hHeld.2.1.bl hbc) (And.intro (hHeld.2.2.1.bl hbc) (below_bl rfl hHeld.2.2.2 hbc))))
          clear hHeld hbc
          go_simp
          refine hK.out _ _ ?_ (fun hHeld => ?_)
          · exact hH2.out
          clear hK K hH2
          refine wpAnyH_take (i := 12) (oi := ?oi173) (v := .tuple #[.agg z.cells, .int .i64 n, (.int .i64 (e0 : Nat))]) ?hi173 (by kernel_rfl) (by kernel_rfl) (by kernel_rfl) ?hQ173 ?hy173 (by assumption) ?rest173
          case hi173 => (simp only [List.getElem?_toArray, List.getElem?_cons_zero, List.getElem?_cons_succ]; rfl)
          case hQ173 => exact fun _ _ _ h => h
          case hy173 => exact Or.inl ⟨by rfl, by (intro w hSw; (try dsimp only at hSw); go_simp )⟩
          simp only [Act.put, List.setIfInBounds_toArray, List.set_cons_zero, List.set_cons_succ]
          refine wpAnyH_take (i := 13) (oi := ?oi174) (v := .agg z.cells) ?hi174 (by kernel_rfl) (by kernel_rfl) (by kernel_rfl) ?hQ174 ?hy174 (by assumption) ?rest174
          case hi174 => (simp only [List.getElem?_toArray, List.getElem?_cons_zero, List.getElem?_cons_succ]; rfl)
          case hQ174 => exact fun _ _ _ h => h
          case hy174 => exact Or.inl ⟨by rfl, by (intro w hSw; (try dsimp only at hSw); go_simp )⟩
          simp only [Act.put, List.setIfInBounds_toArray, List.set_cons_zero, List.set_cons_succ]
          refine wpAnyH_take (i := 14) (oi := ?oi175) (v := .int .i64 n) ?hi175 (by kernel_rfl) (by kernel_rfl) (by kernel_rfl) ?hQ175 ?hy175 (by assumption) ?rest175
          case hi175 => (simp only [List.getElem?_toArray, List.getElem?_cons_zero, List.getElem?_cons_succ]; rfl)
          case hQ175 => exact fun _ _ _ h => h
          case hy175 => exact Or.inl ⟨by rfl, by (intro w hSw; (try dsimp only at hSw); go_simp )⟩
          simp only [Act.put, List.setIfInBounds_toArray, List.set_cons_zero, List.set_cons_succ]
          refine wpAnyH_take (i := 15) (oi := ?oi176) (v := (.int .i64 (e0 : Nat))) ?hi176 (by kernel_rfl) (by kernel_rfl) (by kernel_rfl) ?hQ176 ?hy176 (by assumption) ?rest176
          case hi176 => (simp only [List.getElem?_toArray, List.getElem?_cons_zero, List.getElem?_cons_succ]; rfl)
          case hQ176 => exact fun _ _ _ h => h
          case hy176 => exact Or.inl ⟨by rfl, by (intro w hSw; (try dsimp only at hSw); go_simp )⟩
          simp only [Act.put, List.setIfInBounds_toArray, List.set_cons_zero, List.set_cons_succ]
          refine wpAnyH_ready (rs := [16]) (by kernel_rfl) (by simp) ?_
          refine AllReadyH.cons (o := ?oi177) ?hi177 (fun K hK => ?_) AllReadyH.nil
          case hi177 => (simp only [List.getElem?_toArray, List.getElem?_cons_zero, List.getElem?_cons_succ]; rfl)
          obtain ⟨NV, hNV⟩ : ∃ n, V.heap.size = n := ⟨_, rfl⟩
          have lNV0 : w.heap.size < NV := by have := hHeld.1.lt; omega
          have lNV1 : (w.heap.size + 1) < NV := by have := hHeld.2.1.lt; omega
          have lNV2 : NY < NV := by have := hHeld.2.2.1.lt; omega
          have lNVw : w.heap.size ≤ NV := by have := (hHeld.2.2.2).size; omega
          replace hNV := hide hNV
          rw [if_pos (by rfl)]
          (with_reducible refine s_allocv NV ?_ _ zero_vr ?_)
          · exact hNV.out
          intro V hu hb' hzY
          have hH2 := hide (And.intro (hHeld.1.bl (hNV.out ▸ hb')) (And.intro (hHeld.2.1.bl (hNV.out ▸ hb')) (And.intro (hHeld.2.2.1.bl (hNV.out ▸ hb')) (hHeld.2.2.2.trans (hb'.mono (by omega))))))
          simp only [Act.put, List.setIfInBounds_toArray, List.set_cons_zero, List.set_cons_succ]
          clear hHeld hb' hzY
          refine hK.out _ _ ?_ (fun hHeld => ?_)
          · exact hH2.out
          clear hK K
          clear hH2
          refine wpAnyH_ready (rs := [17]) (by kernel_rfl) (by simp) ?_
          refine AllReadyH.cons (o := ?oi178) ?hi178 (fun K hK => ?_) AllReadyH.nil
          case hi178 => (simp only [List.getElem?_toArray, List.getElem?_cons_zero, List.getElem?_cons_succ]; rfl)
          rw [if_pos (by rfl)]
          (with_reducible refine s_vr NV _ z hu ?_ ?_ ?_)
          · exact rfl
          · exact rfl
          intro V hnew ho
          have hH2 := hide (And.intro (hHeld.1.only ho (by omega)) (And.intro (hHeld.2.1.only ho (by omega)) (And.intro (hHeld.2.2.1.only ho (by omega)) (ho.bel _ _ (by omega) hHeld.2.2.2))))
          replace hu := hnew
          clear hHeld
          refine hK.out _ _ ?_ (fun hHeld => ?_)
          · exact hH2.out
          clear hK K
          clear hH2
          refine wpAnyH_take (i := 18) (oi := ?oi179) (v := .int .i64 n) ?hi179 (by kernel_rfl) (by kernel_rfl) (by kernel_rfl) ?hQ179 ?hy179 (by assumption) ?rest179
          case hi179 => (simp only [List.getElem?_toArray, List.getElem?_cons_zero, List.getElem?_cons_succ]; rfl)
          case hQ179 => exact fun _ _ _ h => h
          case hy179 => exact Or.inl ⟨by rfl, by (intro w hSw; (try dsimp only at hSw); go_simp )⟩
          simp only [Act.put, List.setIfInBounds_toArray, List.set_cons_zero, List.set_cons_succ]
          refine wpAnyH_take (i := 19) (oi := ?oi180) (v := (.int .i64 (e0 : Nat))) ?hi180 (by kernel_rfl) (by kernel_rfl) (by kernel_rfl) ?hQ180 ?hy180 (by assumption) ?rest180
          case hi180 => (simp only [List.getElem?_toArray, List.getElem?_cons_zero, List.getElem?_cons_succ]; rfl)
          case hQ180 => exact fun _ _ _ h => h
          case hy180 => exact Or.inl ⟨by rfl, by (intro w hSw; (try dsimp only at hSw); go_simp )⟩
          simp only [Act.put, List.setIfInBounds_toArray, List.set_cons_zero, List.set_cons_succ]
          refine wpAnyH_done (by kernel_rfl) ?_ _
          have hx := hHeld.1
          have hv := hHeld.2.1
          have hy := hHeld.2.2.1
          have hb := hHeld.2.2.2
          clear hHeld
          go_wp2_with (fail)
          refine wp_region_held_drew (S := (fun V => RowAt V NY z.cells 37 ∧ RowAt V NV z.cells 31 ∧ Below w.heap.size w V)) (by kernel_rfl) ?_ (fun hHeld => ?_)
          · exact ⟨hy.dr, hu.dr, hb.drew⟩
          replace hx := hx.dr
          replace hv := hv.dr
          generalize World.drew _ = V at hHeld hx hv ⊢
          clear hy hu hb
          refine wpAnyH_take (i := 0) (oi := ?oi181) (v := .int .i64 n) ?hi181 (by kernel_rfl) (by kernel_rfl) (by kernel_rfl) ?hQ181 ?hy181 (by assumption) ?rest181
          case hi181 => (simp only [List.getElem?_toArray, List.getElem?_cons_zero]; rfl)
          case hQ181 => exact fun _ _ _ h => h
          case hy181 => exact Or.inl ⟨by rfl, by (intro w hSw; (try dsimp only at hSw); go_simp )⟩
          simp only [Act.put, List.setIfInBounds_toArray, List.set_cons_zero, List.set_cons_succ]
          refine wpAnyH_take (i := 1) (oi := ?oi182) (v := .int .i64 n) ?hi182 (by kernel_rfl) (by kernel_rfl) (by kernel_rfl) ?hQ182 ?hy182 (by assumption) ?rest182
          case hi182 => (simp only [List.getElem?_toArray, List.getElem?_cons_zero, List.getElem?_cons_succ]; rfl)
          case hQ182 => exact fun _ _ _ h => h
          case hy182 => exact Or.inl ⟨by rfl, by (intro w hSw; (try dsimp only at hSw); go_simp )⟩
          simp only [Act.put, List.setIfInBounds_toArray, List.set_cons_zero, List.set_cons_succ]
          refine wpAnyH_take (i := 2) (oi := ?oi183) (v := .bool false) ?hi183 (by kernel_rfl) (by kernel_rfl) (by kernel_rfl) ?hQ183 ?hy183 (by assumption) ?rest183
          case hi183 => (simp only [List.getElem?_toArray, List.getElem?_cons_zero, List.getElem?_cons_succ]; rfl)
          case hQ183 => exact fun _ _ _ h => h
          case hy183 => exact Or.inl ⟨by rfl, by (intro w hSw; (try dsimp only at hSw); go_simp )⟩
          simp only [Act.put, List.setIfInBounds_toArray, List.set_cons_zero, List.set_cons_succ]
          refine wpAnyH_take (i := 3) (oi := ?oi184) (v := .bool false) ?hi184 (by kernel_rfl) (by kernel_rfl) (by kernel_rfl) ?hQ184 ?hy184 (by assumption) ?rest184
          case hi184 => (simp only [List.getElem?_toArray, List.getElem?_cons_zero, List.getElem?_cons_succ]; rfl)
          case hQ184 => exact fun _ _ _ h => h
          case hy184 => exact Or.inl ⟨by rfl, by (intro w hSw; (try dsimp only at hSw); go_simp )⟩
          simp only [Act.put, List.setIfInBounds_toArray, List.set_cons_zero, List.set_cons_succ]
          refine wpAnyH_take (i := 4) (oi := ?oi185) (v := en) ?hi185 (by kernel_rfl) (by kernel_rfl) (by kernel_rfl) ?hQ185 ?hy185 (by assumption) ?rest185
          case hi185 => (simp only [List.getElem?_toArray, List.getElem?_cons_zero, List.getElem?_cons_succ]; rfl)
          case hQ185 => exact fun _ _ _ h => h
          case hy185 => exact Or.inl ⟨by rfl, by (intro w hSw; (try dsimp only at hSw); go_simp )⟩
          simp only [Act.put, List.setIfInBounds_toArray, List.set_cons_zero, List.set_cons_succ]
          refine wpAnyH_take (i := 6) (oi := ?oi186) (v := .int .i64 (e0 : Nat)) ?hi186 (by kernel_rfl) (by kernel_rfl) (by kernel_rfl) ?hQ186 ?hy186 (by assumption) ?rest186
          case hi186 => (simp only [List.getElem?_toArray, List.getElem?_cons_zero, List.getElem?_cons_succ]; rfl)
          case hQ186 => exact fun _ _ _ h => h
          case hy186 => exact Or.inl ⟨by rfl, by (intro w hSw; (try dsimp only at hSw); go_simp )⟩
          simp only [Act.put, List.setIfInBounds_toArray, List.set_cons_zero, List.set_cons_succ]
          refine wpAnyH_ready (rs := [5]) (by kernel_rfl) (by simp) ?_
          refine AllReadyH.cons (o := ?oi187) ?hi187 (fun K hK => ?_) AllReadyH.nil
          case hi187 => (simp only [List.getElem?_toArray, List.getElem?_cons_zero, List.getElem?_cons_succ]; rfl)
          rw [if_pos (by rfl)]
          go_simp
          (with_reducible refine (HNE.out _ (HH.out.below hHeld.2.2)).mono ?_)
          rintro e V ⟨rfl, hbc⟩
          have hH2 := hide (And.intro (hHeld.1.bl hbc) (And.intro (hHeld.2.1.bl hbc) (below_bl rfl hHeld.2.2 hbc)))
          replace hx := hx.bl hbc
          replace hv := hv.bl hbc
          clear hHeld hbc
          go_simp
          refine hK.out _ _ ?_ (fun hHeld => ?_)
          · exact hH2.out
          clear hK K
          clear hH2
          refine wpAnyH_take (i := 7) (oi := ?oi188) (v := .bool false) ?hi188 (by kernel_rfl) (by kernel_rfl) (by kernel_rfl) ?hQ188 ?hy188 (by assumption) ?rest188
          case hi188 => (simp only [List.getElem?_toArray, List.getElem?_cons_zero, List.getElem?_cons_succ]; rfl)
          case hQ188 => exact fun _ _ _ h => h
          case hy188 => exact Or.inl ⟨by rfl, by (intro w hSw; (try dsimp only at hSw); go_simp )⟩
          simp only [Act.put, List.setIfInBounds_toArray, List.set_cons_zero, List.set_cons_succ]
          refine wpAnyH_take (i := 8) (oi := ?oi189) (v := .bool false) ?hi189 (by kernel_rfl) (by kernel_rfl) (by kernel_rfl) ?hQ189 ?hy189 (by assumption) ?rest189
          case hi189 => (simp only [List.getElem?_toArray, List.getElem?_cons_zero, List.getElem?_cons_succ]; rfl)
          case hQ189 => exact fun _ _ _ h => h
          case hy189 => exact Or.inl ⟨by rfl, by (intro w hSw; (try dsimp only at hSw); go_simp )⟩
          simp only [Act.put, List.setIfInBounds_toArray, List.set_cons_zero, List.set_cons_succ]
          refine wpAnyH_take (i := 9) (oi := ?oi190) (v := .bool false) ?hi190 (by kernel_rfl) (by kernel_rfl) (by kernel_rfl) ?hQ190 ?hy190 (by assumption) ?rest190
          case hi190 => (simp only [List.getElem?_toArray, List.getElem?_cons_zero, List.getElem?_cons_succ]; rfl)
          case hQ190 => exact fun _ _ _ h => h
          case hy190 => exact Or.inl ⟨by rfl, by (intro w hSw; (try dsimp only at hSw); go_simp )⟩
          simp only [Act.put, List.setIfInBounds_toArray, List.set_cons_zero, List.set_cons_succ]
          refine wpAnyH_take (i := 10) (oi := ?oi191) (v := .agg z.cells) ?hi191 (by kernel_rfl) (by kernel_rfl) (by kernel_rfl) ?hQ191 ?hy191 (by assumption) ?rest191
          case hi191 => (simp only [List.getElem?_toArray, List.getElem?_cons_zero, List.getElem?_cons_succ]; rfl)
          case hQ191 => exact fun _ _ _ h => h
          case hy191 => exact y_vp NY z (fun V hV => hV.1) rfl (by rfl)
          simp only [Act.put, List.setIfInBounds_toArray, List.set_cons_zero, List.set_cons_succ]
          refine wpAnyH_take (i := 11) (oi := ?oi192) (v := .agg z.cells) ?hi192 (by kernel_rfl) (by kernel_rfl) (by kernel_rfl) ?hQ192 ?hy192 (by assumption) ?rest192
          case hi192 => (simp only [List.getElem?_toArray, List.getElem?_cons_zero, List.getElem?_cons_succ]; rfl)
          case hQ192 => exact fun _ _ _ h => h
          case hy192 => exact y_vr NV z (fun V hV => hV.2.1) rfl (by rfl)
          simp only [Act.put, List.setIfInBounds_toArray, List.set_cons_zero, List.set_cons_succ]
          refine wpAnyH_ready (rs := [12]) (by kernel_rfl) (by simp) ?_
          refine AllReadyH.cons (o := ?oi193) ?hi193 (fun K hK => ?_) AllReadyH.nil
          case hi193 => (simp only [List.getElem?_toArray, List.getElem?_cons_zero, List.getElem?_cons_succ]; rfl)
          rw [if_pos (by rfl)]
          go_simp
          (with_reducible refine (HG.out _ _).mono ?_)
          rintro e V ⟨rfl, hbc⟩
          have hH2 := hide (And.intro (hHeld.1.bl hbc) (And.intro (hHeld.2.1.bl hbc) (below_bl rfl hHeld.2.2 hbc)))
          replace hx := hx.bl hbc
          replace hv := hv.bl hbc
          clear hHeld hbc
          go_simp
          refine hK.out _ _ ?_ (fun hHeld => ?_)
          · exact hH2.out
          clear hK K
          clear hH2
          refine wpAnyH_take (i := 13) (oi := ?oi194) (v := .bool false) ?hi194 (by kernel_rfl) (by kernel_rfl) (by kernel_rfl) ?hQ194 ?hy194 (by assumption) ?rest194
          case hi194 => (simp only [List.getElem?_toArray, List.getElem?_cons_zero, List.getElem?_cons_succ]; rfl)
          case hQ194 => exact fun _ _ _ h => h
          case hy194 => exact y_nev z rfl rfl (by rfl)
          simp only [Act.put, List.setIfInBounds_toArray, List.set_cons_zero, List.set_cons_succ]
          refine wpAnyH_take (i := 14) (oi := ?oi195) (v := .bool false) ?hi195 (by kernel_rfl) (by kernel_rfl) (by kernel_rfl) ?hQ195 ?hy195 (by assumption) ?rest195
          case hi195 => (simp only [List.getElem?_toArray, List.getElem?_cons_zero, List.getElem?_cons_succ]; rfl)
          case hQ195 => exact fun _ _ _ h => h
          case hy195 => exact Or.inl ⟨by rfl, by (intro w hSw; (try dsimp only at hSw); go_simp )⟩
          simp only [Act.put, List.setIfInBounds_toArray, List.set_cons_zero, List.set_cons_succ]
          refine wpAnyH_done (by kernel_rfl) ?_ _
          have hy := hHeld.1
          have hu := hHeld.2.1
          have hb := hHeld.2.2
          clear hHeld
          by_cases he : e0 = 0
          · have t0 : ((e0 : Int) == 0) = true := by simp [he]
            go_wp2_with (fail)
            refine wp_region_held_drew (S := (fun V => RowAt V NY z.cells 37 ∧ RowAt V NV z.cells 31 ∧ Below w.heap.size w V)) (by kernel_rfl) ?_ (fun hHeld => ?_)
            · exact ⟨hy.dr, hu.dr, hb.drew⟩
            replace hx := hx.dr
            replace hv := hv.dr
            generalize World.drew _ = V at hHeld hx hv ⊢
            clear hy hu hb
            refine wpAnyH_take (i := 0) (oi := ?oi196) (v := .agg z.cells) ?hi196 (by kernel_rfl) (by kernel_rfl) (by kernel_rfl) ?hQ196 ?hy196 (by assumption) ?rest196
            case hi196 => (simp only [List.getElem?_toArray, List.getElem?_cons_zero]; rfl)
            case hQ196 => exact fun _ _ _ h => h
            case hy196 => exact y_vp NY z (fun V hV => hV.1) rfl rfl
            simp only [Act.put, List.setIfInBounds_toArray, List.set_cons_zero, List.set_cons_succ]
            refine wpAnyH_take (i := 1) (oi := ?oi197) (v := .agg z.cells) ?hi197 (by kernel_rfl) (by kernel_rfl) (by kernel_rfl) ?hQ197 ?hy197 (by assumption) ?rest197
            case hi197 => (simp only [List.getElem?_toArray, List.getElem?_cons_zero, List.getElem?_cons_succ]; rfl)
            case hQ197 => exact fun _ _ _ h => h
            case hy197 => exact y_vr NV z (fun V hV => hV.2.1) rfl rfl
            simp only [Act.put, List.setIfInBounds_toArray, List.set_cons_zero, List.set_cons_succ]
            refine wpAnyH_ready (rs := [2]) (by kernel_rfl) (by simp) ?_
            refine AllReadyH.cons (o := ?oi198) ?hi198 (fun K hK => ?_) AllReadyH.nil
            case hi198 => (simp only [List.getElem?_toArray, List.getElem?_cons_zero, List.getElem?_cons_succ]; rfl)
            rw [if_pos (by rfl)]
            (with_reducible refine s_vp w.heap.size _ z hx ?_ ?_ ?_)
            · exact rfl
            · exact rfl
            intro V hnew ho
            have hH2 := hide (And.intro (hHeld.1.only ho (by omega)) (And.intro (hHeld.2.1.only ho (by omega)) (ho.bel _ _ (by omega) hHeld.2.2)))
            replace hx := hnew
            replace hv := hv.only ho (by omega)
            clear hHeld
            refine hK.out _ _ ?_ (fun hHeld => ?_)
            · exact hH2.out
            clear hK K
            clear hH2
            refine wpAnyH_ready (rs := [3]) (by kernel_rfl) (by simp) ?_
            refine AllReadyH.cons (o := ?oi199) ?hi199 (fun K hK => ?_) AllReadyH.nil
            case hi199 => (simp only [List.getElem?_toArray, List.getElem?_cons_zero, List.getElem?_cons_succ]; rfl)
            rw [if_pos (by rfl)]
            (with_reducible refine s_vr (w.heap.size + 1) _ z hv ?_ ?_ ?_)
            · exact rfl
            · exact rfl
            intro V hnew ho
            have hH2 := hide (And.intro (hHeld.1.only ho (by omega)) (And.intro (hHeld.2.1.only ho (by omega)) (ho.bel _ _ (by omega) hHeld.2.2)))
            replace hv := hnew
            replace hx := hx.only ho (by omega)
            clear hHeld
            refine hK.out _ _ ?_ (fun hHeld => ?_)
            · exact hH2.out
            clear hK K
            clear hH2
            refine wpAnyH_done (by kernel_rfl) ?_ _
            have hy := hHeld.1
            have hu := hHeld.2.1
            have hb := hHeld.2.2
            clear hHeld
            go_wp2
            go_roundw
            case rel => exact ⟨k + 1, z, by omega, by omega, by go_num, okz, hx, hv, hb⟩
            case measure => simp [intOf]; omega
          · have t0 : ((e0 : Int) == 0) = false := by simp [he]
            have t0b : (e0 == 0) = false := by simp [he]
            go_wp2
            go_roundw
            case rel => exact ⟨k + 1, x, by omega, by omega, by go_num, okx, hx, hv, hb⟩
            case measure => simp [intOf]; omega
        case b172 =>
          obtain ⟨NV, hNV⟩ : ∃ n, V.heap.size = n := ⟨_, rfl⟩
          have lNV0 : w.heap.size < NV := by have := hHeld.1.lt; omega
          have lNV1 : (w.heap.size + 1) < NV := by have := hHeld.2.1.lt; omega
          have lNV2 : NY < NV := by have := hHeld.2.2.1.lt; omega
          have lNVw : w.heap.size ≤ NV := by have := (hHeld.2.2.2).size; omega
          replace hNV := hide hNV
          rw [if_pos (by rfl)]
          (with_reducible refine s_allocv NV ?_ _ zero_vr ?_)
          · exact hNV.out
          intro V hu hb' hzY
          have hH2 := hide (And.intro (hHeld.1.bl (hNV.out ▸ hb')) (And.intro (hHeld.2.1.bl (hNV.out ▸ hb')) (And.intro (hHeld.2.2.1.bl (hNV.out ▸ hb')) (hHeld.2.2.2.trans (hb'.mono (by omega))))))
          simp only [Act.put, List.setIfInBounds_toArray, List.set_cons_zero, List.set_cons_succ]
          clear hHeld hb' hzY
          refine hK.out _ _ ?_ (fun hHeld => ?_)
          · exact hH2.out
          clear hK K hH2
          refine wpAnyH_ready (rs := [11]) (by kernel_rfl) (by simp) ?_
          refine AllReadyH.cons (o := ?oi200) ?hi200 (fun K hK => ?_) AllReadyH.nil
          case hi200 => (simp only [List.getElem?_toArray, List.getElem?_cons_zero, List.getElem?_cons_succ]; rfl)
          go_simp
          (with_reducible refine (HR.out _).mono ?_)
          rintro e V ⟨rfl, hbc⟩
          have hH2 := hide (And.intro (hHeld.1.bl hbc) (And.intro (hHeld.2.1.bl hbc) (And.intro (hHeld.2.2.1.bl hbc) (below_bl rfl hHeld.2.2.2 hbc))))
          replace hu := hu.bl hbc
          clear hHeld hbc
          go_simp
          refine hK.out _ _ ?_ (fun hHeld => ?_)
          · exact hH2.out
          clear hK K
          clear hH2
          refine wpAnyH_take (i := 12) (oi := ?oi201) (v := .tuple #[.agg z.cells, .int .i64 n, (.int .i64 (e0 : Nat))]) ?hi201 (by kernel_rfl) (by kernel_rfl) (by kernel_rfl) ?hQ201 ?hy201 (by assumption) ?rest201
          case hi201 => (simp only [List.getElem?_toArray, List.getElem?_cons_zero, List.getElem?_cons_succ]; rfl)
          case hQ201 => exact fun _ _ _ h => h
          case hy201 => exact Or.inl ⟨by rfl, by (intro w hSw; (try dsimp only at hSw); go_simp )⟩
          simp only [Act.put, List.setIfInBounds_toArray, List.set_cons_zero, List.set_cons_succ]
          refine wpAnyH_take (i := 13) (oi := ?oi202) (v := .agg z.cells) ?hi202 (by kernel_rfl) (by kernel_rfl) (by kernel_rfl) ?hQ202 ?hy202 (by assumption) ?rest202
          case hi202 => (simp only [List.getElem?_toArray, List.getElem?_cons_zero, List.getElem?_cons_succ]; rfl)
          case hQ202 => exact fun _ _ _ h => h
          case hy202 => exact Or.inl ⟨by rfl, by (intro w hSw; (try dsimp only at hSw); go_simp )⟩
          simp only [Act.put, List.setIfInBounds_toArray, List.set_cons_zero, List.set_cons_succ]
          refine wpAnyH_take (i := 14) (oi := ?oi203) (v := .int .i64 n) ?hi203 (by kernel_rfl) (by kernel_rfl) (by kernel_rfl) ?hQ203 ?hy203 (by assumption) ?rest203
          case hi203 => (simp only [List.getElem?_toArray, List.getElem?_cons_zero, List.getElem?_cons_succ]; rfl)
          case hQ203 => exact fun _ _ _ h => h
          case hy203 => exact Or.inl ⟨by rfl, by (intro w hSw; (try dsimp only at hSw); go_simp )⟩
          simp only [Act.put, List.setIfInBounds_toArray, List.set_cons_zero, List.set_cons_succ]
          refine wpAnyH_take (i := 15) (oi := ?oi204) (v := (.int .i64 (e0 : Nat))) ?hi204 (by kernel_rfl) (by kernel_rfl) (by kernel_rfl) ?hQ204 ?hy204 (by assumption) ?rest204
          case hi204 => (simp only [List.getElem?_toArray, List.getElem?_cons_zero, List.getElem?_cons_succ]; rfl)
          case hQ204 => exact fun _ _ _ h => h
          case hy204 => exact Or.inl ⟨by rfl, by (intro w hSw; (try dsimp only at hSw); go_simp )⟩
          simp only [Act.put, List.setIfInBounds_toArray, List.set_cons_zero, List.set_cons_succ]
          refine wpAnyH_ready (rs := [17]) (by kernel_rfl) (by simp) ?_
          refine AllReadyH.cons (o := ?oi205) ?hi205 (fun K hK => ?_) AllReadyH.nil
          case hi205 => (simp only [List.getElem?_toArray, List.getElem?_cons_zero, List.getElem?_cons_succ]; rfl)
          rw [if_pos (by rfl)]
          (with_reducible refine s_vr NV _ z hu ?_ ?_ ?_)
          · exact rfl
          · exact rfl
          intro V hnew ho
          have hH2 := hide (And.intro (hHeld.1.only ho (by omega)) (And.intro (hHeld.2.1.only ho (by omega)) (And.intro (hHeld.2.2.1.only ho (by omega)) (ho.bel _ _ (by omega) hHeld.2.2.2))))
          replace hu := hnew
          clear hHeld
          refine hK.out _ _ ?_ (fun hHeld => ?_)
          · exact hH2.out
          clear hK K
          clear hH2
          refine wpAnyH_take (i := 18) (oi := ?oi206) (v := .int .i64 n) ?hi206 (by kernel_rfl) (by kernel_rfl) (by kernel_rfl) ?hQ206 ?hy206 (by assumption) ?rest206
          case hi206 => (simp only [List.getElem?_toArray, List.getElem?_cons_zero, List.getElem?_cons_succ]; rfl)
          case hQ206 => exact fun _ _ _ h => h
          case hy206 => exact Or.inl ⟨by rfl, by (intro w hSw; (try dsimp only at hSw); go_simp )⟩
          simp only [Act.put, List.setIfInBounds_toArray, List.set_cons_zero, List.set_cons_succ]
          refine wpAnyH_take (i := 19) (oi := ?oi207) (v := (.int .i64 (e0 : Nat))) ?hi207 (by kernel_rfl) (by kernel_rfl) (by kernel_rfl) ?hQ207 ?hy207 (by assumption) ?rest207
          case hi207 => (simp only [List.getElem?_toArray, List.getElem?_cons_zero, List.getElem?_cons_succ]; rfl)
          case hQ207 => exact fun _ _ _ h => h
          case hy207 => exact Or.inl ⟨by rfl, by (intro w hSw; (try dsimp only at hSw); go_simp )⟩
          simp only [Act.put, List.setIfInBounds_toArray, List.set_cons_zero, List.set_cons_succ]
          refine wpAnyH_done (by kernel_rfl) ?_ _
          have hx := hHeld.1
          have hv := hHeld.2.1
          have hy := hHeld.2.2.1
          have hb := hHeld.2.2.2
          clear hHeld
          go_wp2_with (fail)
          refine wp_region_held_drew (S := (fun V => RowAt V NY z.cells 37 ∧ RowAt V NV z.cells 31 ∧ Below w.heap.size w V)) (by kernel_rfl) ?_ (fun hHeld => ?_)
          · exact ⟨hy.dr, hu.dr, hb.drew⟩
          replace hx := hx.dr
          replace hv := hv.dr
          generalize World.drew _ = V at hHeld hx hv ⊢
          clear hy hu hb
          refine wpAnyH_take (i := 0) (oi := ?oi208) (v := .int .i64 n) ?hi208 (by kernel_rfl) (by kernel_rfl) (by kernel_rfl) ?hQ208 ?hy208 (by assumption) ?rest208
          case hi208 => (simp only [List.getElem?_toArray, List.getElem?_cons_zero]; rfl)
          case hQ208 => exact fun _ _ _ h => h
          case hy208 => exact Or.inl ⟨by rfl, by (intro w hSw; (try dsimp only at hSw); go_simp )⟩
          simp only [Act.put, List.setIfInBounds_toArray, List.set_cons_zero, List.set_cons_succ]
          refine wpAnyH_take (i := 1) (oi := ?oi209) (v := .int .i64 n) ?hi209 (by kernel_rfl) (by kernel_rfl) (by kernel_rfl) ?hQ209 ?hy209 (by assumption) ?rest209
          case hi209 => (simp only [List.getElem?_toArray, List.getElem?_cons_zero, List.getElem?_cons_succ]; rfl)
          case hQ209 => exact fun _ _ _ h => h
          case hy209 => exact Or.inl ⟨by rfl, by (intro w hSw; (try dsimp only at hSw); go_simp )⟩
          simp only [Act.put, List.setIfInBounds_toArray, List.set_cons_zero, List.set_cons_succ]
          refine wpAnyH_take (i := 2) (oi := ?oi210) (v := .bool false) ?hi210 (by kernel_rfl) (by kernel_rfl) (by kernel_rfl) ?hQ210 ?hy210 (by assumption) ?rest210
          case hi210 => (simp only [List.getElem?_toArray, List.getElem?_cons_zero, List.getElem?_cons_succ]; rfl)
          case hQ210 => exact fun _ _ _ h => h
          case hy210 => exact Or.inl ⟨by rfl, by (intro w hSw; (try dsimp only at hSw); go_simp )⟩
          simp only [Act.put, List.setIfInBounds_toArray, List.set_cons_zero, List.set_cons_succ]
          refine wpAnyH_take (i := 3) (oi := ?oi211) (v := .bool false) ?hi211 (by kernel_rfl) (by kernel_rfl) (by kernel_rfl) ?hQ211 ?hy211 (by assumption) ?rest211
          case hi211 => (simp only [List.getElem?_toArray, List.getElem?_cons_zero, List.getElem?_cons_succ]; rfl)
          case hQ211 => exact fun _ _ _ h => h
          case hy211 => exact Or.inl ⟨by rfl, by (intro w hSw; (try dsimp only at hSw); go_simp )⟩
          simp only [Act.put, List.setIfInBounds_toArray, List.set_cons_zero, List.set_cons_succ]
          refine wpAnyH_take (i := 4) (oi := ?oi212) (v := en) ?hi212 (by kernel_rfl) (by kernel_rfl) (by kernel_rfl) ?hQ212 ?hy212 (by assumption) ?rest212
          case hi212 => (simp only [List.getElem?_toArray, List.getElem?_cons_zero, List.getElem?_cons_succ]; rfl)
          case hQ212 => exact fun _ _ _ h => h
          case hy212 => exact Or.inl ⟨by rfl, by (intro w hSw; (try dsimp only at hSw); go_simp )⟩
          simp only [Act.put, List.setIfInBounds_toArray, List.set_cons_zero, List.set_cons_succ]
          refine wpAnyH_take (i := 6) (oi := ?oi213) (v := .int .i64 (e0 : Nat)) ?hi213 (by kernel_rfl) (by kernel_rfl) (by kernel_rfl) ?hQ213 ?hy213 (by assumption) ?rest213
          case hi213 => (simp only [List.getElem?_toArray, List.getElem?_cons_zero, List.getElem?_cons_succ]; rfl)
          case hQ213 => exact fun _ _ _ h => h
          case hy213 => exact Or.inl ⟨by rfl, by (intro w hSw; (try dsimp only at hSw); go_simp )⟩
          simp only [Act.put, List.setIfInBounds_toArray, List.set_cons_zero, List.set_cons_succ]
          refine wpAnyH_ready (rs := [5]) (by kernel_rfl) (by simp) ?_
          refine AllReadyH.cons (o := ?oi214) ?hi214 (fun K hK => ?_) AllReadyH.nil
          case hi214 => (simp only [List.getElem?_toArray, List.getElem?_cons_zero, List.getElem?_cons_succ]; rfl)
          rw [if_pos (by rfl)]
          go_simp
          (with_reducible refine (HNE.out _ (HH.out.below hHeld.2.2)).mono ?_)
          rintro e V ⟨rfl, hbc⟩
          have hH2 := hide (And.intro (hHeld.1.bl hbc) (And.intro (hHeld.2.1.bl hbc) (below_bl rfl hHeld.2.2 hbc)))
          replace hx := hx.bl hbc
          replace hv := hv.bl hbc
          clear hHeld hbc
          go_simp
          refine hK.out _ _ ?_ (fun hHeld => ?_)
          · exact hH2.out
          clear hK K
          clear hH2
          refine wpAnyH_take (i := 7) (oi := ?oi215) (v := .bool false) ?hi215 (by kernel_rfl) (by kernel_rfl) (by kernel_rfl) ?hQ215 ?hy215 (by assumption) ?rest215
          case hi215 => (simp only [List.getElem?_toArray, List.getElem?_cons_zero, List.getElem?_cons_succ]; rfl)
          case hQ215 => exact fun _ _ _ h => h
          case hy215 => exact Or.inl ⟨by rfl, by (intro w hSw; (try dsimp only at hSw); go_simp )⟩
          simp only [Act.put, List.setIfInBounds_toArray, List.set_cons_zero, List.set_cons_succ]
          refine wpAnyH_take (i := 8) (oi := ?oi216) (v := .bool false) ?hi216 (by kernel_rfl) (by kernel_rfl) (by kernel_rfl) ?hQ216 ?hy216 (by assumption) ?rest216
          case hi216 => (simp only [List.getElem?_toArray, List.getElem?_cons_zero, List.getElem?_cons_succ]; rfl)
          case hQ216 => exact fun _ _ _ h => h
          case hy216 => exact Or.inl ⟨by rfl, by (intro w hSw; (try dsimp only at hSw); go_simp )⟩
          simp only [Act.put, List.setIfInBounds_toArray, List.set_cons_zero, List.set_cons_succ]
          refine wpAnyH_take (i := 9) (oi := ?oi217) (v := .bool false) ?hi217 (by kernel_rfl) (by kernel_rfl) (by kernel_rfl) ?hQ217 ?hy217 (by assumption) ?rest217
          case hi217 => (simp only [List.getElem?_toArray, List.getElem?_cons_zero, List.getElem?_cons_succ]; rfl)
          case hQ217 => exact fun _ _ _ h => h
          case hy217 => exact Or.inl ⟨by rfl, by (intro w hSw; (try dsimp only at hSw); go_simp )⟩
          simp only [Act.put, List.setIfInBounds_toArray, List.set_cons_zero, List.set_cons_succ]
          refine wpAnyH_take (i := 10) (oi := ?oi218) (v := .agg z.cells) ?hi218 (by kernel_rfl) (by kernel_rfl) (by kernel_rfl) ?hQ218 ?hy218 (by assumption) ?rest218
          case hi218 => (simp only [List.getElem?_toArray, List.getElem?_cons_zero, List.getElem?_cons_succ]; rfl)
          case hQ218 => exact fun _ _ _ h => h
          case hy218 => exact y_vp NY z (fun V hV => hV.1) rfl (by rfl)
          simp only [Act.put, List.setIfInBounds_toArray, List.set_cons_zero, List.set_cons_succ]
          refine wpAnyH_take (i := 11) (oi := ?oi219) (v := .agg z.cells) ?hi219 (by kernel_rfl) (by kernel_rfl) (by kernel_rfl) ?hQ219 ?hy219 (by assumption) ?rest219
          case hi219 => (simp only [List.getElem?_toArray, List.getElem?_cons_zero, List.getElem?_cons_succ]; rfl)
          case hQ219 => exact fun _ _ _ h => h
          case hy219 => exact y_vr NV z (fun V hV => hV.2.1) rfl (by rfl)
          simp only [Act.put, List.setIfInBounds_toArray, List.set_cons_zero, List.set_cons_succ]
          refine wpAnyH_ready (rs := [12]) (by kernel_rfl) (by simp) ?_
          refine AllReadyH.cons (o := ?oi220) ?hi220 (fun K hK => ?_) AllReadyH.nil
          case hi220 => (simp only [List.getElem?_toArray, List.getElem?_cons_zero, List.getElem?_cons_succ]; rfl)
          rw [if_pos (by rfl)]
          go_simp
          (with_reducible refine (HG.out _ _).mono ?_)
          rintro e V ⟨rfl, hbc⟩
          have hH2 := hide (And.intro (hHeld.1.bl hbc) (And.intro (hHeld.2.1.bl hbc) (below_bl rfl hHeld.2.2 hbc)))
          replace hx := hx.bl hbc
          replace hv := hv.bl hbc
          clear hHeld hbc
          go_simp
          refine hK.out _ _ ?_ (fun hHeld => ?_)
          · exact hH2.out
          clear hK K
          clear hH2
          refine wpAnyH_take (i := 13) (oi := ?oi221) (v := .bool false) ?hi221 (by kernel_rfl) (by kernel_rfl) (by kernel_rfl) ?hQ221 ?hy221 (by assumption) ?rest221
          case hi221 => (simp only [List.getElem?_toArray, List.getElem?_cons_zero, List.getElem?_cons_succ]; rfl)
          case hQ221 => exact fun _ _ _ h => h
          case hy221 => exact y_nev z rfl rfl (by rfl)
          simp only [Act.put, List.setIfInBounds_toArray, List.set_cons_zero, List.set_cons_succ]
          refine wpAnyH_take (i := 14) (oi := ?oi222) (v := .bool false) ?hi222 (by kernel_rfl) (by kernel_rfl) (by kernel_rfl) ?hQ222 ?hy222 (by assumption) ?rest222
          case hi222 => (simp only [List.getElem?_toArray, List.getElem?_cons_zero, List.getElem?_cons_succ]; rfl)
          case hQ222 => exact fun _ _ _ h => h
          case hy222 => exact Or.inl ⟨by rfl, by (intro w hSw; (try dsimp only at hSw); go_simp )⟩
          simp only [Act.put, List.setIfInBounds_toArray, List.set_cons_zero, List.set_cons_succ]
          refine wpAnyH_done (by kernel_rfl) ?_ _
          have hy := hHeld.1
          have hu := hHeld.2.1
          have hb := hHeld.2.2
          clear hHeld
          by_cases he : e0 = 0
          · have t0 : ((e0 : Int) == 0) = true := by simp [he]
            go_wp2_with (fail)
            refine wp_region_held_drew (S := (fun V => RowAt V NY z.cells 37 ∧ RowAt V NV z.cells 31 ∧ Below w.heap.size w V)) (by kernel_rfl) ?_ (fun hHeld => ?_)
            · exact ⟨hy.dr, hu.dr, hb.drew⟩
            replace hx := hx.dr
            replace hv := hv.dr
            generalize World.drew _ = V at hHeld hx hv ⊢
            clear hy hu hb
            refine wpAnyH_take (i := 0) (oi := ?oi223) (v := .agg z.cells) ?hi223 (by kernel_rfl) (by kernel_rfl) (by kernel_rfl) ?hQ223 ?hy223 (by assumption) ?rest223
            case hi223 => (simp only [List.getElem?_toArray, List.getElem?_cons_zero]; rfl)
            case hQ223 => exact fun _ _ _ h => h
            case hy223 => exact y_vp NY z (fun V hV => hV.1) rfl rfl
            simp only [Act.put, List.setIfInBounds_toArray, List.set_cons_zero, List.set_cons_succ]
            refine wpAnyH_take (i := 1) (oi := ?oi224) (v := .agg z.cells) ?hi224 (by kernel_rfl) (by kernel_rfl) (by kernel_rfl) ?hQ224 ?hy224 (by assumption) ?rest224
            case hi224 => (simp only [List.getElem?_toArray, List.getElem?_cons_zero, List.getElem?_cons_succ]; rfl)
            case hQ224 => exact fun _ _ _ h => h
            case hy224 => exact y_vr NV z (fun V hV => hV.2.1) rfl rfl
            simp only [Act.put, List.setIfInBounds_toArray, List.set_cons_zero, List.set_cons_succ]
            refine wpAnyH_ready (rs := [2]) (by kernel_rfl) (by simp) ?_
            refine AllReadyH.cons (o := ?oi225) ?hi225 (fun K hK => ?_) AllReadyH.nil
            case hi225 => (simp only [List.getElem?_toArray, List.getElem?_cons_zero, List.getElem?_cons_succ]; rfl)
            rw [if_pos (by rfl)]
            (with_reducible refine s_vp w.heap.size _ z hx ?_ ?_ ?_)
            · exact rfl
            · exact rfl
            intro V hnew ho
            have hH2 := hide (And.intro (hHeld.1.only ho (by omega)) (And.intro (hHeld.2.1.only ho (by omega)) (ho.bel _ _ (by omega) hHeld.2.2)))
            replace hx := hnew
            replace hv := hv.only ho (by omega)
            clear hHeld
            refine hK.out _ _ ?_ (fun hHeld => ?_)
            · exact hH2.out
            clear hK K
            clear hH2
            refine wpAnyH_ready (rs := [3]) (by kernel_rfl) (by simp) ?_
            refine AllReadyH.cons (o := ?oi226) ?hi226 (fun K hK => ?_) AllReadyH.nil
            case hi226 => (simp only [List.getElem?_toArray, List.getElem?_cons_zero, List.getElem?_cons_succ]; rfl)
            rw [if_pos (by rfl)]
            (with_reducible refine s_vr (w.heap.size + 1) _ z hv ?_ ?_ ?_)
            · exact rfl
            · exact rfl
            intro V hnew ho
            have hH2 := hide (And.intro (hHeld.1.only ho (by omega)) (And.intro (hHeld.2.1.only ho (by omega)) (ho.bel _ _ (by omega) hHeld.2.2)))
            replace hv := hnew
            replace hx := hx.only ho (by omega)
            clear hHeld
            refine hK.out _ _ ?_ (fun hHeld => ?_)
            · exact hH2.out
            clear hK K
            clear hH2
            refine wpAnyH_done (by kernel_rfl) ?_ _
            have hy := hHeld.1
            have hu := hHeld.2.1
            have hb := hHeld.2.2
            clear hHeld
            go_wp2
            go_roundw
            case rel => exact ⟨k + 1, z, by omega, by omega, by go_num, okz, hx, hv, hb⟩
            case measure => simp [intOf]; omega
          · have t0 : ((e0 : Int) == 0) = false := by simp [he]
            have t0b : (e0 == 0) = false := by simp [he]
            go_wp2
            go_roundw
            case rel => exact ⟨k + 1, x, by omega, by omega, by go_num, okx, hx, hv, hb⟩
            case measure => simp [intOf]; omega
    · by_cases hl60 : k < len
      · have lt1 : (k : Int) < (len : Int) := by omega
        have lt2 : decide ((k : Int) < 60) = false := by simp; omega
        have lt2b : decide (k < 60) = false := by simp; omega
        go_wp2_with (first | (go_at_call 20; (with_reducible refine (HS.out _ (HO.out.bl hb)).mono ?_); rintro e W ⟨rfl, hbc⟩; replace hb := below_bl rfl hb hbc))
        go_ret
        exact ⟨rfl, hb⟩
      · have lt1 : decide ((k : Int) < (len : Int)) = false := by simp; omega
        have lt1b : decide (k < len) = false := by simp; omega
        go_wp2_with (first | (go_at_call 20; (with_reducible refine (HS.out _ (HO.out.bl hb)).mono ?_); rintro e W ⟨rfl, hbc⟩; replace hb := below_bl rfl hb hbc))
        go_ret
        exact ⟨rfl, hb⟩
end Go.Proofs.YtahgacdkofmbmaaDoor
