/-
  VirtioHolds, walked.
-/
import Derived.Test.YtahgacdkofmbmaaDoorViSure
import Derived.Test.YtahgacdkofmbmaaDoorViGive
import Derived.Test.YtahgacdkofmbmaaDoorViHoldM
namespace Go.Proofs.YtahgacdkofmbmaaDoor
open Go.RowKit
set_option linter.unusedVariables false

attribute [local go_sem] V.at0 V.at1 V.at2 V.at3 V.at4 V.at5 V.at6 V.at7 V.at8 V.at9 V.at10 V.at11 V.at12 V.at13 V.at14 V.at15 V.at16 V.at17 V.at18 V.at19 V.at20 Qu.at0 Qu.at1 Qu.at2 Qu.at3 Qu.at4 Qu.at5 Qu.at6
set_option maxHeartbeats 8000000 in
set_option maxRecDepth 20000 in
theorem holds_no (s : V) (ok : s.Ok) (la : Option Addr) (len cap : Nat) (g : Nat → Nat → Nat) (w : World) (hl : PairsAt w w.heap.size la len g) (hlc : len ≤ cap) (hcm : cap ≤ 9223372036854775807) (hO : OffAt w) (hm : mayV s = false) :
    Calls Tryd.prog 6 #[.agg s.cells, .slice la len cap] w fun e w' => e = .returned (.bool true) ∧ Below w.heap.size w w' := by
  have HO := hide hO
  clear hO
  have HG := hide (fun s w => give_any s w)
  have HS := hide (fun w (hO : OffAt w) => sure_any w hO)
  have HC := hide (fun w (hO : OffAt w) => check_any s ok w hO)
  rw [hm] at HC
  replace HC : Hid (∀ w, OffAt w → Calls Tryd.prog 12 #[.agg s.cells] w fun e w' => e = .returned (.iface 65 (.int .i64 1)) ∧ Below w.heap.size w w') := HC
  go_enter Tryd.func6, Tryd.ntmps6
  go_wp2_with (first | ((with_reducible refine bx_vr w.heap.size s ?_ ?_ ?_); exact rfl; exact rfl; intro W hg hb hz) | ((with_reducible refine ld_vr w.heap.size s hg ?_ ?_ ?_); exact rfl; exact rfl) | (go_at_call 8; (with_reducible refine (HG.out _ _).mono ?_); rintro e W ⟨rfl, hbc⟩; replace hg := hg.bl hbc; replace hb := below_bl rfl hb hbc; obtain ⟨NX, hNX⟩ : ∃ n, W.heap.size = n := ⟨_, rfl⟩; have lNX : w.heap.size + 1 ≤ NX := (by (have := hg.lt; omega)); replace hNX := hide hNX) | ((with_reducible refine al_vp NX ?_ ?_); exact hNX.out; intro W hx hb' hz2; replace hg := hg.bl (hNX.out ▸ hb'); replace hb := hb.trans (hb'.mono (by omega))) | ((with_reducible refine st_vp NX _ s hx ?_ ?_ ?_); exact rfl; exact rfl; intro W hnew ho; replace hg := hg.only ho (by omega); replace hx := hnew; replace hb := ho.bel _ _ (by omega) hb) | ((with_reducible refine ld_vp NX _ hx ?_ ?_ ?_); exact rfl; exact rfl) | (go_at_call 12; (with_reducible refine (HC.out _ (HO.out.bl hb)).mono ?_); rintro e W ⟨rfl, hbc⟩; replace hg := hg.bl hbc; replace hx := hx.bl hbc; replace hb := below_bl rfl hb hbc) | (go_at_call 20; (with_reducible refine (HS.out _ (HO.out.bl hb)).mono ?_); rintro e W ⟨rfl, hbc⟩; replace hb := below_bl rfl hb hbc))
  go_ret
  exact ⟨rfl, hb⟩
set_option maxHeartbeats 8000000 in
set_option maxRecDepth 20000 in
theorem holds_yes (s : V) (ok : s.Ok) (la : Option Addr) (len cap : Nat) (g : Nat → Nat → Nat) (w : World) (hl : PairsAt w w.heap.size la len g) (hlc : len ≤ cap) (hcm : cap ≤ 9223372036854775807) (hO : OffAt w) (hm : mayV s = true) :
    Calls Tryd.prog 6 #[.agg s.cells, .slice la len cap] w fun e w' => e = .returned (.bool true) ∧ Below w.heap.size w w' := by
  have HO := hide hO
  clear hO
  have HG := hide (fun s w => give_any s w)
  have HS := hide (fun w (hO : OffAt w) => sure_any w hO)
  have HC := hide (fun w (hO : OffAt w) => check_any s ok w hO)
  rw [hm] at HC
  replace HC : Hid (∀ w, OffAt w → Calls Tryd.prog 12 #[.agg s.cells] w fun e w' => e = .returned (.nilIface) ∧ Below w.heap.size w w') := HC
  have HL := hide hl
  clear hl
  go_enter Tryd.func6, Tryd.ntmps6
  go_wp2_with (first | ((with_reducible refine bx_vr w.heap.size s ?_ ?_ ?_); exact rfl; exact rfl; intro W hg hb hz) | ((with_reducible refine ld_vr w.heap.size s hg ?_ ?_ ?_); exact rfl; exact rfl) | (go_at_call 8; (with_reducible refine (HG.out _ _).mono ?_); rintro e W ⟨rfl, hbc⟩; replace hg := hg.bl hbc; replace hb := below_bl rfl hb hbc; obtain ⟨NX, hNX⟩ : ∃ n, W.heap.size = n := ⟨_, rfl⟩; have lNX : w.heap.size + 1 ≤ NX := (by (have := hg.lt; omega)); replace hNX := hide hNX) | ((with_reducible refine al_vp NX ?_ ?_); exact hNX.out; intro W hx hb' hz2; replace hg := hg.bl (hNX.out ▸ hb'); replace hb := hb.trans (hb'.mono (by omega))) | ((with_reducible refine st_vp NX _ s hx ?_ ?_ ?_); exact rfl; exact rfl; intro W hnew ho; replace hg := hg.only ho (by omega); replace hx := hnew; replace hb := ho.bel _ _ (by omega) hb) | ((with_reducible refine ld_vp NX _ hx ?_ ?_ ?_); exact rfl; exact rfl) | (go_at_call 12; (with_reducible refine (HC.out _ (HO.out.bl hb)).mono ?_); rintro e W ⟨rfl, hbc⟩; replace hg := hg.bl hbc; replace hx := hx.bl hbc; replace hb := below_bl rfl hb hbc))
  clear hg hz hNX HC HG
  go_loopw [6] (fun iv wr => ∃ (k : Nat) (x : V), k ≤ 60 ∧ k ≤ len ∧ iv = .int .i64 (k : Nat) ∧ x.Ok ∧ mayV x = true ∧ RowAt wr NX x.cells 37 ∧ Below w.heap.size w wr) (fun iv _ => 60 - (intOf iv).toNat)
  case atStart => exact ⟨0, s, Nat.zero_le _, Nat.zero_le _, rfl, ok, hm, hx, hb⟩
  case round =>
    clear hx hb
    obtain ⟨k, x, hk, hkl, rfl, okx, hmx, hx, hb⟩ := hrel
    by_cases hlt : k < len ∧ k < 60
    · obtain ⟨hlt1, hlt2⟩ := hlt
      obtain ⟨lb, lo, rfl, hlb, hc0, hc1⟩ := HL.out.lies k hlt1
      obtain ⟨hs0, hs1⟩ := HL.out.small k hlt1
      obtain ⟨vv, hvv⟩ : ∃ a, g k 1 = a := ⟨_, rfl⟩
      obtain ⟨av, hav⟩ : ∃ a, g k 0 = a := ⟨_, rfl⟩
      rw [hvv] at hc1 hs1
      rw [hav] at hc0 hs0
      clear hvv hav
      have HW := hide (fun w (hO : OffAt w) => write_any x okx av vv hs1 w hO)
      have okz := writeV_ok okx av hs1
      have HM := hide (hold_may hmx av vv)
      generalize writeV x av vv = zb at HW okz HM
      obtain ⟨z, n, e0⟩ := zb
      simp only at HW okz HM
      obtain ⟨en, hen⟩ : ∃ v, errR e0 = v := ⟨_, rfl⟩
      rw [hen] at HW
      have HE : Hid ((e0 = 0 ∧ en = .nilIface) ∨ ∃ e1 : Nat, e1 ≠ 0 ∧ en = .iface 65 (.int .i64 (e1 : Int))) := hide (by
        by_cases h : e0 = 0
        · exact Or.inl ⟨h, by rw [← hen, h]; rfl⟩
        · exact Or.inr ⟨e0, h, by rw [← hen]; unfold errR; rw [if_neg h]⟩)
      clear hen
      have lt1 : (k : Int) < (len : Int) := by omega
      have lt2 : (k : Int) < 60 := by omega
      go_wp2_with (fail)
      refine wp_region_held_drew (S := (fun V => RowAt V NX x.cells 37 ∧ Below w.heap.size w V)) (by kernel_rfl) ?_ (fun hHeld => ?_)
      · exact ⟨hx.dr, hb.drew⟩
      generalize World.drew _ = V at hHeld  ⊢
      clear hx hb
      refine wpAnyH_take (i := 0) (oi := ?oi11) (v := .agg x.cells) ?hi11 (by kernel_rfl) (by kernel_rfl) (by kernel_rfl) ?hQ11 ?hy11 (by assumption) ?rest11
      case hi11 => (simp only [List.getElem?_toArray, List.getElem?_cons_zero]; rfl)
      case hQ11 => exact fun _ _ _ h => h
      case hy11 => exact y_vp NX x (fun V hV => hV.1) rfl rfl
      simp only [Act.put, List.setIfInBounds_toArray, List.set_cons_zero, List.set_cons_succ]
      refine wpAnyH_take (i := 1) (oi := ?oi1) (v := .slice (some ⟨lb, lo, none⟩) len cap) ?hi1 (by kernel_rfl) (by kernel_rfl) (by kernel_rfl) ?hQ1 ?hy1 (by assumption) ?rest1
      case hi1 => (simp only [List.getElem?_toArray, List.getElem?_cons_zero, List.getElem?_cons_succ]; rfl)
      case hQ1 => exact fun _ _ _ h => h
      case hy1 => exact Or.inl ⟨by rfl, by (intro w hSw; (try dsimp only at hSw); go_simp )⟩
      simp only [Act.put, List.setIfInBounds_toArray, List.set_cons_zero, List.set_cons_succ]
      refine wpAnyH_take (i := 2) (oi := ?oi2) (v := .int .i64 (k : Nat)) ?hi2 (by kernel_rfl) (by kernel_rfl) (by kernel_rfl) ?hQ2 ?hy2 (by assumption) ?rest2
      case hi2 => (simp only [List.getElem?_toArray, List.getElem?_cons_zero, List.getElem?_cons_succ]; rfl)
      case hQ2 => exact fun _ _ _ h => h
      case hy2 => exact Or.inl ⟨by rfl, by (intro w hSw; (try dsimp only at hSw); go_simp )⟩
      simp only [Act.put, List.setIfInBounds_toArray, List.set_cons_zero, List.set_cons_succ]
      refine wpAnyH_take (i := 3) (oi := ?oi3) (v := .pointer (some ⟨lb, lo + k * 2, none⟩)) ?hi3 (by kernel_rfl) (by kernel_rfl) (by kernel_rfl) ?hQ3 ?hy3 (by assumption) ?rest3
      case hi3 => (simp only [List.getElem?_toArray, List.getElem?_cons_zero, List.getElem?_cons_succ]; rfl)
      case hQ3 => exact fun _ _ _ h => h
      case hy3 => exact Or.inl ⟨by rfl, by (intro w hSw; (try dsimp only at hSw); go_simp )⟩
      simp only [Act.put, List.setIfInBounds_toArray, List.set_cons_zero, List.set_cons_succ]
      refine wpAnyH_take (i := 4) (oi := ?oi4) (v := .pointer (some ⟨lb, lo + k * 2, none⟩)) ?hi4 (by kernel_rfl) (by kernel_rfl) (by kernel_rfl) ?hQ4 ?hy4 (by assumption) ?rest4
      case hi4 => (simp only [List.getElem?_toArray, List.getElem?_cons_zero, List.getElem?_cons_succ]; rfl)
      case hQ4 => exact fun _ _ _ h => h
      case hy4 => exact Or.inl ⟨by rfl, by (intro w hSw; (try dsimp only at hSw); go_simp )⟩
      simp only [Act.put, List.setIfInBounds_toArray, List.set_cons_zero, List.set_cons_succ]
      refine wpAnyH_take (i := 5) (oi := ?oi5) (v := .int .u32 (av : Nat)) ?hi5 (by kernel_rfl) (by kernel_rfl) (by kernel_rfl) ?hQ5 ?hy5 (by assumption) ?rest5
      case hi5 => (simp only [List.getElem?_toArray, List.getElem?_cons_zero, List.getElem?_cons_succ]; rfl)
      case hQ5 => exact fun _ _ _ h => h
      case hy5 => exact y_cell lb (lo + k * 2) _ (fun V hV => (hV.2.cell (p := ⟨lb, lo + k * 2, none⟩) hlb).trans hc0) _ Tryd.underlying22 rfl rfl
      simp only [Act.put, List.setIfInBounds_toArray, List.set_cons_zero, List.set_cons_succ]
      refine wpAnyH_take (i := 6) (oi := ?oi6) (v := .slice (some ⟨lb, lo, none⟩) len cap) ?hi6 (by kernel_rfl) (by kernel_rfl) (by kernel_rfl) ?hQ6 ?hy6 (by assumption) ?rest6
      case hi6 => (simp only [List.getElem?_toArray, List.getElem?_cons_zero, List.getElem?_cons_succ]; rfl)
      case hQ6 => exact fun _ _ _ h => h
      case hy6 => exact Or.inl ⟨by rfl, by (intro w hSw; (try dsimp only at hSw); go_simp )⟩
      simp only [Act.put, List.setIfInBounds_toArray, List.set_cons_zero, List.set_cons_succ]
      refine wpAnyH_take (i := 7) (oi := ?oi7) (v := .int .i64 (k : Nat)) ?hi7 (by kernel_rfl) (by kernel_rfl) (by kernel_rfl) ?hQ7 ?hy7 (by assumption) ?rest7
      case hi7 => (simp only [List.getElem?_toArray, List.getElem?_cons_zero, List.getElem?_cons_succ]; rfl)
      case hQ7 => exact fun _ _ _ h => h
      case hy7 => exact Or.inl ⟨by rfl, by (intro w hSw; (try dsimp only at hSw); go_simp )⟩
      simp only [Act.put, List.setIfInBounds_toArray, List.set_cons_zero, List.set_cons_succ]
      refine wpAnyH_take (i := 8) (oi := ?oi8) (v := .pointer (some ⟨lb, lo + k * 2, none⟩)) ?hi8 (by kernel_rfl) (by kernel_rfl) (by kernel_rfl) ?hQ8 ?hy8 (by assumption) ?rest8
      case hi8 => (simp only [List.getElem?_toArray, List.getElem?_cons_zero, List.getElem?_cons_succ]; rfl)
      case hQ8 => exact fun _ _ _ h => h
      case hy8 => exact Or.inl ⟨by rfl, by (intro w hSw; (try dsimp only at hSw); go_simp )⟩
      simp only [Act.put, List.setIfInBounds_toArray, List.set_cons_zero, List.set_cons_succ]
      refine wpAnyH_take (i := 9) (oi := ?oi9) (v := .pointer (some ⟨lb, lo + k * 2 + 1, none⟩)) ?hi9 (by kernel_rfl) (by kernel_rfl) (by kernel_rfl) ?hQ9 ?hy9 (by assumption) ?rest9
      case hi9 => (simp only [List.getElem?_toArray, List.getElem?_cons_zero, List.getElem?_cons_succ]; rfl)
      case hQ9 => exact fun _ _ _ h => h
      case hy9 => exact Or.inl ⟨by rfl, by (intro w hSw; (try dsimp only at hSw); go_simp )⟩
      simp only [Act.put, List.setIfInBounds_toArray, List.set_cons_zero, List.set_cons_succ]
      refine wpAnyH_take (i := 10) (oi := ?oi10) (v := .int .u32 (vv : Nat)) ?hi10 (by kernel_rfl) (by kernel_rfl) (by kernel_rfl) ?hQ10 ?hy10 (by assumption) ?rest10
      case hi10 => (simp only [List.getElem?_toArray, List.getElem?_cons_zero, List.getElem?_cons_succ]; rfl)
      case hQ10 => exact fun _ _ _ h => h
      case hy10 => exact y_cell lb (lo + k * 2 + 1) _ (fun V hV => (hV.2.cell (p := ⟨lb, lo + k * 2 + 1, none⟩) hlb).trans hc1) _ Tryd.underlying22 rfl rfl
      simp only [Act.put, List.setIfInBounds_toArray, List.set_cons_zero, List.set_cons_succ]
      refine wpAnyH_ready (rs := [11, 16]) (by kernel_rfl) (by simp) ?_
      refine AllReadyH.cons (o := ?oi12) ?hi12 (fun K hK => ?b12) (AllReadyH.cons (o := ?oi13) ?hi13 (fun K hK => ?b13) AllReadyH.nil)
      case hi12 => (simp only [List.getElem?_toArray, List.getElem?_cons_zero, List.getElem?_cons_succ]; rfl)
      case hi13 => (simp only [List.getElem?_toArray, List.getElem?_cons_zero, List.getElem?_cons_succ]; rfl)
      case b12 =>
        go_simp
        (with_reducible refine (HW.out _ (HO.out.bl hHeld.2)).mono ?_)
        rintro e V ⟨rfl, hbc⟩
        have hH2 := hide (And.intro (hHeld.1.bl hbc) (below_bl rfl hHeld.2 hbc))
        clear hHeld hbc
        go_simp
        refine hK.out _ _ ?_ (fun hHeld => ?_)
        · exact hH2.out
        clear hK K hH2
        refine wpAnyH_take (i := 12) (oi := ?oi14) (v := .tuple #[.agg z.cells, .int .i64 n, en]) ?hi14 (by kernel_rfl) (by kernel_rfl) (by kernel_rfl) ?hQ14 ?hy14 (by assumption) ?rest14
        case hi14 => (simp only [List.getElem?_toArray, List.getElem?_cons_zero, List.getElem?_cons_succ]; rfl)
        case hQ14 => exact fun _ _ _ h => h
        case hy14 => exact Or.inl ⟨by rfl, by (intro w hSw; (try dsimp only at hSw); go_simp )⟩
        simp only [Act.put, List.setIfInBounds_toArray, List.set_cons_zero, List.set_cons_succ]
        refine wpAnyH_take (i := 13) (oi := ?oi15) (v := .agg z.cells) ?hi15 (by kernel_rfl) (by kernel_rfl) (by kernel_rfl) ?hQ15 ?hy15 (by assumption) ?rest15
        case hi15 => (simp only [List.getElem?_toArray, List.getElem?_cons_zero, List.getElem?_cons_succ]; rfl)
        case hQ15 => exact fun _ _ _ h => h
        case hy15 => exact Or.inl ⟨by rfl, by (intro w hSw; (try dsimp only at hSw); go_simp )⟩
        simp only [Act.put, List.setIfInBounds_toArray, List.set_cons_zero, List.set_cons_succ]
        refine wpAnyH_take (i := 14) (oi := ?oi16) (v := .int .i64 n) ?hi16 (by kernel_rfl) (by kernel_rfl) (by kernel_rfl) ?hQ16 ?hy16 (by assumption) ?rest16
        case hi16 => (simp only [List.getElem?_toArray, List.getElem?_cons_zero, List.getElem?_cons_succ]; rfl)
        case hQ16 => exact fun _ _ _ h => h
        case hy16 => exact Or.inl ⟨by rfl, by (intro w hSw; (try dsimp only at hSw); go_simp )⟩
        simp only [Act.put, List.setIfInBounds_toArray, List.set_cons_zero, List.set_cons_succ]
        refine wpAnyH_take (i := 15) (oi := ?oi17) (v := en) ?hi17 (by kernel_rfl) (by kernel_rfl) (by kernel_rfl) ?hQ17 ?hy17 (by assumption) ?rest17
        case hi17 => (simp only [List.getElem?_toArray, List.getElem?_cons_zero, List.getElem?_cons_succ]; rfl)
        case hQ17 => exact fun _ _ _ h => h
        case hy17 => exact Or.inl ⟨by rfl, by (intro w hSw; (try dsimp only at hSw); go_simp )⟩
        simp only [Act.put, List.setIfInBounds_toArray, List.set_cons_zero, List.set_cons_succ]
        refine wpAnyH_ready (rs := [16]) (by kernel_rfl) (by simp) ?_
        refine AllReadyH.cons (o := ?oi18) ?hi18 (fun K hK => ?_) AllReadyH.nil
        case hi18 => (simp only [List.getElem?_toArray, List.getElem?_cons_zero, List.getElem?_cons_succ]; rfl)
        obtain ⟨NY, hNY⟩ : ∃ n, V.heap.size = n := ⟨_, rfl⟩
        have lNY0 : NX < NY := by have := hHeld.1.lt; omega
        have lNYw : w.heap.size ≤ NY := by have := (hHeld.2).size; omega
        replace hNY := hide hNY
        rw [if_pos (by rfl)]
        (with_reducible refine s_allocv NY ?_ _ zero_vp ?_)
        · exact hNY.out
        intro V hy hb' hzY
        have hH2 := hide (And.intro (hHeld.1.bl (hNY.out ▸ hb')) (hHeld.2.trans (hb'.mono (by omega))))
        simp only [Act.put, List.setIfInBounds_toArray, List.set_cons_zero, List.set_cons_succ]
        clear hHeld hb' hzY
        refine hK.out _ _ ?_ (fun hHeld => ?_)
        · exact hH2.out
        clear hK K
        clear hH2
        refine wpAnyH_ready (rs := [17]) (by kernel_rfl) (by simp) ?_
        refine AllReadyH.cons (o := ?oi19) ?hi19 (fun K hK => ?_) AllReadyH.nil
        case hi19 => (simp only [List.getElem?_toArray, List.getElem?_cons_zero, List.getElem?_cons_succ]; rfl)
        rw [if_pos (by rfl)]
        (with_reducible refine s_vp NY _ z hy ?_ ?_ ?_)
        · exact rfl
        · exact rfl
        intro V hnew ho
        have hH2 := hide (And.intro (hHeld.1.only ho (by omega)) (ho.bel _ _ (by omega) hHeld.2))
        replace hy := hnew
        clear hHeld
        refine hK.out _ _ ?_ (fun hHeld => ?_)
        · exact hH2.out
        clear hK K
        clear hH2
        refine wpAnyH_take (i := 18) (oi := ?oi20) (v := .int .i64 n) ?hi20 (by kernel_rfl) (by kernel_rfl) (by kernel_rfl) ?hQ20 ?hy20 (by assumption) ?rest20
        case hi20 => (simp only [List.getElem?_toArray, List.getElem?_cons_zero, List.getElem?_cons_succ]; rfl)
        case hQ20 => exact fun _ _ _ h => h
        case hy20 => exact Or.inl ⟨by rfl, by (intro w hSw; (try dsimp only at hSw); go_simp )⟩
        simp only [Act.put, List.setIfInBounds_toArray, List.set_cons_zero, List.set_cons_succ]
        refine wpAnyH_take (i := 19) (oi := ?oi21) (v := en) ?hi21 (by kernel_rfl) (by kernel_rfl) (by kernel_rfl) ?hQ21 ?hy21 (by assumption) ?rest21
        case hi21 => (simp only [List.getElem?_toArray, List.getElem?_cons_zero, List.getElem?_cons_succ]; rfl)
        case hQ21 => exact fun _ _ _ h => h
        case hy21 => exact Or.inl ⟨by rfl, by (intro w hSw; (try dsimp only at hSw); go_simp )⟩
        simp only [Act.put, List.setIfInBounds_toArray, List.set_cons_zero, List.set_cons_succ]
        refine wpAnyH_done (by kernel_rfl) ?_ _
        have hx := hHeld.1
        have hb := hHeld.2
        clear hHeld
        have fy := hy.cell
        rcases HE.out with ⟨rfl, rfl⟩ | ⟨e1, he1, rfl⟩
        · have HMZ := hide (HM.out rfl)
          have HCZ : Hid (∀ w, OffAt w → Calls Tryd.prog 12 #[.agg z.cells] w fun e w' => e = .returned .nilIface ∧ Below w.heap.size w w') := hide (fun w hO => by
            have h := check_any z okz w hO
            rw [HMZ.out.1] at h
            exact h)
          have HLZ := hide (fun w => live_any z okz w)
          rcases HMZ.out.2.ok with e9 | ⟨e9, hr0, hlv, hck⟩ | ⟨e9, hr0, hlv, hck⟩
          · subst e9
            cases hlv : liveV z with
            | false =>
              rw [hlv] at HLZ
              go_wp2_with (first | ((with_reducible refine ld_vp NY _ hy ?_ ?_ ?_); exact rfl; exact rfl) | (go_at_call 12; (with_reducible refine (HCZ.out _ (HO.out.bl hb)).mono ?_); rintro e W ⟨rfl, hbc⟩; replace hx := hx.bl hbc; replace hy := hy.bl hbc; replace fy := hy.cell; replace hb := below_bl rfl hb hbc) | (go_at_call 14; (with_reducible refine (HLZ.out _).mono ?_); rintro e W ⟨rfl, hbc⟩; replace hx := hx.bl hbc; replace hy := hy.bl hbc; replace fy := hy.cell; replace hb := below_bl rfl hb hbc) | ((with_reducible refine st_vp NX _ z hx ?_ ?_ ?_); exact rfl; exact rfl; intro W hnew ho; replace hy := hy.only ho (by omega); replace hx := hnew; replace fy := hy.cell; replace hb := ho.bel _ _ (by omega) hb) | (go_at_call 20; (with_reducible refine (HS.out _ (HO.out.bl hb)).mono ?_); rintro e W ⟨rfl, hbc⟩; replace hb := below_bl rfl hb hbc))
              go_roundw
              case rel => exact ⟨k + 1, z, by omega, by omega, by go_num, okz, HMZ.out.1, hx, hb⟩
              case measure => simp [intOf]; omega
            | true =>
              have hd := live_set ((mayV_iff z).1 HMZ.out.1) hlv
              have d0 : ((z.d0 : Int) != 0) = false := by simp [hd.1]
              have d1 : ((z.d1 : Int) != 1) = false := by rw [hd.2]; rfl
              clear hd
              rw [hlv] at HLZ
              go_wp2_with (first | ((with_reducible refine ld_vp NY _ hy ?_ ?_ ?_); exact rfl; exact rfl) | (go_at_call 12; (with_reducible refine (HCZ.out _ (HO.out.bl hb)).mono ?_); rintro e W ⟨rfl, hbc⟩; replace hx := hx.bl hbc; replace hy := hy.bl hbc; replace fy := hy.cell; replace hb := below_bl rfl hb hbc) | (go_at_call 14; (with_reducible refine (HLZ.out _).mono ?_); rintro e W ⟨rfl, hbc⟩; replace hx := hx.bl hbc; replace hy := hy.bl hbc; replace fy := hy.cell; replace hb := below_bl rfl hb hbc) | ((with_reducible refine st_vp NX _ z hx ?_ ?_ ?_); exact rfl; exact rfl; intro W hnew ho; replace hy := hy.only ho (by omega); replace hx := hnew; replace fy := hy.cell; replace hb := ho.bel _ _ (by omega) hb) | (go_at_call 20; (with_reducible refine (HS.out _ (HO.out.bl hb)).mono ?_); rintro e W ⟨rfl, hbc⟩; replace hb := below_bl rfl hb hbc))
              go_roundw
              case rel => exact ⟨k + 1, z, by omega, by omega, by go_num, okz, HMZ.out.1, hx, hb⟩
              case measure => simp [intOf]; omega
          · subst e9
            have hd := live_set ((mayV_iff z).1 HMZ.out.1) hlv
            have d0 : ((z.d0 : Int) != 0) = false := by simp [hd.1]
            have d1 : ((z.d1 : Int) != 1) = false := by rw [hd.2]; rfl
            clear hd
            rw [hlv] at HLZ
            have HR0 : Hid (∀ w, Calls Tryd.prog 23 #[.agg z.q0.r.cells] w fun e w' => e = .returned .nilIface ∧ Below w.heap.size w w') := hide (fun w => by
              have h := rcheck_any z.q0.r okz.q0 w
              rw [hck] at h
              exact h)
            go_wp2_with (first | ((with_reducible refine ld_vp NY _ hy ?_ ?_ ?_); exact rfl; exact rfl) | (go_at_call 12; (with_reducible refine (HCZ.out _ (HO.out.bl hb)).mono ?_); rintro e W ⟨rfl, hbc⟩; replace hx := hx.bl hbc; replace hy := hy.bl hbc; replace fy := hy.cell; replace hb := below_bl rfl hb hbc) | (go_at_call 14; (with_reducible refine (HLZ.out _).mono ?_); rintro e W ⟨rfl, hbc⟩; replace hx := hx.bl hbc; replace hy := hy.bl hbc; replace fy := hy.cell; replace hb := below_bl rfl hb hbc) | ((with_reducible refine ld_r0p NY _ _ hy ?_ ?_ ?_); exact rfl; exact rfl) | (go_at_call 23; (with_reducible refine (HR0.out _).mono ?_); rintro e W ⟨rfl, hbc⟩; replace hx := hx.bl hbc; replace hy := hy.bl hbc; replace fy := hy.cell; replace hb := below_bl rfl hb hbc) | ((with_reducible refine st_vp NX _ z hx ?_ ?_ ?_); exact rfl; exact rfl; intro W hnew ho; replace hy := hy.only ho (by omega); replace hx := hnew; replace fy := hy.cell; replace hb := ho.bel _ _ (by omega) hb) | (go_at_call 20; (with_reducible refine (HS.out _ (HO.out.bl hb)).mono ?_); rintro e W ⟨rfl, hbc⟩; replace hb := below_bl rfl hb hbc))
            go_roundw
            case rel => exact ⟨k + 1, z, by omega, by omega, by go_num, okz, HMZ.out.1, hx, hb⟩
            case measure => simp [intOf]; omega
          · subst e9
            have hd := live_set ((mayV_iff z).1 HMZ.out.1) hlv
            have d0 : ((z.d0 : Int) != 0) = false := by simp [hd.1]
            have d1 : ((z.d1 : Int) != 1) = false := by rw [hd.2]; rfl
            clear hd
            rw [hlv] at HLZ
            have HR1 : Hid (∀ w, Calls Tryd.prog 23 #[.agg z.q1.r.cells] w fun e w' => e = .returned .nilIface ∧ Below w.heap.size w w') := hide (fun w => by
              have h := rcheck_any z.q1.r okz.q1 w
              rw [hck] at h
              exact h)
            go_wp2_with (first | ((with_reducible refine ld_vp NY _ hy ?_ ?_ ?_); exact rfl; exact rfl) | (go_at_call 12; (with_reducible refine (HCZ.out _ (HO.out.bl hb)).mono ?_); rintro e W ⟨rfl, hbc⟩; replace hx := hx.bl hbc; replace hy := hy.bl hbc; replace fy := hy.cell; replace hb := below_bl rfl hb hbc) | (go_at_call 14; (with_reducible refine (HLZ.out _).mono ?_); rintro e W ⟨rfl, hbc⟩; replace hx := hx.bl hbc; replace hy := hy.bl hbc; replace fy := hy.cell; replace hb := below_bl rfl hb hbc) | ((with_reducible refine ld_r1p NY _ _ hy ?_ ?_ ?_); exact rfl; exact rfl) | (go_at_call 23; (with_reducible refine (HR1.out _).mono ?_); rintro e W ⟨rfl, hbc⟩; replace hx := hx.bl hbc; replace hy := hy.bl hbc; replace fy := hy.cell; replace hb := below_bl rfl hb hbc) | ((with_reducible refine st_vp NX _ z hx ?_ ?_ ?_); exact rfl; exact rfl; intro W hnew ho; replace hy := hy.only ho (by omega); replace hx := hnew; replace fy := hy.cell; replace hb := ho.bel _ _ (by omega) hb) | (go_at_call 20; (with_reducible refine (HS.out _ (HO.out.bl hb)).mono ?_); rintro e W ⟨rfl, hbc⟩; replace hb := below_bl rfl hb hbc))
            go_roundw
            case rel => exact ⟨k + 1, z, by omega, by omega, by go_num, okz, HMZ.out.1, hx, hb⟩
            case measure => simp [intOf]; omega
        · go_wp2_with (first | (go_at_call 20; (with_reducible refine (HS.out _ (HO.out.bl hb)).mono ?_); rintro e W ⟨rfl, hbc⟩; replace hb := below_bl rfl hb hbc))
          go_roundw
          case rel => exact ⟨k + 1, x, by omega, by omega, by go_num, okx, hmx, hx, hb⟩
          case measure => simp [intOf]; omega
      case b13 =>
        obtain ⟨NY, hNY⟩ : ∃ n, V.heap.size = n := ⟨_, rfl⟩
        have lNY0 : NX < NY := by have := hHeld.1.lt; omega
        have lNYw : w.heap.size ≤ NY := by have := (hHeld.2).size; omega
        replace hNY := hide hNY
        rw [if_pos (by rfl)]
        (with_reducible refine s_allocv NY ?_ _ zero_vp ?_)
        · exact hNY.out
        intro V hy hb' hzY
        have hH2 := hide (And.intro (hHeld.1.bl (hNY.out ▸ hb')) (hHeld.2.trans (hb'.mono (by omega))))
        simp only [Act.put, List.setIfInBounds_toArray, List.set_cons_zero, List.set_cons_succ]
        clear hHeld hb' hzY
        refine hK.out _ _ ?_ (fun hHeld => ?_)
        · exact hH2.out
        clear hK K hH2
        refine wpAnyH_ready (rs := [11]) (by kernel_rfl) (by simp) ?_
        refine AllReadyH.cons (o := ?oi22) ?hi22 (fun K hK => ?_) AllReadyH.nil
        case hi22 => (simp only [List.getElem?_toArray, List.getElem?_cons_zero, List.getElem?_cons_succ]; rfl)
        go_simp
        (with_reducible refine (HW.out _ (HO.out.bl hHeld.2)).mono ?_)
        rintro e V ⟨rfl, hbc⟩
        have hH2 := hide (And.intro (hHeld.1.bl hbc) (below_bl rfl hHeld.2 hbc))
        replace hy := hy.bl hbc
        clear hHeld hbc
        go_simp
        refine hK.out _ _ ?_ (fun hHeld => ?_)
        · exact hH2.out
        clear hK K
        clear hH2
        refine wpAnyH_take (i := 12) (oi := ?oi23) (v := .tuple #[.agg z.cells, .int .i64 n, en]) ?hi23 (by kernel_rfl) (by kernel_rfl) (by kernel_rfl) ?hQ23 ?hy23 (by assumption) ?rest23
        case hi23 => (simp only [List.getElem?_toArray, List.getElem?_cons_zero, List.getElem?_cons_succ]; rfl)
        case hQ23 => exact fun _ _ _ h => h
        case hy23 => exact Or.inl ⟨by rfl, by (intro w hSw; (try dsimp only at hSw); go_simp )⟩
        simp only [Act.put, List.setIfInBounds_toArray, List.set_cons_zero, List.set_cons_succ]
        refine wpAnyH_take (i := 13) (oi := ?oi24) (v := .agg z.cells) ?hi24 (by kernel_rfl) (by kernel_rfl) (by kernel_rfl) ?hQ24 ?hy24 (by assumption) ?rest24
        case hi24 => (simp only [List.getElem?_toArray, List.getElem?_cons_zero, List.getElem?_cons_succ]; rfl)
        case hQ24 => exact fun _ _ _ h => h
        case hy24 => exact Or.inl ⟨by rfl, by (intro w hSw; (try dsimp only at hSw); go_simp )⟩
        simp only [Act.put, List.setIfInBounds_toArray, List.set_cons_zero, List.set_cons_succ]
        refine wpAnyH_take (i := 14) (oi := ?oi25) (v := .int .i64 n) ?hi25 (by kernel_rfl) (by kernel_rfl) (by kernel_rfl) ?hQ25 ?hy25 (by assumption) ?rest25
        case hi25 => (simp only [List.getElem?_toArray, List.getElem?_cons_zero, List.getElem?_cons_succ]; rfl)
        case hQ25 => exact fun _ _ _ h => h
        case hy25 => exact Or.inl ⟨by rfl, by (intro w hSw; (try dsimp only at hSw); go_simp )⟩
        simp only [Act.put, List.setIfInBounds_toArray, List.set_cons_zero, List.set_cons_succ]
        refine wpAnyH_take (i := 15) (oi := ?oi26) (v := en) ?hi26 (by kernel_rfl) (by kernel_rfl) (by kernel_rfl) ?hQ26 ?hy26 (by assumption) ?rest26
        case hi26 => (simp only [List.getElem?_toArray, List.getElem?_cons_zero, List.getElem?_cons_succ]; rfl)
        case hQ26 => exact fun _ _ _ h => h
        case hy26 => exact Or.inl ⟨by rfl, by (intro w hSw; (try dsimp only at hSw); go_simp )⟩
        simp only [Act.put, List.setIfInBounds_toArray, List.set_cons_zero, List.set_cons_succ]
        refine wpAnyH_ready (rs := [17]) (by kernel_rfl) (by simp) ?_
        refine AllReadyH.cons (o := ?oi27) ?hi27 (fun K hK => ?_) AllReadyH.nil
        case hi27 => (simp only [List.getElem?_toArray, List.getElem?_cons_zero, List.getElem?_cons_succ]; rfl)
        rw [if_pos (by rfl)]
        (with_reducible refine s_vp NY _ z hy ?_ ?_ ?_)
        · exact rfl
        · exact rfl
        intro V hnew ho
        have hH2 := hide (And.intro (hHeld.1.only ho (by omega)) (ho.bel _ _ (by omega) hHeld.2))
        replace hy := hnew
        clear hHeld
        refine hK.out _ _ ?_ (fun hHeld => ?_)
        · exact hH2.out
        clear hK K
        clear hH2
        refine wpAnyH_take (i := 18) (oi := ?oi28) (v := .int .i64 n) ?hi28 (by kernel_rfl) (by kernel_rfl) (by kernel_rfl) ?hQ28 ?hy28 (by assumption) ?rest28
        case hi28 => (simp only [List.getElem?_toArray, List.getElem?_cons_zero, List.getElem?_cons_succ]; rfl)
        case hQ28 => exact fun _ _ _ h => h
        case hy28 => exact Or.inl ⟨by rfl, by (intro w hSw; (try dsimp only at hSw); go_simp )⟩
        simp only [Act.put, List.setIfInBounds_toArray, List.set_cons_zero, List.set_cons_succ]
        refine wpAnyH_take (i := 19) (oi := ?oi29) (v := en) ?hi29 (by kernel_rfl) (by kernel_rfl) (by kernel_rfl) ?hQ29 ?hy29 (by assumption) ?rest29
        case hi29 => (simp only [List.getElem?_toArray, List.getElem?_cons_zero, List.getElem?_cons_succ]; rfl)
        case hQ29 => exact fun _ _ _ h => h
        case hy29 => exact Or.inl ⟨by rfl, by (intro w hSw; (try dsimp only at hSw); go_simp )⟩
        simp only [Act.put, List.setIfInBounds_toArray, List.set_cons_zero, List.set_cons_succ]
        refine wpAnyH_done (by kernel_rfl) ?_ _
        have hx := hHeld.1
        have hb := hHeld.2
        clear hHeld
        have fy := hy.cell
        rcases HE.out with ⟨rfl, rfl⟩ | ⟨e1, he1, rfl⟩
        · have HMZ := hide (HM.out rfl)
          have HCZ : Hid (∀ w, OffAt w → Calls Tryd.prog 12 #[.agg z.cells] w fun e w' => e = .returned .nilIface ∧ Below w.heap.size w w') := hide (fun w hO => by
            have h := check_any z okz w hO
            rw [HMZ.out.1] at h
            exact h)
          have HLZ := hide (fun w => live_any z okz w)
          rcases HMZ.out.2.ok with e9 | ⟨e9, hr0, hlv, hck⟩ | ⟨e9, hr0, hlv, hck⟩
          · subst e9
            cases hlv : liveV z with
            | false =>
              rw [hlv] at HLZ
              go_wp2_with (first | ((with_reducible refine ld_vp NY _ hy ?_ ?_ ?_); exact rfl; exact rfl) | (go_at_call 12; (with_reducible refine (HCZ.out _ (HO.out.bl hb)).mono ?_); rintro e W ⟨rfl, hbc⟩; replace hx := hx.bl hbc; replace hy := hy.bl hbc; replace fy := hy.cell; replace hb := below_bl rfl hb hbc) | (go_at_call 14; (with_reducible refine (HLZ.out _).mono ?_); rintro e W ⟨rfl, hbc⟩; replace hx := hx.bl hbc; replace hy := hy.bl hbc; replace fy := hy.cell; replace hb := below_bl rfl hb hbc) | ((with_reducible refine st_vp NX _ z hx ?_ ?_ ?_); exact rfl; exact rfl; intro W hnew ho; replace hy := hy.only ho (by omega); replace hx := hnew; replace fy := hy.cell; replace hb := ho.bel _ _ (by omega) hb) | (go_at_call 20; (with_reducible refine (HS.out _ (HO.out.bl hb)).mono ?_); rintro e W ⟨rfl, hbc⟩; replace hb := below_bl rfl hb hbc))
              go_roundw
              case rel => exact ⟨k + 1, z, by omega, by omega, by go_num, okz, HMZ.out.1, hx, hb⟩
              case measure => simp [intOf]; omega
            | true =>
              have hd := live_set ((mayV_iff z).1 HMZ.out.1) hlv
              have d0 : ((z.d0 : Int) != 0) = false := by simp [hd.1]
              have d1 : ((z.d1 : Int) != 1) = false := by rw [hd.2]; rfl
              clear hd
              rw [hlv] at HLZ
              go_wp2_with (first | ((with_reducible refine ld_vp NY _ hy ?_ ?_ ?_); exact rfl; exact rfl) | (go_at_call 12; (with_reducible refine (HCZ.out _ (HO.out.bl hb)).mono ?_); rintro e W ⟨rfl, hbc⟩; replace hx := hx.bl hbc; replace hy := hy.bl hbc; replace fy := hy.cell; replace hb := below_bl rfl hb hbc) | (go_at_call 14; (with_reducible refine (HLZ.out _).mono ?_); rintro e W ⟨rfl, hbc⟩; replace hx := hx.bl hbc; replace hy := hy.bl hbc; replace fy := hy.cell; replace hb := below_bl rfl hb hbc) | ((with_reducible refine st_vp NX _ z hx ?_ ?_ ?_); exact rfl; exact rfl; intro W hnew ho; replace hy := hy.only ho (by omega); replace hx := hnew; replace fy := hy.cell; replace hb := ho.bel _ _ (by omega) hb) | (go_at_call 20; (with_reducible refine (HS.out _ (HO.out.bl hb)).mono ?_); rintro e W ⟨rfl, hbc⟩; replace hb := below_bl rfl hb hbc))
              go_roundw
              case rel => exact ⟨k + 1, z, by omega, by omega, by go_num, okz, HMZ.out.1, hx, hb⟩
              case measure => simp [intOf]; omega
          · subst e9
            have hd := live_set ((mayV_iff z).1 HMZ.out.1) hlv
            have d0 : ((z.d0 : Int) != 0) = false := by simp [hd.1]
            have d1 : ((z.d1 : Int) != 1) = false := by rw [hd.2]; rfl
            clear hd
            rw [hlv] at HLZ
            have HR0 : Hid (∀ w, Calls Tryd.prog 23 #[.agg z.q0.r.cells] w fun e w' => e = .returned .nilIface ∧ Below w.heap.size w w') := hide (fun w => by
              have h := rcheck_any z.q0.r okz.q0 w
              rw [hck] at h
              exact h)
            go_wp2_with (first | ((with_reducible refine ld_vp NY _ hy ?_ ?_ ?_); exact rfl; exact rfl) | (go_at_call 12; (with_reducible refine (HCZ.out _ (HO.out.bl hb)).mono ?_); rintro e W ⟨rfl, hbc⟩; replace hx := hx.bl hbc; replace hy := hy.bl hbc; replace fy := hy.cell; replace hb := below_bl rfl hb hbc) | (go_at_call 14; (with_reducible refine (HLZ.out _).mono ?_); rintro e W ⟨rfl, hbc⟩; replace hx := hx.bl hbc; replace hy := hy.bl hbc; replace fy := hy.cell; replace hb := below_bl rfl hb hbc) | ((with_reducible refine ld_r0p NY _ _ hy ?_ ?_ ?_); exact rfl; exact rfl) | (go_at_call 23; (with_reducible refine (HR0.out _).mono ?_); rintro e W ⟨rfl, hbc⟩; replace hx := hx.bl hbc; replace hy := hy.bl hbc; replace fy := hy.cell; replace hb := below_bl rfl hb hbc) | ((with_reducible refine st_vp NX _ z hx ?_ ?_ ?_); exact rfl; exact rfl; intro W hnew ho; replace hy := hy.only ho (by omega); replace hx := hnew; replace fy := hy.cell; replace hb := ho.bel _ _ (by omega) hb) | (go_at_call 20; (with_reducible refine (HS.out _ (HO.out.bl hb)).mono ?_); rintro e W ⟨rfl, hbc⟩; replace hb := below_bl rfl hb hbc))
            go_roundw
            case rel => exact ⟨k + 1, z, by omega, by omega, by go_num, okz, HMZ.out.1, hx, hb⟩
            case measure => simp [intOf]; omega
          · subst e9
            have hd := live_set ((mayV_iff z).1 HMZ.out.1) hlv
            have d0 : ((z.d0 : Int) != 0) = false := by simp [hd.1]
            have d1 : ((z.d1 : Int) != 1) = false := by rw [hd.2]; rfl
            clear hd
            rw [hlv] at HLZ
            have HR1 : Hid (∀ w, Calls Tryd.prog 23 #[.agg z.q1.r.cells] w fun e w' => e = .returned .nilIface ∧ Below w.heap.size w w') := hide (fun w => by
              have h := rcheck_any z.q1.r okz.q1 w
              rw [hck] at h
              exact h)
            go_wp2_with (first | ((with_reducible refine ld_vp NY _ hy ?_ ?_ ?_); exact rfl; exact rfl) | (go_at_call 12; (with_reducible refine (HCZ.out _ (HO.out.bl hb)).mono ?_); rintro e W ⟨rfl, hbc⟩; replace hx := hx.bl hbc; replace hy := hy.bl hbc; replace fy := hy.cell; replace hb := below_bl rfl hb hbc) | (go_at_call 14; (with_reducible refine (HLZ.out _).mono ?_); rintro e W ⟨rfl, hbc⟩; replace hx := hx.bl hbc; replace hy := hy.bl hbc; replace fy := hy.cell; replace hb := below_bl rfl hb hbc) | ((with_reducible refine ld_r1p NY _ _ hy ?_ ?_ ?_); exact rfl; exact rfl) | (go_at_call 23; (with_reducible refine (HR1.out _).mono ?_); rintro e W ⟨rfl, hbc⟩; replace hx := hx.bl hbc; replace hy := hy.bl hbc; replace fy := hy.cell; replace hb := below_bl rfl hb hbc) | ((with_reducible refine st_vp NX _ z hx ?_ ?_ ?_); exact rfl; exact rfl; intro W hnew ho; replace hy := hy.only ho (by omega); replace hx := hnew; replace fy := hy.cell; replace hb := ho.bel _ _ (by omega) hb) | (go_at_call 20; (with_reducible refine (HS.out _ (HO.out.bl hb)).mono ?_); rintro e W ⟨rfl, hbc⟩; replace hb := below_bl rfl hb hbc))
            go_roundw
            case rel => exact ⟨k + 1, z, by omega, by omega, by go_num, okz, HMZ.out.1, hx, hb⟩
            case measure => simp [intOf]; omega
        · go_wp2_with (first | (go_at_call 20; (with_reducible refine (HS.out _ (HO.out.bl hb)).mono ?_); rintro e W ⟨rfl, hbc⟩; replace hb := below_bl rfl hb hbc))
          go_roundw
          case rel => exact ⟨k + 1, x, by omega, by omega, by go_num, okx, hmx, hx, hb⟩
          case measure => simp [intOf]; omega
    · have HWZ : Hid (∀ w, OffAt w → Calls Tryd.prog 21 #[.agg x.cells, .int .u32 112, .int .u32 0] w fun e w' => e = .returned (.tuple #[.agg zeroV.cells, .int .i64 (-1), .nilIface]) ∧ Below w.heap.size w w') := hide (fun w hO => by
        have h := write_any x okx 112 0 (by decide) w hO
        rw [reset_any hmx] at h
        exact h)
      have HF := hide (fun w => fail_any x okx w)
      have okf := failV_ok okx
      have hmf := mayV_fail hmx
      have hlf := live_fail x
      generalize failV x = f at HF okf hmf hlf
      have HCF : Hid (∀ w, OffAt w → Calls Tryd.prog 12 #[.agg f.cells] w fun e w' => e = .returned .nilIface ∧ Below w.heap.size w w') := hide (fun w hO => by
        have h := check_any f okf w hO
        rw [hmf] at h
        exact h)
      have HLF := hide (fun w => live_any f okf w)
      rw [hlf] at HLF
      clear hmf hlf
      by_cases hl60 : k < len
      · have lt1 : (k : Int) < (len : Int) := by omega
        have lt2 : decide ((k : Int) < 60) = false := by simp; omega
        have lt2b : decide (k < 60) = false := by simp; omega
        go_wp2_with (first | ((with_reducible refine ld_vp NX _ hx ?_ ?_ ?_); exact rfl; exact rfl) | (go_at_call 21; (with_reducible refine (HWZ.out _ (HO.out.bl hb)).mono ?_); rintro e W ⟨rfl, hbc⟩; replace hx := hx.bl hbc; replace hb := below_bl rfl hb hbc; obtain ⟨NZ, hNZ⟩ : ∃ n, W.heap.size = n := ⟨_, rfl⟩; have lNZ : NX + 1 ≤ NZ := (by (have := hx.lt; omega)); replace hNZ := hide hNZ) | ((with_reducible refine al_vp NZ ?_ ?_); exact hNZ.out; intro W hzr hb' hz2; replace hx := hx.bl (hNZ.out ▸ hb'); replace hb := hb.trans (hb'.mono (by omega))) | ((with_reducible refine st_vp NZ _ zeroV hzr ?_ ?_ ?_); exact rfl; exact rfl; intro W hnew ho; replace hx := hx.only ho (by omega); replace hzr := hnew; replace hb := ho.bel _ _ (by omega) hb) | (go_at_call 16; (with_reducible refine (HF.out _).mono ?_); rintro e W ⟨rfl, hbc⟩; replace hx := hx.bl hbc; replace hzr := hzr.bl hbc; replace hb := below_bl rfl hb hbc; obtain ⟨NF, hNF⟩ : ∃ n, W.heap.size = n := ⟨_, rfl⟩; have lNF : NZ + 1 ≤ NF := (by (have := hzr.lt; omega)); replace hNF := hide hNF) | ((with_reducible refine al_vp NF ?_ ?_); exact hNF.out; intro W hf hb' hz2; replace hzr := hzr.bl (hNF.out ▸ hb'); replace hb := hb.trans (hb'.mono (by omega))) | ((with_reducible refine st_vp NF _ f hf ?_ ?_ ?_); exact rfl; exact rfl; intro W hnew ho; replace hzr := hzr.only ho (by omega); replace hf := hnew; replace hb := ho.bel _ _ (by omega) hb) | ((with_reducible refine ld_vp NZ _ hzr ?_ ?_ ?_); exact rfl; exact rfl) | ((with_reducible refine g_eqv zeroV ?_ ?_ ?_ ?_); exact rfl; exact rfl; exact rfl) | ((with_reducible refine ld_vp NF _ hf ?_ ?_ ?_); exact rfl; exact rfl) | (go_at_call 12; (with_reducible refine (HCF.out _ (HO.out.bl hb)).mono ?_); rintro e W ⟨rfl, hbc⟩; replace hzr := hzr.bl hbc; replace hf := hf.bl hbc; replace hb := below_bl rfl hb hbc) | (go_at_call 14; (with_reducible refine (HLF.out _).mono ?_); rintro e W ⟨rfl, hbc⟩; replace hzr := hzr.bl hbc; replace hf := hf.bl hbc; replace hb := below_bl rfl hb hbc) | (go_at_call 20; (with_reducible refine (HS.out _ (HO.out.bl hb)).mono ?_); rintro e W ⟨rfl, hbc⟩; replace hb := below_bl rfl hb hbc))
        go_ret
        exact ⟨rfl, hb⟩
      · have lt1 : decide ((k : Int) < (len : Int)) = false := by simp; omega
        have lt1b : decide (k < len) = false := by simp; omega
        go_wp2_with (first | ((with_reducible refine ld_vp NX _ hx ?_ ?_ ?_); exact rfl; exact rfl) | (go_at_call 21; (with_reducible refine (HWZ.out _ (HO.out.bl hb)).mono ?_); rintro e W ⟨rfl, hbc⟩; replace hx := hx.bl hbc; replace hb := below_bl rfl hb hbc; obtain ⟨NZ, hNZ⟩ : ∃ n, W.heap.size = n := ⟨_, rfl⟩; have lNZ : NX + 1 ≤ NZ := (by (have := hx.lt; omega)); replace hNZ := hide hNZ) | ((with_reducible refine al_vp NZ ?_ ?_); exact hNZ.out; intro W hzr hb' hz2; replace hx := hx.bl (hNZ.out ▸ hb'); replace hb := hb.trans (hb'.mono (by omega))) | ((with_reducible refine st_vp NZ _ zeroV hzr ?_ ?_ ?_); exact rfl; exact rfl; intro W hnew ho; replace hx := hx.only ho (by omega); replace hzr := hnew; replace hb := ho.bel _ _ (by omega) hb) | (go_at_call 16; (with_reducible refine (HF.out _).mono ?_); rintro e W ⟨rfl, hbc⟩; replace hx := hx.bl hbc; replace hzr := hzr.bl hbc; replace hb := below_bl rfl hb hbc; obtain ⟨NF, hNF⟩ : ∃ n, W.heap.size = n := ⟨_, rfl⟩; have lNF : NZ + 1 ≤ NF := (by (have := hzr.lt; omega)); replace hNF := hide hNF) | ((with_reducible refine al_vp NF ?_ ?_); exact hNF.out; intro W hf hb' hz2; replace hzr := hzr.bl (hNF.out ▸ hb'); replace hb := hb.trans (hb'.mono (by omega))) | ((with_reducible refine st_vp NF _ f hf ?_ ?_ ?_); exact rfl; exact rfl; intro W hnew ho; replace hzr := hzr.only ho (by omega); replace hf := hnew; replace hb := ho.bel _ _ (by omega) hb) | ((with_reducible refine ld_vp NZ _ hzr ?_ ?_ ?_); exact rfl; exact rfl) | ((with_reducible refine g_eqv zeroV ?_ ?_ ?_ ?_); exact rfl; exact rfl; exact rfl) | ((with_reducible refine ld_vp NF _ hf ?_ ?_ ?_); exact rfl; exact rfl) | (go_at_call 12; (with_reducible refine (HCF.out _ (HO.out.bl hb)).mono ?_); rintro e W ⟨rfl, hbc⟩; replace hzr := hzr.bl hbc; replace hf := hf.bl hbc; replace hb := below_bl rfl hb hbc) | (go_at_call 14; (with_reducible refine (HLF.out _).mono ?_); rintro e W ⟨rfl, hbc⟩; replace hzr := hzr.bl hbc; replace hf := hf.bl hbc; replace hb := below_bl rfl hb hbc) | (go_at_call 20; (with_reducible refine (HS.out _ (HO.out.bl hb)).mono ?_); rintro e W ⟨rfl, hbc⟩; replace hb := below_bl rfl hb hbc))
        go_ret
        exact ⟨rfl, hb⟩
theorem holds_walk (s : V) (ok : s.Ok) (la : Option Addr) (len cap : Nat) (g : Nat → Nat → Nat) (w : World) (hl : PairsAt w w.heap.size la len g) (hlc : len ≤ cap) (hcm : cap ≤ 9223372036854775807) (hO : OffAt w) :
    Calls Tryd.prog 6 #[.agg s.cells, .slice la len cap] w fun e w' => e = .returned (.bool true) ∧ Below w.heap.size w w' := by
  cases hm : mayV s with
  | false => exact holds_no s ok la len cap g w hl hlc hcm hO hm
  | true => exact holds_yes s ok la len cap g w hl hlc hcm hO hm
end Go.Proofs.YtahgacdkofmbmaaDoor
