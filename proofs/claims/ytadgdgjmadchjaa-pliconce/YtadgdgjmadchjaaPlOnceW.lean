/-
  PlicOnce, walked.
-/
import Derived.Test.YtadgdgjmadchjaaPlOnceR
import Derived.BigQuiet
import Derived.Deep.QuietTactic
namespace Go.Proofs.Ytadgdgjmadchjaa
open Go.RowKit
set_option linter.unusedVariables false

theorem check_may (s : P5) (hs : s.Ok) (hm : May s) (w : World) :
    Calls Try.prog 9 #[.agg s.cells] w fun e w' => e = .returned .nilIface ∧ Below w.heap.size w w' := by
  have := check_any s hs w
  rw [(may_iff s hs).2 hm] at this
  exact this
theorem kind_six (kd : Int) : (wrap64 ((IntKind.u64.wrap kd).tmod 6) = 0 ∨ wrap64 ((IntKind.u64.wrap kd).tmod 6) = 1) ∨ wrap64 ((IntKind.u64.wrap kd).tmod 6) = 2 ∨ wrap64 ((IntKind.u64.wrap kd).tmod 6) = 3 ∨ wrap64 ((IntKind.u64.wrap kd).tmod 6) = 4 ∨ wrap64 ((IntKind.u64.wrap kd).tmod 6) = 5 := by
  have h1 : IntKind.u64.wrap kd = kd % 18446744073709551616 := by simp [IntKind.wrap, IntKind.bits, IntKind.signed]
  rw [h1, Int.tmod_eq_emod_of_nonneg (by omega)]
  unfold wrap64
  omega
set_option maxRecDepth 100000 in
set_option maxHeartbeats 1000000 in
theorem once_no (s : P5) (hs : s.Ok) (p : Option Addr) (n c : Nat) (hm : mayP5 s = false) (w : World) :
    Calls Try.prog 4 #[.agg s.cells, .slice p n c] w fun e w' => e = .returned (.bool true) ∧ Below w.heap.size w w' := by
  have HC := hide (fun w => check_any s hs w)
  rw [hm] at HC
  have HE : Hid (errP (if false = true then 0 else 1) = .iface 51 (.int .i64 1)) := hide rfl
  rw [HE.out] at HC
  have HS := hide (fun w => sure_any w)
  go_enter Try.func4, Try.ntmps4
  go_wp2_with (first | ((with_reducible refine bx_r w.heap.size s ?_ ?_ ?_); exact rfl; exact rfl; intro W hr hb hz) | ((with_reducible refine ld_r w.heap.size s hr ?_ ?_); exact rfl) | ((with_reducible refine al_p (w.heap.size + 1) ?_ ?_); exact hz.out; intro W hx hb' hz'; replace hb := hb.trans (hb'.mono (by omega))) | ((with_reducible refine st_p (w.heap.size + 1) _ s hx ?_ ?_ ?_); exact rfl; exact rfl; intro W hnew ho; replace hx := hnew; replace hb := ho.bel _ _ (by omega) hb) | ((with_reducible refine ld_p (w.heap.size + 1) _ hx ?_ ?_); exact rfl) | (go_at_call 9; refine (HC.out _).mono ?_; rintro e W ⟨rfl, hbc⟩; replace hx := hx.bl hbc; replace hb := below_bl rfl hb hbc) | (go_at_call 8; refine (HS.out _).mono ?_; rintro e W ⟨rfl, hbc⟩; replace hb := below_bl rfl hb hbc))
  go_ret
  exact ⟨rfl, hb⟩

set_option maxRecDepth 100000 in
set_option maxHeartbeats 8000000 in
theorem once_yes (s : P5) (hs : s.Ok) (p : Option Addr) (n c : Nat) (hn : n ≤ 9223372036854775807) (hm : mayP5 s = true) (f : Nat → A3) (w : World) (hA : ActsAt p n f w) :
    Calls Try.prog 4 #[.agg s.cells, .slice p n c] w fun e w' => e = .returned (.bool true) ∧ Below w.heap.size w w' := by
  have HC := hide (fun w => check_any s hs w)
  rw [hm] at HC
  have HE : Hid (errP (if true = true then 0 else 1) = .nilIface) := hide rfl
  rw [HE.out] at HC
  have HS := hide (fun w => sure_any w)
  have HN := hide (inv_new s hs ((may_iff s hs).1 hm) (fun _ => false) (fun _ => false) (fun _ => rfl))
  clear hm
  have HA := hide hA
  clear hA
  go_enter Try.func4, Try.ntmps4
  go_wp2_with (first | ((with_reducible refine bx_r w.heap.size s ?_ ?_ ?_); exact rfl; exact rfl; intro W hr hb hz) | ((with_reducible refine ld_r w.heap.size s hr ?_ ?_); exact rfl) | ((with_reducible refine al_p (w.heap.size + 1) ?_ ?_); exact hz.out; intro W hx hb' hz'; replace hb := hb.trans (hb'.mono (by omega))) | ((with_reducible refine st_p (w.heap.size + 1) _ s hx ?_ ?_ ?_); exact rfl; exact rfl; intro W hnew ho; replace hx := hnew; replace hb := ho.bel _ _ (by omega) hb) | ((with_reducible refine ld_p (w.heap.size + 1) _ hx ?_ ?_); exact rfl) | (go_at_call 9; refine (HC.out _).mono ?_; rintro e W ⟨rfl, hbc⟩; replace hx := hx.bl hbc; replace hb := below_bl rfl hb hbc; obtain ⟨NS, hNS⟩ : ∃ n, W.heap.size = n := ⟨_, rfl⟩; have lNS : w.heap.size + 2 ≤ NS := (by (have := hx.lt; omega)); replace hNS := hide hNS) | ((with_reducible refine st_pe (w.heap.size + 1) _ 0 _ hx ?_ ?_ ?_); exact rfl; exact rfl; intro W hnew ho; replace hx := hnew; replace hb := ho.bel _ _ (by omega) hb; replace hNS := hide (ho.size.trans hNS.out)) | ((with_reducible refine st_bu (w.heap.size + 1) _ 0 _ hx ?_ ?_ ?_); exact rfl; exact rfl; intro W hnew ho; replace hx := hnew; replace hb := ho.bel _ _ (by omega) hb; replace hNS := hide (ho.size.trans hNS.out)) | ((with_reducible refine al_b NS ?_ ?_); exact hNS.out; intro W hsv hb' hz2; replace hx := hx.bl (hNS.out ▸ hb'); replace hb := hb.trans (hb'.mono (by omega))) | ((with_reducible refine al_b (NS + 1) ?_ ?_); exact hz2.out; intro W hak hb' hz3; replace hx := hx.bl (hz2.out ▸ hb'); replace hsv := hsv.bl (hz2.out ▸ hb'); replace hb := hb.trans (hb'.mono (by omega))))
  go_loopw [8] (fun iv wr => ∃ (i : Nat) (y : P5) (sv ak : Nat → Bool), iv = .int .i64 i ∧ i ≤ n ∧ Inv y sv ak ∧ RowAt wr (w.heap.size + 1) y.cells 26 ∧ RowAt wr NS (b8 sv) 35 ∧ RowAt wr (NS + 1) (b8 ak) 35 ∧ Below w.heap.size w wr) (fun iv _ => n - (intOf iv).toNat)
  case atStart => exact ⟨0, _, _, _, rfl, by omega, HN.out, hx, hsv, hak, hb⟩
  case round =>
    clear hx hsv hak hb hz hz2 hz3 hNS HN HC
    obtain ⟨i, y, sv, ak, rfl, hin, hI, hx, hsv, hak, hb⟩ := hrel
    by_cases hi : i < n
    · have t0 : ((i : Int) < (n : Int)) := by omega
      by_cases h60 : i < 60
      · have t1 : ((i : Int) < 60) := by omega
        obtain ⟨hc, b, o, rfl, hrg0⟩ := HA.out i hi
        have hrg := range_bl hrg0 hb
        clear hrg0
        generalize hf : f i = ac at *
        clear hf
        obtain ⟨kd, pl, vl⟩ := ac
        obtain ⟨hpl, hvl⟩ := hc
        dsimp only at hpl hvl
        obtain ⟨NA, hNA⟩ : ∃ N, wr.heap.size = N := ⟨_, rfl⟩
        have lNA : NS + 2 ≤ NA := by have := hak.lt; omega
        replace hNA := hide hNA
        have hq : (wrap64 ((IntKind.u64.wrap kd).tmod 6) = 0 ∨ wrap64 ((IntKind.u64.wrap kd).tmod 6) = 1) ∨ wrap64 ((IntKind.u64.wrap kd).tmod 6) = 2 ∨ wrap64 ((IntKind.u64.wrap kd).tmod 6) = 3 ∨ wrap64 ((IntKind.u64.wrap kd).tmod 6) = 4 ∨ wrap64 ((IntKind.u64.wrap kd).tmod 6) = 5 := kind_six kd
        rcases hq with hq | hq | hq | hq | hq
        · have e2 : (wrap64 ((IntKind.u64.wrap kd).tmod 6) == 2) = false := by (first | (rw [hq]; rfl) | (rcases hq with hq | hq <;> (rw [hq]; rfl)))
          have e3 : (wrap64 ((IntKind.u64.wrap kd).tmod 6) == 3) = false := by (first | (rw [hq]; rfl) | (rcases hq with hq | hq <;> (rw [hq]; rfl)))
          have e4 : (wrap64 ((IntKind.u64.wrap kd).tmod 6) == 4) = false := by (first | (rw [hq]; rfl) | (rcases hq with hq | hq <;> (rw [hq]; rfl)))
          have e5 : (wrap64 ((IntKind.u64.wrap kd).tmod 6) == 5) = false := by (first | (rw [hq]; rfl) | (rcases hq with hq | hq <;> (rw [hq]; rfl)))
          have HL := hide (fun w => level_any y hI.ok vl hvl w)
          have hI2 := inv_level hI vl hvl
          have HK := hide (fun w => check_may (levelV y vl) hI2.ok hI2.may w)
          replace hI2 := hide hI2
          clear hI hq
          generalize levelV y vl = y2 at *
          go_wp2_with (first | ((with_reducible refine ld_arg b (o + i * 3) ⟨kd, pl, vl⟩ hrg ?_ ?_); exact rfl) | ((with_reducible refine al_a NA ?_ ?_); exact hNA.out; intro W ha hb' hzA; replace hx := hx.bl (hNA.out ▸ hb'); replace hsv := hsv.bl (hNA.out ▸ hb'); replace hak := hak.bl (hNA.out ▸ hb'); replace hb := hb.trans (hb'.mono (by omega))) | ((with_reducible refine st_a NA _ ⟨kd, pl, vl⟩ ha ?_ ?_ ?_); exact rfl; exact rfl; intro W hnew ho; replace hx := hx.only ho (by omega); replace hsv := hsv.only ho (by omega); replace hak := hak.only ho (by omega); replace ha := hnew; replace hb := ho.bel _ _ (by omega) hb) | ((with_reducible refine ld_kd NA _ ha ?_ ?_); exact rfl) | ((with_reducible refine ld_pl NA _ ha ?_ ?_); exact rfl) | ((with_reducible refine ld_vl NA _ ha ?_ ?_); exact rfl) | ((with_reducible refine ld_p (w.heap.size + 1) _ hx ?_ ?_); exact rfl) | (go_at_call 6; (with_reducible refine (HL.out _).mono ?_); rintro e W ⟨rfl, hbc⟩; replace hx := hx.bl hbc; replace hsv := hsv.bl hbc; replace hak := hak.bl hbc; replace ha := ha.bl hbc; replace hb := below_bl rfl hb hbc) | ((with_reducible refine st_p (w.heap.size + 1) _ y2 hx ?_ ?_ ?_); exact rfl; exact rfl; intro W hnew ho; replace hsv := hsv.only ho (by omega); replace hak := hak.only ho (by omega); replace ha := ha.only ho (by omega); replace hx := hnew; replace hb := ho.bel _ _ (by omega) hb))
          go_loopw [17] (fun mv wq => ∃ m : Nat, 1 ≤ m ∧ m ≤ 8 ∧ mv = .int .i64 m ∧ RowAt wq (w.heap.size + 1) y2.cells 26 ∧ RowAt wq NS (b8 sv) 35 ∧ RowAt wq (NS + 1) (b8 (askK sv ak vl m)) 35 ∧ RowAt wq NA (A3.cells ⟨kd, pl, vl⟩) 37 ∧ Below w.heap.size w wq) (fun mv _ => 8 - (intOf mv).toNat)
          case atStart => exact ⟨1, by omega, by omega, rfl, hx, hsv, by rw [askK_one]; exact hak, ha, hb⟩
          case round =>
            rename_i hrel2
            clear hx hsv hak ha hb
            obtain ⟨m, hm1, hm8, rfl, hx, hsv, hak, ha, hb⟩ := hrel
            by_cases hm : m < 8
            · have hst := askK_step sv ak vl m hm1
              have hat := askK_at sv ak vl m
              have t1 := shr_tb vl m hvl
              generalize hA0 : askK sv ak vl m = ak' at *
              cases ca : ak m with
              | true =>
                rw [ca] at hat hst
                have hst2 : Hid (askK sv ak vl (m + 1) = setB ak' m true) := hide (by rw [hst, Bool.true_or])
                clear hst
                go_wp2_with (first | ((with_reducible refine ld_b (NS + 1) m _ _ hm hak hat ?_ ?_); exact rfl) | ((with_reducible refine g_ldw NA 2 _ _ vl ha ?_ ?_ ?_ ?_); exact rfl; exact rfl; exact rfl) | ((with_reducible refine st_b (NS + 1) m _ true hm hak ?_ ?_ ?_); exact rfl; exact rfl; intro W hnew ho; replace hx := hx.only ho (by omega); replace hsv := hsv.only ho (by omega); replace ha := ha.only ho (by omega); replace hak := hnew; replace hb := ho.bel _ _ (by omega) hb))
                go_roundw
                case rel => exact ⟨m + 1, by omega, by omega, by go_num, hx, hsv, hst2.out ▸ hak, ha, hb⟩
                case measure => simp [intOf]; omega
              | false =>
                rw [ca] at hat hst
                cases ct : vl.testBit m with
                | false =>
                  rw [ct] at t1 hst
                  have hst2 : Hid (askK sv ak vl (m + 1) = setB ak' m false) := hide (by rw [hst]; rfl)
                  clear hst
                  go_wp2_with (first | ((with_reducible refine ld_b (NS + 1) m _ _ hm hak hat ?_ ?_); exact rfl) | ((with_reducible refine g_ldw NA 2 _ _ vl ha ?_ ?_ ?_ ?_); exact rfl; exact rfl; exact rfl) | ((with_reducible refine st_b (NS + 1) m _ false hm hak ?_ ?_ ?_); exact rfl; exact rfl; intro W hnew ho; replace hx := hx.only ho (by omega); replace hsv := hsv.only ho (by omega); replace ha := ha.only ho (by omega); replace hak := hnew; replace hb := ho.bel _ _ (by omega) hb))
                  go_roundw
                  case rel => exact ⟨m + 1, by omega, by omega, by go_num, hx, hsv, hst2.out ▸ hak, ha, hb⟩
                  case measure => simp [intOf]; omega
                | true =>
                  rw [ct] at t1 hst
                  cases cs : sv m with
                  | true =>
                    rw [cs] at hst
                    have hst2 : Hid (askK sv ak vl (m + 1) = setB ak' m false) := hide (by rw [hst]; rfl)
                    clear hst
                    go_wp2_with (first | ((with_reducible refine ld_b (NS + 1) m _ _ hm hak hat ?_ ?_); exact rfl) | ((with_reducible refine g_ldw NA 2 _ _ vl ha ?_ ?_ ?_ ?_); exact rfl; exact rfl; exact rfl) | ((with_reducible refine g_ldb NS m _ _ hm hsv cs ?_ ?_ ?_); exact rfl; exact rfl) | ((with_reducible refine st_b (NS + 1) m _ false hm hak ?_ ?_ ?_); exact rfl; exact rfl; intro W hnew ho; replace hx := hx.only ho (by omega); replace hsv := hsv.only ho (by omega); replace ha := ha.only ho (by omega); replace hak := hnew; replace hb := ho.bel _ _ (by omega) hb))
                    go_roundw
                    case rel => exact ⟨m + 1, by omega, by omega, by go_num, hx, hsv, hst2.out ▸ hak, ha, hb⟩
                    case measure => simp [intOf]; omega
                  | false =>
                    rw [cs] at hst
                    have hst2 : Hid (askK sv ak vl (m + 1) = setB ak' m true) := hide (by rw [hst]; rfl)
                    clear hst
                    go_wp2_with (first | ((with_reducible refine ld_b (NS + 1) m _ _ hm hak hat ?_ ?_); exact rfl) | ((with_reducible refine g_ldw NA 2 _ _ vl ha ?_ ?_ ?_ ?_); exact rfl; exact rfl; exact rfl) | ((with_reducible refine g_ldb NS m _ _ hm hsv cs ?_ ?_ ?_); exact rfl; exact rfl) | ((with_reducible refine st_b (NS + 1) m _ true hm hak ?_ ?_ ?_); exact rfl; exact rfl; intro W hnew ho; replace hx := hx.only ho (by omega); replace hsv := hsv.only ho (by omega); replace ha := ha.only ho (by omega); replace hak := hnew; replace hb := ho.bel _ _ (by omega) hb))
                    go_roundw
                    case rel => exact ⟨m + 1, by omega, by omega, by go_num, hx, hsv, hst2.out ▸ hak, ha, hb⟩
                    case measure => simp [intOf]; omega
            · obtain rfl : m = 8 := by omega
              go_wp2_with (first | ((with_reducible refine ld_p (w.heap.size + 1) _ hx ?_ ?_); exact rfl) | (go_at_call 9; (with_reducible refine (HK.out _).mono ?_); rintro e W ⟨rfl, hbc⟩; replace hx := hx.bl hbc; replace hsv := hsv.bl hbc; replace hak := hak.bl hbc; replace hb := below_bl rfl hb hbc))
              go_roundw
              case rel => exact ⟨i + 1, y2, sv, askK sv ak vl 8, by go_num, by omega, hI2.out, hx, hsv, hak, hb⟩
              case measure => simp [intOf]; omega
        · have e2 : (wrap64 ((IntKind.u64.wrap kd).tmod 6) == 2) = true := by (first | (rw [hq]; rfl) | (rcases hq with hq | hq <;> (rw [hq]; rfl)))
          have HR := hide (fun w => read_any y hI.ok 2097156 w)
          rw [show readV y 2097156 = (serveV y (bestV y), bestV y, 0) from rfl, show (((2097156 : Nat) : Int)) = 2097156 from rfl] at HR
          have HE0 : Hid (errP 0 = .nilIface) := hide rfl
          dsimp only at HR
          rw [HE0.out] at HR
          rcases best_is y with hb0 | ⟨hb0, hb8, hbw, hbt⟩
          · rw [hb0, show serveV y 0 = y from rfl, show (((0 : Nat) : Int)) = 0 from rfl] at HR
            have HK := hide (fun w => check_may y hI.ok hI.may w)
            replace hI := hide hI
            clear hq
            go_wp2_with (first | ((with_reducible refine ld_arg b (o + i * 3) ⟨kd, pl, vl⟩ hrg ?_ ?_); exact rfl) | ((with_reducible refine al_a NA ?_ ?_); exact hNA.out; intro W ha hb' hzA; replace hx := hx.bl (hNA.out ▸ hb'); replace hsv := hsv.bl (hNA.out ▸ hb'); replace hak := hak.bl (hNA.out ▸ hb'); replace hb := hb.trans (hb'.mono (by omega))) | ((with_reducible refine st_a NA _ ⟨kd, pl, vl⟩ ha ?_ ?_ ?_); exact rfl; exact rfl; intro W hnew ho; replace hx := hx.only ho (by omega); replace hsv := hsv.only ho (by omega); replace hak := hak.only ho (by omega); replace ha := hnew; replace hb := ho.bel _ _ (by omega) hb) | ((with_reducible refine ld_kd NA _ ha ?_ ?_); exact rfl) | ((with_reducible refine ld_pl NA _ ha ?_ ?_); exact rfl) | ((with_reducible refine ld_vl NA _ ha ?_ ?_); exact rfl) | ((with_reducible refine ld_p (w.heap.size + 1) _ hx ?_ ?_); exact rfl) | (go_at_call 10; (with_reducible refine (HR.out _).mono ?_); rintro e W ⟨rfl, hbc⟩; replace hx := hx.bl hbc; replace hsv := hsv.bl hbc; replace hak := hak.bl hbc; replace ha := ha.bl hbc; obtain ⟨NY, hNY⟩ : ∃ n, W.heap.size = n := ⟨_, rfl⟩; have lNY : NA + 1 ≤ NY := (by (have := ha.lt; omega)); replace hNY := hide hNY; replace hb := below_bl rfl hb hbc) | ((with_reducible refine al_p NY ?_ ?_); exact hNY.out; intro W hy hb' hzY; replace hx := hx.bl (hNY.out ▸ hb'); replace hsv := hsv.bl (hNY.out ▸ hb'); replace hak := hak.bl (hNY.out ▸ hb'); replace ha := ha.bl (hNY.out ▸ hb'); replace hb := hb.trans (hb'.mono (by omega))) | ((with_reducible refine st_p NY _ y hy ?_ ?_ ?_); exact rfl; exact rfl; intro W hnew ho; replace hx := hx.only ho (by omega); replace hsv := hsv.only ho (by omega); replace hak := hak.only ho (by omega); replace ha := ha.only ho (by omega); replace hy := hnew; replace hb := ho.bel _ _ (by omega) hb))
            go_quiet (fail)
            replace hx := hx.dn nq
            replace hsv := hsv.dn nq
            replace hak := hak.dn nq
            replace ha := ha.dn nq
            replace hy := hy.dn nq
            replace hb := below_dn hb nq
            generalize W.drewN nq = W at hx hsv hak ha hy hb ⊢
            go_wp2_with (first | ((with_reducible refine ld_p NY _ hy ?_ ?_); exact rfl) | ((with_reducible refine ld_p (w.heap.size + 1) _ hx ?_ ?_); exact rfl) | ((with_reducible refine st_p (w.heap.size + 1) _ y hx ?_ ?_ ?_); exact rfl; exact rfl; intro W hnew ho; replace hsv := hsv.only ho (by omega); replace hak := hak.only ho (by omega); replace ha := ha.only ho (by omega); replace hx := hnew; replace hb := ho.bel _ _ (by omega) hb) | (go_at_call 9; (with_reducible refine (HK.out _).mono ?_); rintro e W ⟨rfl, hbc⟩; replace hx := hx.bl hbc; replace hsv := hsv.bl hbc; replace hak := hak.bl hbc; replace hb := below_bl rfl hb hbc))
            go_roundw
            case rel => exact ⟨i + 1, y, sv, ak, by go_num, by omega, hI.out, hx, hsv, hak, hb⟩
            case measure => simp [intOf]; omega
          · generalize bestV y = b1 at *
            have g1 : y.pe.testBit b1 = true := by unfold wants at hbw; rw [Bool.and_eq_true, Bool.and_eq_true] at hbw; exact hbw.2.1
            have g2 := hI.ak b1 (by omega) hb8 g1
            have g3 := hI.sv b1 (by omega) hb8
            rw [g2.2] at g3
            have g4 := g2.1
            have hI2 := inv_claim hI b1 (by omega) hb8
            have HK := hide (fun w => check_may (serveV y b1) hI2.ok hI2.may w)
            have hpr : (serveV y b1).pr = y.pr := by unfold serveV; split <;> rfl
            have hth : (serveV y b1).th = y.th := by unfold serveV; split <;> rfl
            generalize serveV y b1 = y2 at *
            have s1 : ((b1 : Int) > 7) = False := by simp; omega
            have s1' : decide ((7 : Int) < (b1 : Int)) = false := by simp; omega
            have s2 : ((0 : Int) < (b1 : Int)) := by omega
            have s2n : 0 < b1 := by omega
            have s2b : decide (0 < b1) = true := by simp; omega
            have s3 : decide (y2.pr b1 ≤ y2.th) = false := by rw [hpr, hth]; simp; omega
            replace hI := hide hI2
            clear hI2 hq hb0 hbw hbt g1 g2 hpr hth
            go_wp2_with (first | ((with_reducible refine ld_arg b (o + i * 3) ⟨kd, pl, vl⟩ hrg ?_ ?_); exact rfl) | ((with_reducible refine al_a NA ?_ ?_); exact hNA.out; intro W ha hb' hzA; replace hx := hx.bl (hNA.out ▸ hb'); replace hsv := hsv.bl (hNA.out ▸ hb'); replace hak := hak.bl (hNA.out ▸ hb'); replace hb := hb.trans (hb'.mono (by omega))) | ((with_reducible refine st_a NA _ ⟨kd, pl, vl⟩ ha ?_ ?_ ?_); exact rfl; exact rfl; intro W hnew ho; replace hx := hx.only ho (by omega); replace hsv := hsv.only ho (by omega); replace hak := hak.only ho (by omega); replace ha := hnew; replace hb := ho.bel _ _ (by omega) hb) | ((with_reducible refine ld_kd NA _ ha ?_ ?_); exact rfl) | ((with_reducible refine ld_pl NA _ ha ?_ ?_); exact rfl) | ((with_reducible refine ld_vl NA _ ha ?_ ?_); exact rfl) | ((with_reducible refine ld_p (w.heap.size + 1) _ hx ?_ ?_); exact rfl) | (go_at_call 10; (with_reducible refine (HR.out _).mono ?_); rintro e W ⟨rfl, hbc⟩; replace hx := hx.bl hbc; replace hsv := hsv.bl hbc; replace hak := hak.bl hbc; replace ha := ha.bl hbc; obtain ⟨NY, hNY⟩ : ∃ n, W.heap.size = n := ⟨_, rfl⟩; have lNY : NA + 1 ≤ NY := (by (have := ha.lt; omega)); replace hNY := hide hNY; replace hb := below_bl rfl hb hbc) | ((with_reducible refine al_p NY ?_ ?_); exact hNY.out; intro W hy hb' hzY; replace hx := hx.bl (hNY.out ▸ hb'); replace hsv := hsv.bl (hNY.out ▸ hb'); replace hak := hak.bl (hNY.out ▸ hb'); replace ha := ha.bl (hNY.out ▸ hb'); replace hb := hb.trans (hb'.mono (by omega))) | ((with_reducible refine st_p NY _ y2 hy ?_ ?_ ?_); exact rfl; exact rfl; intro W hnew ho; replace hx := hx.only ho (by omega); replace hsv := hsv.only ho (by omega); replace hak := hak.only ho (by omega); replace ha := ha.only ho (by omega); replace hy := hnew; replace hb := ho.bel _ _ (by omega) hb; have q1 := (hsv.cell b1).trans (b8_at sv b1 hb8); rw [g3] at q1; have q2 := (hak.cell b1).trans (b8_at ak b1 hb8); rw [g4] at q2; have q3 := (hy.cell b1).trans (y2.cell_pr b1 hb8); have q4 := (hy.cell 9).trans (P5.at9 y2)))
            go_quiet (fail)
            clear q1 q2 q3 q4
            replace hx := hx.dn nq
            replace hsv := hsv.dn nq
            replace hak := hak.dn nq
            replace ha := ha.dn nq
            replace hy := hy.dn nq
            replace hb := below_dn hb nq
            generalize W.drewN nq = W at hx hsv hak ha hy hb ⊢
            go_wp2_with (first | ((with_reducible refine st_b NS b1 _ true hb8 hsv ?_ ?_ ?_); exact rfl; exact rfl; intro W hnew ho; replace hx := hx.only ho (by omega); replace hak := hak.only ho (by omega); replace hy := hy.only ho (by omega); replace hsv := hnew; replace hb := ho.bel _ _ (by omega) hb) | ((with_reducible refine st_b (NS + 1) b1 _ false hb8 hak ?_ ?_ ?_); exact rfl; exact rfl; intro W hnew ho; replace hx := hx.only ho (by omega); replace hsv := hsv.only ho (by omega); replace hy := hy.only ho (by omega); replace hak := hnew; replace hb := ho.bel _ _ (by omega) hb) | ((with_reducible refine ld_p NY _ hy ?_ ?_); exact rfl) | ((with_reducible refine ld_p (w.heap.size + 1) _ hx ?_ ?_); exact rfl) | ((with_reducible refine st_p (w.heap.size + 1) _ y2 hx ?_ ?_ ?_); exact rfl; exact rfl; intro W hnew ho; replace hsv := hsv.only ho (by omega); replace hak := hak.only ho (by omega); replace hx := hnew; replace hb := ho.bel _ _ (by omega) hb) | (go_at_call 9; (with_reducible refine (HK.out _).mono ?_); rintro e W ⟨rfl, hbc⟩; replace hx := hx.bl hbc; replace hsv := hsv.bl hbc; replace hak := hak.bl hbc; replace hb := below_bl rfl hb hbc))
            go_roundw
            case rel => exact ⟨i + 1, y2, setB sv b1 true, setB ak b1 false, by go_num, by omega, hI.out, hx, hsv, hak, hb⟩
            case measure => simp [intOf]; omega
        · have e2 : (wrap64 ((IntKind.u64.wrap kd).tmod 6) == 2) = false := by (first | (rw [hq]; rfl) | (rcases hq with hq | hq <;> (rw [hq]; rfl)))
          have e3 : (wrap64 ((IntKind.u64.wrap kd).tmod 6) == 3) = true := by (first | (rw [hq]; rfl) | (rcases hq with hq | hq <;> (rw [hq]; rfl)))
          have HR := hide (fun w => read_any y hI.ok 2097156 w)
          rw [show readV y 2097156 = (serveV y (bestV y), bestV y, 0) from rfl, show (((2097156 : Nat) : Int)) = 2097156 from rfl] at HR
          have HE0 : Hid (errP 0 = .nilIface) := hide rfl
          dsimp only at HR
          rw [HE0.out] at HR
          rcases best_is y with hb0 | ⟨hb0, hb8, hbw, hbt⟩
          · rw [hb0, show serveV y 0 = y from rfl, show (((0 : Nat) : Int)) = 0 from rfl] at HR
            have HK := hide (fun w => check_may y hI.ok hI.may w)
            replace hI := hide hI
            clear hq
            go_wp2_with (first | ((with_reducible refine ld_arg b (o + i * 3) ⟨kd, pl, vl⟩ hrg ?_ ?_); exact rfl) | ((with_reducible refine al_a NA ?_ ?_); exact hNA.out; intro W ha hb' hzA; replace hx := hx.bl (hNA.out ▸ hb'); replace hsv := hsv.bl (hNA.out ▸ hb'); replace hak := hak.bl (hNA.out ▸ hb'); replace hb := hb.trans (hb'.mono (by omega))) | ((with_reducible refine st_a NA _ ⟨kd, pl, vl⟩ ha ?_ ?_ ?_); exact rfl; exact rfl; intro W hnew ho; replace hx := hx.only ho (by omega); replace hsv := hsv.only ho (by omega); replace hak := hak.only ho (by omega); replace ha := hnew; replace hb := ho.bel _ _ (by omega) hb) | ((with_reducible refine ld_kd NA _ ha ?_ ?_); exact rfl) | ((with_reducible refine ld_pl NA _ ha ?_ ?_); exact rfl) | ((with_reducible refine ld_vl NA _ ha ?_ ?_); exact rfl) | ((with_reducible refine ld_p (w.heap.size + 1) _ hx ?_ ?_); exact rfl) | (go_at_call 10; (with_reducible refine (HR.out _).mono ?_); rintro e W ⟨rfl, hbc⟩; replace hx := hx.bl hbc; replace hsv := hsv.bl hbc; replace hak := hak.bl hbc; replace ha := ha.bl hbc; obtain ⟨NY, hNY⟩ : ∃ n, W.heap.size = n := ⟨_, rfl⟩; have lNY : NA + 1 ≤ NY := (by (have := ha.lt; omega)); replace hNY := hide hNY; replace hb := below_bl rfl hb hbc) | ((with_reducible refine al_p NY ?_ ?_); exact hNY.out; intro W hy hb' hzY; replace hx := hx.bl (hNY.out ▸ hb'); replace hsv := hsv.bl (hNY.out ▸ hb'); replace hak := hak.bl (hNY.out ▸ hb'); replace ha := ha.bl (hNY.out ▸ hb'); replace hb := hb.trans (hb'.mono (by omega))) | ((with_reducible refine st_p NY _ y hy ?_ ?_ ?_); exact rfl; exact rfl; intro W hnew ho; replace hx := hx.only ho (by omega); replace hsv := hsv.only ho (by omega); replace hak := hak.only ho (by omega); replace ha := ha.only ho (by omega); replace hy := hnew; replace hb := ho.bel _ _ (by omega) hb))
            go_quiet (fail)
            replace hx := hx.dn nq
            replace hsv := hsv.dn nq
            replace hak := hak.dn nq
            replace ha := ha.dn nq
            replace hy := hy.dn nq
            replace hb := below_dn hb nq
            generalize W.drewN nq = W at hx hsv hak ha hy hb ⊢
            go_wp2_with (first | ((with_reducible refine ld_p NY _ hy ?_ ?_); exact rfl) | ((with_reducible refine ld_p (w.heap.size + 1) _ hx ?_ ?_); exact rfl) | ((with_reducible refine st_p (w.heap.size + 1) _ y hx ?_ ?_ ?_); exact rfl; exact rfl; intro W hnew ho; replace hsv := hsv.only ho (by omega); replace hak := hak.only ho (by omega); replace ha := ha.only ho (by omega); replace hx := hnew; replace hb := ho.bel _ _ (by omega) hb) | (go_at_call 9; (with_reducible refine (HK.out _).mono ?_); rintro e W ⟨rfl, hbc⟩; replace hx := hx.bl hbc; replace hsv := hsv.bl hbc; replace hak := hak.bl hbc; replace hb := below_bl rfl hb hbc))
            go_roundw
            case rel => exact ⟨i + 1, y, sv, ak, by go_num, by omega, hI.out, hx, hsv, hak, hb⟩
            case measure => simp [intOf]; omega
          · generalize bestV y = b1 at *
            have g1 : y.pe.testBit b1 = true := by unfold wants at hbw; rw [Bool.and_eq_true, Bool.and_eq_true] at hbw; exact hbw.2.1
            have g2 := hI.ak b1 (by omega) hb8 g1
            have g3 := hI.sv b1 (by omega) hb8
            rw [g2.2] at g3
            have g4 := g2.1
            have hI2 := inv_claim hI b1 (by omega) hb8
            have HK := hide (fun w => check_may (serveV y b1) hI2.ok hI2.may w)
            have hpr : (serveV y b1).pr = y.pr := by unfold serveV; split <;> rfl
            have hth : (serveV y b1).th = y.th := by unfold serveV; split <;> rfl
            generalize serveV y b1 = y2 at *
            have s1 : ((b1 : Int) > 7) = False := by simp; omega
            have s1' : decide ((7 : Int) < (b1 : Int)) = false := by simp; omega
            have s2 : ((0 : Int) < (b1 : Int)) := by omega
            have s2n : 0 < b1 := by omega
            have s2b : decide (0 < b1) = true := by simp; omega
            have s3 : decide (y2.pr b1 ≤ y2.th) = false := by rw [hpr, hth]; simp; omega
            replace hI := hide hI2
            clear hI2 hq hb0 hbw hbt g1 g2 hpr hth
            go_wp2_with (first | ((with_reducible refine ld_arg b (o + i * 3) ⟨kd, pl, vl⟩ hrg ?_ ?_); exact rfl) | ((with_reducible refine al_a NA ?_ ?_); exact hNA.out; intro W ha hb' hzA; replace hx := hx.bl (hNA.out ▸ hb'); replace hsv := hsv.bl (hNA.out ▸ hb'); replace hak := hak.bl (hNA.out ▸ hb'); replace hb := hb.trans (hb'.mono (by omega))) | ((with_reducible refine st_a NA _ ⟨kd, pl, vl⟩ ha ?_ ?_ ?_); exact rfl; exact rfl; intro W hnew ho; replace hx := hx.only ho (by omega); replace hsv := hsv.only ho (by omega); replace hak := hak.only ho (by omega); replace ha := hnew; replace hb := ho.bel _ _ (by omega) hb) | ((with_reducible refine ld_kd NA _ ha ?_ ?_); exact rfl) | ((with_reducible refine ld_pl NA _ ha ?_ ?_); exact rfl) | ((with_reducible refine ld_vl NA _ ha ?_ ?_); exact rfl) | ((with_reducible refine ld_p (w.heap.size + 1) _ hx ?_ ?_); exact rfl) | (go_at_call 10; (with_reducible refine (HR.out _).mono ?_); rintro e W ⟨rfl, hbc⟩; replace hx := hx.bl hbc; replace hsv := hsv.bl hbc; replace hak := hak.bl hbc; replace ha := ha.bl hbc; obtain ⟨NY, hNY⟩ : ∃ n, W.heap.size = n := ⟨_, rfl⟩; have lNY : NA + 1 ≤ NY := (by (have := ha.lt; omega)); replace hNY := hide hNY; replace hb := below_bl rfl hb hbc) | ((with_reducible refine al_p NY ?_ ?_); exact hNY.out; intro W hy hb' hzY; replace hx := hx.bl (hNY.out ▸ hb'); replace hsv := hsv.bl (hNY.out ▸ hb'); replace hak := hak.bl (hNY.out ▸ hb'); replace ha := ha.bl (hNY.out ▸ hb'); replace hb := hb.trans (hb'.mono (by omega))) | ((with_reducible refine st_p NY _ y2 hy ?_ ?_ ?_); exact rfl; exact rfl; intro W hnew ho; replace hx := hx.only ho (by omega); replace hsv := hsv.only ho (by omega); replace hak := hak.only ho (by omega); replace ha := ha.only ho (by omega); replace hy := hnew; replace hb := ho.bel _ _ (by omega) hb; have q1 := (hsv.cell b1).trans (b8_at sv b1 hb8); rw [g3] at q1; have q2 := (hak.cell b1).trans (b8_at ak b1 hb8); rw [g4] at q2; have q3 := (hy.cell b1).trans (y2.cell_pr b1 hb8); have q4 := (hy.cell 9).trans (P5.at9 y2)))
            go_quiet (fail)
            clear q1 q2 q3 q4
            replace hx := hx.dn nq
            replace hsv := hsv.dn nq
            replace hak := hak.dn nq
            replace ha := ha.dn nq
            replace hy := hy.dn nq
            replace hb := below_dn hb nq
            generalize W.drewN nq = W at hx hsv hak ha hy hb ⊢
            go_wp2_with (first | ((with_reducible refine st_b NS b1 _ true hb8 hsv ?_ ?_ ?_); exact rfl; exact rfl; intro W hnew ho; replace hx := hx.only ho (by omega); replace hak := hak.only ho (by omega); replace hy := hy.only ho (by omega); replace hsv := hnew; replace hb := ho.bel _ _ (by omega) hb) | ((with_reducible refine st_b (NS + 1) b1 _ false hb8 hak ?_ ?_ ?_); exact rfl; exact rfl; intro W hnew ho; replace hx := hx.only ho (by omega); replace hsv := hsv.only ho (by omega); replace hy := hy.only ho (by omega); replace hak := hnew; replace hb := ho.bel _ _ (by omega) hb) | ((with_reducible refine ld_p NY _ hy ?_ ?_); exact rfl) | ((with_reducible refine ld_p (w.heap.size + 1) _ hx ?_ ?_); exact rfl) | ((with_reducible refine st_p (w.heap.size + 1) _ y2 hx ?_ ?_ ?_); exact rfl; exact rfl; intro W hnew ho; replace hsv := hsv.only ho (by omega); replace hak := hak.only ho (by omega); replace hx := hnew; replace hb := ho.bel _ _ (by omega) hb) | (go_at_call 9; (with_reducible refine (HK.out _).mono ?_); rintro e W ⟨rfl, hbc⟩; replace hx := hx.bl hbc; replace hsv := hsv.bl hbc; replace hak := hak.bl hbc; replace hb := below_bl rfl hb hbc))
            go_roundw
            case rel => exact ⟨i + 1, y2, setB sv b1 true, setB ak b1 false, by go_num, by omega, hI.out, hx, hsv, hak, hb⟩
            case measure => simp [intOf]; omega
        · have e2 : (wrap64 ((IntKind.u64.wrap kd).tmod 6) == 2) = false := by (first | (rw [hq]; rfl) | (rcases hq with hq | hq <;> (rw [hq]; rfl)))
          have e3 : (wrap64 ((IntKind.u64.wrap kd).tmod 6) == 3) = false := by (first | (rw [hq]; rfl) | (rcases hq with hq | hq <;> (rw [hq]; rfl)))
          have e4 : (wrap64 ((IntKind.u64.wrap kd).tmod 6) == 4) = true := by (first | (rw [hq]; rfl) | (rcases hq with hq | hq <;> (rw [hq]; rfl)))
          have hm9 : vl % 9 < 4294967296 := by omega
          have HW := hide (fun w => write_any y hI.ok 2097156 (vl % 9) hm9 w)
          rw [show writeV y 2097156 (vl % 9) = (endV y (vl % 9), 0) from rfl, show (((2097156 : Nat) : Int)) = 2097156 from rfl, Int.natCast_emod, show (((9 : Nat) : Int)) = 9 from rfl] at HW
          have HE0 : Hid (errP 0 = .nilIface) := hide rfl
          dsimp only at HW
          rw [HE0.out] at HW
          by_cases h8 : vl % 9 < 8
          · have t8 : ((vl : Int) % 9 < 8) := by omega
            have hI2 := inv_end hI (vl % 9) h8
            have HK := hide (fun w => check_may (endV y (vl % 9)) hI2.ok hI2.may w)
            generalize endV y (vl % 9) = y2 at *
            replace hI := hide hI2
            clear hI2 hq
            go_wp2_with (first | ((with_reducible refine ld_arg b (o + i * 3) ⟨kd, pl, vl⟩ hrg ?_ ?_); exact rfl) | ((with_reducible refine al_a NA ?_ ?_); exact hNA.out; intro W ha hb' hzA; replace hx := hx.bl (hNA.out ▸ hb'); replace hsv := hsv.bl (hNA.out ▸ hb'); replace hak := hak.bl (hNA.out ▸ hb'); replace hb := hb.trans (hb'.mono (by omega))) | ((with_reducible refine st_a NA _ ⟨kd, pl, vl⟩ ha ?_ ?_ ?_); exact rfl; exact rfl; intro W hnew ho; replace hx := hx.only ho (by omega); replace hsv := hsv.only ho (by omega); replace hak := hak.only ho (by omega); replace ha := hnew; replace hb := ho.bel _ _ (by omega) hb) | ((with_reducible refine ld_kd NA _ ha ?_ ?_); exact rfl) | ((with_reducible refine ld_pl NA _ ha ?_ ?_); exact rfl) | ((with_reducible refine ld_vl NA _ ha ?_ ?_); exact rfl) | ((with_reducible refine ld_p (w.heap.size + 1) _ hx ?_ ?_); exact rfl) | (go_at_call 11; (with_reducible refine (HW.out _).mono ?_); rintro e W ⟨rfl, hbc⟩; replace hx := hx.bl hbc; replace hsv := hsv.bl hbc; replace hak := hak.bl hbc; replace ha := ha.bl hbc; obtain ⟨NY, hNY⟩ : ∃ n, W.heap.size = n := ⟨_, rfl⟩; have lNY : NA + 1 ≤ NY := (by (have := ha.lt; omega)); replace hNY := hide hNY; replace hb := below_bl rfl hb hbc) | ((with_reducible refine al_p NY ?_ ?_); exact hNY.out; intro W hy hb' hzY; replace hx := hx.bl (hNY.out ▸ hb'); replace hsv := hsv.bl (hNY.out ▸ hb'); replace hak := hak.bl (hNY.out ▸ hb'); replace ha := ha.bl (hNY.out ▸ hb'); replace hb := hb.trans (hb'.mono (by omega))) | ((with_reducible refine st_p NY _ y2 hy ?_ ?_ ?_); exact rfl; exact rfl; intro W hnew ho; replace hx := hx.only ho (by omega); replace hsv := hsv.only ho (by omega); replace hak := hak.only ho (by omega); replace ha := ha.only ho (by omega); replace hy := hnew; replace hb := ho.bel _ _ (by omega) hb) | ((with_reducible refine st_b NS (vl % 9) _ false h8 hsv ?_ ?_ ?_); exact rfl; exact rfl; intro W hnew ho; replace hx := hx.only ho (by omega); replace hak := hak.only ho (by omega); replace hy := hy.only ho (by omega); replace ha := ha.only ho (by omega); replace hsv := hnew; replace hb := ho.bel _ _ (by omega) hb) | ((with_reducible refine ld_p NY _ hy ?_ ?_); exact rfl) | ((with_reducible refine st_p (w.heap.size + 1) _ y2 hx ?_ ?_ ?_); exact rfl; exact rfl; intro W hnew ho; replace hsv := hsv.only ho (by omega); replace hak := hak.only ho (by omega); replace ha := ha.only ho (by omega); replace hx := hnew; replace hb := ho.bel _ _ (by omega) hb) | (go_at_call 9; (with_reducible refine (HK.out _).mono ?_); rintro e W ⟨rfl, hbc⟩; replace hx := hx.bl hbc; replace hsv := hsv.bl hbc; replace hak := hak.bl hbc; replace hb := below_bl rfl hb hbc))
            go_roundw
            case rel => exact ⟨i + 1, y2, setB sv (vl % 9) false, ak, by go_num, by omega, hI.out, hx, hsv, hak, hb⟩
            case measure => simp [intOf]; omega
          · have t8 : decide ((vl : Int) % 9 < 8) = false := by simp; omega
            have e9 : vl % 9 = 8 := by omega
            rw [e9, show endV y 8 = y from rfl] at HW
            have HK := hide (fun w => check_may y hI.ok hI.may w)
            replace hI := hide hI
            clear hq e9 hm9
            go_wp2_with (first | ((with_reducible refine ld_arg b (o + i * 3) ⟨kd, pl, vl⟩ hrg ?_ ?_); exact rfl) | ((with_reducible refine al_a NA ?_ ?_); exact hNA.out; intro W ha hb' hzA; replace hx := hx.bl (hNA.out ▸ hb'); replace hsv := hsv.bl (hNA.out ▸ hb'); replace hak := hak.bl (hNA.out ▸ hb'); replace hb := hb.trans (hb'.mono (by omega))) | ((with_reducible refine st_a NA _ ⟨kd, pl, vl⟩ ha ?_ ?_ ?_); exact rfl; exact rfl; intro W hnew ho; replace hx := hx.only ho (by omega); replace hsv := hsv.only ho (by omega); replace hak := hak.only ho (by omega); replace ha := hnew; replace hb := ho.bel _ _ (by omega) hb) | ((with_reducible refine ld_kd NA _ ha ?_ ?_); exact rfl) | ((with_reducible refine ld_pl NA _ ha ?_ ?_); exact rfl) | ((with_reducible refine ld_vl NA _ ha ?_ ?_); exact rfl) | ((with_reducible refine ld_p (w.heap.size + 1) _ hx ?_ ?_); exact rfl) | (go_at_call 11; (with_reducible refine (HW.out _).mono ?_); rintro e W ⟨rfl, hbc⟩; replace hx := hx.bl hbc; replace hsv := hsv.bl hbc; replace hak := hak.bl hbc; replace ha := ha.bl hbc; obtain ⟨NY, hNY⟩ : ∃ n, W.heap.size = n := ⟨_, rfl⟩; have lNY : NA + 1 ≤ NY := (by (have := ha.lt; omega)); replace hNY := hide hNY; replace hb := below_bl rfl hb hbc) | ((with_reducible refine al_p NY ?_ ?_); exact hNY.out; intro W hy hb' hzY; replace hx := hx.bl (hNY.out ▸ hb'); replace hsv := hsv.bl (hNY.out ▸ hb'); replace hak := hak.bl (hNY.out ▸ hb'); replace ha := ha.bl (hNY.out ▸ hb'); replace hb := hb.trans (hb'.mono (by omega))) | ((with_reducible refine st_p NY _ y hy ?_ ?_ ?_); exact rfl; exact rfl; intro W hnew ho; replace hx := hx.only ho (by omega); replace hsv := hsv.only ho (by omega); replace hak := hak.only ho (by omega); replace ha := ha.only ho (by omega); replace hy := hnew; replace hb := ho.bel _ _ (by omega) hb) | ((with_reducible refine ld_p NY _ hy ?_ ?_); exact rfl) | ((with_reducible refine st_p (w.heap.size + 1) _ y hx ?_ ?_ ?_); exact rfl; exact rfl; intro W hnew ho; replace hsv := hsv.only ho (by omega); replace hak := hak.only ho (by omega); replace ha := ha.only ho (by omega); replace hx := hnew; replace hb := ho.bel _ _ (by omega) hb) | (go_at_call 9; (with_reducible refine (HK.out _).mono ?_); rintro e W ⟨rfl, hbc⟩; replace hx := hx.bl hbc; replace hsv := hsv.bl hbc; replace hak := hak.bl hbc; replace hb := below_bl rfl hb hbc))
            go_roundw
            case rel => exact ⟨i + 1, y, sv, ak, by go_num, by omega, hI.out, hx, hsv, hak, hb⟩
            case measure => simp [intOf]; omega
        · have e2 : (wrap64 ((IntKind.u64.wrap kd).tmod 6) == 2) = false := by (first | (rw [hq]; rfl) | (rcases hq with hq | hq <;> (rw [hq]; rfl)))
          have e3 : (wrap64 ((IntKind.u64.wrap kd).tmod 6) == 3) = false := by (first | (rw [hq]; rfl) | (rcases hq with hq | hq <;> (rw [hq]; rfl)))
          have e4 : (wrap64 ((IntKind.u64.wrap kd).tmod 6) == 4) = false := by (first | (rw [hq]; rfl) | (rcases hq with hq | hq <;> (rw [hq]; rfl)))
          have e5 : (wrap64 ((IntKind.u64.wrap kd).tmod 6) == 5) = true := by (first | (rw [hq]; rfl) | (rcases hq with hq | hq <;> (rw [hq]; rfl)))
          have HW := hide (fun w => write_any y hI.ok pl vl hvl w)
          by_cases he : (writeV y pl vl).2 = 0
          · rw [he, show errP 0 = .nilIface from rfl] at HW
            by_cases hc : pl = 2097156
            · have t9 : ((pl : Int) != 2097156) = false := by simp; omega
              have HK := hide (fun w => check_may y hI.ok hI.may w)
              replace hI := hide hI
              generalize (writeV y pl vl).1 = y2 at *
              clear hq he hc
              go_wp2_with (first | ((with_reducible refine ld_arg b (o + i * 3) ⟨kd, pl, vl⟩ hrg ?_ ?_); exact rfl) | ((with_reducible refine al_a NA ?_ ?_); exact hNA.out; intro W ha hb' hzA; replace hx := hx.bl (hNA.out ▸ hb'); replace hsv := hsv.bl (hNA.out ▸ hb'); replace hak := hak.bl (hNA.out ▸ hb'); replace hb := hb.trans (hb'.mono (by omega))) | ((with_reducible refine st_a NA _ ⟨kd, pl, vl⟩ ha ?_ ?_ ?_); exact rfl; exact rfl; intro W hnew ho; replace hx := hx.only ho (by omega); replace hsv := hsv.only ho (by omega); replace hak := hak.only ho (by omega); replace ha := hnew; replace hb := ho.bel _ _ (by omega) hb) | ((with_reducible refine ld_kd NA _ ha ?_ ?_); exact rfl) | ((with_reducible refine ld_pl NA _ ha ?_ ?_); exact rfl) | ((with_reducible refine ld_vl NA _ ha ?_ ?_); exact rfl) | ((with_reducible refine ld_p (w.heap.size + 1) _ hx ?_ ?_); exact rfl) | (go_at_call 11; (with_reducible refine (HW.out _).mono ?_); rintro e W ⟨rfl, hbc⟩; replace hx := hx.bl hbc; replace hsv := hsv.bl hbc; replace hak := hak.bl hbc; replace ha := ha.bl hbc; obtain ⟨NY, hNY⟩ : ∃ n, W.heap.size = n := ⟨_, rfl⟩; have lNY : NA + 1 ≤ NY := (by (have := ha.lt; omega)); replace hNY := hide hNY; replace hb := below_bl rfl hb hbc) | ((with_reducible refine al_p NY ?_ ?_); exact hNY.out; intro W hy hb' hzY; replace hx := hx.bl (hNY.out ▸ hb'); replace hsv := hsv.bl (hNY.out ▸ hb'); replace hak := hak.bl (hNY.out ▸ hb'); replace ha := ha.bl (hNY.out ▸ hb'); replace hb := hb.trans (hb'.mono (by omega))) | ((with_reducible refine st_p NY _ y2 hy ?_ ?_ ?_); exact rfl; exact rfl; intro W hnew ho; replace hx := hx.only ho (by omega); replace hsv := hsv.only ho (by omega); replace hak := hak.only ho (by omega); replace ha := ha.only ho (by omega); replace hy := hnew; replace hb := ho.bel _ _ (by omega) hb) | ((with_reducible refine g_ldw NA 1 _ _ pl ha ?_ ?_ ?_ ?_); exact rfl; exact rfl; exact rfl) | (go_at_call 9; (with_reducible refine (HK.out _).mono ?_); rintro e W ⟨rfl, hbc⟩; replace hx := hx.bl hbc; replace hsv := hsv.bl hbc; replace hak := hak.bl hbc; replace hb := below_bl rfl hb hbc))
              go_roundw
              case rel => exact ⟨i + 1, y, sv, ak, by go_num, by omega, hI.out, hx, hsv, hak, hb⟩
              case measure => simp [intOf]; omega
            · have t9 : ((pl : Int) != 2097156) = true := by simp; omega
              have hI2 := inv_write hI pl vl hvl hc he
              have HK := hide (fun w => check_may _ hI2.ok hI2.may w)
              replace hI := hide hI2
              generalize (writeV y pl vl).1 = y2 at *
              clear hI2 hq he hc
              go_wp2_with (first | ((with_reducible refine ld_arg b (o + i * 3) ⟨kd, pl, vl⟩ hrg ?_ ?_); exact rfl) | ((with_reducible refine al_a NA ?_ ?_); exact hNA.out; intro W ha hb' hzA; replace hx := hx.bl (hNA.out ▸ hb'); replace hsv := hsv.bl (hNA.out ▸ hb'); replace hak := hak.bl (hNA.out ▸ hb'); replace hb := hb.trans (hb'.mono (by omega))) | ((with_reducible refine st_a NA _ ⟨kd, pl, vl⟩ ha ?_ ?_ ?_); exact rfl; exact rfl; intro W hnew ho; replace hx := hx.only ho (by omega); replace hsv := hsv.only ho (by omega); replace hak := hak.only ho (by omega); replace ha := hnew; replace hb := ho.bel _ _ (by omega) hb) | ((with_reducible refine ld_kd NA _ ha ?_ ?_); exact rfl) | ((with_reducible refine ld_pl NA _ ha ?_ ?_); exact rfl) | ((with_reducible refine ld_vl NA _ ha ?_ ?_); exact rfl) | ((with_reducible refine ld_p (w.heap.size + 1) _ hx ?_ ?_); exact rfl) | (go_at_call 11; (with_reducible refine (HW.out _).mono ?_); rintro e W ⟨rfl, hbc⟩; replace hx := hx.bl hbc; replace hsv := hsv.bl hbc; replace hak := hak.bl hbc; replace ha := ha.bl hbc; obtain ⟨NY, hNY⟩ : ∃ n, W.heap.size = n := ⟨_, rfl⟩; have lNY : NA + 1 ≤ NY := (by (have := ha.lt; omega)); replace hNY := hide hNY; replace hb := below_bl rfl hb hbc) | ((with_reducible refine al_p NY ?_ ?_); exact hNY.out; intro W hy hb' hzY; replace hx := hx.bl (hNY.out ▸ hb'); replace hsv := hsv.bl (hNY.out ▸ hb'); replace hak := hak.bl (hNY.out ▸ hb'); replace ha := ha.bl (hNY.out ▸ hb'); replace hb := hb.trans (hb'.mono (by omega))) | ((with_reducible refine st_p NY _ y2 hy ?_ ?_ ?_); exact rfl; exact rfl; intro W hnew ho; replace hx := hx.only ho (by omega); replace hsv := hsv.only ho (by omega); replace hak := hak.only ho (by omega); replace ha := ha.only ho (by omega); replace hy := hnew; replace hb := ho.bel _ _ (by omega) hb) | ((with_reducible refine g_ldw NA 1 _ _ pl ha ?_ ?_ ?_ ?_); exact rfl; exact rfl; exact rfl) | ((with_reducible refine ld_p NY _ hy ?_ ?_); exact rfl) | ((with_reducible refine st_p (w.heap.size + 1) _ y2 hx ?_ ?_ ?_); exact rfl; exact rfl; intro W hnew ho; replace hsv := hsv.only ho (by omega); replace hak := hak.only ho (by omega); replace ha := ha.only ho (by omega); replace hx := hnew; replace hb := ho.bel _ _ (by omega) hb) | (go_at_call 9; (with_reducible refine (HK.out _).mono ?_); rintro e W ⟨rfl, hbc⟩; replace hx := hx.bl hbc; replace hsv := hsv.bl hbc; replace hak := hak.bl hbc; replace hb := below_bl rfl hb hbc))
              go_roundw
              case rel => exact ⟨i + 1, y2, sv, ak, by go_num, by omega, hI.out, hx, hsv, hak, hb⟩
              case measure => simp [intOf]; omega
          · have he2 : (writeV y pl vl).2 = 20 := by
              revert he
              unfold writeV
              repeat' split
              all_goals simp
            rw [he2, show errP 20 = .iface 51 (.int .i64 20) from rfl] at HW
            have HK := hide (fun w => check_may y hI.ok hI.may w)
            replace hI := hide hI
            generalize (writeV y pl vl).1 = y2 at *
            clear hq he he2
            go_wp2_with (first | ((with_reducible refine ld_arg b (o + i * 3) ⟨kd, pl, vl⟩ hrg ?_ ?_); exact rfl) | ((with_reducible refine al_a NA ?_ ?_); exact hNA.out; intro W ha hb' hzA; replace hx := hx.bl (hNA.out ▸ hb'); replace hsv := hsv.bl (hNA.out ▸ hb'); replace hak := hak.bl (hNA.out ▸ hb'); replace hb := hb.trans (hb'.mono (by omega))) | ((with_reducible refine st_a NA _ ⟨kd, pl, vl⟩ ha ?_ ?_ ?_); exact rfl; exact rfl; intro W hnew ho; replace hx := hx.only ho (by omega); replace hsv := hsv.only ho (by omega); replace hak := hak.only ho (by omega); replace ha := hnew; replace hb := ho.bel _ _ (by omega) hb) | ((with_reducible refine ld_kd NA _ ha ?_ ?_); exact rfl) | ((with_reducible refine ld_pl NA _ ha ?_ ?_); exact rfl) | ((with_reducible refine ld_vl NA _ ha ?_ ?_); exact rfl) | ((with_reducible refine ld_p (w.heap.size + 1) _ hx ?_ ?_); exact rfl) | (go_at_call 11; (with_reducible refine (HW.out _).mono ?_); rintro e W ⟨rfl, hbc⟩; replace hx := hx.bl hbc; replace hsv := hsv.bl hbc; replace hak := hak.bl hbc; replace ha := ha.bl hbc; obtain ⟨NY, hNY⟩ : ∃ n, W.heap.size = n := ⟨_, rfl⟩; have lNY : NA + 1 ≤ NY := (by (have := ha.lt; omega)); replace hNY := hide hNY; replace hb := below_bl rfl hb hbc) | ((with_reducible refine al_p NY ?_ ?_); exact hNY.out; intro W hy hb' hzY; replace hx := hx.bl (hNY.out ▸ hb'); replace hsv := hsv.bl (hNY.out ▸ hb'); replace hak := hak.bl (hNY.out ▸ hb'); replace ha := ha.bl (hNY.out ▸ hb'); replace hb := hb.trans (hb'.mono (by omega))) | ((with_reducible refine st_p NY _ y2 hy ?_ ?_ ?_); exact rfl; exact rfl; intro W hnew ho; replace hx := hx.only ho (by omega); replace hsv := hsv.only ho (by omega); replace hak := hak.only ho (by omega); replace ha := ha.only ho (by omega); replace hy := hnew; replace hb := ho.bel _ _ (by omega) hb) | (go_at_call 9; (with_reducible refine (HK.out _).mono ?_); rintro e W ⟨rfl, hbc⟩; replace hx := hx.bl hbc; replace hsv := hsv.bl hbc; replace hak := hak.bl hbc; replace hb := below_bl rfl hb hbc))
            go_roundw
            case rel => exact ⟨i + 1, y, sv, ak, by go_num, by omega, hI.out, hx, hsv, hak, hb⟩
            case measure => simp [intOf]; omega
      · have t1 : decide ((i : Int) < 60) = false := by simp; omega
        clear hx hsv hak hI
        go_wp2_with (first | (go_at_call 8; refine (HS.out _).mono ?_; rintro e W ⟨rfl, hbc⟩; replace hb := below_bl rfl hb hbc))
        go_ret
        exact ⟨rfl, hb⟩
    · have t0 : decide ((i : Int) < (n : Int)) = false := by simp; omega
      clear hx hsv hak hI
      go_wp2_with (first | (go_at_call 8; refine (HS.out _).mono ?_; rintro e W ⟨rfl, hbc⟩; replace hb := below_bl rfl hb hbc))
      go_ret
      exact ⟨rfl, hb⟩

end Go.Proofs.Ytadgdgjmadchjaa
