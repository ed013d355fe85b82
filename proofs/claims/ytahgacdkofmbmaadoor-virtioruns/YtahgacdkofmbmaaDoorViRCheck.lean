/-
  What the document's Check answers.
-/
import Derived.Test.YtahgacdkofmbmaaDoorViRSmall
import Derived.Test.YtahgacdkofmbmaaDoorRgRCk
import Derived.Test.YtahgacdkofmbmaaDoorViHoldM
namespace Go.Proofs.YtahgacdkofmbmaaDoor
open Go.RowKit
set_option linter.unusedVariables false

attribute [local go_sem] V.at0 V.at1 V.at2 V.at3 V.at4 V.at5 V.at6 V.at7 V.at8 V.at9 V.at10 V.at11 V.at12 V.at13 V.at14 V.at15 V.at16 V.at17 V.at18 V.at19 V.at20 Qu.at0 Qu.at1 Qu.at2 Qu.at3 Qu.at4 Qu.at5 Qu.at6
set_option maxRecDepth 20000 in
set_option maxHeartbeats 4000000 in
theorem vcheck_any (s : V) (ok : s.Ok) (w : World) :
    Calls Tryd.prog 13 #[.agg s.cells] w fun e w' => e = .returned (.int .i64 (if mayV s = true then 0 else 1)) ∧ Below w.heap.size w w' := by
  obtain ⟨z, hz⟩ : ∃ z : Int, (if mayV s = true then (0 : Int) else 1) = z := ⟨_, rfl⟩
  rw [hz]
  have HZ := hide hz
  clear hz
  have NO : Hid (mayV s = false → (1 : Int) = z) := hide (fun h => by rw [← HZ.out, h]; rfl)
  have YES : Hid (mayV s = true → (0 : Int) = z) := hide (fun h => by rw [← HZ.out, h]; rfl)
  clear HZ
  go_enter Tryd.func13, Tryd.ntmps13
  go_wp2_with (first | ((with_reducible refine bx_vr w.heap.size s ?_ ?_ ?_); exact rfl; exact rfl; intro W hr hb hz; have fx := hr.cell))
  clear fx hz
  go_loopw [3] (fun iv wr => ∃ i : Nat, i ≤ 32 ∧ iv = .int .i64 (i : Nat) ∧ (∀ j, j < i → s.st.testBit j = true → j = 0 ∨ j = 1 ∨ j = 2 ∨ j = 3 ∨ j = 6 ∨ j = 7) ∧ RowAt wr w.heap.size s.cells 31 ∧ Below w.heap.size w wr) (fun iv _ => 32 - (intOf iv).toNat)
  case atStart => exact ⟨0, by omega, rfl, fun j h => absurd h (by omega), hr, hb⟩
  case round =>
    clear hr hb
    obtain ⟨i, hi, rfl, hal, hr, hb⟩ := hrel
    have HAL := hide hal
    clear hal
    by_cases hlt : i < 32
    · have lt1 : (i : Int) < 32 := by omega
      have HH := hide (fun w => rhas_any s.st ok.st i (by omega) w)
      cases hbit : s.st.testBit i with
      | false =>
        rw [hbit] at HH
        have fx := hr.cell
        go_wp2_with (first | (go_at_call 30; (with_reducible refine (HH.out _).mono ?_); rintro e W ⟨rfl, rfl⟩))
        go_roundw
        case rel => exact ⟨i + 1, by omega, by go_num, fun j hj hb2 => by (by_cases e : j = i; (subst e; rw [hbit] at hb2; cases hb2); exact HAL.out j (by omega) hb2), hr, hb⟩
        case measure => simp [intOf]; omega
      | true =>
        rw [hbit] at HH
        have fx := hr.cell
        by_cases e0 : i = 0
        · subst e0
          have HH : Hid (∀ w, Calls Tryd.prog 30 #[.int .u32 (s.st : Nat), .int .i64 0] w fun e w' => e = .returned (.bool true) ∧ w' = w) := HH
          go_wp2_with (first | (go_at_call 30; (with_reducible refine (HH.out _).mono ?_); rintro e W ⟨rfl, rfl⟩))
          go_roundw
          case rel => exact ⟨1, by omega, by go_num, fun j hj hb2 => by (by_cases e : j = 0; omega; exact HAL.out j (by omega) hb2), hr, hb⟩
          case measure => simp [intOf]
        by_cases e1 : i = 1
        · subst e1
          have HH : Hid (∀ w, Calls Tryd.prog 30 #[.int .u32 (s.st : Nat), .int .i64 1] w fun e w' => e = .returned (.bool true) ∧ w' = w) := HH
          go_wp2_with (first | (go_at_call 30; (with_reducible refine (HH.out _).mono ?_); rintro e W ⟨rfl, rfl⟩))
          go_roundw
          case rel => exact ⟨2, by omega, by go_num, fun j hj hb2 => by (by_cases e : j = 1; omega; exact HAL.out j (by omega) hb2), hr, hb⟩
          case measure => simp [intOf]
        by_cases e2 : i = 2
        · subst e2
          have HH : Hid (∀ w, Calls Tryd.prog 30 #[.int .u32 (s.st : Nat), .int .i64 2] w fun e w' => e = .returned (.bool true) ∧ w' = w) := HH
          go_wp2_with (first | (go_at_call 30; (with_reducible refine (HH.out _).mono ?_); rintro e W ⟨rfl, rfl⟩))
          go_roundw
          case rel => exact ⟨3, by omega, by go_num, fun j hj hb2 => by (by_cases e : j = 2; omega; exact HAL.out j (by omega) hb2), hr, hb⟩
          case measure => simp [intOf]
        by_cases e3 : i = 3
        · subst e3
          have HH : Hid (∀ w, Calls Tryd.prog 30 #[.int .u32 (s.st : Nat), .int .i64 3] w fun e w' => e = .returned (.bool true) ∧ w' = w) := HH
          go_wp2_with (first | (go_at_call 30; (with_reducible refine (HH.out _).mono ?_); rintro e W ⟨rfl, rfl⟩))
          go_roundw
          case rel => exact ⟨4, by omega, by go_num, fun j hj hb2 => by (by_cases e : j = 3; omega; exact HAL.out j (by omega) hb2), hr, hb⟩
          case measure => simp [intOf]
        by_cases e6 : i = 6
        · subst e6
          have HH : Hid (∀ w, Calls Tryd.prog 30 #[.int .u32 (s.st : Nat), .int .i64 6] w fun e w' => e = .returned (.bool true) ∧ w' = w) := HH
          go_wp2_with (first | (go_at_call 30; (with_reducible refine (HH.out _).mono ?_); rintro e W ⟨rfl, rfl⟩))
          go_roundw
          case rel => exact ⟨7, by omega, by go_num, fun j hj hb2 => by (by_cases e : j = 6; omega; exact HAL.out j (by omega) hb2), hr, hb⟩
          case measure => simp [intOf]
        by_cases e7 : i = 7
        · subst e7
          have HH : Hid (∀ w, Calls Tryd.prog 30 #[.int .u32 (s.st : Nat), .int .i64 7] w fun e w' => e = .returned (.bool true) ∧ w' = w) := HH
          go_wp2_with (first | (go_at_call 30; (with_reducible refine (HH.out _).mono ?_); rintro e W ⟨rfl, rfl⟩))
          go_roundw
          case rel => exact ⟨8, by omega, by go_num, fun j hj hb2 => by (by_cases e : j = 7; omega; exact HAL.out j (by omega) hb2), hr, hb⟩
          case measure => simp [intOf]
        have l0 : ((i : Int) != 0) = true := by simp; omega
        have m0 : (i != 0) = true := by simp; omega
        have l1 : ((i : Int) != 1) = true := by simp; omega
        have m1 : (i != 1) = true := by simp; omega
        have l2 : ((i : Int) != 2) = true := by simp; omega
        have m2 : (i != 2) = true := by simp; omega
        have l3 : ((i : Int) != 3) = true := by simp; omega
        have m3 : (i != 3) = true := by simp; omega
        have l6 : ((i : Int) != 6) = true := by simp; omega
        have m6 : (i != 6) = true := by simp; omega
        have l7 : ((i : Int) != 7) = true := by simp; omega
        have m7 : (i != 7) = true := by simp; omega
        go_wp2_with (first | (go_at_call 30; (with_reducible refine (HH.out _).mono ?_); rintro e W ⟨rfl, rfl⟩))
        go_ret
        exact ⟨by rw [← NO.out (by unfold mayV; rw [show okSt s.st = false by (cases h : okSt s.st with | false => rfl | true => (have := (okSt_iff s.st).1 h i hlt hbit; omega))]; rfl)]; rfl, hb⟩
    · obtain rfl : i = 32 := by omega
      have HST := hide ((okSt_iff s.st).2 HAL.out)
      clear HAL hlt hi
      have fx := hr.cell
      go_wp2
      clear fx
      go_loopw [4, 5] (fun iv qv wr => ∃ i : Nat, i ≤ 2 ∧ iv = .int .i64 i ∧ (0 < i → mayQ s.q0 = true) ∧ (1 < i → mayQ s.q1 = true) ∧ RowAt wr w.heap.size s.cells 31 ∧ Below w.heap.size w wr) (fun iv _ _ => 2 - (intOf iv).toNat)
      case atStart => exact ⟨0, by omega, rfl, fun h => absurd h (by omega), fun h => absurd h (by omega), hr, hb⟩
      case round =>
        clear hr hb
        obtain ⟨i, hi, rfl, q0, q1, hr, hb⟩ := hrel
        replace q0 := hide q0
        replace q1 := hide q1
        obtain ⟨NQ, hNQ⟩ : ∃ n, wr.heap.size = n := ⟨_, rfl⟩
        have lNQ : w.heap.size + 1 ≤ NQ := by have := hr.lt; omega
        replace hNQ := hide hNQ
        have hi3 : i = 0 ∨ i = 1 ∨ i = 2 := by omega
        rcases hi3 with rfl | rfl | rfl
        · cases hrd : s.q0.rd with
          | true =>
            have HD := hide (fun w => dcheck_any s.q0.r ok.q0 w)
            cases hc : chkR s.q0.r with
            | true =>
              have HQ : Hid (mayQ s.q0 = true) := hide (by unfold mayQ; rw [if_pos hrd]; exact hc)
              rw [hc] at HD
              replace HD : Hid (∀ w, Calls Tryd.prog 31 #[.agg s.q0.r.cells] w fun e w' => e = .returned (.int .i64 0) ∧ Below w.heap.size w w') := HD
              go_wp2_with (first | ((with_reducible refine ld_q0r w.heap.size _ _ hr ?_ ?_ ?_); exact rfl; exact rfl) | ((with_reducible refine al_qr NQ ?_ ?_); exact hNQ.out; intro W hq hb' hz'; replace hr := hr.bl (hNQ.out ▸ hb'); replace hb := hb.trans (hb'.mono (by omega))) | ((with_reducible refine st_qr NQ _ s.q0 hq ?_ ?_ ?_); exact rfl; exact rfl; intro W hnew ho; replace hr := hr.only ho (by omega); replace hq := hnew; have fq := hq.cell; replace hb := ho.bel _ _ (by omega) hb) | ((with_reducible refine ld_qurr NQ _ _ hq ?_ ?_ ?_); exact rfl; exact rfl) | (go_at_call 31; (with_reducible refine (HD.out _).mono ?_); rintro e W ⟨rfl, hbc⟩; replace hr := hr.bl hbc; replace hq := hq.bl hbc; replace fq := hq.cell; replace hb := below_bl rfl hb hbc))
              go_roundw
              case rel => (repeat (first | exact ⟨⟨1, by omega, rfl, fun _ => HQ.out, fun h => absurd h (by omega), hr, hb⟩, by first | trivial | rfl⟩ | exact ⟨1, by omega, rfl, fun _ => HQ.out, fun h => absurd h (by omega), hr, hb⟩ | apply Exists.intro))
              case measure => simp [intOf]
            | false =>
              have HQ : Hid (mayQ s.q0 = false) := hide (by unfold mayQ; rw [if_pos hrd]; exact hc)
              rw [hc] at HD
              replace HD : Hid (∀ w, Calls Tryd.prog 31 #[.agg s.q0.r.cells] w fun e w' => e = .returned (.int .i64 1) ∧ Below w.heap.size w w') := HD
              go_wp2_with (first | ((with_reducible refine ld_q0r w.heap.size _ _ hr ?_ ?_ ?_); exact rfl; exact rfl) | ((with_reducible refine al_qr NQ ?_ ?_); exact hNQ.out; intro W hq hb' hz'; replace hr := hr.bl (hNQ.out ▸ hb'); replace hb := hb.trans (hb'.mono (by omega))) | ((with_reducible refine st_qr NQ _ s.q0 hq ?_ ?_ ?_); exact rfl; exact rfl; intro W hnew ho; replace hr := hr.only ho (by omega); replace hq := hnew; have fq := hq.cell; replace hb := ho.bel _ _ (by omega) hb) | ((with_reducible refine ld_qurr NQ _ _ hq ?_ ?_ ?_); exact rfl; exact rfl) | (go_at_call 31; (with_reducible refine (HD.out _).mono ?_); rintro e W ⟨rfl, hbc⟩; replace hr := hr.bl hbc; replace hq := hq.bl hbc; replace fq := hq.cell; replace hb := below_bl rfl hb hbc))
              go_ret
              exact ⟨by rw [← NO.out (by unfold mayV; rw [HQ.out]; simp)]; rfl, hb⟩
          | false =>
            by_cases h0 : 0 ≤ s.q0.r.sz
            · have l0 : decide (s.q0.r.sz < 0) = false := by simp; omega
              by_cases h1 : s.q0.r.sz ≤ 256
              · have l1 : decide (s.q0.r.sz > 256) = false := by simp; omega
                have l1b : decide (256 < s.q0.r.sz) = false := by simp; omega
                have HQ : Hid (mayQ s.q0 = true) := hide (by unfold mayQ; rw [hrd, if_neg (by decide)]; simp [h0, h1])
                go_wp2_with (first | ((with_reducible refine ld_q0r w.heap.size _ _ hr ?_ ?_ ?_); exact rfl; exact rfl) | ((with_reducible refine al_qr NQ ?_ ?_); exact hNQ.out; intro W hq hb' hz'; replace hr := hr.bl (hNQ.out ▸ hb'); replace hb := hb.trans (hb'.mono (by omega))) | ((with_reducible refine st_qr NQ _ s.q0 hq ?_ ?_ ?_); exact rfl; exact rfl; intro W hnew ho; replace hr := hr.only ho (by omega); replace hq := hnew; have fq := hq.cell; replace hb := ho.bel _ _ (by omega) hb) | ((with_reducible refine ld_qurr NQ _ _ hq ?_ ?_ ?_); exact rfl; exact rfl))
                go_roundw
                case rel => (repeat (first | exact ⟨⟨1, by omega, rfl, fun _ => HQ.out, fun h => absurd h (by omega), hr, hb⟩, by first | trivial | rfl⟩ | exact ⟨1, by omega, rfl, fun _ => HQ.out, fun h => absurd h (by omega), hr, hb⟩ | apply Exists.intro))
                case measure => simp [intOf]
              · have l1 : s.q0.r.sz > 256 := by omega
                have l1b : 256 < s.q0.r.sz := by omega
                have HQ : Hid (mayQ s.q0 = false) := hide (by unfold mayQ; rw [hrd, if_neg (by decide), decide_eq_false h1, Bool.and_false])
                go_wp2_with (first | ((with_reducible refine ld_q0r w.heap.size _ _ hr ?_ ?_ ?_); exact rfl; exact rfl) | ((with_reducible refine al_qr NQ ?_ ?_); exact hNQ.out; intro W hq hb' hz'; replace hr := hr.bl (hNQ.out ▸ hb'); replace hb := hb.trans (hb'.mono (by omega))) | ((with_reducible refine st_qr NQ _ s.q0 hq ?_ ?_ ?_); exact rfl; exact rfl; intro W hnew ho; replace hr := hr.only ho (by omega); replace hq := hnew; have fq := hq.cell; replace hb := ho.bel _ _ (by omega) hb) | ((with_reducible refine ld_qurr NQ _ _ hq ?_ ?_ ?_); exact rfl; exact rfl))
                go_ret
                exact ⟨by rw [← NO.out (by unfold mayV; rw [HQ.out]; simp)]; rfl, hb⟩
            · have l0 : s.q0.r.sz < 0 := by omega
              have HQ : Hid (mayQ s.q0 = false) := hide (by unfold mayQ; rw [hrd, if_neg (by decide), decide_eq_false h0]; rfl)
              go_wp2_with (first | ((with_reducible refine ld_q0r w.heap.size _ _ hr ?_ ?_ ?_); exact rfl; exact rfl) | ((with_reducible refine al_qr NQ ?_ ?_); exact hNQ.out; intro W hq hb' hz'; replace hr := hr.bl (hNQ.out ▸ hb'); replace hb := hb.trans (hb'.mono (by omega))) | ((with_reducible refine st_qr NQ _ s.q0 hq ?_ ?_ ?_); exact rfl; exact rfl; intro W hnew ho; replace hr := hr.only ho (by omega); replace hq := hnew; have fq := hq.cell; replace hb := ho.bel _ _ (by omega) hb) | ((with_reducible refine ld_qurr NQ _ _ hq ?_ ?_ ?_); exact rfl; exact rfl))
              go_ret
              exact ⟨by rw [← NO.out (by unfold mayV; rw [HQ.out]; simp)]; rfl, hb⟩
        · cases hrd : s.q1.rd with
          | true =>
            have HD := hide (fun w => dcheck_any s.q1.r ok.q1 w)
            cases hc : chkR s.q1.r with
            | true =>
              have HQ : Hid (mayQ s.q1 = true) := hide (by unfold mayQ; rw [if_pos hrd]; exact hc)
              rw [hc] at HD
              replace HD : Hid (∀ w, Calls Tryd.prog 31 #[.agg s.q1.r.cells] w fun e w' => e = .returned (.int .i64 0) ∧ Below w.heap.size w w') := HD
              go_wp2_with (first | ((with_reducible refine ld_q1r w.heap.size _ _ hr ?_ ?_ ?_); exact rfl; exact rfl) | ((with_reducible refine al_qr NQ ?_ ?_); exact hNQ.out; intro W hq hb' hz'; replace hr := hr.bl (hNQ.out ▸ hb'); replace hb := hb.trans (hb'.mono (by omega))) | ((with_reducible refine st_qr NQ _ s.q1 hq ?_ ?_ ?_); exact rfl; exact rfl; intro W hnew ho; replace hr := hr.only ho (by omega); replace hq := hnew; have fq := hq.cell; replace hb := ho.bel _ _ (by omega) hb) | ((with_reducible refine ld_qurr NQ _ _ hq ?_ ?_ ?_); exact rfl; exact rfl) | (go_at_call 31; (with_reducible refine (HD.out _).mono ?_); rintro e W ⟨rfl, hbc⟩; replace hr := hr.bl hbc; replace hq := hq.bl hbc; replace fq := hq.cell; replace hb := below_bl rfl hb hbc))
              go_roundw
              case rel => (repeat (first | exact ⟨⟨2, by omega, rfl, fun _ => q0.out (by omega), fun h => HQ.out, hr, hb⟩, by first | trivial | rfl⟩ | exact ⟨2, by omega, rfl, fun _ => q0.out (by omega), fun h => HQ.out, hr, hb⟩ | apply Exists.intro))
              case measure => simp [intOf]
            | false =>
              have HQ : Hid (mayQ s.q1 = false) := hide (by unfold mayQ; rw [if_pos hrd]; exact hc)
              rw [hc] at HD
              replace HD : Hid (∀ w, Calls Tryd.prog 31 #[.agg s.q1.r.cells] w fun e w' => e = .returned (.int .i64 1) ∧ Below w.heap.size w w') := HD
              go_wp2_with (first | ((with_reducible refine ld_q1r w.heap.size _ _ hr ?_ ?_ ?_); exact rfl; exact rfl) | ((with_reducible refine al_qr NQ ?_ ?_); exact hNQ.out; intro W hq hb' hz'; replace hr := hr.bl (hNQ.out ▸ hb'); replace hb := hb.trans (hb'.mono (by omega))) | ((with_reducible refine st_qr NQ _ s.q1 hq ?_ ?_ ?_); exact rfl; exact rfl; intro W hnew ho; replace hr := hr.only ho (by omega); replace hq := hnew; have fq := hq.cell; replace hb := ho.bel _ _ (by omega) hb) | ((with_reducible refine ld_qurr NQ _ _ hq ?_ ?_ ?_); exact rfl; exact rfl) | (go_at_call 31; (with_reducible refine (HD.out _).mono ?_); rintro e W ⟨rfl, hbc⟩; replace hr := hr.bl hbc; replace hq := hq.bl hbc; replace fq := hq.cell; replace hb := below_bl rfl hb hbc))
              go_ret
              exact ⟨by rw [← NO.out (by unfold mayV; rw [HQ.out]; simp)]; rfl, hb⟩
          | false =>
            by_cases h0 : 0 ≤ s.q1.r.sz
            · have l0 : decide (s.q1.r.sz < 0) = false := by simp; omega
              by_cases h1 : s.q1.r.sz ≤ 256
              · have l1 : decide (s.q1.r.sz > 256) = false := by simp; omega
                have l1b : decide (256 < s.q1.r.sz) = false := by simp; omega
                have HQ : Hid (mayQ s.q1 = true) := hide (by unfold mayQ; rw [hrd, if_neg (by decide)]; simp [h0, h1])
                go_wp2_with (first | ((with_reducible refine ld_q1r w.heap.size _ _ hr ?_ ?_ ?_); exact rfl; exact rfl) | ((with_reducible refine al_qr NQ ?_ ?_); exact hNQ.out; intro W hq hb' hz'; replace hr := hr.bl (hNQ.out ▸ hb'); replace hb := hb.trans (hb'.mono (by omega))) | ((with_reducible refine st_qr NQ _ s.q1 hq ?_ ?_ ?_); exact rfl; exact rfl; intro W hnew ho; replace hr := hr.only ho (by omega); replace hq := hnew; have fq := hq.cell; replace hb := ho.bel _ _ (by omega) hb) | ((with_reducible refine ld_qurr NQ _ _ hq ?_ ?_ ?_); exact rfl; exact rfl))
                go_roundw
                case rel => (repeat (first | exact ⟨⟨2, by omega, rfl, fun _ => q0.out (by omega), fun h => HQ.out, hr, hb⟩, by first | trivial | rfl⟩ | exact ⟨2, by omega, rfl, fun _ => q0.out (by omega), fun h => HQ.out, hr, hb⟩ | apply Exists.intro))
                case measure => simp [intOf]
              · have l1 : s.q1.r.sz > 256 := by omega
                have l1b : 256 < s.q1.r.sz := by omega
                have HQ : Hid (mayQ s.q1 = false) := hide (by unfold mayQ; rw [hrd, if_neg (by decide), decide_eq_false h1, Bool.and_false])
                go_wp2_with (first | ((with_reducible refine ld_q1r w.heap.size _ _ hr ?_ ?_ ?_); exact rfl; exact rfl) | ((with_reducible refine al_qr NQ ?_ ?_); exact hNQ.out; intro W hq hb' hz'; replace hr := hr.bl (hNQ.out ▸ hb'); replace hb := hb.trans (hb'.mono (by omega))) | ((with_reducible refine st_qr NQ _ s.q1 hq ?_ ?_ ?_); exact rfl; exact rfl; intro W hnew ho; replace hr := hr.only ho (by omega); replace hq := hnew; have fq := hq.cell; replace hb := ho.bel _ _ (by omega) hb) | ((with_reducible refine ld_qurr NQ _ _ hq ?_ ?_ ?_); exact rfl; exact rfl))
                go_ret
                exact ⟨by rw [← NO.out (by unfold mayV; rw [HQ.out]; simp)]; rfl, hb⟩
            · have l0 : s.q1.r.sz < 0 := by omega
              have HQ : Hid (mayQ s.q1 = false) := hide (by unfold mayQ; rw [hrd, if_neg (by decide), decide_eq_false h0]; rfl)
              go_wp2_with (first | ((with_reducible refine ld_q1r w.heap.size _ _ hr ?_ ?_ ?_); exact rfl; exact rfl) | ((with_reducible refine al_qr NQ ?_ ?_); exact hNQ.out; intro W hq hb' hz'; replace hr := hr.bl (hNQ.out ▸ hb'); replace hb := hb.trans (hb'.mono (by omega))) | ((with_reducible refine st_qr NQ _ s.q1 hq ?_ ?_ ?_); exact rfl; exact rfl; intro W hnew ho; replace hr := hr.only ho (by omega); replace hq := hnew; have fq := hq.cell; replace hb := ho.bel _ _ (by omega) hb) | ((with_reducible refine ld_qurr NQ _ _ hq ?_ ?_ ?_); exact rfl; exact rfl))
              go_ret
              exact ⟨by rw [← NO.out (by unfold mayV; rw [HQ.out]; simp)]; rfl, hb⟩
        · have HQ := hide (And.intro (q0.out (by omega)) (q1.out (by omega)))
          clear q0 q1
          have fx := hr.cell
          by_cases h3 : s.ir ≤ 3
          · have l3 : decide ((s.ir : Int) > 3) = false := by simp; omega
            have l3b : decide ((3 : Int) < (s.ir : Int)) = false := by simp; omega
            have l3c : decide (3 < s.ir) = false := by simp; omega
            have HH3 := hide (fun w => rhas_3 s.st ok.st w)
            have GOOD : Hid ((s.st.testBit 3 = true → setl s = true) → mayV s = true) := hide (fun h => (mayV_iff s).2 ⟨HST.out, h3, h, HQ.out.1, HQ.out.2⟩)
            cases hb3 : s.st.testBit 3 with
            | false =>
              rw [hb3] at HH3
              go_wp2_with (first | (go_at_call 30; (with_reducible refine (HH3.out _).mono ?_); rintro e W ⟨rfl, rfl⟩))
              go_ret
              exact ⟨by rw [← YES.out (GOOD.out (fun h => by rw [hb3] at h; cases h))]; rfl, hb⟩
            | true =>
              rw [hb3] at HH3
              by_cases hd0 : s.d0 = 0
              · have k0 : ((s.d0 : Int) != 0) = false := by simp [hd0]
                by_cases hd1 : s.d1 = 1
                · have k1 : ((s.d1 : Int) != 1) = false := by rw [hd1]; rfl
                  go_wp2_with (first | (go_at_call 30; (with_reducible refine (HH3.out _).mono ?_); rintro e W ⟨rfl, rfl⟩))
                  go_ret
                  exact ⟨by rw [← YES.out (GOOD.out (fun _ => by unfold setl; rw [decide_eq_true hd0, decide_eq_true hd1]; rfl))]; rfl, hb⟩
                · have k1 : ((s.d1 : Int) != 1) = true := by simp; omega
                  go_wp2_with (first | (go_at_call 30; (with_reducible refine (HH3.out _).mono ?_); rintro e W ⟨rfl, rfl⟩))
                  go_ret
                  exact ⟨by rw [← NO.out (by unfold mayV; rw [hb3, show setl s = false by unfold setl; rw [decide_eq_false hd1, Bool.and_false]]; simp)]; rfl, hb⟩
              · have k0 : ((s.d0 : Int) != 0) = true := by simp; omega
                go_wp2_with (first | (go_at_call 30; (with_reducible refine (HH3.out _).mono ?_); rintro e W ⟨rfl, rfl⟩))
                go_ret
                exact ⟨by rw [← NO.out (by unfold mayV; rw [hb3, show setl s = false by unfold setl; rw [decide_eq_false hd0]; rfl]; simp)]; rfl, hb⟩
          · have l3 : (s.ir : Int) > 3 := by omega
            have l3b : (3 : Int) < (s.ir : Int) := by omega
            have l3c : decide (3 < s.ir) = true := by simp; omega
            go_wp2
            go_ret
            exact ⟨by rw [← NO.out (by unfold mayV; rw [decide_eq_false h3]; simp)]; rfl, hb⟩

end Go.Proofs.YtahgacdkofmbmaaDoor
