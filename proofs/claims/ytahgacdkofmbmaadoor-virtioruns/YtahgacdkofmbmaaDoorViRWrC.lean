/-
  The document's Write: what is quieted, and the status.
-/
import Derived.Test.YtahgacdkofmbmaaDoorViRCheck
import Derived.Test.YtahgacdkofmbmaaDoorViRRead
import Derived.Test.YtahgacdkofmbmaaDoorViRStat
namespace Go.Proofs.YtahgacdkofmbmaaDoor
open Go.RowKit
set_option linter.unusedVariables false

attribute [local go_sem] V.at0 V.at1 V.at2 V.at3 V.at4 V.at5 V.at6 V.at7 V.at8 V.at9 V.at10 V.at11 V.at12 V.at13 V.at14 V.at15 V.at16 V.at17 V.at18 V.at19 V.at20 Qu.at0 Qu.at1 Qu.at2 Qu.at3 Qu.at4 Qu.at5 Qu.at6
def qui (ir v : Nat) : Nat → Nat
  | 0 => ir
  | k + 1 => if v.testBit k = true then clrB (qui ir v k) k else qui ir v k
theorem qui_lt {ir : Nat} (h : ir < 4294967296) (v k : Nat) : qui ir v k < 4294967296 := by
  cases k with
  | zero => exact h
  | succ k =>
    induction k with
    | zero => unfold qui; split; (exact clrB_lt _ _); exact h
    | succ k ih => unfold qui; split; (exact clrB_lt _ _); exact ih
theorem tb_notV (b i : Nat) (hb : b < 4294967296) : (4294967295 - b).testBit i = (decide (i < 32) && !b.testBit i) := by
  have := Nat.testBit_two_pow_sub_succ (n := 32) (x := b) hb i
  rw [show 2 ^ 32 - (b + 1) = 4294967295 - b by omega] at this
  exact this
theorem qui_2 {ir v : Nat} (h : ir ≤ 3) (hv : v < 4294967296) : qui ir v 2 = ir &&& (4294967295 - v) := by
  have hl : ir < 4294967296 := by omega
  apply Nat.eq_of_testBit_eq
  intro i
  rw [Nat.testBit_and, tb_notV v i hv]
  have h1 : ∀ i, (qui ir v 1).testBit i = if i = 0 ∧ v.testBit 0 = true then false else ir.testBit i := by
    intro i
    show (if v.testBit 0 = true then clrB ir 0 else ir).testBit i = _
    cases hb : v.testBit 0 with
    | false => simp
    | true =>
      rw [if_pos rfl, clrB_tb ir 0 hl (by decide) i]
      by_cases e : i = 0 <;> simp [e]
  have h2 : (qui ir v 2).testBit i = if i = 1 ∧ v.testBit 1 = true then false else (qui ir v 1).testBit i := by
    show (if v.testBit 1 = true then clrB (qui ir v 1) 1 else qui ir v 1).testBit i = _
    cases hb : v.testBit 1 with
    | false => simp
    | true =>
      rw [if_pos rfl, clrB_tb _ 1 (qui_lt hl v 1) (by decide) i]
      by_cases e : i = 1 <;> simp [e]
  rw [h2, h1]
  by_cases e0 : i = 0
  · subst e0; cases v.testBit 0 <;> simp
  by_cases e1 : i = 1
  · subst e1; cases v.testBit 1 <;> simp
  · rw [if_neg (fun h => e1 h.1), if_neg (fun h => e0 h.1), Nat.testBit_lt_two_pow (show ir < 2 ^ i from Nat.lt_of_lt_of_le (show ir < 2 ^ 2 by omega) (Nat.pow_le_pow_right (by decide) (by omega))), Bool.false_and]
set_option maxRecDepth 20000 in
set_option maxHeartbeats 2000000 in
theorem rwr_112 (s : V) (ok : s.Ok) (a v : Nat) (hv : v < 4294967296) (hm : accV s a = 0) (h : a = 112) (w : World) :
    Calls Tryd.prog 22 #[.agg s.cells, .int .u32 (a : Nat), .int .u32 (v : Nat)] w fun e w' => e = .returned (.tuple #[.agg (writeV s a v).1.cells, .int .i64 (writeV s a v).2.1, .int .i64 ((writeV s a v).2.2 : Nat)]) ∧ Below w.heap.size w w' := by
  have HV : writeV s a v = (statV s v, -1, 0) := by unfold writeV; rw [if_pos hm]; unfold writeS; subst h; rfl
  rw [HV]; clear HV
  have HC := hide (fun w => vcheck_any s ok w)
  rw [(accV_ok hm).1] at HC
  replace HC : Hid (∀ w, Calls Tryd.prog 13 #[.agg s.cells] w fun e w' => e = .returned (.int .i64 0) ∧ Below w.heap.size w w') := HC
  have HA := hide (fun w => rstat_any s ok v hv w)
  generalize statV s v = z at HA ⊢
  subst h
  rw [show ((112 : Nat) : Int) = 112 from rfl]
  go_enter Tryd.func22, Tryd.ntmps22
  go_wp2_with (first | ((with_reducible refine bx_vr w.heap.size s ?_ ?_ ?_); exact rfl; exact rfl; intro W hr hb hz; have fx := hr.cell) | ((with_reducible refine al_vr (w.heap.size + 1) ?_ ?_); exact hz.out; intro W hq hb' hz'; replace hr := hr.bl (hz.out ▸ hb'); replace hb := hb.trans (hb'.mono (by omega)); replace hz := hz'; replace fx := hr.cell) | (go_at_call 13; (with_reducible refine (HC.out _).mono ?_); rintro e W ⟨rfl, hbc⟩; replace hr := hr.bl hbc; replace hq := hq.bl hbc; replace fx := hr.cell; replace hb := below_bl rfl hb hbc) | (go_at_call 37; (with_reducible refine (HA.out _).mono ?_); rintro e W ⟨rfl, hbc⟩; replace hr := hr.bl hbc; replace hq := hq.bl hbc; replace fx := hr.cell; replace hb := below_bl rfl hb hbc) | ((with_reducible refine ld_vr w.heap.size _ hr ?_ ?_ ?_); exact rfl; exact rfl) | ((with_reducible refine st_vr (w.heap.size + 1) _ z hq ?_ ?_ ?_); exact rfl; exact rfl; intro W hnew ho; replace hr := hr.only ho (by omega); replace hq := hnew; replace hb := ho.bel _ _ (by omega) hb))
  all_goals (refine bodyPost_ret (results_cell_two' Tryd.results22 _ _ (w.heap.size + 1) _ _ _ rfl hq Tryd.underlying31 rfl size_vr) rfl ?_; exact ⟨rfl, hb⟩)

set_option maxRecDepth 20000 in
set_option maxHeartbeats 2000000 in
theorem rwr_100_far (s : V) (ok : s.Ok) (a v : Nat) (hv : v < 4294967296) (hm : accV s a = 0) (h : a = 100) (hs : 2 ≤ s.se) (w : World) :
    Calls Tryd.prog 22 #[.agg s.cells, .int .u32 (a : Nat), .int .u32 (v : Nat)] w fun e w' => e = .returned (.tuple #[.agg (writeV s a v).1.cells, .int .i64 (writeV s a v).2.1, .int .i64 ((writeV s a v).2.2 : Nat)]) ∧ Below w.heap.size w w' := by
  have HV : writeV s a v = (s.irw (qui s.ir v 2), -1, 0) := by unfold writeV; rw [if_pos hm]; unfold writeS; subst h; rw [qui_2 ((mayV_iff s).1 (accV_ok hm).1).ir hv]; rfl
  rw [HV]; clear HV
  have HC := hide (fun w => vcheck_any s ok w)
  rw [(accV_ok hm).1] at HC
  replace HC : Hid (∀ w, Calls Tryd.prog 13 #[.agg s.cells] w fun e w' => e = .returned (.int .i64 0) ∧ Below w.heap.size w w') := HC
  obtain ⟨t, ht⟩ : ∃ t, s.irw (qui s.ir v 2) = t := ⟨_, rfl⟩
  have hs2 : 2 ≤ t.se := by rw [← ht]; exact hs
  rw [ht]
  have HT := hide ht
  clear ht hs
  have hs := hs2
  clear hs2
  have lse : (t.se : Int) > 1 := by omega
  have lseb : (1 : Int) < (t.se : Int) := by omega
  clear hs
  subst h
  rw [show ((100 : Nat) : Int) = 100 from rfl]
  go_enter Tryd.func22, Tryd.ntmps22
  go_wp2_with (first | ((with_reducible refine bx_vr w.heap.size s ?_ ?_ ?_); exact rfl; exact rfl; intro W hr hb hz; have fx := hr.cell) | ((with_reducible refine al_vr (w.heap.size + 1) ?_ ?_); exact hz.out; intro W hq hb' hz'; replace hr := hr.bl (hz.out ▸ hb'); replace hb := hb.trans (hb'.mono (by omega)); replace hz := hz'; replace fx := hr.cell) | (go_at_call 13; (with_reducible refine (HC.out _).mono ?_); rintro e W ⟨rfl, hbc⟩; replace hr := hr.bl hbc; replace hq := hq.bl hbc; replace fx := hr.cell; replace hb := below_bl rfl hb hbc) | ((with_reducible refine ld_vr w.heap.size _ hr ?_ ?_ ?_); exact rfl; exact rfl))
  clear fx
  go_loopw [9] (fun iv wr => ∃ i : Nat, i ≤ 2 ∧ iv = .int .i64 (i : Nat) ∧ RowAt wr w.heap.size (s.irw (qui s.ir v i)).cells 31 ∧ RowAt wr (w.heap.size + 1) zeroV.cells 31 ∧ Below w.heap.size w wr) (fun iv _ => 2 - (intOf iv).toNat)
  case atStart => exact ⟨0, by omega, rfl, hr, hq, hb⟩
  case round =>
    clear hr hq hb hz
    obtain ⟨i, hi, rfl, hr, hq, hb⟩ := hrel
    have hi3 : i = 0 ∨ i = 1 ∨ i = 2 := by omega
    rcases hi3 with rfl | rfl | rfl
    · have HX := hide (qui_lt ok.ir v 0)
      obtain ⟨X, hX⟩ : ∃ x, qui s.ir v 0 = x := ⟨_, rfl⟩
      rw [hX] at hr HX
      have HS := hide (fun w => rclr_0 (s.irw X).ir HX.out w)
      have H := hide (fun w => rhas_0 v hv w)
      cases hb0 : v.testBit 0 with
      | false =>
        have HN : Hid (qui s.ir v 1 = X) := hide (by show (if v.testBit 0 = true then clrB (qui s.ir v 0) 0 else qui s.ir v 0) = X; rw [hb0, if_neg (by decide)]; exact hX)
        rw [hb0] at H
        clear hX
        go_wp2_with (first | (go_at_call 30; (with_reducible refine (H.out _).mono ?_); rintro e W ⟨rfl, rfl⟩))
        go_roundw
        case rel => exact ⟨1, by omega, by go_num, by rw [HN.out]; exact hr, hq, hb⟩
        case measure => decide
      | true =>
        have HN : Hid (qui s.ir v 1 = clrB X 0) := hide (by show (if v.testBit 0 = true then clrB (qui s.ir v 0) 0 else qui s.ir v 0) = _; rw [hb0, if_pos rfl, hX])
        rw [hb0] at H
        clear hX
        go_wp2_with (first | (go_at_call 30; (with_reducible refine (H.out _).mono ?_); rintro e W ⟨rfl, rfl⟩) | ((with_reducible refine ld_ir w.heap.size _ _ hr ?_ ?_ ?_); exact rfl; exact rfl) | (go_at_call 32; (with_reducible refine (HS.out _).mono ?_); rintro e W ⟨rfl, hbc⟩; replace hr := hr.bl hbc; replace hq := hq.bl hbc; replace hb := below_bl rfl hb hbc) | ((with_reducible refine st_ir w.heap.size _ (clrB X 0) _ hr ?_ ?_ ?_); exact rfl; exact rfl; intro W hnew ho; replace hq := hq.only ho (by omega); replace hr := hnew; replace hb := ho.bel _ _ (by omega) hb; (try clear fx)))
        go_roundw
        case rel => exact ⟨1, by omega, by go_num, by rw [HN.out]; exact hr, hq, hb⟩
        case measure => decide
    · have HX := hide (qui_lt ok.ir v 1)
      obtain ⟨X, hX⟩ : ∃ x, qui s.ir v 1 = x := ⟨_, rfl⟩
      rw [hX] at hr HX
      have HS := hide (fun w => rclr_1 (s.irw X).ir HX.out w)
      have H := hide (fun w => rhas_1 v hv w)
      cases hb0 : v.testBit 1 with
      | false =>
        have HN : Hid (qui s.ir v 2 = X) := hide (by show (if v.testBit 1 = true then clrB (qui s.ir v 1) 1 else qui s.ir v 1) = X; rw [hb0, if_neg (by decide)]; exact hX)
        rw [hb0] at H
        clear hX
        go_wp2_with (first | (go_at_call 30; (with_reducible refine (H.out _).mono ?_); rintro e W ⟨rfl, rfl⟩))
        go_roundw
        case rel => exact ⟨2, by omega, by go_num, by rw [HN.out]; exact hr, hq, hb⟩
        case measure => decide
      | true =>
        have HN : Hid (qui s.ir v 2 = clrB X 1) := hide (by show (if v.testBit 1 = true then clrB (qui s.ir v 1) 1 else qui s.ir v 1) = _; rw [hb0, if_pos rfl, hX])
        rw [hb0] at H
        clear hX
        go_wp2_with (first | (go_at_call 30; (with_reducible refine (H.out _).mono ?_); rintro e W ⟨rfl, rfl⟩) | ((with_reducible refine ld_ir w.heap.size _ _ hr ?_ ?_ ?_); exact rfl; exact rfl) | (go_at_call 32; (with_reducible refine (HS.out _).mono ?_); rintro e W ⟨rfl, hbc⟩; replace hr := hr.bl hbc; replace hq := hq.bl hbc; replace hb := below_bl rfl hb hbc) | ((with_reducible refine st_ir w.heap.size _ (clrB X 1) _ hr ?_ ?_ ?_); exact rfl; exact rfl; intro W hnew ho; replace hq := hq.only ho (by omega); replace hr := hnew; replace hb := ho.bel _ _ (by omega) hb; (try clear fx)))
        go_roundw
        case rel => exact ⟨2, by omega, by go_num, by rw [HN.out]; exact hr, hq, hb⟩
        case measure => decide
    · rw [HT.out] at hr
      go_wp2_with (first | ((with_reducible refine ld_se w.heap.size _ _ hr ?_ ?_ ?_); exact rfl; exact rfl) | ((with_reducible refine ld_vr w.heap.size _ hr ?_ ?_ ?_); exact rfl; exact rfl) | ((with_reducible refine st_vr (w.heap.size + 1) _ t hq ?_ ?_ ?_); exact rfl; exact rfl; intro W hnew ho; replace hr := hr.only ho (by omega); replace hq := hnew; replace hb := ho.bel _ _ (by omega) hb))
      all_goals (refine bodyPost_ret (results_cell_two' Tryd.results22 _ _ (w.heap.size + 1) _ _ _ rfl hq Tryd.underlying31 rfl size_vr) rfl ?_; exact ⟨rfl, hb⟩)

set_option maxRecDepth 20000 in
set_option maxHeartbeats 2000000 in
theorem rwr_100_0 (s : V) (ok : s.Ok) (a v : Nat) (hv : v < 4294967296) (hm : accV s a = 0) (h : a = 100) (hs : s.se = 0) (w : World) :
    Calls Tryd.prog 22 #[.agg s.cells, .int .u32 (a : Nat), .int .u32 (v : Nat)] w fun e w' => e = .returned (.tuple #[.agg (writeV s a v).1.cells, .int .i64 (writeV s a v).2.1, .int .i64 ((writeV s a v).2.2 : Nat)]) ∧ Below w.heap.size w w' := by
  have HV : writeV s a v = (s.irw (qui s.ir v 2), -1, 0) := by unfold writeV; rw [if_pos hm]; unfold writeS; subst h; rw [qui_2 ((mayV_iff s).1 (accV_ok hm).1).ir hv]; rfl
  rw [HV]; clear HV
  have HC := hide (fun w => vcheck_any s ok w)
  rw [(accV_ok hm).1] at HC
  replace HC : Hid (∀ w, Calls Tryd.prog 13 #[.agg s.cells] w fun e w' => e = .returned (.int .i64 0) ∧ Below w.heap.size w w') := HC
  obtain ⟨t, ht⟩ : ∃ t, s.irw (qui s.ir v 2) = t := ⟨_, rfl⟩
  have hs2 : t.se = 0 := by rw [← ht]; exact hs
  rw [ht]
  have HT := hide ht
  clear ht hs
  have hs := hs2
  clear hs2
  have hse : ((t.se : Nat) : Int) = 0 := by omega
  clear hs
  subst h
  rw [show ((100 : Nat) : Int) = 100 from rfl]
  go_enter Tryd.func22, Tryd.ntmps22
  go_wp2_with (first | ((with_reducible refine bx_vr w.heap.size s ?_ ?_ ?_); exact rfl; exact rfl; intro W hr hb hz; have fx := hr.cell) | ((with_reducible refine al_vr (w.heap.size + 1) ?_ ?_); exact hz.out; intro W hq hb' hz'; replace hr := hr.bl (hz.out ▸ hb'); replace hb := hb.trans (hb'.mono (by omega)); replace hz := hz'; replace fx := hr.cell) | (go_at_call 13; (with_reducible refine (HC.out _).mono ?_); rintro e W ⟨rfl, hbc⟩; replace hr := hr.bl hbc; replace hq := hq.bl hbc; replace fx := hr.cell; replace hb := below_bl rfl hb hbc) | ((with_reducible refine ld_vr w.heap.size _ hr ?_ ?_ ?_); exact rfl; exact rfl))
  clear fx
  go_loopw [9] (fun iv wr => ∃ i : Nat, i ≤ 2 ∧ iv = .int .i64 (i : Nat) ∧ RowAt wr w.heap.size (s.irw (qui s.ir v i)).cells 31 ∧ RowAt wr (w.heap.size + 1) zeroV.cells 31 ∧ Below w.heap.size w wr) (fun iv _ => 2 - (intOf iv).toNat)
  case atStart => exact ⟨0, by omega, rfl, hr, hq, hb⟩
  case round =>
    clear hr hq hb hz
    obtain ⟨i, hi, rfl, hr, hq, hb⟩ := hrel
    have hi3 : i = 0 ∨ i = 1 ∨ i = 2 := by omega
    rcases hi3 with rfl | rfl | rfl
    · have HX := hide (qui_lt ok.ir v 0)
      obtain ⟨X, hX⟩ : ∃ x, qui s.ir v 0 = x := ⟨_, rfl⟩
      rw [hX] at hr HX
      have HS := hide (fun w => rclr_0 (s.irw X).ir HX.out w)
      have H := hide (fun w => rhas_0 v hv w)
      cases hb0 : v.testBit 0 with
      | false =>
        have HN : Hid (qui s.ir v 1 = X) := hide (by show (if v.testBit 0 = true then clrB (qui s.ir v 0) 0 else qui s.ir v 0) = X; rw [hb0, if_neg (by decide)]; exact hX)
        rw [hb0] at H
        clear hX
        go_wp2_with (first | (go_at_call 30; (with_reducible refine (H.out _).mono ?_); rintro e W ⟨rfl, rfl⟩))
        go_roundw
        case rel => exact ⟨1, by omega, by go_num, by rw [HN.out]; exact hr, hq, hb⟩
        case measure => decide
      | true =>
        have HN : Hid (qui s.ir v 1 = clrB X 0) := hide (by show (if v.testBit 0 = true then clrB (qui s.ir v 0) 0 else qui s.ir v 0) = _; rw [hb0, if_pos rfl, hX])
        rw [hb0] at H
        clear hX
        go_wp2_with (first | (go_at_call 30; (with_reducible refine (H.out _).mono ?_); rintro e W ⟨rfl, rfl⟩) | ((with_reducible refine ld_ir w.heap.size _ _ hr ?_ ?_ ?_); exact rfl; exact rfl) | (go_at_call 32; (with_reducible refine (HS.out _).mono ?_); rintro e W ⟨rfl, hbc⟩; replace hr := hr.bl hbc; replace hq := hq.bl hbc; replace hb := below_bl rfl hb hbc) | ((with_reducible refine st_ir w.heap.size _ (clrB X 0) _ hr ?_ ?_ ?_); exact rfl; exact rfl; intro W hnew ho; replace hq := hq.only ho (by omega); replace hr := hnew; replace hb := ho.bel _ _ (by omega) hb; (try clear fx)))
        go_roundw
        case rel => exact ⟨1, by omega, by go_num, by rw [HN.out]; exact hr, hq, hb⟩
        case measure => decide
    · have HX := hide (qui_lt ok.ir v 1)
      obtain ⟨X, hX⟩ : ∃ x, qui s.ir v 1 = x := ⟨_, rfl⟩
      rw [hX] at hr HX
      have HS := hide (fun w => rclr_1 (s.irw X).ir HX.out w)
      have H := hide (fun w => rhas_1 v hv w)
      cases hb0 : v.testBit 1 with
      | false =>
        have HN : Hid (qui s.ir v 2 = X) := hide (by show (if v.testBit 1 = true then clrB (qui s.ir v 1) 1 else qui s.ir v 1) = X; rw [hb0, if_neg (by decide)]; exact hX)
        rw [hb0] at H
        clear hX
        go_wp2_with (first | (go_at_call 30; (with_reducible refine (H.out _).mono ?_); rintro e W ⟨rfl, rfl⟩))
        go_roundw
        case rel => exact ⟨2, by omega, by go_num, by rw [HN.out]; exact hr, hq, hb⟩
        case measure => decide
      | true =>
        have HN : Hid (qui s.ir v 2 = clrB X 1) := hide (by show (if v.testBit 1 = true then clrB (qui s.ir v 1) 1 else qui s.ir v 1) = _; rw [hb0, if_pos rfl, hX])
        rw [hb0] at H
        clear hX
        go_wp2_with (first | (go_at_call 30; (with_reducible refine (H.out _).mono ?_); rintro e W ⟨rfl, rfl⟩) | ((with_reducible refine ld_ir w.heap.size _ _ hr ?_ ?_ ?_); exact rfl; exact rfl) | (go_at_call 32; (with_reducible refine (HS.out _).mono ?_); rintro e W ⟨rfl, hbc⟩; replace hr := hr.bl hbc; replace hq := hq.bl hbc; replace hb := below_bl rfl hb hbc) | ((with_reducible refine st_ir w.heap.size _ (clrB X 1) _ hr ?_ ?_ ?_); exact rfl; exact rfl; intro W hnew ho; replace hq := hq.only ho (by omega); replace hr := hnew; replace hb := ho.bel _ _ (by omega) hb; (try clear fx)))
        go_roundw
        case rel => exact ⟨2, by omega, by go_num, by rw [HN.out]; exact hr, hq, hb⟩
        case measure => decide
    · rw [HT.out] at hr
      go_wp2_with (first | ((with_reducible refine ld_se w.heap.size _ _ hr ?_ ?_ ?_); exact rfl; exact rfl) | ((with_reducible refine ld_q0r w.heap.size _ _ hr ?_ ?_ ?_); exact rfl; exact rfl) | (obtain ⟨NQ, hNQ⟩ : ∃ n, wr.heap.size = n := ⟨_, rfl⟩; have lNQ : w.heap.size + 2 ≤ NQ := (by (have := hq.lt; omega)); (with_reducible refine al_qr NQ ?_ ?_); exact hNQ; intro W hu hb' hz'; replace hr := hr.bl (hNQ ▸ hb'); replace hq := hq.bl (hNQ ▸ hb'); replace hb := hb.trans (hb'.mono (by omega)); clear hNQ hb' hz'; (try clear fx)) | ((with_reducible refine st_qr NQ _ t.q0 hu ?_ ?_ ?_); exact rfl; exact rfl; intro W hnew ho; replace hr := hr.only ho (by omega); replace hq := hq.only ho (by omega); replace hu := hnew; replace hb := ho.bel _ _ (by omega) hb) | ((with_reducible refine ld_urd NQ _ _ hu ?_ ?_ ?_); exact rfl; exact rfl) | ((with_reducible refine ld_qr NQ _ hu ?_ ?_ ?_); exact rfl; exact rfl) | ((with_reducible refine st_q0r w.heap.size _ t.q0 _ hr ?_ ?_ ?_); exact rfl; exact rfl; intro W hnew ho; replace hq := hq.only ho (by omega); replace hu := hu.only ho (by omega); replace hr := hnew; replace hb := ho.bel _ _ (by omega) hb) | ((with_reducible refine ld_vr w.heap.size _ hr ?_ ?_ ?_); exact rfl; exact rfl) | ((with_reducible refine st_vr (w.heap.size + 1) _ t hq ?_ ?_ ?_); exact rfl; exact rfl; intro W hnew ho; replace hr := hr.only ho (by omega); replace hq := hnew; replace hb := ho.bel _ _ (by omega) hb))
      all_goals (refine bodyPost_ret (results_cell_two' Tryd.results22 _ _ (w.heap.size + 1) _ _ _ rfl hq Tryd.underlying31 rfl size_vr) rfl ?_; exact ⟨rfl, hb⟩)

set_option maxRecDepth 20000 in
set_option maxHeartbeats 2000000 in
theorem rwr_100_1 (s : V) (ok : s.Ok) (a v : Nat) (hv : v < 4294967296) (hm : accV s a = 0) (h : a = 100) (hs : s.se = 1) (w : World) :
    Calls Tryd.prog 22 #[.agg s.cells, .int .u32 (a : Nat), .int .u32 (v : Nat)] w fun e w' => e = .returned (.tuple #[.agg (writeV s a v).1.cells, .int .i64 (writeV s a v).2.1, .int .i64 ((writeV s a v).2.2 : Nat)]) ∧ Below w.heap.size w w' := by
  have HV : writeV s a v = (s.irw (qui s.ir v 2), -1, 0) := by unfold writeV; rw [if_pos hm]; unfold writeS; subst h; rw [qui_2 ((mayV_iff s).1 (accV_ok hm).1).ir hv]; rfl
  rw [HV]; clear HV
  have HC := hide (fun w => vcheck_any s ok w)
  rw [(accV_ok hm).1] at HC
  replace HC : Hid (∀ w, Calls Tryd.prog 13 #[.agg s.cells] w fun e w' => e = .returned (.int .i64 0) ∧ Below w.heap.size w w') := HC
  obtain ⟨t, ht⟩ : ∃ t, s.irw (qui s.ir v 2) = t := ⟨_, rfl⟩
  have hs2 : t.se = 1 := by rw [← ht]; exact hs
  rw [ht]
  have HT := hide ht
  clear ht hs
  have hs := hs2
  clear hs2
  have hse : ((t.se : Nat) : Int) = 1 := by omega
  clear hs
  subst h
  rw [show ((100 : Nat) : Int) = 100 from rfl]
  go_enter Tryd.func22, Tryd.ntmps22
  go_wp2_with (first | ((with_reducible refine bx_vr w.heap.size s ?_ ?_ ?_); exact rfl; exact rfl; intro W hr hb hz; have fx := hr.cell) | ((with_reducible refine al_vr (w.heap.size + 1) ?_ ?_); exact hz.out; intro W hq hb' hz'; replace hr := hr.bl (hz.out ▸ hb'); replace hb := hb.trans (hb'.mono (by omega)); replace hz := hz'; replace fx := hr.cell) | (go_at_call 13; (with_reducible refine (HC.out _).mono ?_); rintro e W ⟨rfl, hbc⟩; replace hr := hr.bl hbc; replace hq := hq.bl hbc; replace fx := hr.cell; replace hb := below_bl rfl hb hbc) | ((with_reducible refine ld_vr w.heap.size _ hr ?_ ?_ ?_); exact rfl; exact rfl))
  clear fx
  go_loopw [9] (fun iv wr => ∃ i : Nat, i ≤ 2 ∧ iv = .int .i64 (i : Nat) ∧ RowAt wr w.heap.size (s.irw (qui s.ir v i)).cells 31 ∧ RowAt wr (w.heap.size + 1) zeroV.cells 31 ∧ Below w.heap.size w wr) (fun iv _ => 2 - (intOf iv).toNat)
  case atStart => exact ⟨0, by omega, rfl, hr, hq, hb⟩
  case round =>
    clear hr hq hb hz
    obtain ⟨i, hi, rfl, hr, hq, hb⟩ := hrel
    have hi3 : i = 0 ∨ i = 1 ∨ i = 2 := by omega
    rcases hi3 with rfl | rfl | rfl
    · have HX := hide (qui_lt ok.ir v 0)
      obtain ⟨X, hX⟩ : ∃ x, qui s.ir v 0 = x := ⟨_, rfl⟩
      rw [hX] at hr HX
      have HS := hide (fun w => rclr_0 (s.irw X).ir HX.out w)
      have H := hide (fun w => rhas_0 v hv w)
      cases hb0 : v.testBit 0 with
      | false =>
        have HN : Hid (qui s.ir v 1 = X) := hide (by show (if v.testBit 0 = true then clrB (qui s.ir v 0) 0 else qui s.ir v 0) = X; rw [hb0, if_neg (by decide)]; exact hX)
        rw [hb0] at H
        clear hX
        go_wp2_with (first | (go_at_call 30; (with_reducible refine (H.out _).mono ?_); rintro e W ⟨rfl, rfl⟩))
        go_roundw
        case rel => exact ⟨1, by omega, by go_num, by rw [HN.out]; exact hr, hq, hb⟩
        case measure => decide
      | true =>
        have HN : Hid (qui s.ir v 1 = clrB X 0) := hide (by show (if v.testBit 0 = true then clrB (qui s.ir v 0) 0 else qui s.ir v 0) = _; rw [hb0, if_pos rfl, hX])
        rw [hb0] at H
        clear hX
        go_wp2_with (first | (go_at_call 30; (with_reducible refine (H.out _).mono ?_); rintro e W ⟨rfl, rfl⟩) | ((with_reducible refine ld_ir w.heap.size _ _ hr ?_ ?_ ?_); exact rfl; exact rfl) | (go_at_call 32; (with_reducible refine (HS.out _).mono ?_); rintro e W ⟨rfl, hbc⟩; replace hr := hr.bl hbc; replace hq := hq.bl hbc; replace hb := below_bl rfl hb hbc) | ((with_reducible refine st_ir w.heap.size _ (clrB X 0) _ hr ?_ ?_ ?_); exact rfl; exact rfl; intro W hnew ho; replace hq := hq.only ho (by omega); replace hr := hnew; replace hb := ho.bel _ _ (by omega) hb; (try clear fx)))
        go_roundw
        case rel => exact ⟨1, by omega, by go_num, by rw [HN.out]; exact hr, hq, hb⟩
        case measure => decide
    · have HX := hide (qui_lt ok.ir v 1)
      obtain ⟨X, hX⟩ : ∃ x, qui s.ir v 1 = x := ⟨_, rfl⟩
      rw [hX] at hr HX
      have HS := hide (fun w => rclr_1 (s.irw X).ir HX.out w)
      have H := hide (fun w => rhas_1 v hv w)
      cases hb0 : v.testBit 1 with
      | false =>
        have HN : Hid (qui s.ir v 2 = X) := hide (by show (if v.testBit 1 = true then clrB (qui s.ir v 1) 1 else qui s.ir v 1) = X; rw [hb0, if_neg (by decide)]; exact hX)
        rw [hb0] at H
        clear hX
        go_wp2_with (first | (go_at_call 30; (with_reducible refine (H.out _).mono ?_); rintro e W ⟨rfl, rfl⟩))
        go_roundw
        case rel => exact ⟨2, by omega, by go_num, by rw [HN.out]; exact hr, hq, hb⟩
        case measure => decide
      | true =>
        have HN : Hid (qui s.ir v 2 = clrB X 1) := hide (by show (if v.testBit 1 = true then clrB (qui s.ir v 1) 1 else qui s.ir v 1) = _; rw [hb0, if_pos rfl, hX])
        rw [hb0] at H
        clear hX
        go_wp2_with (first | (go_at_call 30; (with_reducible refine (H.out _).mono ?_); rintro e W ⟨rfl, rfl⟩) | ((with_reducible refine ld_ir w.heap.size _ _ hr ?_ ?_ ?_); exact rfl; exact rfl) | (go_at_call 32; (with_reducible refine (HS.out _).mono ?_); rintro e W ⟨rfl, hbc⟩; replace hr := hr.bl hbc; replace hq := hq.bl hbc; replace hb := below_bl rfl hb hbc) | ((with_reducible refine st_ir w.heap.size _ (clrB X 1) _ hr ?_ ?_ ?_); exact rfl; exact rfl; intro W hnew ho; replace hq := hq.only ho (by omega); replace hr := hnew; replace hb := ho.bel _ _ (by omega) hb; (try clear fx)))
        go_roundw
        case rel => exact ⟨2, by omega, by go_num, by rw [HN.out]; exact hr, hq, hb⟩
        case measure => decide
    · rw [HT.out] at hr
      go_wp2_with (first | ((with_reducible refine ld_se w.heap.size _ _ hr ?_ ?_ ?_); exact rfl; exact rfl) | ((with_reducible refine ld_q1r w.heap.size _ _ hr ?_ ?_ ?_); exact rfl; exact rfl) | (obtain ⟨NQ, hNQ⟩ : ∃ n, wr.heap.size = n := ⟨_, rfl⟩; have lNQ : w.heap.size + 2 ≤ NQ := (by (have := hq.lt; omega)); (with_reducible refine al_qr NQ ?_ ?_); exact hNQ; intro W hu hb' hz'; replace hr := hr.bl (hNQ ▸ hb'); replace hq := hq.bl (hNQ ▸ hb'); replace hb := hb.trans (hb'.mono (by omega)); clear hNQ hb' hz'; (try clear fx)) | ((with_reducible refine st_qr NQ _ t.q1 hu ?_ ?_ ?_); exact rfl; exact rfl; intro W hnew ho; replace hr := hr.only ho (by omega); replace hq := hq.only ho (by omega); replace hu := hnew; replace hb := ho.bel _ _ (by omega) hb) | ((with_reducible refine ld_urd NQ _ _ hu ?_ ?_ ?_); exact rfl; exact rfl) | ((with_reducible refine ld_qr NQ _ hu ?_ ?_ ?_); exact rfl; exact rfl) | ((with_reducible refine st_q1r w.heap.size _ t.q1 _ hr ?_ ?_ ?_); exact rfl; exact rfl; intro W hnew ho; replace hq := hq.only ho (by omega); replace hu := hu.only ho (by omega); replace hr := hnew; replace hb := ho.bel _ _ (by omega) hb) | ((with_reducible refine ld_vr w.heap.size _ hr ?_ ?_ ?_); exact rfl; exact rfl) | ((with_reducible refine st_vr (w.heap.size + 1) _ t hq ?_ ?_ ?_); exact rfl; exact rfl; intro W hnew ho; replace hr := hr.only ho (by omega); replace hq := hnew; replace hb := ho.bel _ _ (by omega) hb))
      all_goals (refine bodyPost_ret (results_cell_two' Tryd.results22 _ _ (w.heap.size + 1) _ _ _ rfl hq Tryd.underlying31 rfl size_vr) rfl ?_; exact ⟨rfl, hb⟩)

end Go.Proofs.YtahgacdkofmbmaaDoor
