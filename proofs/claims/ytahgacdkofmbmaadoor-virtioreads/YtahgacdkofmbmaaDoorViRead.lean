/-
  What virtio's Read answers.
-/
import Derived.Test.YtahgacdkofmbmaaDoorViCheck
namespace Go.Proofs.YtahgacdkofmbmaaDoor
open Go.RowKit
set_option linter.unusedVariables false

attribute [local go_sem] V.at0 V.at1 V.at2 V.at3 V.at4 V.at5 V.at6 V.at7 V.at8 V.at9 V.at10 V.at11 V.at12 V.at13 V.at14 V.at15 V.at16 V.at17 V.at18 V.at19 V.at20 Qu.at0 Qu.at1 Qu.at2 Qu.at3 Qu.at4 Qu.at5 Qu.at6
set_option maxHeartbeats 1000000 in
theorem read_e1 (s : V) (ok : s.Ok) (id a : Nat) (hm : accV s a = 1) (w : World) (hO : OffAt w) :
    Calls Tryd.prog 9 #[.agg s.cells, .int .u32 (id : Nat), .int .u32 (a : Nat)] w fun e w' => e = .returned (.tuple #[.int .u32 ((readV s id a).1 : Nat), errR (readV s id a).2]) ∧ Below w.heap.size w w' := by
  have HV : readV s id a = (0, 1) := by unfold readV; rw [hm]; rfl
  rw [HV]; clear HV
  have HC := hide (fun w (hO : OffAt w) => acc_any s ok a w hO)
  rw [hm] at HC
  have HC : Hid (∀ w, OffAt w → Calls Tryd.prog 24 #[.agg s.cells, .int .u32 (a : Nat)] w fun e w' => e = .returned (.iface 65 (.int .i64 1)) ∧ Below w.heap.size w w') := HC
  go_enter Tryd.func9, Tryd.ntmps9
  go_wp2_with (first | ((with_reducible refine bx_vp w.heap.size s ?_ ?_ ?_); exact rfl; exact rfl; intro W hr hb hz; have fx := hr.cell) | ((with_reducible refine ld_vp w.heap.size _ hr ?_ ?_ ?_); exact rfl; exact rfl) | (go_at_call 24; (with_reducible refine (HC.out _ (hO.bl hb)).mono ?_); rintro e W ⟨rfl, hbc⟩; replace hr := hr.bl hbc; replace fx := hr.cell; replace hb := below_bl rfl hb hbc))
  go_ret2
  exact ⟨rfl, hb⟩

set_option maxHeartbeats 1000000 in
theorem read_e20 (s : V) (ok : s.Ok) (id a : Nat) (hm : accV s a = 20) (w : World) (hO : OffAt w) :
    Calls Tryd.prog 9 #[.agg s.cells, .int .u32 (id : Nat), .int .u32 (a : Nat)] w fun e w' => e = .returned (.tuple #[.int .u32 ((readV s id a).1 : Nat), errR (readV s id a).2]) ∧ Below w.heap.size w w' := by
  have HV : readV s id a = (0, 20) := by unfold readV; rw [hm]; rfl
  rw [HV]; clear HV
  have HC := hide (fun w (hO : OffAt w) => acc_any s ok a w hO)
  rw [hm] at HC
  have HC : Hid (∀ w, OffAt w → Calls Tryd.prog 24 #[.agg s.cells, .int .u32 (a : Nat)] w fun e w' => e = .returned (.iface 65 (.int .i64 20)) ∧ Below w.heap.size w w') := HC
  go_enter Tryd.func9, Tryd.ntmps9
  go_wp2_with (first | ((with_reducible refine bx_vp w.heap.size s ?_ ?_ ?_); exact rfl; exact rfl; intro W hr hb hz; have fx := hr.cell) | ((with_reducible refine ld_vp w.heap.size _ hr ?_ ?_ ?_); exact rfl; exact rfl) | (go_at_call 24; (with_reducible refine (HC.out _ (hO.bl hb)).mono ?_); rintro e W ⟨rfl, hbc⟩; replace hr := hr.bl hbc; replace fx := hr.cell; replace hb := below_bl rfl hb hbc))
  go_ret2
  exact ⟨rfl, hb⟩

set_option maxHeartbeats 1000000 in
theorem read_0 (s : V) (ok : s.Ok) (id a : Nat) (hm : accV s a = 0) (h : a = 0) (w : World) (hO : OffAt w) :
    Calls Tryd.prog 9 #[.agg s.cells, .int .u32 (id : Nat), .int .u32 (a : Nat)] w fun e w' => e = .returned (.tuple #[.int .u32 ((readV s id a).1 : Nat), errR (readV s id a).2]) ∧ Below w.heap.size w w' := by
  have HV : readV s id a = (1953655158, 0) := by unfold readV; rw [if_pos hm]; unfold readS; subst h; rfl
  rw [HV]; clear HV
  have HC := hide (fun w (hO : OffAt w) => acc_any s ok a w hO)
  rw [hm] at HC
  have HC : Hid (∀ w, OffAt w → Calls Tryd.prog 24 #[.agg s.cells, .int .u32 (a : Nat)] w fun e w' => e = .returned (.nilIface) ∧ Below w.heap.size w w') := HC
  subst h
  rw [show ((0 : Nat) : Int) = 0 from rfl] at HC ⊢
  go_enter Tryd.func9, Tryd.ntmps9
  go_wp2_with (first | ((with_reducible refine bx_vp w.heap.size s ?_ ?_ ?_); exact rfl; exact rfl; intro W hr hb hz; have fx := hr.cell) | ((with_reducible refine ld_vp w.heap.size _ hr ?_ ?_ ?_); exact rfl; exact rfl) | (go_at_call 24; (with_reducible refine (HC.out _ (hO.bl hb)).mono ?_); rintro e W ⟨rfl, hbc⟩; replace hr := hr.bl hbc; replace fx := hr.cell; replace hb := below_bl rfl hb hbc))
  go_ret2
  exact ⟨rfl, hb⟩

set_option maxHeartbeats 1000000 in
theorem read_4 (s : V) (ok : s.Ok) (id a : Nat) (hm : accV s a = 0) (h : a = 4) (w : World) (hO : OffAt w) :
    Calls Tryd.prog 9 #[.agg s.cells, .int .u32 (id : Nat), .int .u32 (a : Nat)] w fun e w' => e = .returned (.tuple #[.int .u32 ((readV s id a).1 : Nat), errR (readV s id a).2]) ∧ Below w.heap.size w w' := by
  have HV : readV s id a = (2, 0) := by unfold readV; rw [if_pos hm]; unfold readS; subst h; rfl
  rw [HV]; clear HV
  have HC := hide (fun w (hO : OffAt w) => acc_any s ok a w hO)
  rw [hm] at HC
  have HC : Hid (∀ w, OffAt w → Calls Tryd.prog 24 #[.agg s.cells, .int .u32 (a : Nat)] w fun e w' => e = .returned (.nilIface) ∧ Below w.heap.size w w') := HC
  subst h
  rw [show ((4 : Nat) : Int) = 4 from rfl] at HC ⊢
  go_enter Tryd.func9, Tryd.ntmps9
  go_wp2_with (first | ((with_reducible refine bx_vp w.heap.size s ?_ ?_ ?_); exact rfl; exact rfl; intro W hr hb hz; have fx := hr.cell) | ((with_reducible refine ld_vp w.heap.size _ hr ?_ ?_ ?_); exact rfl; exact rfl) | (go_at_call 24; (with_reducible refine (HC.out _ (hO.bl hb)).mono ?_); rintro e W ⟨rfl, hbc⟩; replace hr := hr.bl hbc; replace fx := hr.cell; replace hb := below_bl rfl hb hbc))
  go_ret2
  exact ⟨rfl, hb⟩

set_option maxHeartbeats 1000000 in
theorem read_8 (s : V) (ok : s.Ok) (id a : Nat) (hm : accV s a = 0) (h : a = 8) (w : World) (hO : OffAt w) :
    Calls Tryd.prog 9 #[.agg s.cells, .int .u32 (id : Nat), .int .u32 (a : Nat)] w fun e w' => e = .returned (.tuple #[.int .u32 ((readV s id a).1 : Nat), errR (readV s id a).2]) ∧ Below w.heap.size w w' := by
  have HV : readV s id a = (id, 0) := by unfold readV; rw [if_pos hm]; unfold readS; subst h; rfl
  rw [HV]; clear HV
  have HC := hide (fun w (hO : OffAt w) => acc_any s ok a w hO)
  rw [hm] at HC
  have HC : Hid (∀ w, OffAt w → Calls Tryd.prog 24 #[.agg s.cells, .int .u32 (a : Nat)] w fun e w' => e = .returned (.nilIface) ∧ Below w.heap.size w w') := HC
  subst h
  rw [show ((8 : Nat) : Int) = 8 from rfl] at HC ⊢
  go_enter Tryd.func9, Tryd.ntmps9
  go_wp2_with (first | ((with_reducible refine bx_vp w.heap.size s ?_ ?_ ?_); exact rfl; exact rfl; intro W hr hb hz; have fx := hr.cell) | ((with_reducible refine ld_vp w.heap.size _ hr ?_ ?_ ?_); exact rfl; exact rfl) | (go_at_call 24; (with_reducible refine (HC.out _ (hO.bl hb)).mono ?_); rintro e W ⟨rfl, hbc⟩; replace hr := hr.bl hbc; replace fx := hr.cell; replace hb := below_bl rfl hb hbc))
  go_ret2
  exact ⟨rfl, hb⟩

set_option maxHeartbeats 1000000 in
theorem read_12 (s : V) (ok : s.Ok) (id a : Nat) (hm : accV s a = 0) (h : a = 12) (w : World) (hO : OffAt w) :
    Calls Tryd.prog 9 #[.agg s.cells, .int .u32 (id : Nat), .int .u32 (a : Nat)] w fun e w' => e = .returned (.tuple #[.int .u32 ((readV s id a).1 : Nat), errR (readV s id a).2]) ∧ Below w.heap.size w w' := by
  have HV : readV s id a = (1347305795, 0) := by unfold readV; rw [if_pos hm]; unfold readS; subst h; rfl
  rw [HV]; clear HV
  have HC := hide (fun w (hO : OffAt w) => acc_any s ok a w hO)
  rw [hm] at HC
  have HC : Hid (∀ w, OffAt w → Calls Tryd.prog 24 #[.agg s.cells, .int .u32 (a : Nat)] w fun e w' => e = .returned (.nilIface) ∧ Below w.heap.size w w') := HC
  subst h
  rw [show ((12 : Nat) : Int) = 12 from rfl] at HC ⊢
  go_enter Tryd.func9, Tryd.ntmps9
  go_wp2_with (first | ((with_reducible refine bx_vp w.heap.size s ?_ ?_ ?_); exact rfl; exact rfl; intro W hr hb hz; have fx := hr.cell) | ((with_reducible refine ld_vp w.heap.size _ hr ?_ ?_ ?_); exact rfl; exact rfl) | (go_at_call 24; (with_reducible refine (HC.out _ (hO.bl hb)).mono ?_); rintro e W ⟨rfl, hbc⟩; replace hr := hr.bl hbc; replace fx := hr.cell; replace hb := below_bl rfl hb hbc))
  go_ret2
  exact ⟨rfl, hb⟩

set_option maxHeartbeats 1000000 in
theorem read_96 (s : V) (ok : s.Ok) (id a : Nat) (hm : accV s a = 0) (h : a = 96) (w : World) (hO : OffAt w) :
    Calls Tryd.prog 9 #[.agg s.cells, .int .u32 (id : Nat), .int .u32 (a : Nat)] w fun e w' => e = .returned (.tuple #[.int .u32 ((readV s id a).1 : Nat), errR (readV s id a).2]) ∧ Below w.heap.size w w' := by
  have HV : readV s id a = (s.ir, 0) := by unfold readV; rw [if_pos hm]; unfold readS; subst h; rfl
  rw [HV]; clear HV
  have HC := hide (fun w (hO : OffAt w) => acc_any s ok a w hO)
  rw [hm] at HC
  have HC : Hid (∀ w, OffAt w → Calls Tryd.prog 24 #[.agg s.cells, .int .u32 (a : Nat)] w fun e w' => e = .returned (.nilIface) ∧ Below w.heap.size w w') := HC
  subst h
  rw [show ((96 : Nat) : Int) = 96 from rfl] at HC ⊢
  go_enter Tryd.func9, Tryd.ntmps9
  go_wp2_with (first | ((with_reducible refine bx_vp w.heap.size s ?_ ?_ ?_); exact rfl; exact rfl; intro W hr hb hz; have fx := hr.cell) | ((with_reducible refine ld_vp w.heap.size _ hr ?_ ?_ ?_); exact rfl; exact rfl) | (go_at_call 24; (with_reducible refine (HC.out _ (hO.bl hb)).mono ?_); rintro e W ⟨rfl, hbc⟩; replace hr := hr.bl hbc; replace fx := hr.cell; replace hb := below_bl rfl hb hbc))
  go_ret2
  exact ⟨rfl, hb⟩

set_option maxHeartbeats 1000000 in
theorem read_112 (s : V) (ok : s.Ok) (id a : Nat) (hm : accV s a = 0) (h : a = 112) (w : World) (hO : OffAt w) :
    Calls Tryd.prog 9 #[.agg s.cells, .int .u32 (id : Nat), .int .u32 (a : Nat)] w fun e w' => e = .returned (.tuple #[.int .u32 ((readV s id a).1 : Nat), errR (readV s id a).2]) ∧ Below w.heap.size w w' := by
  have HV : readV s id a = (s.st, 0) := by unfold readV; rw [if_pos hm]; unfold readS; subst h; rfl
  rw [HV]; clear HV
  have HC := hide (fun w (hO : OffAt w) => acc_any s ok a w hO)
  rw [hm] at HC
  have HC : Hid (∀ w, OffAt w → Calls Tryd.prog 24 #[.agg s.cells, .int .u32 (a : Nat)] w fun e w' => e = .returned (.nilIface) ∧ Below w.heap.size w w') := HC
  subst h
  rw [show ((112 : Nat) : Int) = 112 from rfl] at HC ⊢
  go_enter Tryd.func9, Tryd.ntmps9
  go_wp2_with (first | ((with_reducible refine bx_vp w.heap.size s ?_ ?_ ?_); exact rfl; exact rfl; intro W hr hb hz; have fx := hr.cell) | ((with_reducible refine ld_vp w.heap.size _ hr ?_ ?_ ?_); exact rfl; exact rfl) | (go_at_call 24; (with_reducible refine (HC.out _ (hO.bl hb)).mono ?_); rintro e W ⟨rfl, hbc⟩; replace hr := hr.bl hbc; replace fx := hr.cell; replace hb := below_bl rfl hb hbc))
  go_ret2
  exact ⟨rfl, hb⟩

set_option maxHeartbeats 1000000 in
theorem read_16 (s : V) (ok : s.Ok) (id a : Nat) (hm : accV s a = 0) (h : a = 16) (w : World) (hO : OffAt w) :
    Calls Tryd.prog 9 #[.agg s.cells, .int .u32 (id : Nat), .int .u32 (a : Nat)] w fun e w' => e = .returned (.tuple #[.int .u32 ((readV s id a).1 : Nat), errR (readV s id a).2]) ∧ Below w.heap.size w w' := by
  have HV : readV s id a = (if s.fs = 1 then 1 else 0, 0) := by unfold readV; rw [if_pos hm]; unfold readS; subst h; rfl
  rw [HV]; clear HV
  have HC := hide (fun w (hO : OffAt w) => acc_any s ok a w hO)
  rw [hm] at HC
  have HC : Hid (∀ w, OffAt w → Calls Tryd.prog 24 #[.agg s.cells, .int .u32 (a : Nat)] w fun e w' => e = .returned (.nilIface) ∧ Below w.heap.size w w') := HC
  subst h
  rw [show ((16 : Nat) : Int) = 16 from rfl] at HC ⊢
  have HF := hide (fun w (hO : OffAt w) => feature_any s.fs w hO)
  generalize (if s.fs = 1 then 1 else 0) = z at HF ⊢
  go_enter Tryd.func9, Tryd.ntmps9
  go_wp2_with (first | ((with_reducible refine bx_vp w.heap.size s ?_ ?_ ?_); exact rfl; exact rfl; intro W hr hb hz; have fx := hr.cell) | ((with_reducible refine ld_vp w.heap.size _ hr ?_ ?_ ?_); exact rfl; exact rfl) | (go_at_call 24; (with_reducible refine (HC.out _ (hO.bl hb)).mono ?_); rintro e W ⟨rfl, hbc⟩; replace hr := hr.bl hbc; replace fx := hr.cell; replace hb := below_bl rfl hb hbc) | (go_at_call 25; (with_reducible refine (HF.out _ (hO.bl hb)).mono ?_); rintro e W ⟨rfl, hbc⟩; replace hr := hr.bl hbc; replace fx := hr.cell; replace hb := below_bl rfl hb hbc))
  go_ret2
  exact ⟨rfl, hb⟩

set_option maxHeartbeats 1000000 in
theorem read_far (s : V) (ok : s.Ok) (id a : Nat) (hm : accV s a = 0) (n0 : a ≠ 0) (n4 : a ≠ 4) (n8 : a ≠ 8) (n12 : a ≠ 12) (n16 : a ≠ 16) (n96 : a ≠ 96) (n112 : a ≠ 112) (hs : 2 ≤ s.se) (w : World) (hO : OffAt w) :
    Calls Tryd.prog 9 #[.agg s.cells, .int .u32 (id : Nat), .int .u32 (a : Nat)] w fun e w' => e = .returned (.tuple #[.int .u32 ((readV s id a).1 : Nat), errR (readV s id a).2]) ∧ Below w.heap.size w w' := by
  have HV : readV s id a = (0, 0) := by unfold readV; rw [if_pos hm]; unfold readS; rw [if_neg n0, if_neg n4, if_neg n8, if_neg n12, if_neg n16, if_neg n96, if_neg n112, if_neg (show ¬ s.se < 2 by omega)]
  rw [HV]; clear HV
  have l0 : ((a : Int) == 0) = false := by simp; omega
  have m0 : (a == 0) = false := by simp; omega
  have l4 : ((a : Int) == 4) = false := by simp; omega
  have m4 : (a == 4) = false := by simp; omega
  have l8 : ((a : Int) == 8) = false := by simp; omega
  have m8 : (a == 8) = false := by simp; omega
  have l12 : ((a : Int) == 12) = false := by simp; omega
  have m12 : (a == 12) = false := by simp; omega
  have l16 : ((a : Int) == 16) = false := by simp; omega
  have m16 : (a == 16) = false := by simp; omega
  have l96 : ((a : Int) == 96) = false := by simp; omega
  have m96 : (a == 96) = false := by simp; omega
  have l112 : ((a : Int) == 112) = false := by simp; omega
  have m112 : (a == 112) = false := by simp; omega
  have lt : decide ((s.se : Int) < 2) = false := by simp; omega
  have ltb : decide (s.se < 2) = false := by simp; omega
  clear n0 n4 n8 n12 n16 n96 n112
  have HC := hide (fun w (hO : OffAt w) => acc_any s ok a w hO)
  rw [hm] at HC
  have HC : Hid (∀ w, OffAt w → Calls Tryd.prog 24 #[.agg s.cells, .int .u32 (a : Nat)] w fun e w' => e = .returned (.nilIface) ∧ Below w.heap.size w w') := HC
  go_enter Tryd.func9, Tryd.ntmps9
  go_wp2_with (first | ((with_reducible refine bx_vp w.heap.size s ?_ ?_ ?_); exact rfl; exact rfl; intro W hr hb hz; have fx := hr.cell) | ((with_reducible refine ld_vp w.heap.size _ hr ?_ ?_ ?_); exact rfl; exact rfl) | (go_at_call 24; (with_reducible refine (HC.out _ (hO.bl hb)).mono ?_); rintro e W ⟨rfl, hbc⟩; replace hr := hr.bl hbc; replace fx := hr.cell; replace hb := below_bl rfl hb hbc))
  go_ret2
  exact ⟨rfl, hb⟩

set_option maxHeartbeats 1000000 in
theorem read_q0 (s : V) (ok : s.Ok) (id a : Nat) (hm : accV s a = 0) (n0 : a ≠ 0) (n4 : a ≠ 4) (n8 : a ≠ 8) (n12 : a ≠ 12) (n16 : a ≠ 16) (n96 : a ≠ 96) (n112 : a ≠ 112) (hs : s.se = 0) (w : World) (hO : OffAt w) :
    Calls Tryd.prog 9 #[.agg s.cells, .int .u32 (id : Nat), .int .u32 (a : Nat)] w fun e w' => e = .returned (.tuple #[.int .u32 ((readV s id a).1 : Nat), errR (readV s id a).2]) ∧ Below w.heap.size w w' := by
  have HV : readV s id a = (if a = 52 then 256 else if a = 68 then (if s.q0.rd = true then 1 else 0) else 0, 0) := by unfold readV; rw [if_pos hm]; unfold readS; rw [if_neg n0, if_neg n4, if_neg n8, if_neg n12, if_neg n16, if_neg n96, if_neg n112, if_pos (show s.se < 2 by omega), hs]; rfl
  rw [HV]; clear HV
  have l0 : ((a : Int) == 0) = false := by simp; omega
  have m0 : (a == 0) = false := by simp; omega
  have l4 : ((a : Int) == 4) = false := by simp; omega
  have m4 : (a == 4) = false := by simp; omega
  have l8 : ((a : Int) == 8) = false := by simp; omega
  have m8 : (a == 8) = false := by simp; omega
  have l12 : ((a : Int) == 12) = false := by simp; omega
  have m12 : (a == 12) = false := by simp; omega
  have l16 : ((a : Int) == 16) = false := by simp; omega
  have m16 : (a == 16) = false := by simp; omega
  have l96 : ((a : Int) == 96) = false := by simp; omega
  have m96 : (a == 96) = false := by simp; omega
  have l112 : ((a : Int) == 112) = false := by simp; omega
  have m112 : (a == 112) = false := by simp; omega
  have hse : ((s.se : Nat) : Int) = 0 := by omega
  clear n0 n4 n8 n12 n16 n96 n112
  have HC := hide (fun w (hO : OffAt w) => acc_any s ok a w hO)
  rw [hm] at HC
  have HC : Hid (∀ w, OffAt w → Calls Tryd.prog 24 #[.agg s.cells, .int .u32 (a : Nat)] w fun e w' => e = .returned (.nilIface) ∧ Below w.heap.size w w') := HC
  have HQ := hide (fun w => readq_any s.q0 a w)
  generalize (if a = 52 then 256 else if a = 68 then (if s.q0.rd = true then 1 else 0) else 0) = z at HQ ⊢
  clear hs
  go_enter Tryd.func9, Tryd.ntmps9
  go_wp2_with (first | ((with_reducible refine bx_vp w.heap.size s ?_ ?_ ?_); exact rfl; exact rfl; intro W hr hb hz; have fx := hr.cell) | ((with_reducible refine ld_vp w.heap.size _ hr ?_ ?_ ?_); exact rfl; exact rfl) | (go_at_call 24; (with_reducible refine (HC.out _ (hO.bl hb)).mono ?_); rintro e W ⟨rfl, hbc⟩; replace hr := hr.bl hbc; replace fx := hr.cell; replace hb := below_bl rfl hb hbc) | ((with_reducible refine ld_q0p w.heap.size _ _ hr ?_ ?_ ?_); exact rfl; exact rfl) | (go_at_call 26; (with_reducible refine (HQ.out _).mono ?_); rintro e W ⟨rfl, hbc⟩; replace hr := hr.bl hbc; replace fx := hr.cell; replace hb := below_bl rfl hb hbc))
  go_ret2
  exact ⟨rfl, hb⟩

set_option maxHeartbeats 1000000 in
theorem read_q1 (s : V) (ok : s.Ok) (id a : Nat) (hm : accV s a = 0) (n0 : a ≠ 0) (n4 : a ≠ 4) (n8 : a ≠ 8) (n12 : a ≠ 12) (n16 : a ≠ 16) (n96 : a ≠ 96) (n112 : a ≠ 112) (hs : s.se = 1) (w : World) (hO : OffAt w) :
    Calls Tryd.prog 9 #[.agg s.cells, .int .u32 (id : Nat), .int .u32 (a : Nat)] w fun e w' => e = .returned (.tuple #[.int .u32 ((readV s id a).1 : Nat), errR (readV s id a).2]) ∧ Below w.heap.size w w' := by
  have HV : readV s id a = (if a = 52 then 256 else if a = 68 then (if s.q1.rd = true then 1 else 0) else 0, 0) := by unfold readV; rw [if_pos hm]; unfold readS; rw [if_neg n0, if_neg n4, if_neg n8, if_neg n12, if_neg n16, if_neg n96, if_neg n112, if_pos (show s.se < 2 by omega), hs]; rfl
  rw [HV]; clear HV
  have l0 : ((a : Int) == 0) = false := by simp; omega
  have m0 : (a == 0) = false := by simp; omega
  have l4 : ((a : Int) == 4) = false := by simp; omega
  have m4 : (a == 4) = false := by simp; omega
  have l8 : ((a : Int) == 8) = false := by simp; omega
  have m8 : (a == 8) = false := by simp; omega
  have l12 : ((a : Int) == 12) = false := by simp; omega
  have m12 : (a == 12) = false := by simp; omega
  have l16 : ((a : Int) == 16) = false := by simp; omega
  have m16 : (a == 16) = false := by simp; omega
  have l96 : ((a : Int) == 96) = false := by simp; omega
  have m96 : (a == 96) = false := by simp; omega
  have l112 : ((a : Int) == 112) = false := by simp; omega
  have m112 : (a == 112) = false := by simp; omega
  have hse : ((s.se : Nat) : Int) = 1 := by omega
  clear n0 n4 n8 n12 n16 n96 n112
  have HC := hide (fun w (hO : OffAt w) => acc_any s ok a w hO)
  rw [hm] at HC
  have HC : Hid (∀ w, OffAt w → Calls Tryd.prog 24 #[.agg s.cells, .int .u32 (a : Nat)] w fun e w' => e = .returned (.nilIface) ∧ Below w.heap.size w w') := HC
  have HQ := hide (fun w => readq_any s.q1 a w)
  generalize (if a = 52 then 256 else if a = 68 then (if s.q1.rd = true then 1 else 0) else 0) = z at HQ ⊢
  clear hs
  go_enter Tryd.func9, Tryd.ntmps9
  go_wp2_with (first | ((with_reducible refine bx_vp w.heap.size s ?_ ?_ ?_); exact rfl; exact rfl; intro W hr hb hz; have fx := hr.cell) | ((with_reducible refine ld_vp w.heap.size _ hr ?_ ?_ ?_); exact rfl; exact rfl) | (go_at_call 24; (with_reducible refine (HC.out _ (hO.bl hb)).mono ?_); rintro e W ⟨rfl, hbc⟩; replace hr := hr.bl hbc; replace fx := hr.cell; replace hb := below_bl rfl hb hbc) | ((with_reducible refine ld_q1p w.heap.size _ _ hr ?_ ?_ ?_); exact rfl; exact rfl) | (go_at_call 26; (with_reducible refine (HQ.out _).mono ?_); rintro e W ⟨rfl, hbc⟩; replace hr := hr.bl hbc; replace fx := hr.cell; replace hb := below_bl rfl hb hbc))
  go_ret2
  exact ⟨rfl, hb⟩

theorem read_any (s : V) (ok : s.Ok) (id a : Nat) (w : World) (hO : OffAt w) : Calls Tryd.prog 9 #[.agg s.cells, .int .u32 (id : Nat), .int .u32 (a : Nat)] w fun e w' => e = .returned (.tuple #[.int .u32 ((readV s id a).1 : Nat), errR (readV s id a).2]) ∧ Below w.heap.size w w' := by
  rcases accV_cases s a with hm | hm | hm
  · by_cases n0 : a = 0
    · exact read_0 s ok id a hm n0 w hO
    by_cases n4 : a = 4
    · exact read_4 s ok id a hm n4 w hO
    by_cases n8 : a = 8
    · exact read_8 s ok id a hm n8 w hO
    by_cases n12 : a = 12
    · exact read_12 s ok id a hm n12 w hO
    by_cases n16 : a = 16
    · exact read_16 s ok id a hm n16 w hO
    by_cases n96 : a = 96
    · exact read_96 s ok id a hm n96 w hO
    by_cases n112 : a = 112
    · exact read_112 s ok id a hm n112 w hO
    by_cases h2 : 2 ≤ s.se
    · exact read_far s ok id a hm n0 n4 n8 n12 n16 n96 n112 h2 w hO
    by_cases h0 : s.se = 0
    · exact read_q0 s ok id a hm n0 n4 n8 n12 n16 n96 n112 h0 w hO
    · exact read_q1 s ok id a hm n0 n4 n8 n12 n16 n96 n112 (by omega) w hO
  · exact read_e1 s ok id a hm w hO
  · exact read_e20 s ok id a hm w hO
end Go.Proofs.YtahgacdkofmbmaaDoor
