/-
  The document's Write: what is of no queue.
-/
import Derived.Test.YtbggkoahofnnjaaGreatDoorJR8
open Go.Proofs.Tryz
set_option linter.unusedVariables false
set_option linter.unusedSimpArgs false
namespace Go.Proofs.YtbggkoahofnnjaaGreatDoor
open Go.RowKit
set_option maxHeartbeats 2000000
attribute [local go_sem] V.at0 V.at1 V.at2 V.at3 V.at4 V.at5 V.at6 V.at7 V.at8 V.at9 V.at10 V.at11 V.at12 V.at13 V.at14 V.at15 V.at16 V.at17 V.at18 V.at19 V.at20 Qu.at0 Qu.at1 Qu.at2 Qu.at3 Qu.at4 Qu.at5 Qu.at6
def StViRRead0 (s : V) (id : Nat) (a : Nat) (w : World) : Prop := Calls prog 25 #[.agg s.cells, .int .u32 (id : Nat), .int .u32 (a : Nat)] w fun e w' => e = .returned (.tuple #[.int .u32 ((vreadV s id a).1 : Nat), .int .i64 ((vreadV s id a).2 : Nat)]) ∧ Below w.heap.size w w'
theorem accV_ok {s : V} {a : Nat} (h : accV s a = 0) : mayV s = true ∧ a < 256 ∧ a % 4 = 0 := by
  unfold accV at h
  split at h
  · split at h
    · rename_i h1 h2
      unfold vaccN at h2
      simp at h2
      exact ⟨h1, h2.1, h2.2⟩
    · omega
  · omega
theorem accV_1 {s : V} {a : Nat} (h : accV s a = 1) : mayV s = false := by
  unfold accV at h
  split at h
  · split at h <;> omega
  · rename_i h1; simpa using h1
theorem accV_20 {s : V} {a : Nat} (h : accV s a = 20) : mayV s = true ∧ (256 ≤ a ∨ (a < 256 ∧ a % 4 ≠ 0)) := by
  unfold accV at h
  split at h
  · rename_i h1
    refine ⟨h1, ?_⟩
    split at h
    · omega
    · rename_i h2
      unfold vaccN at h2
      simp at h2
      by_cases h3 : a < 256
      · exact Or.inr ⟨h3, h2 h3⟩
      · exact Or.inl (by omega)
  · omega
theorem rread_e1 (s : V) (ok : s.Ok) (id a : Nat) (hm : accV s a = 1)  (w : World) :
    StViRRead0 s id a w := by
  unfold StViRRead0
  have HV : vreadV s id a = (0, 1) := by unfold vreadV; rw [hm]; rfl
  rw [HV]; clear HV
  have HC := hide (fun w => rvcheck_any s ok w)
  rw [accV_1 hm] at HC
  replace HC : Hid (∀ w, Calls prog 14 #[.agg s.cells] w fun e w' => e = .returned (.int .i64 1) ∧ Below w.heap.size w w') := HC
  go_enter func25, ntmps25
  go_wp2_with (first | ((with_reducible refine bx_vr w.heap.size s ?_ ?_ ?_); exact rfl; exact rfl; intro W hr hb hz; have fx := hr.cell) | ((with_reducible refine ld_vr w.heap.size _ hr ?_ ?_ ?_); exact rfl; exact rfl) | (go_at_call 14; (with_reducible refine (HC.out _).mono ?_); rintro e W ⟨rfl, hbc⟩; replace hr := hr.bl hbc; replace fx := hr.cell; replace hb := below_bl rfl hb hbc))
  go_ret2
  exact ⟨rfl, hb⟩
theorem rread_ge (s : V) (ok : s.Ok) (id a : Nat) (hm : accV s a = 20) (h : 256 ≤ a) (w : World) :
    StViRRead0 s id a w := by
  unfold StViRRead0
  have HV : vreadV s id a = (0, 20) := by unfold vreadV; rw [hm]; rfl
  rw [HV]; clear HV
  have HC := hide (fun w => rvcheck_any s ok w)
  rw [(accV_20 hm).1] at HC
  replace HC : Hid (∀ w, Calls prog 14 #[.agg s.cells] w fun e w' => e = .returned (.int .i64 0) ∧ Below w.heap.size w w') := HC
  have g1 : (a : Int) > 255 := by omega
  have g2 : (255 : Int) < (a : Int) := by omega
  go_enter func25, ntmps25
  go_wp2_with (first | ((with_reducible refine bx_vr w.heap.size s ?_ ?_ ?_); exact rfl; exact rfl; intro W hr hb hz; have fx := hr.cell) | ((with_reducible refine ld_vr w.heap.size _ hr ?_ ?_ ?_); exact rfl; exact rfl) | (go_at_call 14; (with_reducible refine (HC.out _).mono ?_); rintro e W ⟨rfl, hbc⟩; replace hr := hr.bl hbc; replace fx := hr.cell; replace hb := below_bl rfl hb hbc))
  go_ret2
  exact ⟨rfl, hb⟩
theorem rread_od (s : V) (ok : s.Ok) (id a : Nat) (hm : accV s a = 20) (h : a < 256) (h4 : a % 4 ≠ 0) (w : World) :
    StViRRead0 s id a w := by
  unfold StViRRead0
  have HV : vreadV s id a = (0, 20) := by unfold vreadV; rw [hm]; rfl
  rw [HV]; clear HV
  have HC := hide (fun w => rvcheck_any s ok w)
  rw [(accV_20 hm).1] at HC
  replace HC : Hid (∀ w, Calls prog 14 #[.agg s.cells] w fun e w' => e = .returned (.int .i64 0) ∧ Below w.heap.size w w') := HC
  have g1 : decide ((a : Int) > 255) = false := by simp; omega
  have g2 : decide ((255 : Int) < (a : Int)) = false := by simp; omega
  have g3 : decide (255 < a) = false := by simp; omega
  have o1 : (((a : Int) % 4) != 0) = true := by simp; omega
  have o2 : ((((a % 4 : Nat)) : Int) != 0) = true := by simp; omega
  clear h4
  go_enter func25, ntmps25
  go_wp2_with (first | ((with_reducible refine bx_vr w.heap.size s ?_ ?_ ?_); exact rfl; exact rfl; intro W hr hb hz; have fx := hr.cell) | ((with_reducible refine ld_vr w.heap.size _ hr ?_ ?_ ?_); exact rfl; exact rfl) | (go_at_call 14; (with_reducible refine (HC.out _).mono ?_); rintro e W ⟨rfl, hbc⟩; replace hr := hr.bl hbc; replace fx := hr.cell; replace hb := below_bl rfl hb hbc))
  go_ret2
  exact ⟨rfl, hb⟩
theorem rread_0 (s : V) (ok : s.Ok) (id a : Nat) (hm : accV s a = 0) (h : a = 0) (w : World) :
    StViRRead0 s id a w := by
  unfold StViRRead0
  have HV : vreadV s id a = (1953655158, 0) := by unfold vreadV; rw [if_pos hm]; unfold readS; subst h; rfl
  rw [HV]; clear HV
  have HC := hide (fun w => rvcheck_any s ok w)
  rw [(accV_ok hm).1] at HC
  replace HC : Hid (∀ w, Calls prog 14 #[.agg s.cells] w fun e w' => e = .returned (.int .i64 0) ∧ Below w.heap.size w w') := HC
  subst h
  rw [show ((0 : Nat) : Int) = 0 from rfl]
  go_enter func25, ntmps25
  go_wp2_with (first | ((with_reducible refine bx_vr w.heap.size s ?_ ?_ ?_); exact rfl; exact rfl; intro W hr hb hz; have fx := hr.cell) | ((with_reducible refine ld_vr w.heap.size _ hr ?_ ?_ ?_); exact rfl; exact rfl) | (go_at_call 14; (with_reducible refine (HC.out _).mono ?_); rintro e W ⟨rfl, hbc⟩; replace hr := hr.bl hbc; replace fx := hr.cell; replace hb := below_bl rfl hb hbc))
  go_ret2
  exact ⟨rfl, hb⟩
theorem rread_4 (s : V) (ok : s.Ok) (id a : Nat) (hm : accV s a = 0) (h : a = 4) (w : World) :
    StViRRead0 s id a w := by
  unfold StViRRead0
  have HV : vreadV s id a = (2, 0) := by unfold vreadV; rw [if_pos hm]; unfold readS; subst h; rfl
  rw [HV]; clear HV
  have HC := hide (fun w => rvcheck_any s ok w)
  rw [(accV_ok hm).1] at HC
  replace HC : Hid (∀ w, Calls prog 14 #[.agg s.cells] w fun e w' => e = .returned (.int .i64 0) ∧ Below w.heap.size w w') := HC
  subst h
  rw [show ((4 : Nat) : Int) = 4 from rfl]
  go_enter func25, ntmps25
  go_wp2_with (first | ((with_reducible refine bx_vr w.heap.size s ?_ ?_ ?_); exact rfl; exact rfl; intro W hr hb hz; have fx := hr.cell) | ((with_reducible refine ld_vr w.heap.size _ hr ?_ ?_ ?_); exact rfl; exact rfl) | (go_at_call 14; (with_reducible refine (HC.out _).mono ?_); rintro e W ⟨rfl, hbc⟩; replace hr := hr.bl hbc; replace fx := hr.cell; replace hb := below_bl rfl hb hbc))
  go_ret2
  exact ⟨rfl, hb⟩
theorem rread_8 (s : V) (ok : s.Ok) (id a : Nat) (hm : accV s a = 0) (h : a = 8) (w : World) :
    StViRRead0 s id a w := by
  unfold StViRRead0
  have HV : vreadV s id a = (id, 0) := by unfold vreadV; rw [if_pos hm]; unfold readS; subst h; rfl
  rw [HV]; clear HV
  have HC := hide (fun w => rvcheck_any s ok w)
  rw [(accV_ok hm).1] at HC
  replace HC : Hid (∀ w, Calls prog 14 #[.agg s.cells] w fun e w' => e = .returned (.int .i64 0) ∧ Below w.heap.size w w') := HC
  subst h
  rw [show ((8 : Nat) : Int) = 8 from rfl]
  go_enter func25, ntmps25
  go_wp2_with (first | ((with_reducible refine bx_vr w.heap.size s ?_ ?_ ?_); exact rfl; exact rfl; intro W hr hb hz; have fx := hr.cell) | ((with_reducible refine ld_vr w.heap.size _ hr ?_ ?_ ?_); exact rfl; exact rfl) | (go_at_call 14; (with_reducible refine (HC.out _).mono ?_); rintro e W ⟨rfl, hbc⟩; replace hr := hr.bl hbc; replace fx := hr.cell; replace hb := below_bl rfl hb hbc))
  go_ret2
  exact ⟨rfl, hb⟩
theorem rread_12 (s : V) (ok : s.Ok) (id a : Nat) (hm : accV s a = 0) (h : a = 12) (w : World) :
    StViRRead0 s id a w := by
  unfold StViRRead0
  have HV : vreadV s id a = (1347305795, 0) := by unfold vreadV; rw [if_pos hm]; unfold readS; subst h; rfl
  rw [HV]; clear HV
  have HC := hide (fun w => rvcheck_any s ok w)
  rw [(accV_ok hm).1] at HC
  replace HC : Hid (∀ w, Calls prog 14 #[.agg s.cells] w fun e w' => e = .returned (.int .i64 0) ∧ Below w.heap.size w w') := HC
  subst h
  rw [show ((12 : Nat) : Int) = 12 from rfl]
  go_enter func25, ntmps25
  go_wp2_with (first | ((with_reducible refine bx_vr w.heap.size s ?_ ?_ ?_); exact rfl; exact rfl; intro W hr hb hz; have fx := hr.cell) | ((with_reducible refine ld_vr w.heap.size _ hr ?_ ?_ ?_); exact rfl; exact rfl) | (go_at_call 14; (with_reducible refine (HC.out _).mono ?_); rintro e W ⟨rfl, hbc⟩; replace hr := hr.bl hbc; replace fx := hr.cell; replace hb := below_bl rfl hb hbc))
  go_ret2
  exact ⟨rfl, hb⟩
theorem rread_96 (s : V) (ok : s.Ok) (id a : Nat) (hm : accV s a = 0) (h : a = 96) (w : World) :
    StViRRead0 s id a w := by
  unfold StViRRead0
  have HV : vreadV s id a = (s.ir, 0) := by unfold vreadV; rw [if_pos hm]; unfold readS; subst h; rfl
  rw [HV]; clear HV
  have HC := hide (fun w => rvcheck_any s ok w)
  rw [(accV_ok hm).1] at HC
  replace HC : Hid (∀ w, Calls prog 14 #[.agg s.cells] w fun e w' => e = .returned (.int .i64 0) ∧ Below w.heap.size w w') := HC
  subst h
  rw [show ((96 : Nat) : Int) = 96 from rfl]
  go_enter func25, ntmps25
  go_wp2_with (first | ((with_reducible refine bx_vr w.heap.size s ?_ ?_ ?_); exact rfl; exact rfl; intro W hr hb hz; have fx := hr.cell) | ((with_reducible refine ld_vr w.heap.size _ hr ?_ ?_ ?_); exact rfl; exact rfl) | (go_at_call 14; (with_reducible refine (HC.out _).mono ?_); rintro e W ⟨rfl, hbc⟩; replace hr := hr.bl hbc; replace fx := hr.cell; replace hb := below_bl rfl hb hbc))
  go_ret2
  exact ⟨rfl, hb⟩
theorem rread_112 (s : V) (ok : s.Ok) (id a : Nat) (hm : accV s a = 0) (h : a = 112) (w : World) :
    StViRRead0 s id a w := by
  unfold StViRRead0
  have HV : vreadV s id a = (s.st, 0) := by unfold vreadV; rw [if_pos hm]; unfold readS; subst h; rfl
  rw [HV]; clear HV
  have HC := hide (fun w => rvcheck_any s ok w)
  rw [(accV_ok hm).1] at HC
  replace HC : Hid (∀ w, Calls prog 14 #[.agg s.cells] w fun e w' => e = .returned (.int .i64 0) ∧ Below w.heap.size w w') := HC
  subst h
  rw [show ((112 : Nat) : Int) = 112 from rfl]
  go_enter func25, ntmps25
  go_wp2_with (first | ((with_reducible refine bx_vr w.heap.size s ?_ ?_ ?_); exact rfl; exact rfl; intro W hr hb hz; have fx := hr.cell) | ((with_reducible refine ld_vr w.heap.size _ hr ?_ ?_ ?_); exact rfl; exact rfl) | (go_at_call 14; (with_reducible refine (HC.out _).mono ?_); rintro e W ⟨rfl, hbc⟩; replace hr := hr.bl hbc; replace fx := hr.cell; replace hb := below_bl rfl hb hbc))
  go_ret2
  exact ⟨rfl, hb⟩
theorem rread_16t (s : V) (ok : s.Ok) (id a : Nat) (hm : accV s a = 0) (h : a = 16) (h1 : s.fs = 1) (w : World) :
    StViRRead0 s id a w := by
  unfold StViRRead0
  have HV : vreadV s id a = (1, 0) := by unfold vreadV; rw [if_pos hm]; unfold readS; subst h; simp [h1]
  rw [HV]; clear HV
  have HC := hide (fun w => rvcheck_any s ok w)
  rw [(accV_ok hm).1] at HC
  replace HC : Hid (∀ w, Calls prog 14 #[.agg s.cells] w fun e w' => e = .returned (.int .i64 0) ∧ Below w.heap.size w w') := HC
  have k1 : ((s.fs : Int) == 1) = true := by rw [h1]; rfl
  clear h1
  subst h
  rw [show ((16 : Nat) : Int) = 16 from rfl]
  go_enter func25, ntmps25
  go_wp2_with (first | ((with_reducible refine bx_vr w.heap.size s ?_ ?_ ?_); exact rfl; exact rfl; intro W hr hb hz; have fx := hr.cell) | ((with_reducible refine ld_vr w.heap.size _ hr ?_ ?_ ?_); exact rfl; exact rfl) | (go_at_call 14; (with_reducible refine (HC.out _).mono ?_); rintro e W ⟨rfl, hbc⟩; replace hr := hr.bl hbc; replace fx := hr.cell; replace hb := below_bl rfl hb hbc))
  go_ret2
  exact ⟨rfl, hb⟩
theorem rread_16f (s : V) (ok : s.Ok) (id a : Nat) (hm : accV s a = 0) (h : a = 16) (h1 : s.fs ≠ 1) (w : World) :
    StViRRead0 s id a w := by
  unfold StViRRead0
  have HV : vreadV s id a = (0, 0) := by unfold vreadV; rw [if_pos hm]; unfold readS; subst h; simp [h1]
  rw [HV]; clear HV
  have HC := hide (fun w => rvcheck_any s ok w)
  rw [(accV_ok hm).1] at HC
  replace HC : Hid (∀ w, Calls prog 14 #[.agg s.cells] w fun e w' => e = .returned (.int .i64 0) ∧ Below w.heap.size w w') := HC
  have k1 : ((s.fs : Int) == 1) = false := by simp; omega
  have k1b : (s.fs == 1) = false := by simp; omega
  clear h1
  subst h
  rw [show ((16 : Nat) : Int) = 16 from rfl]
  go_enter func25, ntmps25
  go_wp2_with (first | ((with_reducible refine bx_vr w.heap.size s ?_ ?_ ?_); exact rfl; exact rfl; intro W hr hb hz; have fx := hr.cell) | ((with_reducible refine ld_vr w.heap.size _ hr ?_ ?_ ?_); exact rfl; exact rfl) | (go_at_call 14; (with_reducible refine (HC.out _).mono ?_); rintro e W ⟨rfl, hbc⟩; replace hr := hr.bl hbc; replace fx := hr.cell; replace hb := below_bl rfl hb hbc))
  go_ret2
  exact ⟨rfl, hb⟩
theorem rread_52t (s : V) (ok : s.Ok) (id a : Nat) (hm : accV s a = 0) (h : a = 52) (hs : s.se < 2) (w : World) :
    StViRRead0 s id a w := by
  unfold StViRRead0
  have HV : vreadV s id a = (256, 0) := by unfold vreadV; rw [if_pos hm]; unfold readS; subst h; simp [hs]
  rw [HV]; clear HV
  have HC := hide (fun w => rvcheck_any s ok w)
  rw [(accV_ok hm).1] at HC
  replace HC : Hid (∀ w, Calls prog 14 #[.agg s.cells] w fun e w' => e = .returned (.int .i64 0) ∧ Below w.heap.size w w') := HC
  have lt : (s.se : Int) < 2 := by omega
  subst h
  rw [show ((52 : Nat) : Int) = 52 from rfl]
  go_enter func25, ntmps25
  go_wp2_with (first | ((with_reducible refine bx_vr w.heap.size s ?_ ?_ ?_); exact rfl; exact rfl; intro W hr hb hz; have fx := hr.cell) | ((with_reducible refine ld_vr w.heap.size _ hr ?_ ?_ ?_); exact rfl; exact rfl) | (go_at_call 14; (with_reducible refine (HC.out _).mono ?_); rintro e W ⟨rfl, hbc⟩; replace hr := hr.bl hbc; replace fx := hr.cell; replace hb := below_bl rfl hb hbc))
  go_ret2
  exact ⟨rfl, hb⟩
theorem rread_52f (s : V) (ok : s.Ok) (id a : Nat) (hm : accV s a = 0) (h : a = 52) (hs : 2 ≤ s.se) (w : World) :
    StViRRead0 s id a w := by
  unfold StViRRead0
  have HV : vreadV s id a = (0, 0) := by unfold vreadV; rw [if_pos hm]; unfold readS; subst h; simp [show ¬ s.se < 2 by omega]
  rw [HV]; clear HV
  have HC := hide (fun w => rvcheck_any s ok w)
  rw [(accV_ok hm).1] at HC
  replace HC : Hid (∀ w, Calls prog 14 #[.agg s.cells] w fun e w' => e = .returned (.int .i64 0) ∧ Below w.heap.size w w') := HC
  have lt : decide ((s.se : Int) < 2) = false := by simp; omega
  have ltb : decide (s.se < 2) = false := by simp; omega
  have e0 : ((s.se : Int) == 0) = false := by simp; omega
  have e0b : (s.se == 0) = false := by simp; omega
  have e1 : ((s.se : Int) == 1) = false := by simp; omega
  have e1b : (s.se == 1) = false := by simp; omega
  clear hs
  subst h
  rw [show ((52 : Nat) : Int) = 52 from rfl]
  go_enter func25, ntmps25
  go_wp2_with (first | ((with_reducible refine bx_vr w.heap.size s ?_ ?_ ?_); exact rfl; exact rfl; intro W hr hb hz; have fx := hr.cell) | ((with_reducible refine ld_vr w.heap.size _ hr ?_ ?_ ?_); exact rfl; exact rfl) | (go_at_call 14; (with_reducible refine (HC.out _).mono ?_); rintro e W ⟨rfl, hbc⟩; replace hr := hr.bl hbc; replace fx := hr.cell; replace hb := below_bl rfl hb hbc))
  go_ret2
  exact ⟨rfl, hb⟩
theorem rread_68f (s : V) (ok : s.Ok) (id a : Nat) (hm : accV s a = 0) (h : a = 68) (hs : 2 ≤ s.se) (w : World) :
    StViRRead0 s id a w := by
  unfold StViRRead0
  have HV : vreadV s id a = (0, 0) := by unfold vreadV; rw [if_pos hm]; unfold readS; subst h; simp [show ¬ s.se < 2 by omega]
  rw [HV]; clear HV
  have HC := hide (fun w => rvcheck_any s ok w)
  rw [(accV_ok hm).1] at HC
  replace HC : Hid (∀ w, Calls prog 14 #[.agg s.cells] w fun e w' => e = .returned (.int .i64 0) ∧ Below w.heap.size w w') := HC
  have lt : decide ((s.se : Int) < 2) = false := by simp; omega
  have ltb : decide (s.se < 2) = false := by simp; omega
  have e0 : ((s.se : Int) == 0) = false := by simp; omega
  have e0b : (s.se == 0) = false := by simp; omega
  have e1 : ((s.se : Int) == 1) = false := by simp; omega
  have e1b : (s.se == 1) = false := by simp; omega
  clear hs
  subst h
  rw [show ((68 : Nat) : Int) = 68 from rfl]
  go_enter func25, ntmps25
  go_wp2_with (first | ((with_reducible refine bx_vr w.heap.size s ?_ ?_ ?_); exact rfl; exact rfl; intro W hr hb hz; have fx := hr.cell) | ((with_reducible refine ld_vr w.heap.size _ hr ?_ ?_ ?_); exact rfl; exact rfl) | (go_at_call 14; (with_reducible refine (HC.out _).mono ?_); rintro e W ⟨rfl, hbc⟩; replace hr := hr.bl hbc; replace fx := hr.cell; replace hb := below_bl rfl hb hbc))
  go_ret2
  exact ⟨rfl, hb⟩
theorem rread_68_0t (s : V) (ok : s.Ok) (id a : Nat) (hm : accV s a = 0) (h : a = 68) (hs : s.se = 0) (hr0 : s.q0.rd = true) (w : World) :
    StViRRead0 s id a w := by
  unfold StViRRead0
  have HV : vreadV s id a = (1, 0) := by unfold vreadV; rw [if_pos hm]; unfold readS; subst h; simp [hs, V.q, hr0]
  rw [HV]; clear HV
  have HC := hide (fun w => rvcheck_any s ok w)
  rw [(accV_ok hm).1] at HC
  replace HC : Hid (∀ w, Calls prog 14 #[.agg s.cells] w fun e w' => e = .returned (.int .i64 0) ∧ Below w.heap.size w w') := HC
  have hse : ((s.se : Nat) : Int) = 0 := by omega
  clear hs
  subst h
  rw [show ((68 : Nat) : Int) = 68 from rfl]
  go_enter func25, ntmps25
  go_wp2_with (first | ((with_reducible refine bx_vr w.heap.size s ?_ ?_ ?_); exact rfl; exact rfl; intro W hr hb hz; have fx := hr.cell) | ((with_reducible refine ld_vr w.heap.size _ hr ?_ ?_ ?_); exact rfl; exact rfl) | (go_at_call 14; (with_reducible refine (HC.out _).mono ?_); rintro e W ⟨rfl, hbc⟩; replace hr := hr.bl hbc; replace fx := hr.cell; replace hb := below_bl rfl hb hbc))
  go_ret2
  exact ⟨rfl, hb⟩
theorem rread_68_0f (s : V) (ok : s.Ok) (id a : Nat) (hm : accV s a = 0) (h : a = 68) (hs : s.se = 0) (hr0 : s.q0.rd = false) (w : World) :
    StViRRead0 s id a w := by
  unfold StViRRead0
  have HV : vreadV s id a = (0, 0) := by unfold vreadV; rw [if_pos hm]; unfold readS; subst h; simp [hs, V.q, hr0]
  rw [HV]; clear HV
  have HC := hide (fun w => rvcheck_any s ok w)
  rw [(accV_ok hm).1] at HC
  replace HC : Hid (∀ w, Calls prog 14 #[.agg s.cells] w fun e w' => e = .returned (.int .i64 0) ∧ Below w.heap.size w w') := HC
  have hse : ((s.se : Nat) : Int) = 0 := by omega
  clear hs
  subst h
  rw [show ((68 : Nat) : Int) = 68 from rfl]
  go_enter func25, ntmps25
  go_wp2_with (first | ((with_reducible refine bx_vr w.heap.size s ?_ ?_ ?_); exact rfl; exact rfl; intro W hr hb hz; have fx := hr.cell) | ((with_reducible refine ld_vr w.heap.size _ hr ?_ ?_ ?_); exact rfl; exact rfl) | (go_at_call 14; (with_reducible refine (HC.out _).mono ?_); rintro e W ⟨rfl, hbc⟩; replace hr := hr.bl hbc; replace fx := hr.cell; replace hb := below_bl rfl hb hbc))
  go_ret2
  exact ⟨rfl, hb⟩
theorem rread_68_1t (s : V) (ok : s.Ok) (id a : Nat) (hm : accV s a = 0) (h : a = 68) (hs : s.se = 1) (hr0 : s.q1.rd = true) (w : World) :
    StViRRead0 s id a w := by
  unfold StViRRead0
  have HV : vreadV s id a = (1, 0) := by unfold vreadV; rw [if_pos hm]; unfold readS; subst h; simp [hs, V.q, hr0]
  rw [HV]; clear HV
  have HC := hide (fun w => rvcheck_any s ok w)
  rw [(accV_ok hm).1] at HC
  replace HC : Hid (∀ w, Calls prog 14 #[.agg s.cells] w fun e w' => e = .returned (.int .i64 0) ∧ Below w.heap.size w w') := HC
  have hse : ((s.se : Nat) : Int) = 1 := by omega
  clear hs
  subst h
  rw [show ((68 : Nat) : Int) = 68 from rfl]
  go_enter func25, ntmps25
  go_wp2_with (first | ((with_reducible refine bx_vr w.heap.size s ?_ ?_ ?_); exact rfl; exact rfl; intro W hr hb hz; have fx := hr.cell) | ((with_reducible refine ld_vr w.heap.size _ hr ?_ ?_ ?_); exact rfl; exact rfl) | (go_at_call 14; (with_reducible refine (HC.out _).mono ?_); rintro e W ⟨rfl, hbc⟩; replace hr := hr.bl hbc; replace fx := hr.cell; replace hb := below_bl rfl hb hbc))
  go_ret2
  exact ⟨rfl, hb⟩
theorem rread_68_1f (s : V) (ok : s.Ok) (id a : Nat) (hm : accV s a = 0) (h : a = 68) (hs : s.se = 1) (hr0 : s.q1.rd = false) (w : World) :
    StViRRead0 s id a w := by
  unfold StViRRead0
  have HV : vreadV s id a = (0, 0) := by unfold vreadV; rw [if_pos hm]; unfold readS; subst h; simp [hs, V.q, hr0]
  rw [HV]; clear HV
  have HC := hide (fun w => rvcheck_any s ok w)
  rw [(accV_ok hm).1] at HC
  replace HC : Hid (∀ w, Calls prog 14 #[.agg s.cells] w fun e w' => e = .returned (.int .i64 0) ∧ Below w.heap.size w w') := HC
  have hse : ((s.se : Nat) : Int) = 1 := by omega
  clear hs
  subst h
  rw [show ((68 : Nat) : Int) = 68 from rfl]
  go_enter func25, ntmps25
  go_wp2_with (first | ((with_reducible refine bx_vr w.heap.size s ?_ ?_ ?_); exact rfl; exact rfl; intro W hr hb hz; have fx := hr.cell) | ((with_reducible refine ld_vr w.heap.size _ hr ?_ ?_ ?_); exact rfl; exact rfl) | (go_at_call 14; (with_reducible refine (HC.out _).mono ?_); rintro e W ⟨rfl, hbc⟩; replace hr := hr.bl hbc; replace fx := hr.cell; replace hb := below_bl rfl hb hbc))
  go_ret2
  exact ⟨rfl, hb⟩
theorem rread_o (s : V) (ok : s.Ok) (id a : Nat) (hm : accV s a = 0) (n0 : a ≠ 0) (n4 : a ≠ 4) (n8 : a ≠ 8) (n12 : a ≠ 12) (n16 : a ≠ 16) (n52 : a ≠ 52) (n68 : a ≠ 68) (n96 : a ≠ 96) (n112 : a ≠ 112) (w : World) :
    StViRRead0 s id a w := by
  unfold StViRRead0
  have HV : vreadV s id a = (0, 0) := by unfold vreadV; rw [if_pos hm]; unfold readS; rw [if_neg n0, if_neg n4, if_neg n8, if_neg n12, if_neg n16, if_neg n96, if_neg n112]; simp [n52, n68]
  rw [HV]; clear HV
  have HC := hide (fun w => rvcheck_any s ok w)
  rw [(accV_ok hm).1] at HC
  replace HC : Hid (∀ w, Calls prog 14 #[.agg s.cells] w fun e w' => e = .returned (.int .i64 0) ∧ Below w.heap.size w w') := HC
  have hA := accV_ok hm
  have h256 := hA.2.1
  have h4 := hA.2.2
  have g1 : decide ((a : Int) > 255) = false := by simp; omega
  have g2 : decide ((255 : Int) < (a : Int)) = false := by simp; omega
  have g3 : decide (255 < a) = false := by simp; omega
  have o1 : (((a : Int) % 4) != 0) = false := by simp; omega
  have o2 : ((((a % 4 : Nat)) : Int) != 0) = false := by simp; omega
  have l0 : ((a : Int) == 0) = false := by simp; omega
  have m0 : (a == 0) = false := by simp; omega
  have l4 : ((a : Int) == 4) = false := by simp; omega
  have m4 : (a == 4) = false := by simp; omega
  have l8 : ((a : Int) == 8) = false := by simp; omega
  have m8 : (a == 8) = false := by simp; omega
  have l12 : ((a : Int) == 12) = false := by simp; omega
  have m12 : (a == 12) = false := by simp; omega
  have l16 : ((a : Int) == 16) = false := by simp; omega
  have m16 : (a == 16) = false := by simp; omega
  have l52 : ((a : Int) == 52) = false := by simp; omega
  have m52 : (a == 52) = false := by simp; omega
  have l68 : ((a : Int) == 68) = false := by simp; omega
  have m68 : (a == 68) = false := by simp; omega
  have l96 : ((a : Int) == 96) = false := by simp; omega
  have m96 : (a == 96) = false := by simp; omega
  have l112 : ((a : Int) == 112) = false := by simp; omega
  have m112 : (a == 112) = false := by simp; omega
  clear hA h4 n0 n4 n8 n12 n16 n52 n68 n96 n112
  go_enter func25, ntmps25
  go_wp2_with (first | ((with_reducible refine bx_vr w.heap.size s ?_ ?_ ?_); exact rfl; exact rfl; intro W hr hb hz; have fx := hr.cell) | ((with_reducible refine ld_vr w.heap.size _ hr ?_ ?_ ?_); exact rfl; exact rfl) | (go_at_call 14; (with_reducible refine (HC.out _).mono ?_); rintro e W ⟨rfl, hbc⟩; replace hr := hr.bl hbc; replace fx := hr.cell; replace hb := below_bl rfl hb hbc))
  go_ret2
  exact ⟨rfl, hb⟩
theorem vrread_any (s : V) (ok : s.Ok) (id a : Nat) (w : World) : Calls prog 25 #[.agg s.cells, .int .u32 (id : Nat), .int .u32 (a : Nat)] w fun e w' => e = .returned (.tuple #[.int .u32 ((vreadV s id a).1 : Nat), .int .i64 ((vreadV s id a).2 : Nat)]) ∧ Below w.heap.size w w' := by
  rcases accV_cases s a with hm | hm | hm
  · by_cases n0 : a = 0
    · exact rread_0 s ok id a hm n0 w
    by_cases n4 : a = 4
    · exact rread_4 s ok id a hm n4 w
    by_cases n8 : a = 8
    · exact rread_8 s ok id a hm n8 w
    by_cases n12 : a = 12
    · exact rread_12 s ok id a hm n12 w
    by_cases n96 : a = 96
    · exact rread_96 s ok id a hm n96 w
    by_cases n112 : a = 112
    · exact rread_112 s ok id a hm n112 w
    by_cases n16 : a = 16
    · by_cases h1 : s.fs = 1
      · exact rread_16t s ok id a hm n16 h1 w
      · exact rread_16f s ok id a hm n16 h1 w
    by_cases n52 : a = 52
    · by_cases hs : s.se < 2
      · exact rread_52t s ok id a hm n52 hs w
      · exact rread_52f s ok id a hm n52 (by omega) w
    by_cases n68 : a = 68
    · by_cases h2 : 2 ≤ s.se
      · exact rread_68f s ok id a hm n68 h2 w
      by_cases h0 : s.se = 0
      · cases hr0 : s.q0.rd with
        | true => exact rread_68_0t s ok id a hm n68 h0 hr0 w
        | false => exact rread_68_0f s ok id a hm n68 h0 hr0 w
      · cases hr0 : s.q1.rd with
        | true => exact rread_68_1t s ok id a hm n68 (by omega) hr0 w
        | false => exact rread_68_1f s ok id a hm n68 (by omega) hr0 w
    exact rread_o s ok id a hm n0 n4 n8 n12 n16 n52 n68 n96 n112 w
  · exact rread_e1 s ok id a hm w
  · rcases (accV_20 hm).2 with h | h
    · exact rread_ge s ok id a hm h w
    · exact rread_od s ok id a hm h.1 h.2 w
end Go.Proofs.YtbggkoahofnnjaaGreatDoor
namespace Go.Proofs.YtbggkoahofnnjaaGreatDoor
open Go.RowKit
set_option maxRecDepth 20000
set_option maxHeartbeats 2000000
attribute [local go_sem] V.at0 V.at1 V.at2 V.at3 V.at4 V.at5 V.at6 V.at7 V.at8 V.at9 V.at10 V.at11 V.at12 V.at13 V.at14 V.at15 V.at16 V.at17 V.at18 V.at19 V.at20 Qu.at0 Qu.at1 Qu.at2 Qu.at3 Qu.at4 Qu.at5 Qu.at6
def StViRWrA0 (s : V) (a : Nat) (v : Nat) (w : World) : Prop := Calls prog 27 #[.agg s.cells, .int .u32 (a : Nat), .int .u32 (v : Nat)] w fun e w' => e = .returned (.tuple #[.agg (writeV s a v).1.cells, .int .i64 (writeV s a v).2.1, .int .i64 ((writeV s a v).2.2 : Nat)]) ∧ Below w.heap.size w w'
theorem rwr_e1 (s : V) (ok : s.Ok) (a v : Nat) (hv : v < 4294967296) (hm : accV s a = 1)  (w : World) :
    StViRWrA0 s a v w := by
  unfold StViRWrA0
  have HV : writeV s a v = (zeroV, -1, 1) := by unfold writeV; rw [hm]; rfl
  rw [HV]; clear HV
  have HC := hide (fun w => rvcheck_any s ok w)
  rw [accV_1 hm] at HC
  replace HC : Hid (∀ w, Calls prog 14 #[.agg s.cells] w fun e w' => e = .returned (.int .i64 1) ∧ Below w.heap.size w w') := HC
  go_enter func27, ntmps27
  go_wp2_with (first | ((with_reducible refine bx_vr w.heap.size s ?_ ?_ ?_); exact rfl; exact rfl; intro W hr hb hz; have fx := hr.cell) | ((with_reducible refine al_vr (w.heap.size + 1) ?_ ?_); exact hz.out; intro W hq hb' hz'; replace hr := hr.bl (hz.out ▸ hb'); replace hb := hb.trans (hb'.mono (by omega)); replace hz := hz'; replace fx := hr.cell) | (go_at_call 14; (with_reducible refine (HC.out _).mono ?_); rintro e W ⟨rfl, hbc⟩; replace hr := hr.bl hbc; replace hq := hq.bl hbc; replace fx := hr.cell; replace hb := below_bl rfl hb hbc) | ((with_reducible refine ld_vr w.heap.size _ hr ?_ ?_ ?_); exact rfl; exact rfl) | ((with_reducible refine st_vr (w.heap.size + 1) _ zeroV hq ?_ ?_ ?_); exact rfl; exact rfl; intro W hnew ho; replace hr := hr.only ho (by omega); replace hq := hnew; replace hb := ho.bel _ _ (by omega) hb))
  all_goals (refine bodyPost_ret (results_cell_two' results27 _ _ (w.heap.size + 1) _ _ _ rfl hq underlying31 rfl size_vr) rfl ?_; exact ⟨rfl, hb⟩)
theorem rwr_ge (s : V) (ok : s.Ok) (a v : Nat) (hv : v < 4294967296) (hm : accV s a = 20) (h : 256 ≤ a) (w : World) :
    StViRWrA0 s a v w := by
  unfold StViRWrA0
  have HV : writeV s a v = (zeroV, -1, 20) := by unfold writeV; rw [hm]; rfl
  rw [HV]; clear HV
  have HC := hide (fun w => rvcheck_any s ok w)
  rw [(accV_20 hm).1] at HC
  replace HC : Hid (∀ w, Calls prog 14 #[.agg s.cells] w fun e w' => e = .returned (.int .i64 0) ∧ Below w.heap.size w w') := HC
  have g1 : (a : Int) > 255 := by omega
  have g2 : (255 : Int) < (a : Int) := by omega
  go_enter func27, ntmps27
  go_wp2_with (first | ((with_reducible refine bx_vr w.heap.size s ?_ ?_ ?_); exact rfl; exact rfl; intro W hr hb hz; have fx := hr.cell) | ((with_reducible refine al_vr (w.heap.size + 1) ?_ ?_); exact hz.out; intro W hq hb' hz'; replace hr := hr.bl (hz.out ▸ hb'); replace hb := hb.trans (hb'.mono (by omega)); replace hz := hz'; replace fx := hr.cell) | (go_at_call 14; (with_reducible refine (HC.out _).mono ?_); rintro e W ⟨rfl, hbc⟩; replace hr := hr.bl hbc; replace hq := hq.bl hbc; replace fx := hr.cell; replace hb := below_bl rfl hb hbc) | ((with_reducible refine ld_vr w.heap.size _ hr ?_ ?_ ?_); exact rfl; exact rfl) | ((with_reducible refine st_vr (w.heap.size + 1) _ zeroV hq ?_ ?_ ?_); exact rfl; exact rfl; intro W hnew ho; replace hr := hr.only ho (by omega); replace hq := hnew; replace hb := ho.bel _ _ (by omega) hb))
  all_goals (refine bodyPost_ret (results_cell_two' results27 _ _ (w.heap.size + 1) _ _ _ rfl hq underlying31 rfl size_vr) rfl ?_; exact ⟨rfl, hb⟩)
theorem rwr_od (s : V) (ok : s.Ok) (a v : Nat) (hv : v < 4294967296) (hm : accV s a = 20) (h : a < 256) (h4 : a % 4 ≠ 0) (w : World) :
    StViRWrA0 s a v w := by
  unfold StViRWrA0
  have HV : writeV s a v = (zeroV, -1, 20) := by unfold writeV; rw [hm]; rfl
  rw [HV]; clear HV
  have HC := hide (fun w => rvcheck_any s ok w)
  rw [(accV_20 hm).1] at HC
  replace HC : Hid (∀ w, Calls prog 14 #[.agg s.cells] w fun e w' => e = .returned (.int .i64 0) ∧ Below w.heap.size w w') := HC
  have g1 : decide ((a : Int) > 255) = false := by simp; omega
  have g2 : decide ((255 : Int) < (a : Int)) = false := by simp; omega
  have g3 : decide (255 < a) = false := by simp; omega
  have o1 : (((a : Int) % 4) != 0) = true := by simp; omega
  have o2 : ((((a % 4 : Nat)) : Int) != 0) = true := by simp; omega
  clear h4
  go_enter func27, ntmps27
  go_wp2_with (first | ((with_reducible refine bx_vr w.heap.size s ?_ ?_ ?_); exact rfl; exact rfl; intro W hr hb hz; have fx := hr.cell) | ((with_reducible refine al_vr (w.heap.size + 1) ?_ ?_); exact hz.out; intro W hq hb' hz'; replace hr := hr.bl (hz.out ▸ hb'); replace hb := hb.trans (hb'.mono (by omega)); replace hz := hz'; replace fx := hr.cell) | (go_at_call 14; (with_reducible refine (HC.out _).mono ?_); rintro e W ⟨rfl, hbc⟩; replace hr := hr.bl hbc; replace hq := hq.bl hbc; replace fx := hr.cell; replace hb := below_bl rfl hb hbc) | ((with_reducible refine ld_vr w.heap.size _ hr ?_ ?_ ?_); exact rfl; exact rfl) | ((with_reducible refine st_vr (w.heap.size + 1) _ zeroV hq ?_ ?_ ?_); exact rfl; exact rfl; intro W hnew ho; replace hr := hr.only ho (by omega); replace hq := hnew; replace hb := ho.bel _ _ (by omega) hb))
  all_goals (refine bodyPost_ret (results_cell_two' results27 _ _ (w.heap.size + 1) _ _ _ rfl hq underlying31 rfl size_vr) rfl ?_; exact ⟨rfl, hb⟩)
theorem rwr_20_far (s : V) (ok : s.Ok) (a v : Nat) (hv : v < 4294967296) (hm : accV s a = 0) (h : a = 20) (hs : 2 ≤ (s.fsw v).se) (w : World) :
    StViRWrA0 s a v w := by
  unfold StViRWrA0
  have HV : writeV s a v = (s.fsw v, -1, 0) := by unfold writeV; rw [if_pos hm]; unfold writeS; subst h; rfl
  rw [HV]; clear HV
  have HC := hide (fun w => rvcheck_any s ok w)
  rw [(accV_ok hm).1] at HC
  replace HC : Hid (∀ w, Calls prog 14 #[.agg s.cells] w fun e w' => e = .returned (.int .i64 0) ∧ Below w.heap.size w w') := HC
  obtain ⟨t, ht⟩ : ∃ t, s.fsw v = t := ⟨_, rfl⟩
  have hs2 : 2 ≤ t.se := by rw [← ht]; exact hs
  rw [ht]
  have HT := hide ht
  clear ht hs
  have hs := hs2
  clear hs2
  have lse : (t.se : Int) > 1 := by omega
  have lseb : (1 : Int) < (t.se : Int) := by omega
  clear hs
  subst h
  rw [show ((20 : Nat) : Int) = 20 from rfl]
  go_enter func27, ntmps27
  go_wp2_with (first | ((with_reducible refine bx_vr w.heap.size s ?_ ?_ ?_); exact rfl; exact rfl; intro W hr hb hz; have fx := hr.cell) | ((with_reducible refine al_vr (w.heap.size + 1) ?_ ?_); exact hz.out; intro W hq hb' hz'; replace hr := hr.bl (hz.out ▸ hb'); replace hb := hb.trans (hb'.mono (by omega)); replace hz := hz'; replace fx := hr.cell) | (go_at_call 14; (with_reducible refine (HC.out _).mono ?_); rintro e W ⟨rfl, hbc⟩; replace hr := hr.bl hbc; replace hq := hq.bl hbc; replace fx := hr.cell; replace hb := below_bl rfl hb hbc) | ((with_reducible refine st_fs w.heap.size _ v _ hr ?_ ?_ ?_); exact rfl; exact rfl; intro W hnew ho; replace hq := hq.only ho (by omega); replace hr := hnew; replace hb := ho.bel _ _ (by omega) hb; (try clear fx); rw [HT.out] at hr) | ((with_reducible refine ld_se w.heap.size _ _ hr ?_ ?_ ?_); exact rfl; exact rfl) | ((with_reducible refine ld_vr w.heap.size _ hr ?_ ?_ ?_); exact rfl; exact rfl) | ((with_reducible refine st_vr (w.heap.size + 1) _ t hq ?_ ?_ ?_); exact rfl; exact rfl; intro W hnew ho; replace hr := hr.only ho (by omega); replace hq := hnew; replace hb := ho.bel _ _ (by omega) hb))
  all_goals (refine bodyPost_ret (results_cell_two' results27 _ _ (w.heap.size + 1) _ _ _ rfl hq underlying31 rfl size_vr) rfl ?_; exact ⟨rfl, hb⟩)
theorem rwr_20_0 (s : V) (ok : s.Ok) (a v : Nat) (hv : v < 4294967296) (hm : accV s a = 0) (h : a = 20) (hs : (s.fsw v).se = 0) (w : World) :
    StViRWrA0 s a v w := by
  unfold StViRWrA0
  have HV : writeV s a v = (s.fsw v, -1, 0) := by unfold writeV; rw [if_pos hm]; unfold writeS; subst h; rfl
  rw [HV]; clear HV
  have HC := hide (fun w => rvcheck_any s ok w)
  rw [(accV_ok hm).1] at HC
  replace HC : Hid (∀ w, Calls prog 14 #[.agg s.cells] w fun e w' => e = .returned (.int .i64 0) ∧ Below w.heap.size w w') := HC
  obtain ⟨t, ht⟩ : ∃ t, s.fsw v = t := ⟨_, rfl⟩
  have hs2 : t.se = 0 := by rw [← ht]; exact hs
  rw [ht]
  have HT := hide ht
  clear ht hs
  have hs := hs2
  clear hs2
  have hse : ((t.se : Nat) : Int) = 0 := by omega
  clear hs
  subst h
  rw [show ((20 : Nat) : Int) = 20 from rfl]
  go_enter func27, ntmps27
  go_wp2_with (first | ((with_reducible refine bx_vr w.heap.size s ?_ ?_ ?_); exact rfl; exact rfl; intro W hr hb hz; have fx := hr.cell) | ((with_reducible refine al_vr (w.heap.size + 1) ?_ ?_); exact hz.out; intro W hq hb' hz'; replace hr := hr.bl (hz.out ▸ hb'); replace hb := hb.trans (hb'.mono (by omega)); replace hz := hz'; replace fx := hr.cell) | (go_at_call 14; (with_reducible refine (HC.out _).mono ?_); rintro e W ⟨rfl, hbc⟩; replace hr := hr.bl hbc; replace hq := hq.bl hbc; replace fx := hr.cell; replace hb := below_bl rfl hb hbc) | ((with_reducible refine st_fs w.heap.size _ v _ hr ?_ ?_ ?_); exact rfl; exact rfl; intro W hnew ho; replace hq := hq.only ho (by omega); replace hr := hnew; replace hb := ho.bel _ _ (by omega) hb; (try clear fx); rw [HT.out] at hr) | ((with_reducible refine ld_se w.heap.size _ _ hr ?_ ?_ ?_); exact rfl; exact rfl) | ((with_reducible refine ld_q0r w.heap.size _ _ hr ?_ ?_ ?_); exact rfl; exact rfl) | (obtain ⟨NQ, hNQ⟩ : ∃ n, W.heap.size = n := ⟨_, rfl⟩; have lNQ : w.heap.size + 2 ≤ NQ := (by (have := hq.lt; omega)); (with_reducible refine al_qr NQ ?_ ?_); exact hNQ; intro W hu hb' hz'; replace hr := hr.bl (hNQ ▸ hb'); replace hq := hq.bl (hNQ ▸ hb'); replace hb := hb.trans (hb'.mono (by omega)); clear hNQ hb' hz'; (try clear fx)) | ((with_reducible refine st_qr NQ _ t.q0 hu ?_ ?_ ?_); exact rfl; exact rfl; intro W hnew ho; replace hr := hr.only ho (by omega); replace hq := hq.only ho (by omega); replace hu := hnew; replace hb := ho.bel _ _ (by omega) hb) | ((with_reducible refine ld_urd NQ _ _ hu ?_ ?_ ?_); exact rfl; exact rfl) | ((with_reducible refine ld_qr NQ _ hu ?_ ?_ ?_); exact rfl; exact rfl) | ((with_reducible refine st_q0r w.heap.size _ t.q0 _ hr ?_ ?_ ?_); exact rfl; exact rfl; intro W hnew ho; replace hq := hq.only ho (by omega); replace hu := hu.only ho (by omega); replace hr := hnew; replace hb := ho.bel _ _ (by omega) hb) | ((with_reducible refine ld_vr w.heap.size _ hr ?_ ?_ ?_); exact rfl; exact rfl) | ((with_reducible refine st_vr (w.heap.size + 1) _ t hq ?_ ?_ ?_); exact rfl; exact rfl; intro W hnew ho; replace hr := hr.only ho (by omega); replace hq := hnew; replace hb := ho.bel _ _ (by omega) hb))
  all_goals (refine bodyPost_ret (results_cell_two' results27 _ _ (w.heap.size + 1) _ _ _ rfl hq underlying31 rfl size_vr) rfl ?_; exact ⟨rfl, hb⟩)
theorem rwr_20_1 (s : V) (ok : s.Ok) (a v : Nat) (hv : v < 4294967296) (hm : accV s a = 0) (h : a = 20) (hs : (s.fsw v).se = 1) (w : World) :
    StViRWrA0 s a v w := by
  unfold StViRWrA0
  have HV : writeV s a v = (s.fsw v, -1, 0) := by unfold writeV; rw [if_pos hm]; unfold writeS; subst h; rfl
  rw [HV]; clear HV
  have HC := hide (fun w => rvcheck_any s ok w)
  rw [(accV_ok hm).1] at HC
  replace HC : Hid (∀ w, Calls prog 14 #[.agg s.cells] w fun e w' => e = .returned (.int .i64 0) ∧ Below w.heap.size w w') := HC
  obtain ⟨t, ht⟩ : ∃ t, s.fsw v = t := ⟨_, rfl⟩
  have hs2 : t.se = 1 := by rw [← ht]; exact hs
  rw [ht]
  have HT := hide ht
  clear ht hs
  have hs := hs2
  clear hs2
  have hse : ((t.se : Nat) : Int) = 1 := by omega
  clear hs
  subst h
  rw [show ((20 : Nat) : Int) = 20 from rfl]
  go_enter func27, ntmps27
  go_wp2_with (first | ((with_reducible refine bx_vr w.heap.size s ?_ ?_ ?_); exact rfl; exact rfl; intro W hr hb hz; have fx := hr.cell) | ((with_reducible refine al_vr (w.heap.size + 1) ?_ ?_); exact hz.out; intro W hq hb' hz'; replace hr := hr.bl (hz.out ▸ hb'); replace hb := hb.trans (hb'.mono (by omega)); replace hz := hz'; replace fx := hr.cell) | (go_at_call 14; (with_reducible refine (HC.out _).mono ?_); rintro e W ⟨rfl, hbc⟩; replace hr := hr.bl hbc; replace hq := hq.bl hbc; replace fx := hr.cell; replace hb := below_bl rfl hb hbc) | ((with_reducible refine st_fs w.heap.size _ v _ hr ?_ ?_ ?_); exact rfl; exact rfl; intro W hnew ho; replace hq := hq.only ho (by omega); replace hr := hnew; replace hb := ho.bel _ _ (by omega) hb; (try clear fx); rw [HT.out] at hr) | ((with_reducible refine ld_se w.heap.size _ _ hr ?_ ?_ ?_); exact rfl; exact rfl) | ((with_reducible refine ld_q1r w.heap.size _ _ hr ?_ ?_ ?_); exact rfl; exact rfl) | (obtain ⟨NQ, hNQ⟩ : ∃ n, W.heap.size = n := ⟨_, rfl⟩; have lNQ : w.heap.size + 2 ≤ NQ := (by (have := hq.lt; omega)); (with_reducible refine al_qr NQ ?_ ?_); exact hNQ; intro W hu hb' hz'; replace hr := hr.bl (hNQ ▸ hb'); replace hq := hq.bl (hNQ ▸ hb'); replace hb := hb.trans (hb'.mono (by omega)); clear hNQ hb' hz'; (try clear fx)) | ((with_reducible refine st_qr NQ _ t.q1 hu ?_ ?_ ?_); exact rfl; exact rfl; intro W hnew ho; replace hr := hr.only ho (by omega); replace hq := hq.only ho (by omega); replace hu := hnew; replace hb := ho.bel _ _ (by omega) hb) | ((with_reducible refine ld_urd NQ _ _ hu ?_ ?_ ?_); exact rfl; exact rfl) | ((with_reducible refine ld_qr NQ _ hu ?_ ?_ ?_); exact rfl; exact rfl) | ((with_reducible refine st_q1r w.heap.size _ t.q1 _ hr ?_ ?_ ?_); exact rfl; exact rfl; intro W hnew ho; replace hq := hq.only ho (by omega); replace hu := hu.only ho (by omega); replace hr := hnew; replace hb := ho.bel _ _ (by omega) hb) | ((with_reducible refine ld_vr w.heap.size _ hr ?_ ?_ ?_); exact rfl; exact rfl) | ((with_reducible refine st_vr (w.heap.size + 1) _ t hq ?_ ?_ ?_); exact rfl; exact rfl; intro W hnew ho; replace hr := hr.only ho (by omega); replace hq := hnew; replace hb := ho.bel _ _ (by omega) hb))
  all_goals (refine bodyPost_ret (results_cell_two' results27 _ _ (w.heap.size + 1) _ _ _ rfl hq underlying31 rfl size_vr) rfl ?_; exact ⟨rfl, hb⟩)
theorem rwr_36_far (s : V) (ok : s.Ok) (a v : Nat) (hv : v < 4294967296) (hm : accV s a = 0) (h : a = 36) (hs : 2 ≤ (s.dsw v).se) (w : World) :
    StViRWrA0 s a v w := by
  unfold StViRWrA0
  have HV : writeV s a v = (s.dsw v, -1, 0) := by unfold writeV; rw [if_pos hm]; unfold writeS; subst h; rfl
  rw [HV]; clear HV
  have HC := hide (fun w => rvcheck_any s ok w)
  rw [(accV_ok hm).1] at HC
  replace HC : Hid (∀ w, Calls prog 14 #[.agg s.cells] w fun e w' => e = .returned (.int .i64 0) ∧ Below w.heap.size w w') := HC
  obtain ⟨t, ht⟩ : ∃ t, s.dsw v = t := ⟨_, rfl⟩
  have hs2 : 2 ≤ t.se := by rw [← ht]; exact hs
  rw [ht]
  have HT := hide ht
  clear ht hs
  have hs := hs2
  clear hs2
  have lse : (t.se : Int) > 1 := by omega
  have lseb : (1 : Int) < (t.se : Int) := by omega
  clear hs
  subst h
  rw [show ((36 : Nat) : Int) = 36 from rfl]
  go_enter func27, ntmps27
  go_wp2_with (first | ((with_reducible refine bx_vr w.heap.size s ?_ ?_ ?_); exact rfl; exact rfl; intro W hr hb hz; have fx := hr.cell) | ((with_reducible refine al_vr (w.heap.size + 1) ?_ ?_); exact hz.out; intro W hq hb' hz'; replace hr := hr.bl (hz.out ▸ hb'); replace hb := hb.trans (hb'.mono (by omega)); replace hz := hz'; replace fx := hr.cell) | (go_at_call 14; (with_reducible refine (HC.out _).mono ?_); rintro e W ⟨rfl, hbc⟩; replace hr := hr.bl hbc; replace hq := hq.bl hbc; replace fx := hr.cell; replace hb := below_bl rfl hb hbc) | ((with_reducible refine st_ds w.heap.size _ v _ hr ?_ ?_ ?_); exact rfl; exact rfl; intro W hnew ho; replace hq := hq.only ho (by omega); replace hr := hnew; replace hb := ho.bel _ _ (by omega) hb; (try clear fx); rw [HT.out] at hr) | ((with_reducible refine ld_se w.heap.size _ _ hr ?_ ?_ ?_); exact rfl; exact rfl) | ((with_reducible refine ld_vr w.heap.size _ hr ?_ ?_ ?_); exact rfl; exact rfl) | ((with_reducible refine st_vr (w.heap.size + 1) _ t hq ?_ ?_ ?_); exact rfl; exact rfl; intro W hnew ho; replace hr := hr.only ho (by omega); replace hq := hnew; replace hb := ho.bel _ _ (by omega) hb))
  all_goals (refine bodyPost_ret (results_cell_two' results27 _ _ (w.heap.size + 1) _ _ _ rfl hq underlying31 rfl size_vr) rfl ?_; exact ⟨rfl, hb⟩)
theorem rwr_36_0 (s : V) (ok : s.Ok) (a v : Nat) (hv : v < 4294967296) (hm : accV s a = 0) (h : a = 36) (hs : (s.dsw v).se = 0) (w : World) :
    StViRWrA0 s a v w := by
  unfold StViRWrA0
  have HV : writeV s a v = (s.dsw v, -1, 0) := by unfold writeV; rw [if_pos hm]; unfold writeS; subst h; rfl
  rw [HV]; clear HV
  have HC := hide (fun w => rvcheck_any s ok w)
  rw [(accV_ok hm).1] at HC
  replace HC : Hid (∀ w, Calls prog 14 #[.agg s.cells] w fun e w' => e = .returned (.int .i64 0) ∧ Below w.heap.size w w') := HC
  obtain ⟨t, ht⟩ : ∃ t, s.dsw v = t := ⟨_, rfl⟩
  have hs2 : t.se = 0 := by rw [← ht]; exact hs
  rw [ht]
  have HT := hide ht
  clear ht hs
  have hs := hs2
  clear hs2
  have hse : ((t.se : Nat) : Int) = 0 := by omega
  clear hs
  subst h
  rw [show ((36 : Nat) : Int) = 36 from rfl]
  go_enter func27, ntmps27
  go_wp2_with (first | ((with_reducible refine bx_vr w.heap.size s ?_ ?_ ?_); exact rfl; exact rfl; intro W hr hb hz; have fx := hr.cell) | ((with_reducible refine al_vr (w.heap.size + 1) ?_ ?_); exact hz.out; intro W hq hb' hz'; replace hr := hr.bl (hz.out ▸ hb'); replace hb := hb.trans (hb'.mono (by omega)); replace hz := hz'; replace fx := hr.cell) | (go_at_call 14; (with_reducible refine (HC.out _).mono ?_); rintro e W ⟨rfl, hbc⟩; replace hr := hr.bl hbc; replace hq := hq.bl hbc; replace fx := hr.cell; replace hb := below_bl rfl hb hbc) | ((with_reducible refine st_ds w.heap.size _ v _ hr ?_ ?_ ?_); exact rfl; exact rfl; intro W hnew ho; replace hq := hq.only ho (by omega); replace hr := hnew; replace hb := ho.bel _ _ (by omega) hb; (try clear fx); rw [HT.out] at hr) | ((with_reducible refine ld_se w.heap.size _ _ hr ?_ ?_ ?_); exact rfl; exact rfl) | ((with_reducible refine ld_q0r w.heap.size _ _ hr ?_ ?_ ?_); exact rfl; exact rfl) | (obtain ⟨NQ, hNQ⟩ : ∃ n, W.heap.size = n := ⟨_, rfl⟩; have lNQ : w.heap.size + 2 ≤ NQ := (by (have := hq.lt; omega)); (with_reducible refine al_qr NQ ?_ ?_); exact hNQ; intro W hu hb' hz'; replace hr := hr.bl (hNQ ▸ hb'); replace hq := hq.bl (hNQ ▸ hb'); replace hb := hb.trans (hb'.mono (by omega)); clear hNQ hb' hz'; (try clear fx)) | ((with_reducible refine st_qr NQ _ t.q0 hu ?_ ?_ ?_); exact rfl; exact rfl; intro W hnew ho; replace hr := hr.only ho (by omega); replace hq := hq.only ho (by omega); replace hu := hnew; replace hb := ho.bel _ _ (by omega) hb) | ((with_reducible refine ld_urd NQ _ _ hu ?_ ?_ ?_); exact rfl; exact rfl) | ((with_reducible refine ld_qr NQ _ hu ?_ ?_ ?_); exact rfl; exact rfl) | ((with_reducible refine st_q0r w.heap.size _ t.q0 _ hr ?_ ?_ ?_); exact rfl; exact rfl; intro W hnew ho; replace hq := hq.only ho (by omega); replace hu := hu.only ho (by omega); replace hr := hnew; replace hb := ho.bel _ _ (by omega) hb) | ((with_reducible refine ld_vr w.heap.size _ hr ?_ ?_ ?_); exact rfl; exact rfl) | ((with_reducible refine st_vr (w.heap.size + 1) _ t hq ?_ ?_ ?_); exact rfl; exact rfl; intro W hnew ho; replace hr := hr.only ho (by omega); replace hq := hnew; replace hb := ho.bel _ _ (by omega) hb))
  all_goals (refine bodyPost_ret (results_cell_two' results27 _ _ (w.heap.size + 1) _ _ _ rfl hq underlying31 rfl size_vr) rfl ?_; exact ⟨rfl, hb⟩)
theorem rwr_36_1 (s : V) (ok : s.Ok) (a v : Nat) (hv : v < 4294967296) (hm : accV s a = 0) (h : a = 36) (hs : (s.dsw v).se = 1) (w : World) :
    StViRWrA0 s a v w := by
  unfold StViRWrA0
  have HV : writeV s a v = (s.dsw v, -1, 0) := by unfold writeV; rw [if_pos hm]; unfold writeS; subst h; rfl
  rw [HV]; clear HV
  have HC := hide (fun w => rvcheck_any s ok w)
  rw [(accV_ok hm).1] at HC
  replace HC : Hid (∀ w, Calls prog 14 #[.agg s.cells] w fun e w' => e = .returned (.int .i64 0) ∧ Below w.heap.size w w') := HC
  obtain ⟨t, ht⟩ : ∃ t, s.dsw v = t := ⟨_, rfl⟩
  have hs2 : t.se = 1 := by rw [← ht]; exact hs
  rw [ht]
  have HT := hide ht
  clear ht hs
  have hs := hs2
  clear hs2
  have hse : ((t.se : Nat) : Int) = 1 := by omega
  clear hs
  subst h
  rw [show ((36 : Nat) : Int) = 36 from rfl]
  go_enter func27, ntmps27
  go_wp2_with (first | ((with_reducible refine bx_vr w.heap.size s ?_ ?_ ?_); exact rfl; exact rfl; intro W hr hb hz; have fx := hr.cell) | ((with_reducible refine al_vr (w.heap.size + 1) ?_ ?_); exact hz.out; intro W hq hb' hz'; replace hr := hr.bl (hz.out ▸ hb'); replace hb := hb.trans (hb'.mono (by omega)); replace hz := hz'; replace fx := hr.cell) | (go_at_call 14; (with_reducible refine (HC.out _).mono ?_); rintro e W ⟨rfl, hbc⟩; replace hr := hr.bl hbc; replace hq := hq.bl hbc; replace fx := hr.cell; replace hb := below_bl rfl hb hbc) | ((with_reducible refine st_ds w.heap.size _ v _ hr ?_ ?_ ?_); exact rfl; exact rfl; intro W hnew ho; replace hq := hq.only ho (by omega); replace hr := hnew; replace hb := ho.bel _ _ (by omega) hb; (try clear fx); rw [HT.out] at hr) | ((with_reducible refine ld_se w.heap.size _ _ hr ?_ ?_ ?_); exact rfl; exact rfl) | ((with_reducible refine ld_q1r w.heap.size _ _ hr ?_ ?_ ?_); exact rfl; exact rfl) | (obtain ⟨NQ, hNQ⟩ : ∃ n, W.heap.size = n := ⟨_, rfl⟩; have lNQ : w.heap.size + 2 ≤ NQ := (by (have := hq.lt; omega)); (with_reducible refine al_qr NQ ?_ ?_); exact hNQ; intro W hu hb' hz'; replace hr := hr.bl (hNQ ▸ hb'); replace hq := hq.bl (hNQ ▸ hb'); replace hb := hb.trans (hb'.mono (by omega)); clear hNQ hb' hz'; (try clear fx)) | ((with_reducible refine st_qr NQ _ t.q1 hu ?_ ?_ ?_); exact rfl; exact rfl; intro W hnew ho; replace hr := hr.only ho (by omega); replace hq := hq.only ho (by omega); replace hu := hnew; replace hb := ho.bel _ _ (by omega) hb) | ((with_reducible refine ld_urd NQ _ _ hu ?_ ?_ ?_); exact rfl; exact rfl) | ((with_reducible refine ld_qr NQ _ hu ?_ ?_ ?_); exact rfl; exact rfl) | ((with_reducible refine st_q1r w.heap.size _ t.q1 _ hr ?_ ?_ ?_); exact rfl; exact rfl; intro W hnew ho; replace hq := hq.only ho (by omega); replace hu := hu.only ho (by omega); replace hr := hnew; replace hb := ho.bel _ _ (by omega) hb) | ((with_reducible refine ld_vr w.heap.size _ hr ?_ ?_ ?_); exact rfl; exact rfl) | ((with_reducible refine st_vr (w.heap.size + 1) _ t hq ?_ ?_ ?_); exact rfl; exact rfl; intro W hnew ho; replace hr := hr.only ho (by omega); replace hq := hnew; replace hb := ho.bel _ _ (by omega) hb))
  all_goals (refine bodyPost_ret (results_cell_two' results27 _ _ (w.heap.size + 1) _ _ _ rfl hq underlying31 rfl size_vr) rfl ?_; exact ⟨rfl, hb⟩)
theorem rwr_48_far (s : V) (ok : s.Ok) (a v : Nat) (hv : v < 4294967296) (hm : accV s a = 0) (h : a = 48) (hs : 2 ≤ (s.sew v).se) (w : World) :
    StViRWrA0 s a v w := by
  unfold StViRWrA0
  have HV : writeV s a v = (s.sew v, -1, 0) := by unfold writeV; rw [if_pos hm]; unfold writeS; subst h; rfl
  rw [HV]; clear HV
  have HC := hide (fun w => rvcheck_any s ok w)
  rw [(accV_ok hm).1] at HC
  replace HC : Hid (∀ w, Calls prog 14 #[.agg s.cells] w fun e w' => e = .returned (.int .i64 0) ∧ Below w.heap.size w w') := HC
  obtain ⟨t, ht⟩ : ∃ t, s.sew v = t := ⟨_, rfl⟩
  have hs2 : 2 ≤ t.se := by rw [← ht]; exact hs
  rw [ht]
  have HT := hide ht
  clear ht hs
  have hs := hs2
  clear hs2
  have lse : (t.se : Int) > 1 := by omega
  have lseb : (1 : Int) < (t.se : Int) := by omega
  clear hs
  subst h
  rw [show ((48 : Nat) : Int) = 48 from rfl]
  go_enter func27, ntmps27
  go_wp2_with (first | ((with_reducible refine bx_vr w.heap.size s ?_ ?_ ?_); exact rfl; exact rfl; intro W hr hb hz; have fx := hr.cell) | ((with_reducible refine al_vr (w.heap.size + 1) ?_ ?_); exact hz.out; intro W hq hb' hz'; replace hr := hr.bl (hz.out ▸ hb'); replace hb := hb.trans (hb'.mono (by omega)); replace hz := hz'; replace fx := hr.cell) | (go_at_call 14; (with_reducible refine (HC.out _).mono ?_); rintro e W ⟨rfl, hbc⟩; replace hr := hr.bl hbc; replace hq := hq.bl hbc; replace fx := hr.cell; replace hb := below_bl rfl hb hbc) | ((with_reducible refine st_se w.heap.size _ v _ hr ?_ ?_ ?_); exact rfl; exact rfl; intro W hnew ho; replace hq := hq.only ho (by omega); replace hr := hnew; replace hb := ho.bel _ _ (by omega) hb; (try clear fx); rw [HT.out] at hr) | ((with_reducible refine ld_se w.heap.size _ _ hr ?_ ?_ ?_); exact rfl; exact rfl) | ((with_reducible refine ld_vr w.heap.size _ hr ?_ ?_ ?_); exact rfl; exact rfl) | ((with_reducible refine st_vr (w.heap.size + 1) _ t hq ?_ ?_ ?_); exact rfl; exact rfl; intro W hnew ho; replace hr := hr.only ho (by omega); replace hq := hnew; replace hb := ho.bel _ _ (by omega) hb))
  all_goals (refine bodyPost_ret (results_cell_two' results27 _ _ (w.heap.size + 1) _ _ _ rfl hq underlying31 rfl size_vr) rfl ?_; exact ⟨rfl, hb⟩)
theorem rwr_48_0 (s : V) (ok : s.Ok) (a v : Nat) (hv : v < 4294967296) (hm : accV s a = 0) (h : a = 48) (hs : (s.sew v).se = 0) (w : World) :
    StViRWrA0 s a v w := by
  unfold StViRWrA0
  have HV : writeV s a v = (s.sew v, -1, 0) := by unfold writeV; rw [if_pos hm]; unfold writeS; subst h; rfl
  rw [HV]; clear HV
  have HC := hide (fun w => rvcheck_any s ok w)
  rw [(accV_ok hm).1] at HC
  replace HC : Hid (∀ w, Calls prog 14 #[.agg s.cells] w fun e w' => e = .returned (.int .i64 0) ∧ Below w.heap.size w w') := HC
  obtain ⟨t, ht⟩ : ∃ t, s.sew v = t := ⟨_, rfl⟩
  have hs2 : t.se = 0 := by rw [← ht]; exact hs
  rw [ht]
  have HT := hide ht
  clear ht hs
  have hs := hs2
  clear hs2
  have hse : ((t.se : Nat) : Int) = 0 := by omega
  clear hs
  subst h
  rw [show ((48 : Nat) : Int) = 48 from rfl]
  go_enter func27, ntmps27
  go_wp2_with (first | ((with_reducible refine bx_vr w.heap.size s ?_ ?_ ?_); exact rfl; exact rfl; intro W hr hb hz; have fx := hr.cell) | ((with_reducible refine al_vr (w.heap.size + 1) ?_ ?_); exact hz.out; intro W hq hb' hz'; replace hr := hr.bl (hz.out ▸ hb'); replace hb := hb.trans (hb'.mono (by omega)); replace hz := hz'; replace fx := hr.cell) | (go_at_call 14; (with_reducible refine (HC.out _).mono ?_); rintro e W ⟨rfl, hbc⟩; replace hr := hr.bl hbc; replace hq := hq.bl hbc; replace fx := hr.cell; replace hb := below_bl rfl hb hbc) | ((with_reducible refine st_se w.heap.size _ v _ hr ?_ ?_ ?_); exact rfl; exact rfl; intro W hnew ho; replace hq := hq.only ho (by omega); replace hr := hnew; replace hb := ho.bel _ _ (by omega) hb; (try clear fx); rw [HT.out] at hr) | ((with_reducible refine ld_se w.heap.size _ _ hr ?_ ?_ ?_); exact rfl; exact rfl) | ((with_reducible refine ld_q0r w.heap.size _ _ hr ?_ ?_ ?_); exact rfl; exact rfl) | (obtain ⟨NQ, hNQ⟩ : ∃ n, W.heap.size = n := ⟨_, rfl⟩; have lNQ : w.heap.size + 2 ≤ NQ := (by (have := hq.lt; omega)); (with_reducible refine al_qr NQ ?_ ?_); exact hNQ; intro W hu hb' hz'; replace hr := hr.bl (hNQ ▸ hb'); replace hq := hq.bl (hNQ ▸ hb'); replace hb := hb.trans (hb'.mono (by omega)); clear hNQ hb' hz'; (try clear fx)) | ((with_reducible refine st_qr NQ _ t.q0 hu ?_ ?_ ?_); exact rfl; exact rfl; intro W hnew ho; replace hr := hr.only ho (by omega); replace hq := hq.only ho (by omega); replace hu := hnew; replace hb := ho.bel _ _ (by omega) hb) | ((with_reducible refine ld_urd NQ _ _ hu ?_ ?_ ?_); exact rfl; exact rfl) | ((with_reducible refine ld_qr NQ _ hu ?_ ?_ ?_); exact rfl; exact rfl) | ((with_reducible refine st_q0r w.heap.size _ t.q0 _ hr ?_ ?_ ?_); exact rfl; exact rfl; intro W hnew ho; replace hq := hq.only ho (by omega); replace hu := hu.only ho (by omega); replace hr := hnew; replace hb := ho.bel _ _ (by omega) hb) | ((with_reducible refine ld_vr w.heap.size _ hr ?_ ?_ ?_); exact rfl; exact rfl) | ((with_reducible refine st_vr (w.heap.size + 1) _ t hq ?_ ?_ ?_); exact rfl; exact rfl; intro W hnew ho; replace hr := hr.only ho (by omega); replace hq := hnew; replace hb := ho.bel _ _ (by omega) hb))
  all_goals (refine bodyPost_ret (results_cell_two' results27 _ _ (w.heap.size + 1) _ _ _ rfl hq underlying31 rfl size_vr) rfl ?_; exact ⟨rfl, hb⟩)
theorem rwr_48_1 (s : V) (ok : s.Ok) (a v : Nat) (hv : v < 4294967296) (hm : accV s a = 0) (h : a = 48) (hs : (s.sew v).se = 1) (w : World) :
    StViRWrA0 s a v w := by
  unfold StViRWrA0
  have HV : writeV s a v = (s.sew v, -1, 0) := by unfold writeV; rw [if_pos hm]; unfold writeS; subst h; rfl
  rw [HV]; clear HV
  have HC := hide (fun w => rvcheck_any s ok w)
  rw [(accV_ok hm).1] at HC
  replace HC : Hid (∀ w, Calls prog 14 #[.agg s.cells] w fun e w' => e = .returned (.int .i64 0) ∧ Below w.heap.size w w') := HC
  obtain ⟨t, ht⟩ : ∃ t, s.sew v = t := ⟨_, rfl⟩
  have hs2 : t.se = 1 := by rw [← ht]; exact hs
  rw [ht]
  have HT := hide ht
  clear ht hs
  have hs := hs2
  clear hs2
  have hse : ((t.se : Nat) : Int) = 1 := by omega
  clear hs
  subst h
  rw [show ((48 : Nat) : Int) = 48 from rfl]
  go_enter func27, ntmps27
  go_wp2_with (first | ((with_reducible refine bx_vr w.heap.size s ?_ ?_ ?_); exact rfl; exact rfl; intro W hr hb hz; have fx := hr.cell) | ((with_reducible refine al_vr (w.heap.size + 1) ?_ ?_); exact hz.out; intro W hq hb' hz'; replace hr := hr.bl (hz.out ▸ hb'); replace hb := hb.trans (hb'.mono (by omega)); replace hz := hz'; replace fx := hr.cell) | (go_at_call 14; (with_reducible refine (HC.out _).mono ?_); rintro e W ⟨rfl, hbc⟩; replace hr := hr.bl hbc; replace hq := hq.bl hbc; replace fx := hr.cell; replace hb := below_bl rfl hb hbc) | ((with_reducible refine st_se w.heap.size _ v _ hr ?_ ?_ ?_); exact rfl; exact rfl; intro W hnew ho; replace hq := hq.only ho (by omega); replace hr := hnew; replace hb := ho.bel _ _ (by omega) hb; (try clear fx); rw [HT.out] at hr) | ((with_reducible refine ld_se w.heap.size _ _ hr ?_ ?_ ?_); exact rfl; exact rfl) | ((with_reducible refine ld_q1r w.heap.size _ _ hr ?_ ?_ ?_); exact rfl; exact rfl) | (obtain ⟨NQ, hNQ⟩ : ∃ n, W.heap.size = n := ⟨_, rfl⟩; have lNQ : w.heap.size + 2 ≤ NQ := (by (have := hq.lt; omega)); (with_reducible refine al_qr NQ ?_ ?_); exact hNQ; intro W hu hb' hz'; replace hr := hr.bl (hNQ ▸ hb'); replace hq := hq.bl (hNQ ▸ hb'); replace hb := hb.trans (hb'.mono (by omega)); clear hNQ hb' hz'; (try clear fx)) | ((with_reducible refine st_qr NQ _ t.q1 hu ?_ ?_ ?_); exact rfl; exact rfl; intro W hnew ho; replace hr := hr.only ho (by omega); replace hq := hq.only ho (by omega); replace hu := hnew; replace hb := ho.bel _ _ (by omega) hb) | ((with_reducible refine ld_urd NQ _ _ hu ?_ ?_ ?_); exact rfl; exact rfl) | ((with_reducible refine ld_qr NQ _ hu ?_ ?_ ?_); exact rfl; exact rfl) | ((with_reducible refine st_q1r w.heap.size _ t.q1 _ hr ?_ ?_ ?_); exact rfl; exact rfl; intro W hnew ho; replace hq := hq.only ho (by omega); replace hu := hu.only ho (by omega); replace hr := hnew; replace hb := ho.bel _ _ (by omega) hb) | ((with_reducible refine ld_vr w.heap.size _ hr ?_ ?_ ?_); exact rfl; exact rfl) | ((with_reducible refine st_vr (w.heap.size + 1) _ t hq ?_ ?_ ?_); exact rfl; exact rfl; intro W hnew ho; replace hr := hr.only ho (by omega); replace hq := hnew; replace hb := ho.bel _ _ (by omega) hb))
  all_goals (refine bodyPost_ret (results_cell_two' results27 _ _ (w.heap.size + 1) _ _ _ rfl hq underlying31 rfl size_vr) rfl ?_; exact ⟨rfl, hb⟩)
end Go.Proofs.YtbggkoahofnnjaaGreatDoor
