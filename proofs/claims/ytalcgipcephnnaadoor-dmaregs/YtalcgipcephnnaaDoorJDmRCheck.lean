/-
  What the document's Check answers.
-/
import Derived.Test.YtalcgipcephnnaaDoorJDmTick
namespace Go.Proofs.YtalcgipcephnnaaDoor
open Go.RowKit
set_option linter.unusedVariables false
set_option linter.unusedSimpArgs false

attribute [local go_sem] E.at0 E.at1 E.at2 E.at3 E.at4 E.at5 E.at6 E.at7 E.at8 E.at9 E.at10
set_option maxHeartbeats 1000000 in
theorem rcheck_0 (s : E) (h0 : 3 < s.cd) (w : World) :
    Calls Tryd.prog 15 #[.agg s.cells] w fun e w' => e = .returned (.int .i64 ((chkE (mayE s) : Nat) : Int)) ∧ Below w.heap.size w w' := by
  have HV : chkE (mayE s) = 1 := by
    have : mayE s = false := by
      cases hx : mayE s with
      | false => rfl
      | true =>
        obtain ⟨m1, m2, m3, m4, m5⟩ := (mayE_iff s).1 hx
        exfalso
        omega
    rw [this]; rfl
  rw [HV]; clear HV
  have t0 : (3 : Int) < (s.cd : Int) := by omega
  go_enter Tryd.func15, Tryd.ntmps15
  go_wp2_with (first | ((with_reducible refine bx_er w.heap.size s ?_ ?_ ?_); exact rfl; exact rfl; intro W hr hb hz; have fx := hr.cell))
  go_ret
  exact ⟨rfl, hb⟩

set_option maxHeartbeats 1000000 in
theorem rcheck_1 (s : E) (h0 : s.cd ≤ 3) (h1 : s.hv = true) (h2 : s.cd = 1) (h3 : s.ak = true) (h4 : s.cd < 2) (w : World) :
    Calls Tryd.prog 15 #[.agg s.cells] w fun e w' => e = .returned (.int .i64 ((chkE (mayE s) : Nat) : Int)) ∧ Below w.heap.size w w' := by
  have HV : chkE (mayE s) = 1 := by
    have : mayE s = false := by
      cases hx : mayE s with
      | false => rfl
      | true =>
        obtain ⟨m1, m2, m3, m4, m5⟩ := (mayE_iff s).1 hx
        exfalso
        have := m3 h3; omega
    rw [this]; rfl
  rw [HV]; clear HV
  have t0 : decide ((3 : Int) < (s.cd : Int)) = false := by simp; omega
  have t0n : decide (3 < s.cd) = false := by simp; omega
  have t2 : ((s.cd : Int) == 1) = true := (castq s.cd 1).trans (by simp [h2])
  have t4 : (s.cd : Int) < 2 := by omega
  go_enter Tryd.func15, Tryd.ntmps15
  go_wp2_with (first | ((with_reducible refine bx_er w.heap.size s ?_ ?_ ?_); exact rfl; exact rfl; intro W hr hb hz; have fx := hr.cell))
  go_ret
  exact ⟨rfl, hb⟩

set_option maxHeartbeats 1000000 in
theorem rcheck_2 (s : E) (h0 : s.cd ≤ 3) (h1 : s.hv = true) (h2 : s.cd = 1) (h3 : s.ak = true) (h4 : 2 ≤ s.cd) (h5 : 64 < s.st) (w : World) :
    Calls Tryd.prog 15 #[.agg s.cells] w fun e w' => e = .returned (.int .i64 ((chkE (mayE s) : Nat) : Int)) ∧ Below w.heap.size w w' := by
  exfalso
  omega

set_option maxHeartbeats 1000000 in
theorem rcheck_3 (s : E) (h0 : s.cd ≤ 3) (h1 : s.hv = true) (h2 : s.cd = 1) (h3 : s.ak = true) (h4 : 2 ≤ s.cd) (h5 : s.st ≤ 64) (h6 : s.lf = 0) (w : World) :
    Calls Tryd.prog 15 #[.agg s.cells] w fun e w' => e = .returned (.int .i64 ((chkE (mayE s) : Nat) : Int)) ∧ Below w.heap.size w w' := by
  exfalso
  omega

set_option maxHeartbeats 1000000 in
theorem rcheck_4 (s : E) (h0 : s.cd ≤ 3) (h1 : s.hv = true) (h2 : s.cd = 1) (h3 : s.ak = true) (h4 : 2 ≤ s.cd) (h5 : s.st ≤ 64) (h6 : s.lf ≠ 0) (h7 : 65536 < s.lf) (w : World) :
    Calls Tryd.prog 15 #[.agg s.cells] w fun e w' => e = .returned (.int .i64 ((chkE (mayE s) : Nat) : Int)) ∧ Below w.heap.size w w' := by
  exfalso
  omega

set_option maxHeartbeats 1000000 in
theorem rcheck_5 (s : E) (h0 : s.cd ≤ 3) (h1 : s.hv = true) (h2 : s.cd = 1) (h3 : s.ak = true) (h4 : 2 ≤ s.cd) (h5 : s.st ≤ 64) (h6 : s.lf ≠ 0) (h7 : s.lf ≤ 65536) (w : World) :
    Calls Tryd.prog 15 #[.agg s.cells] w fun e w' => e = .returned (.int .i64 ((chkE (mayE s) : Nat) : Int)) ∧ Below w.heap.size w w' := by
  exfalso
  omega

set_option maxHeartbeats 1000000 in
theorem rcheck_6 (s : E) (h0 : s.cd ≤ 3) (h1 : s.hv = true) (h2 : s.cd = 1) (h3 : s.ak = false) (h4 : 64 < s.st) (w : World) :
    Calls Tryd.prog 15 #[.agg s.cells] w fun e w' => e = .returned (.int .i64 ((chkE (mayE s) : Nat) : Int)) ∧ Below w.heap.size w w' := by
  have HV : chkE (mayE s) = 1 := by
    have : mayE s = false := by
      cases hx : mayE s with
      | false => rfl
      | true =>
        obtain ⟨m1, m2, m3, m4, m5⟩ := (mayE_iff s).1 hx
        exfalso
        omega
    rw [this]; rfl
  rw [HV]; clear HV
  have t0 : decide ((3 : Int) < (s.cd : Int)) = false := by simp; omega
  have t0n : decide (3 < s.cd) = false := by simp; omega
  have t2 : ((s.cd : Int) == 1) = true := (castq s.cd 1).trans (by simp [h2])
  have t4 : (64 : Int) < (s.st : Int) := by omega
  go_enter Tryd.func15, Tryd.ntmps15
  go_wp2_with (first | ((with_reducible refine bx_er w.heap.size s ?_ ?_ ?_); exact rfl; exact rfl; intro W hr hb hz; have fx := hr.cell))
  go_ret
  exact ⟨rfl, hb⟩

set_option maxHeartbeats 1000000 in
theorem rcheck_7 (s : E) (h0 : s.cd ≤ 3) (h1 : s.hv = true) (h2 : s.cd = 1) (h3 : s.ak = false) (h4 : s.st ≤ 64) (h5 : s.lf = 0) (w : World) :
    Calls Tryd.prog 15 #[.agg s.cells] w fun e w' => e = .returned (.int .i64 ((chkE (mayE s) : Nat) : Int)) ∧ Below w.heap.size w w' := by
  have HV : chkE (mayE s) = 1 := by
    have : mayE s = false := by
      cases hx : mayE s with
      | false => rfl
      | true =>
        obtain ⟨m1, m2, m3, m4, m5⟩ := (mayE_iff s).1 hx
        exfalso
        have := m4 h1; omega
    rw [this]; rfl
  rw [HV]; clear HV
  have t0 : decide ((3 : Int) < (s.cd : Int)) = false := by simp; omega
  have t0n : decide (3 < s.cd) = false := by simp; omega
  have t2 : ((s.cd : Int) == 1) = true := (castq s.cd 1).trans (by simp [h2])
  have t4 : decide ((64 : Int) < (s.st : Int)) = false := by simp; omega
  have t4n : decide (64 < s.st) = false := by simp; omega
  have t5 : ((s.lf : Int) == 0) = true := (castq s.lf 0).trans (by simp [h5])
  go_enter Tryd.func15, Tryd.ntmps15
  go_wp2_with (first | ((with_reducible refine bx_er w.heap.size s ?_ ?_ ?_); exact rfl; exact rfl; intro W hr hb hz; have fx := hr.cell))
  go_ret
  exact ⟨rfl, hb⟩

set_option maxHeartbeats 1000000 in
theorem rcheck_8 (s : E) (h0 : s.cd ≤ 3) (h1 : s.hv = true) (h2 : s.cd = 1) (h3 : s.ak = false) (h4 : s.st ≤ 64) (h5 : s.lf ≠ 0) (h6 : 65536 < s.lf) (w : World) :
    Calls Tryd.prog 15 #[.agg s.cells] w fun e w' => e = .returned (.int .i64 ((chkE (mayE s) : Nat) : Int)) ∧ Below w.heap.size w w' := by
  have HV : chkE (mayE s) = 1 := by
    have : mayE s = false := by
      cases hx : mayE s with
      | false => rfl
      | true =>
        obtain ⟨m1, m2, m3, m4, m5⟩ := (mayE_iff s).1 hx
        exfalso
        have := m4 h1; omega
    rw [this]; rfl
  rw [HV]; clear HV
  have t0 : decide ((3 : Int) < (s.cd : Int)) = false := by simp; omega
  have t0n : decide (3 < s.cd) = false := by simp; omega
  have t2 : ((s.cd : Int) == 1) = true := (castq s.cd 1).trans (by simp [h2])
  have t4 : decide ((64 : Int) < (s.st : Int)) = false := by simp; omega
  have t4n : decide (64 < s.st) = false := by simp; omega
  have t5 : ((s.lf : Int) == 0) = false := (castq s.lf 0).trans (by simp [h5])
  have t6 : (65536 : Int) < (s.lf : Int) := by omega
  go_enter Tryd.func15, Tryd.ntmps15
  go_wp2_with (first | ((with_reducible refine bx_er w.heap.size s ?_ ?_ ?_); exact rfl; exact rfl; intro W hr hb hz; have fx := hr.cell))
  go_ret
  exact ⟨rfl, hb⟩

set_option maxHeartbeats 1000000 in
theorem rcheck_9 (s : E) (h0 : s.cd ≤ 3) (h1 : s.hv = true) (h2 : s.cd = 1) (h3 : s.ak = false) (h4 : s.st ≤ 64) (h5 : s.lf ≠ 0) (h6 : s.lf ≤ 65536) (w : World) :
    Calls Tryd.prog 15 #[.agg s.cells] w fun e w' => e = .returned (.int .i64 ((chkE (mayE s) : Nat) : Int)) ∧ Below w.heap.size w w' := by
  have HV : chkE (mayE s) = 0 := by
    have : mayE s = true := by
      rw [mayE_iff]
      exact ⟨by omega, by omega, fun h => absurd (h.symm.trans h3) (by decide), fun _ => ⟨by omega, by omega, by omega⟩, fun h => absurd (h.symm.trans h1) (by decide)⟩
    rw [this]; rfl
  rw [HV]; clear HV
  have t0 : decide ((3 : Int) < (s.cd : Int)) = false := by simp; omega
  have t0n : decide (3 < s.cd) = false := by simp; omega
  have t2 : ((s.cd : Int) == 1) = true := (castq s.cd 1).trans (by simp [h2])
  have t4 : decide ((64 : Int) < (s.st : Int)) = false := by simp; omega
  have t4n : decide (64 < s.st) = false := by simp; omega
  have t5 : ((s.lf : Int) == 0) = false := (castq s.lf 0).trans (by simp [h5])
  have t6 : decide ((65536 : Int) < (s.lf : Int)) = false := by simp; omega
  have t6n : decide (65536 < s.lf) = false := by simp; omega
  go_enter Tryd.func15, Tryd.ntmps15
  go_wp2_with (first | ((with_reducible refine bx_er w.heap.size s ?_ ?_ ?_); exact rfl; exact rfl; intro W hr hb hz; have fx := hr.cell))
  go_ret
  exact ⟨rfl, hb⟩

set_option maxHeartbeats 1000000 in
theorem rcheck_10 (s : E) (h0 : s.cd ≤ 3) (h1 : s.hv = true) (h2 : s.cd ≠ 1) (w : World) :
    Calls Tryd.prog 15 #[.agg s.cells] w fun e w' => e = .returned (.int .i64 ((chkE (mayE s) : Nat) : Int)) ∧ Below w.heap.size w w' := by
  have HV : chkE (mayE s) = 1 := by
    have : mayE s = false := by
      cases hx : mayE s with
      | false => rfl
      | true =>
        obtain ⟨m1, m2, m3, m4, m5⟩ := (mayE_iff s).1 hx
        exfalso
        have := m4 h1; omega
    rw [this]; rfl
  rw [HV]; clear HV
  have t0 : decide ((3 : Int) < (s.cd : Int)) = false := by simp; omega
  have t0n : decide (3 < s.cd) = false := by simp; omega
  have t2 : ((s.cd : Int) == 1) = false := (castq s.cd 1).trans (by simp [h2])
  go_enter Tryd.func15, Tryd.ntmps15
  go_wp2_with (first | ((with_reducible refine bx_er w.heap.size s ?_ ?_ ?_); exact rfl; exact rfl; intro W hr hb hz; have fx := hr.cell))
  go_ret
  exact ⟨rfl, hb⟩

set_option maxHeartbeats 1000000 in
theorem rcheck_11 (s : E) (h0 : s.cd ≤ 3) (h1 : s.hv = false) (h2 : s.ak = true) (h3 : s.cd < 2) (w : World) :
    Calls Tryd.prog 15 #[.agg s.cells] w fun e w' => e = .returned (.int .i64 ((chkE (mayE s) : Nat) : Int)) ∧ Below w.heap.size w w' := by
  have HV : chkE (mayE s) = 1 := by
    have : mayE s = false := by
      cases hx : mayE s with
      | false => rfl
      | true =>
        obtain ⟨m1, m2, m3, m4, m5⟩ := (mayE_iff s).1 hx
        exfalso
        have := m3 h2; omega
    rw [this]; rfl
  rw [HV]; clear HV
  have t0 : decide ((3 : Int) < (s.cd : Int)) = false := by simp; omega
  have t0n : decide (3 < s.cd) = false := by simp; omega
  have t3 : (s.cd : Int) < 2 := by omega
  go_enter Tryd.func15, Tryd.ntmps15
  go_wp2_with (first | ((with_reducible refine bx_er w.heap.size s ?_ ?_ ?_); exact rfl; exact rfl; intro W hr hb hz; have fx := hr.cell))
  go_ret
  exact ⟨rfl, hb⟩

set_option maxHeartbeats 1000000 in
theorem rcheck_12 (s : E) (h0 : s.cd ≤ 3) (h1 : s.hv = false) (h2 : s.ak = true) (h3 : 2 ≤ s.cd) (h4 : 64 < s.st) (w : World) :
    Calls Tryd.prog 15 #[.agg s.cells] w fun e w' => e = .returned (.int .i64 ((chkE (mayE s) : Nat) : Int)) ∧ Below w.heap.size w w' := by
  have HV : chkE (mayE s) = 1 := by
    have : mayE s = false := by
      cases hx : mayE s with
      | false => rfl
      | true =>
        obtain ⟨m1, m2, m3, m4, m5⟩ := (mayE_iff s).1 hx
        exfalso
        omega
    rw [this]; rfl
  rw [HV]; clear HV
  have t0 : decide ((3 : Int) < (s.cd : Int)) = false := by simp; omega
  have t0n : decide (3 < s.cd) = false := by simp; omega
  have t3 : decide ((s.cd : Int) < 2) = false := by simp; omega
  have t3n : decide (s.cd < 2) = false := by simp; omega
  have t4 : (64 : Int) < (s.st : Int) := by omega
  go_enter Tryd.func15, Tryd.ntmps15
  go_wp2_with (first | ((with_reducible refine bx_er w.heap.size s ?_ ?_ ?_); exact rfl; exact rfl; intro W hr hb hz; have fx := hr.cell))
  go_ret
  exact ⟨rfl, hb⟩

set_option maxHeartbeats 1000000 in
theorem rcheck_13 (s : E) (h0 : s.cd ≤ 3) (h1 : s.hv = false) (h2 : s.ak = true) (h3 : 2 ≤ s.cd) (h4 : s.st ≤ 64) (h5 : s.fr = 0) (h6 : s.tt = 0) (h7 : s.lf = 0) (h8 : s.nx = 0) (w : World) :
    Calls Tryd.prog 15 #[.agg s.cells] w fun e w' => e = .returned (.int .i64 ((chkE (mayE s) : Nat) : Int)) ∧ Below w.heap.size w w' := by
  have HV : chkE (mayE s) = 0 := by
    have : mayE s = true := by
      rw [mayE_iff]
      exact ⟨by omega, by omega, fun _ => by omega, fun h => absurd (h.symm.trans h1) (by decide), fun _ => ⟨by omega, by omega, by omega, by omega⟩⟩
    rw [this]; rfl
  rw [HV]; clear HV
  have t0 : decide ((3 : Int) < (s.cd : Int)) = false := by simp; omega
  have t0n : decide (3 < s.cd) = false := by simp; omega
  have t3 : decide ((s.cd : Int) < 2) = false := by simp; omega
  have t3n : decide (s.cd < 2) = false := by simp; omega
  have t4 : decide ((64 : Int) < (s.st : Int)) = false := by simp; omega
  have t4n : decide (64 < s.st) = false := by simp; omega
  have t5 : ((s.fr : Int) == 0) = true := (castq s.fr 0).trans (by simp [h5])
  have t6 : ((s.tt : Int) == 0) = true := (castq s.tt 0).trans (by simp [h6])
  have t7 : ((s.lf : Int) == 0) = true := (castq s.lf 0).trans (by simp [h7])
  have t8 : ((s.nx : Int) == 0) = true := (castq s.nx 0).trans (by simp [h8])
  go_enter Tryd.func15, Tryd.ntmps15
  go_wp2_with (first | ((with_reducible refine bx_er w.heap.size s ?_ ?_ ?_); exact rfl; exact rfl; intro W hr hb hz; have fx := hr.cell))
  go_ret
  exact ⟨rfl, hb⟩

set_option maxHeartbeats 1000000 in
theorem rcheck_14 (s : E) (h0 : s.cd ≤ 3) (h1 : s.hv = false) (h2 : s.ak = true) (h3 : 2 ≤ s.cd) (h4 : s.st ≤ 64) (h5 : s.fr = 0) (h6 : s.tt = 0) (h7 : s.lf = 0) (h8 : s.nx ≠ 0) (w : World) :
    Calls Tryd.prog 15 #[.agg s.cells] w fun e w' => e = .returned (.int .i64 ((chkE (mayE s) : Nat) : Int)) ∧ Below w.heap.size w w' := by
  have HV : chkE (mayE s) = 1 := by
    have : mayE s = false := by
      cases hx : mayE s with
      | false => rfl
      | true =>
        obtain ⟨m1, m2, m3, m4, m5⟩ := (mayE_iff s).1 hx
        exfalso
        have := m5 h1; omega
    rw [this]; rfl
  rw [HV]; clear HV
  have t0 : decide ((3 : Int) < (s.cd : Int)) = false := by simp; omega
  have t0n : decide (3 < s.cd) = false := by simp; omega
  have t3 : decide ((s.cd : Int) < 2) = false := by simp; omega
  have t3n : decide (s.cd < 2) = false := by simp; omega
  have t4 : decide ((64 : Int) < (s.st : Int)) = false := by simp; omega
  have t4n : decide (64 < s.st) = false := by simp; omega
  have t5 : ((s.fr : Int) == 0) = true := (castq s.fr 0).trans (by simp [h5])
  have t6 : ((s.tt : Int) == 0) = true := (castq s.tt 0).trans (by simp [h6])
  have t7 : ((s.lf : Int) == 0) = true := (castq s.lf 0).trans (by simp [h7])
  have t8 : ((s.nx : Int) == 0) = false := (castq s.nx 0).trans (by simp [h8])
  go_enter Tryd.func15, Tryd.ntmps15
  go_wp2_with (first | ((with_reducible refine bx_er w.heap.size s ?_ ?_ ?_); exact rfl; exact rfl; intro W hr hb hz; have fx := hr.cell))
  go_ret
  exact ⟨rfl, hb⟩

set_option maxHeartbeats 1000000 in
theorem rcheck_15 (s : E) (h0 : s.cd ≤ 3) (h1 : s.hv = false) (h2 : s.ak = true) (h3 : 2 ≤ s.cd) (h4 : s.st ≤ 64) (h5 : s.fr = 0) (h6 : s.tt = 0) (h7 : s.lf ≠ 0) (w : World) :
    Calls Tryd.prog 15 #[.agg s.cells] w fun e w' => e = .returned (.int .i64 ((chkE (mayE s) : Nat) : Int)) ∧ Below w.heap.size w w' := by
  have HV : chkE (mayE s) = 1 := by
    have : mayE s = false := by
      cases hx : mayE s with
      | false => rfl
      | true =>
        obtain ⟨m1, m2, m3, m4, m5⟩ := (mayE_iff s).1 hx
        exfalso
        have := m5 h1; omega
    rw [this]; rfl
  rw [HV]; clear HV
  have t0 : decide ((3 : Int) < (s.cd : Int)) = false := by simp; omega
  have t0n : decide (3 < s.cd) = false := by simp; omega
  have t3 : decide ((s.cd : Int) < 2) = false := by simp; omega
  have t3n : decide (s.cd < 2) = false := by simp; omega
  have t4 : decide ((64 : Int) < (s.st : Int)) = false := by simp; omega
  have t4n : decide (64 < s.st) = false := by simp; omega
  have t5 : ((s.fr : Int) == 0) = true := (castq s.fr 0).trans (by simp [h5])
  have t6 : ((s.tt : Int) == 0) = true := (castq s.tt 0).trans (by simp [h6])
  have t7 : ((s.lf : Int) == 0) = false := (castq s.lf 0).trans (by simp [h7])
  go_enter Tryd.func15, Tryd.ntmps15
  go_wp2_with (first | ((with_reducible refine bx_er w.heap.size s ?_ ?_ ?_); exact rfl; exact rfl; intro W hr hb hz; have fx := hr.cell))
  go_ret
  exact ⟨rfl, hb⟩

set_option maxHeartbeats 1000000 in
theorem rcheck_16 (s : E) (h0 : s.cd ≤ 3) (h1 : s.hv = false) (h2 : s.ak = true) (h3 : 2 ≤ s.cd) (h4 : s.st ≤ 64) (h5 : s.fr = 0) (h6 : s.tt ≠ 0) (w : World) :
    Calls Tryd.prog 15 #[.agg s.cells] w fun e w' => e = .returned (.int .i64 ((chkE (mayE s) : Nat) : Int)) ∧ Below w.heap.size w w' := by
  have HV : chkE (mayE s) = 1 := by
    have : mayE s = false := by
      cases hx : mayE s with
      | false => rfl
      | true =>
        obtain ⟨m1, m2, m3, m4, m5⟩ := (mayE_iff s).1 hx
        exfalso
        have := m5 h1; omega
    rw [this]; rfl
  rw [HV]; clear HV
  have t0 : decide ((3 : Int) < (s.cd : Int)) = false := by simp; omega
  have t0n : decide (3 < s.cd) = false := by simp; omega
  have t3 : decide ((s.cd : Int) < 2) = false := by simp; omega
  have t3n : decide (s.cd < 2) = false := by simp; omega
  have t4 : decide ((64 : Int) < (s.st : Int)) = false := by simp; omega
  have t4n : decide (64 < s.st) = false := by simp; omega
  have t5 : ((s.fr : Int) == 0) = true := (castq s.fr 0).trans (by simp [h5])
  have t6 : ((s.tt : Int) == 0) = false := (castq s.tt 0).trans (by simp [h6])
  go_enter Tryd.func15, Tryd.ntmps15
  go_wp2_with (first | ((with_reducible refine bx_er w.heap.size s ?_ ?_ ?_); exact rfl; exact rfl; intro W hr hb hz; have fx := hr.cell))
  go_ret
  exact ⟨rfl, hb⟩

set_option maxHeartbeats 1000000 in
theorem rcheck_17 (s : E) (h0 : s.cd ≤ 3) (h1 : s.hv = false) (h2 : s.ak = true) (h3 : 2 ≤ s.cd) (h4 : s.st ≤ 64) (h5 : s.fr ≠ 0) (w : World) :
    Calls Tryd.prog 15 #[.agg s.cells] w fun e w' => e = .returned (.int .i64 ((chkE (mayE s) : Nat) : Int)) ∧ Below w.heap.size w w' := by
  have HV : chkE (mayE s) = 1 := by
    have : mayE s = false := by
      cases hx : mayE s with
      | false => rfl
      | true =>
        obtain ⟨m1, m2, m3, m4, m5⟩ := (mayE_iff s).1 hx
        exfalso
        have := m5 h1; omega
    rw [this]; rfl
  rw [HV]; clear HV
  have t0 : decide ((3 : Int) < (s.cd : Int)) = false := by simp; omega
  have t0n : decide (3 < s.cd) = false := by simp; omega
  have t3 : decide ((s.cd : Int) < 2) = false := by simp; omega
  have t3n : decide (s.cd < 2) = false := by simp; omega
  have t4 : decide ((64 : Int) < (s.st : Int)) = false := by simp; omega
  have t4n : decide (64 < s.st) = false := by simp; omega
  have t5 : ((s.fr : Int) == 0) = false := (castq s.fr 0).trans (by simp [h5])
  go_enter Tryd.func15, Tryd.ntmps15
  go_wp2_with (first | ((with_reducible refine bx_er w.heap.size s ?_ ?_ ?_); exact rfl; exact rfl; intro W hr hb hz; have fx := hr.cell))
  go_ret
  exact ⟨rfl, hb⟩

set_option maxHeartbeats 1000000 in
theorem rcheck_18 (s : E) (h0 : s.cd ≤ 3) (h1 : s.hv = false) (h2 : s.ak = false) (h3 : 64 < s.st) (w : World) :
    Calls Tryd.prog 15 #[.agg s.cells] w fun e w' => e = .returned (.int .i64 ((chkE (mayE s) : Nat) : Int)) ∧ Below w.heap.size w w' := by
  have HV : chkE (mayE s) = 1 := by
    have : mayE s = false := by
      cases hx : mayE s with
      | false => rfl
      | true =>
        obtain ⟨m1, m2, m3, m4, m5⟩ := (mayE_iff s).1 hx
        exfalso
        omega
    rw [this]; rfl
  rw [HV]; clear HV
  have t0 : decide ((3 : Int) < (s.cd : Int)) = false := by simp; omega
  have t0n : decide (3 < s.cd) = false := by simp; omega
  have t3 : (64 : Int) < (s.st : Int) := by omega
  go_enter Tryd.func15, Tryd.ntmps15
  go_wp2_with (first | ((with_reducible refine bx_er w.heap.size s ?_ ?_ ?_); exact rfl; exact rfl; intro W hr hb hz; have fx := hr.cell))
  go_ret
  exact ⟨rfl, hb⟩

set_option maxHeartbeats 1000000 in
theorem rcheck_19 (s : E) (h0 : s.cd ≤ 3) (h1 : s.hv = false) (h2 : s.ak = false) (h3 : s.st ≤ 64) (h4 : s.fr = 0) (h5 : s.tt = 0) (h6 : s.lf = 0) (h7 : s.nx = 0) (w : World) :
    Calls Tryd.prog 15 #[.agg s.cells] w fun e w' => e = .returned (.int .i64 ((chkE (mayE s) : Nat) : Int)) ∧ Below w.heap.size w w' := by
  have HV : chkE (mayE s) = 0 := by
    have : mayE s = true := by
      rw [mayE_iff]
      exact ⟨by omega, by omega, fun h => absurd (h.symm.trans h2) (by decide), fun h => absurd (h.symm.trans h1) (by decide), fun _ => ⟨by omega, by omega, by omega, by omega⟩⟩
    rw [this]; rfl
  rw [HV]; clear HV
  have t0 : decide ((3 : Int) < (s.cd : Int)) = false := by simp; omega
  have t0n : decide (3 < s.cd) = false := by simp; omega
  have t3 : decide ((64 : Int) < (s.st : Int)) = false := by simp; omega
  have t3n : decide (64 < s.st) = false := by simp; omega
  have t4 : ((s.fr : Int) == 0) = true := (castq s.fr 0).trans (by simp [h4])
  have t5 : ((s.tt : Int) == 0) = true := (castq s.tt 0).trans (by simp [h5])
  have t6 : ((s.lf : Int) == 0) = true := (castq s.lf 0).trans (by simp [h6])
  have t7 : ((s.nx : Int) == 0) = true := (castq s.nx 0).trans (by simp [h7])
  go_enter Tryd.func15, Tryd.ntmps15
  go_wp2_with (first | ((with_reducible refine bx_er w.heap.size s ?_ ?_ ?_); exact rfl; exact rfl; intro W hr hb hz; have fx := hr.cell))
  go_ret
  exact ⟨rfl, hb⟩

set_option maxHeartbeats 1000000 in
theorem rcheck_20 (s : E) (h0 : s.cd ≤ 3) (h1 : s.hv = false) (h2 : s.ak = false) (h3 : s.st ≤ 64) (h4 : s.fr = 0) (h5 : s.tt = 0) (h6 : s.lf = 0) (h7 : s.nx ≠ 0) (w : World) :
    Calls Tryd.prog 15 #[.agg s.cells] w fun e w' => e = .returned (.int .i64 ((chkE (mayE s) : Nat) : Int)) ∧ Below w.heap.size w w' := by
  have HV : chkE (mayE s) = 1 := by
    have : mayE s = false := by
      cases hx : mayE s with
      | false => rfl
      | true =>
        obtain ⟨m1, m2, m3, m4, m5⟩ := (mayE_iff s).1 hx
        exfalso
        have := m5 h1; omega
    rw [this]; rfl
  rw [HV]; clear HV
  have t0 : decide ((3 : Int) < (s.cd : Int)) = false := by simp; omega
  have t0n : decide (3 < s.cd) = false := by simp; omega
  have t3 : decide ((64 : Int) < (s.st : Int)) = false := by simp; omega
  have t3n : decide (64 < s.st) = false := by simp; omega
  have t4 : ((s.fr : Int) == 0) = true := (castq s.fr 0).trans (by simp [h4])
  have t5 : ((s.tt : Int) == 0) = true := (castq s.tt 0).trans (by simp [h5])
  have t6 : ((s.lf : Int) == 0) = true := (castq s.lf 0).trans (by simp [h6])
  have t7 : ((s.nx : Int) == 0) = false := (castq s.nx 0).trans (by simp [h7])
  go_enter Tryd.func15, Tryd.ntmps15
  go_wp2_with (first | ((with_reducible refine bx_er w.heap.size s ?_ ?_ ?_); exact rfl; exact rfl; intro W hr hb hz; have fx := hr.cell))
  go_ret
  exact ⟨rfl, hb⟩

set_option maxHeartbeats 1000000 in
theorem rcheck_21 (s : E) (h0 : s.cd ≤ 3) (h1 : s.hv = false) (h2 : s.ak = false) (h3 : s.st ≤ 64) (h4 : s.fr = 0) (h5 : s.tt = 0) (h6 : s.lf ≠ 0) (w : World) :
    Calls Tryd.prog 15 #[.agg s.cells] w fun e w' => e = .returned (.int .i64 ((chkE (mayE s) : Nat) : Int)) ∧ Below w.heap.size w w' := by
  have HV : chkE (mayE s) = 1 := by
    have : mayE s = false := by
      cases hx : mayE s with
      | false => rfl
      | true =>
        obtain ⟨m1, m2, m3, m4, m5⟩ := (mayE_iff s).1 hx
        exfalso
        have := m5 h1; omega
    rw [this]; rfl
  rw [HV]; clear HV
  have t0 : decide ((3 : Int) < (s.cd : Int)) = false := by simp; omega
  have t0n : decide (3 < s.cd) = false := by simp; omega
  have t3 : decide ((64 : Int) < (s.st : Int)) = false := by simp; omega
  have t3n : decide (64 < s.st) = false := by simp; omega
  have t4 : ((s.fr : Int) == 0) = true := (castq s.fr 0).trans (by simp [h4])
  have t5 : ((s.tt : Int) == 0) = true := (castq s.tt 0).trans (by simp [h5])
  have t6 : ((s.lf : Int) == 0) = false := (castq s.lf 0).trans (by simp [h6])
  go_enter Tryd.func15, Tryd.ntmps15
  go_wp2_with (first | ((with_reducible refine bx_er w.heap.size s ?_ ?_ ?_); exact rfl; exact rfl; intro W hr hb hz; have fx := hr.cell))
  go_ret
  exact ⟨rfl, hb⟩

set_option maxHeartbeats 1000000 in
theorem rcheck_22 (s : E) (h0 : s.cd ≤ 3) (h1 : s.hv = false) (h2 : s.ak = false) (h3 : s.st ≤ 64) (h4 : s.fr = 0) (h5 : s.tt ≠ 0) (w : World) :
    Calls Tryd.prog 15 #[.agg s.cells] w fun e w' => e = .returned (.int .i64 ((chkE (mayE s) : Nat) : Int)) ∧ Below w.heap.size w w' := by
  have HV : chkE (mayE s) = 1 := by
    have : mayE s = false := by
      cases hx : mayE s with
      | false => rfl
      | true =>
        obtain ⟨m1, m2, m3, m4, m5⟩ := (mayE_iff s).1 hx
        exfalso
        have := m5 h1; omega
    rw [this]; rfl
  rw [HV]; clear HV
  have t0 : decide ((3 : Int) < (s.cd : Int)) = false := by simp; omega
  have t0n : decide (3 < s.cd) = false := by simp; omega
  have t3 : decide ((64 : Int) < (s.st : Int)) = false := by simp; omega
  have t3n : decide (64 < s.st) = false := by simp; omega
  have t4 : ((s.fr : Int) == 0) = true := (castq s.fr 0).trans (by simp [h4])
  have t5 : ((s.tt : Int) == 0) = false := (castq s.tt 0).trans (by simp [h5])
  go_enter Tryd.func15, Tryd.ntmps15
  go_wp2_with (first | ((with_reducible refine bx_er w.heap.size s ?_ ?_ ?_); exact rfl; exact rfl; intro W hr hb hz; have fx := hr.cell))
  go_ret
  exact ⟨rfl, hb⟩

set_option maxHeartbeats 1000000 in
theorem rcheck_23 (s : E) (h0 : s.cd ≤ 3) (h1 : s.hv = false) (h2 : s.ak = false) (h3 : s.st ≤ 64) (h4 : s.fr ≠ 0) (w : World) :
    Calls Tryd.prog 15 #[.agg s.cells] w fun e w' => e = .returned (.int .i64 ((chkE (mayE s) : Nat) : Int)) ∧ Below w.heap.size w w' := by
  have HV : chkE (mayE s) = 1 := by
    have : mayE s = false := by
      cases hx : mayE s with
      | false => rfl
      | true =>
        obtain ⟨m1, m2, m3, m4, m5⟩ := (mayE_iff s).1 hx
        exfalso
        have := m5 h1; omega
    rw [this]; rfl
  rw [HV]; clear HV
  have t0 : decide ((3 : Int) < (s.cd : Int)) = false := by simp; omega
  have t0n : decide (3 < s.cd) = false := by simp; omega
  have t3 : decide ((64 : Int) < (s.st : Int)) = false := by simp; omega
  have t3n : decide (64 < s.st) = false := by simp; omega
  have t4 : ((s.fr : Int) == 0) = false := (castq s.fr 0).trans (by simp [h4])
  go_enter Tryd.func15, Tryd.ntmps15
  go_wp2_with (first | ((with_reducible refine bx_er w.heap.size s ?_ ?_ ?_); exact rfl; exact rfl; intro W hr hb hz; have fx := hr.cell))
  go_ret
  exact ⟨rfl, hb⟩

theorem rcheck_any (s : E) (w : World) :
    Calls Tryd.prog 15 #[.agg s.cells] w fun e w' => e = .returned (.int .i64 ((chkE (mayE s) : Nat) : Int)) ∧ Below w.heap.size w w' := by
  by_cases h0 : 3 < s.cd
  · skip
    exact rcheck_0 s h0 w
  · replace h0 := Nat.le_of_not_lt h0
    cases h1 : s.hv with
    | true =>
      by_cases h2 : s.cd = 1
      · skip
        cases h3 : s.ak with
        | true =>
          by_cases h4 : s.cd < 2
          · skip
            exact rcheck_1 s h0 h1 h2 h3 h4 w
          · replace h4 := Nat.le_of_not_lt h4
            by_cases h5 : 64 < s.st
            · skip
              exact rcheck_2 s h0 h1 h2 h3 h4 h5 w
            · replace h5 := Nat.le_of_not_lt h5
              by_cases h6 : s.lf = 0
              · skip
                exact rcheck_3 s h0 h1 h2 h3 h4 h5 h6 w
              · skip
                by_cases h7 : 65536 < s.lf
                · skip
                  exact rcheck_4 s h0 h1 h2 h3 h4 h5 h6 h7 w
                · replace h7 := Nat.le_of_not_lt h7
                  exact rcheck_5 s h0 h1 h2 h3 h4 h5 h6 h7 w
        | false =>
          by_cases h4 : 64 < s.st
          · skip
            exact rcheck_6 s h0 h1 h2 h3 h4 w
          · replace h4 := Nat.le_of_not_lt h4
            by_cases h5 : s.lf = 0
            · skip
              exact rcheck_7 s h0 h1 h2 h3 h4 h5 w
            · skip
              by_cases h6 : 65536 < s.lf
              · skip
                exact rcheck_8 s h0 h1 h2 h3 h4 h5 h6 w
              · replace h6 := Nat.le_of_not_lt h6
                exact rcheck_9 s h0 h1 h2 h3 h4 h5 h6 w
      · skip
        exact rcheck_10 s h0 h1 h2 w
    | false =>
      cases h2 : s.ak with
      | true =>
        by_cases h3 : s.cd < 2
        · skip
          exact rcheck_11 s h0 h1 h2 h3 w
        · replace h3 := Nat.le_of_not_lt h3
          by_cases h4 : 64 < s.st
          · skip
            exact rcheck_12 s h0 h1 h2 h3 h4 w
          · replace h4 := Nat.le_of_not_lt h4
            by_cases h5 : s.fr = 0
            · skip
              by_cases h6 : s.tt = 0
              · skip
                by_cases h7 : s.lf = 0
                · skip
                  by_cases h8 : s.nx = 0
                  · skip
                    exact rcheck_13 s h0 h1 h2 h3 h4 h5 h6 h7 h8 w
                  · skip
                    exact rcheck_14 s h0 h1 h2 h3 h4 h5 h6 h7 h8 w
                · skip
                  exact rcheck_15 s h0 h1 h2 h3 h4 h5 h6 h7 w
              · skip
                exact rcheck_16 s h0 h1 h2 h3 h4 h5 h6 w
            · skip
              exact rcheck_17 s h0 h1 h2 h3 h4 h5 w
      | false =>
        by_cases h3 : 64 < s.st
        · skip
          exact rcheck_18 s h0 h1 h2 h3 w
        · replace h3 := Nat.le_of_not_lt h3
          by_cases h4 : s.fr = 0
          · skip
            by_cases h5 : s.tt = 0
            · skip
              by_cases h6 : s.lf = 0
              · skip
                by_cases h7 : s.nx = 0
                · skip
                  exact rcheck_19 s h0 h1 h2 h3 h4 h5 h6 h7 w
                · skip
                  exact rcheck_20 s h0 h1 h2 h3 h4 h5 h6 h7 w
              · skip
                exact rcheck_21 s h0 h1 h2 h3 h4 h5 h6 w
            · skip
              exact rcheck_22 s h0 h1 h2 h3 h4 h5 w
          · skip
            exact rcheck_23 s h0 h1 h2 h3 h4 w
end Go.Proofs.YtalcgipcephnnaaDoor
