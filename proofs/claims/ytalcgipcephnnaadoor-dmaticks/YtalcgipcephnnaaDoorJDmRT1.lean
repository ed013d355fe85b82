/-
  The document's Tick: lemmas.
-/
import Derived.Test.YtalcgipcephnnaaDoorJDmTick
import Derived.Test.YtalcgipcephnnaaDoorJDmBoth
import Derived.Test.YtalcgipcephnnaaDoorJDmOrd
import Derived.Test.YtalcgipcephnnaaDoorJDmMove
import Derived.Test.YtalcgipcephnnaaDoorJMeB2
import Derived.Deep.RegionHeld3
namespace Go.Proofs.YtalcgipcephnnaaDoor
open Go.RowKit
set_option linter.unusedVariables false
set_option linter.unusedSimpArgs false

attribute [local go_sem] E.at0 E.at1 E.at2 E.at3 E.at4 E.at5 E.at6 E.at7 E.at8 E.at9 E.at10
set_option maxHeartbeats 1000000 in
theorem rcheck_0 (s : E) (h0 : 3 < s.cd) (w : World) :
    Calls Tryd.prog 15 #[.agg s.cells] w fun e w' => e = .returned (.int .i64 ((chkE (mayE s) : Nat) : Int)) ∧ Below w.heap.size w w' := by
  have HV : chkE (mayE s) = 1 := by
    have : mayE s = false := by
      cases hx : mayE s with
      | false => rfl
      | true =>
        obtain ⟨m1, m2, m3, m4, m5⟩ := (mayE_iff s).1 hx
        exfalso
        omega
    rw [this]; rfl
  rw [HV]; clear HV
  have t0 : (3 : Int) < (s.cd : Int) := by omega
  go_enter Tryd.func15, Tryd.ntmps15
  go_wp2_with (first | ((with_reducible refine bx_er w.heap.size s ?_ ?_ ?_); exact rfl; exact rfl; intro W hr hb hz; have fx := hr.cell))
  go_ret
  exact ⟨rfl, hb⟩

set_option maxHeartbeats 1000000 in
theorem rcheck_1 (s : E) (h0 : s.cd ≤ 3) (h1 : s.hv = true) (h2 : s.cd = 1) (h3 : s.ak = true) (h4 : s.cd < 2) (w : World) :
    Calls Tryd.prog 15 #[.agg s.cells] w fun e w' => e = .returned (.int .i64 ((chkE (mayE s) : Nat) : Int)) ∧ Below w.heap.size w w' := by
  have HV : chkE (mayE s) = 1 := by
    have : mayE s = false := by
      cases hx : mayE s with
      | false => rfl
      | true =>
        obtain ⟨m1, m2, m3, m4, m5⟩ := (mayE_iff s).1 hx
        exfalso
        have := m3 h3; omega
    rw [this]; rfl
  rw [HV]; clear HV
  have t0 : decide ((3 : Int) < (s.cd : Int)) = false := by simp; omega
  have t0n : decide (3 < s.cd) = false := by simp; omega
  have t2 : ((s.cd : Int) == 1) = true := (castq s.cd 1).trans (by simp [h2])
  have t4 : (s.cd : Int) < 2 := by omega
  go_enter Tryd.func15, Tryd.ntmps15
  go_wp2_with (first | ((with_reducible refine bx_er w.heap.size s ?_ ?_ ?_); exact rfl; exact rfl; intro W hr hb hz; have fx := hr.cell))
  go_ret
  exact ⟨rfl, hb⟩

set_option maxHeartbeats 1000000 in
theorem rcheck_2 (s : E) (h0 : s.cd ≤ 3) (h1 : s.hv = true) (h2 : s.cd = 1) (h3 : s.ak = true) (h4 : 2 ≤ s.cd) (h5 : 64 < s.st) (w : World) :
    Calls Tryd.prog 15 #[.agg s.cells] w fun e w' => e = .returned (.int .i64 ((chkE (mayE s) : Nat) : Int)) ∧ Below w.heap.size w w' := by
  exfalso
  omega

set_option maxHeartbeats 1000000 in
theorem rcheck_3 (s : E) (h0 : s.cd ≤ 3) (h1 : s.hv = true) (h2 : s.cd = 1) (h3 : s.ak = true) (h4 : 2 ≤ s.cd) (h5 : s.st ≤ 64) (h6 : s.lf = 0) (w : World) :
    Calls Tryd.prog 15 #[.agg s.cells] w fun e w' => e = .returned (.int .i64 ((chkE (mayE s) : Nat) : Int)) ∧ Below w.heap.size w w' := by
  exfalso
  omega

set_option maxHeartbeats 1000000 in
theorem rcheck_4 (s : E) (h0 : s.cd ≤ 3) (h1 : s.hv = true) (h2 : s.cd = 1) (h3 : s.ak = true) (h4 : 2 ≤ s.cd) (h5 : s.st ≤ 64) (h6 : s.lf ≠ 0) (h7 : 65536 < s.lf) (w : World) :
    Calls Tryd.prog 15 #[.agg s.cells] w fun e w' => e = .returned (.int .i64 ((chkE (mayE s) : Nat) : Int)) ∧ Below w.heap.size w w' := by
  exfalso
  omega

set_option maxHeartbeats 1000000 in
theorem rcheck_5 (s : E) (h0 : s.cd ≤ 3) (h1 : s.hv = true) (h2 : s.cd = 1) (h3 : s.ak = true) (h4 : 2 ≤ s.cd) (h5 : s.st ≤ 64) (h6 : s.lf ≠ 0) (h7 : s.lf ≤ 65536) (w : World) :
    Calls Tryd.prog 15 #[.agg s.cells] w fun e w' => e = .returned (.int .i64 ((chkE (mayE s) : Nat) : Int)) ∧ Below w.heap.size w w' := by
  exfalso
  omega

set_option maxHeartbeats 1000000 in
theorem rcheck_6 (s : E) (h0 : s.cd ≤ 3) (h1 : s.hv = true) (h2 : s.cd = 1) (h3 : s.ak = false) (h4 : 64 < s.st) (w : World) :
    Calls Tryd.prog 15 #[.agg s.cells] w fun e w' => e = .returned (.int .i64 ((chkE (mayE s) : Nat) : Int)) ∧ Below w.heap.size w w' := by
  have HV : chkE (mayE s) = 1 := by
    have : mayE s = false := by
      cases hx : mayE s with
      | false => rfl
      | true =>
        obtain ⟨m1, m2, m3, m4, m5⟩ := (mayE_iff s).1 hx
        exfalso
        omega
    rw [this]; rfl
  rw [HV]; clear HV
  have t0 : decide ((3 : Int) < (s.cd : Int)) = false := by simp; omega
  have t0n : decide (3 < s.cd) = false := by simp; omega
  have t2 : ((s.cd : Int) == 1) = true := (castq s.cd 1).trans (by simp [h2])
  have t4 : (64 : Int) < (s.st : Int) := by omega
  go_enter Tryd.func15, Tryd.ntmps15
  go_wp2_with (first | ((with_reducible refine bx_er w.heap.size s ?_ ?_ ?_); exact rfl; exact rfl; intro W hr hb hz; have fx := hr.cell))
  go_ret
  exact ⟨rfl, hb⟩

set_option maxHeartbeats 1000000 in
theorem rcheck_7 (s : E) (h0 : s.cd ≤ 3) (h1 : s.hv = true) (h2 : s.cd = 1) (h3 : s.ak = false) (h4 : s.st ≤ 64) (h5 : s.lf = 0) (w : World) :
    Calls Tryd.prog 15 #[.agg s.cells] w fun e w' => e = .returned (.int .i64 ((chkE (mayE s) : Nat) : Int)) ∧ Below w.heap.size w w' := by
  have HV : chkE (mayE s) = 1 := by
    have : mayE s = false := by
      cases hx : mayE s with
      | false => rfl
      | true =>
        obtain ⟨m1, m2, m3, m4, m5⟩ := (mayE_iff s).1 hx
        exfalso
        have := m4 h1; omega
    rw [this]; rfl
  rw [HV]; clear HV
  have t0 : decide ((3 : Int) < (s.cd : Int)) = false := by simp; omega
  have t0n : decide (3 < s.cd) = false := by simp; omega
  have t2 : ((s.cd : Int) == 1) = true := (castq s.cd 1).trans (by simp [h2])
  have t4 : decide ((64 : Int) < (s.st : Int)) = false := by simp; omega
  have t4n : decide (64 < s.st) = false := by simp; omega
  have t5 : ((s.lf : Int) == 0) = true := (castq s.lf 0).trans (by simp [h5])
  go_enter Tryd.func15, Tryd.ntmps15
  go_wp2_with (first | ((with_reducible refine bx_er w.heap.size s ?_ ?_ ?_); exact rfl; exact rfl; intro W hr hb hz; have fx := hr.cell))
  go_ret
  exact ⟨rfl, hb⟩

set_option maxHeartbeats 1000000 in
theorem rcheck_8 (s : E) (h0 : s.cd ≤ 3) (h1 : s.hv = true) (h2 : s.cd = 1) (h3 : s.ak = false) (h4 : s.st ≤ 64) (h5 : s.lf ≠ 0) (h6 : 65536 < s.lf) (w : World) :
    Calls Tryd.prog 15 #[.agg s.cells] w fun e w' => e = .returned (.int .i64 ((chkE (mayE s) : Nat) : Int)) ∧ Below w.heap.size w w' := by
  have HV : chkE (mayE s) = 1 := by
    have : mayE s = false := by
      cases hx : mayE s with
      | false => rfl
      | true =>
        obtain ⟨m1, m2, m3, m4, m5⟩ := (mayE_iff s).1 hx
        exfalso
        have := m4 h1; omega
    rw [this]; rfl
  rw [HV]; clear HV
  have t0 : decide ((3 : Int) < (s.cd : Int)) = false := by simp; omega
  have t0n : decide (3 < s.cd) = false := by simp; omega
  have t2 : ((s.cd : Int) == 1) = true := (castq s.cd 1).trans (by simp [h2])
  have t4 : decide ((64 : Int) < (s.st : Int)) = false := by simp; omega
  have t4n : decide (64 < s.st) = false := by simp; omega
  have t5 : ((s.lf : Int) == 0) = false := (castq s.lf 0).trans (by simp [h5])
  have t6 : (65536 : Int) < (s.lf : Int) := by omega
  go_enter Tryd.func15, Tryd.ntmps15
  go_wp2_with (first | ((with_reducible refine bx_er w.heap.size s ?_ ?_ ?_); exact rfl; exact rfl; intro W hr hb hz; have fx := hr.cell))
  go_ret
  exact ⟨rfl, hb⟩

set_option maxHeartbeats 1000000 in
theorem rcheck_9 (s : E) (h0 : s.cd ≤ 3) (h1 : s.hv = true) (h2 : s.cd = 1) (h3 : s.ak = false) (h4 : s.st ≤ 64) (h5 : s.lf ≠ 0) (h6 : s.lf ≤ 65536) (w : World) :
    Calls Tryd.prog 15 #[.agg s.cells] w fun e w' => e = .returned (.int .i64 ((chkE (mayE s) : Nat) : Int)) ∧ Below w.heap.size w w' := by
  have HV : chkE (mayE s) = 0 := by
    have : mayE s = true := by
      rw [mayE_iff]
      exact ⟨by omega, by omega, fun h => absurd (h.symm.trans h3) (by decide), fun _ => ⟨by omega, by omega, by omega⟩, fun h => absurd (h.symm.trans h1) (by decide)⟩
    rw [this]; rfl
  rw [HV]; clear HV
  have t0 : decide ((3 : Int) < (s.cd : Int)) = false := by simp; omega
  have t0n : decide (3 < s.cd) = false := by simp; omega
  have t2 : ((s.cd : Int) == 1) = true := (castq s.cd 1).trans (by simp [h2])
  have t4 : decide ((64 : Int) < (s.st : Int)) = false := by simp; omega
  have t4n : decide (64 < s.st) = false := by simp; omega
  have t5 : ((s.lf : Int) == 0) = false := (castq s.lf 0).trans (by simp [h5])
  have t6 : decide ((65536 : Int) < (s.lf : Int)) = false := by simp; omega
  have t6n : decide (65536 < s.lf) = false := by simp; omega
  go_enter Tryd.func15, Tryd.ntmps15
  go_wp2_with (first | ((with_reducible refine bx_er w.heap.size s ?_ ?_ ?_); exact rfl; exact rfl; intro W hr hb hz; have fx := hr.cell))
  go_ret
  exact ⟨rfl, hb⟩

set_option maxHeartbeats 1000000 in
theorem rcheck_10 (s : E) (h0 : s.cd ≤ 3) (h1 : s.hv = true) (h2 : s.cd ≠ 1) (w : World) :
    Calls Tryd.prog 15 #[.agg s.cells] w fun e w' => e = .returned (.int .i64 ((chkE (mayE s) : Nat) : Int)) ∧ Below w.heap.size w w' := by
  have HV : chkE (mayE s) = 1 := by
    have : mayE s = false := by
      cases hx : mayE s with
      | false => rfl
      | true =>
        obtain ⟨m1, m2, m3, m4, m5⟩ := (mayE_iff s).1 hx
        exfalso
        have := m4 h1; omega
    rw [this]; rfl
  rw [HV]; clear HV
  have t0 : decide ((3 : Int) < (s.cd : Int)) = false := by simp; omega
  have t0n : decide (3 < s.cd) = false := by simp; omega
  have t2 : ((s.cd : Int) == 1) = false := (castq s.cd 1).trans (by simp [h2])
  go_enter Tryd.func15, Tryd.ntmps15
  go_wp2_with (first | ((with_reducible refine bx_er w.heap.size s ?_ ?_ ?_); exact rfl; exact rfl; intro W hr hb hz; have fx := hr.cell))
  go_ret
  exact ⟨rfl, hb⟩

set_option maxHeartbeats 1000000 in
theorem rcheck_11 (s : E) (h0 : s.cd ≤ 3) (h1 : s.hv = false) (h2 : s.ak = true) (h3 : s.cd < 2) (w : World) :
    Calls Tryd.prog 15 #[.agg s.cells] w fun e w' => e = .returned (.int .i64 ((chkE (mayE s) : Nat) : Int)) ∧ Below w.heap.size w w' := by
  have HV : chkE (mayE s) = 1 := by
    have : mayE s = false := by
      cases hx : mayE s with
      | false => rfl
      | true =>
        obtain ⟨m1, m2, m3, m4, m5⟩ := (mayE_iff s).1 hx
        exfalso
        have := m3 h2; omega
    rw [this]; rfl
  rw [HV]; clear HV
  have t0 : decide ((3 : Int) < (s.cd : Int)) = false := by simp; omega
  have t0n : decide (3 < s.cd) = false := by simp; omega
  have t3 : (s.cd : Int) < 2 := by omega
  go_enter Tryd.func15, Tryd.ntmps15
  go_wp2_with (first | ((with_reducible refine bx_er w.heap.size s ?_ ?_ ?_); exact rfl; exact rfl; intro W hr hb hz; have fx := hr.cell))
  go_ret
  exact ⟨rfl, hb⟩

set_option maxHeartbeats 1000000 in
theorem rcheck_12 (s : E) (h0 : s.cd ≤ 3) (h1 : s.hv = false) (h2 : s.ak = true) (h3 : 2 ≤ s.cd) (h4 : 64 < s.st) (w : World) :
    Calls Tryd.prog 15 #[.agg s.cells] w fun e w' => e = .returned (.int .i64 ((chkE (mayE s) : Nat) : Int)) ∧ Below w.heap.size w w' := by
  have HV : chkE (mayE s) = 1 := by
    have : mayE s = false := by
      cases hx : mayE s with
      | false => rfl
      | true =>
        obtain ⟨m1, m2, m3, m4, m5⟩ := (mayE_iff s).1 hx
        exfalso
        omega
    rw [this]; rfl
  rw [HV]; clear HV
  have t0 : decide ((3 : Int) < (s.cd : Int)) = false := by simp; omega
  have t0n : decide (3 < s.cd) = false := by simp; omega
  have t3 : decide ((s.cd : Int) < 2) = false := by simp; omega
  have t3n : decide (s.cd < 2) = false := by simp; omega
  have t4 : (64 : Int) < (s.st : Int) := by omega
  go_enter Tryd.func15, Tryd.ntmps15
  go_wp2_with (first | ((with_reducible refine bx_er w.heap.size s ?_ ?_ ?_); exact rfl; exact rfl; intro W hr hb hz; have fx := hr.cell))
  go_ret
  exact ⟨rfl, hb⟩

set_option maxHeartbeats 1000000 in
theorem rcheck_13 (s : E) (h0 : s.cd ≤ 3) (h1 : s.hv = false) (h2 : s.ak = true) (h3 : 2 ≤ s.cd) (h4 : s.st ≤ 64) (h5 : s.fr = 0) (h6 : s.tt = 0) (h7 : s.lf = 0) (h8 : s.nx = 0) (w : World) :
    Calls Tryd.prog 15 #[.agg s.cells] w fun e w' => e = .returned (.int .i64 ((chkE (mayE s) : Nat) : Int)) ∧ Below w.heap.size w w' := by
  have HV : chkE (mayE s) = 0 := by
    have : mayE s = true := by
      rw [mayE_iff]
      exact ⟨by omega, by omega, fun _ => by omega, fun h => absurd (h.symm.trans h1) (by decide), fun _ => ⟨by omega, by omega, by omega, by omega⟩⟩
    rw [this]; rfl
  rw [HV]; clear HV
  have t0 : decide ((3 : Int) < (s.cd : Int)) = false := by simp; omega
  have t0n : decide (3 < s.cd) = false := by simp; omega
  have t3 : decide ((s.cd : Int) < 2) = false := by simp; omega
  have t3n : decide (s.cd < 2) = false := by simp; omega
  have t4 : decide ((64 : Int) < (s.st : Int)) = false := by simp; omega
  have t4n : decide (64 < s.st) = false := by simp; omega
  have t5 : ((s.fr : Int) == 0) = true := (castq s.fr 0).trans (by simp [h5])
  have t6 : ((s.tt : Int) == 0) = true := (castq s.tt 0).trans (by simp [h6])
  have t7 : ((s.lf : Int) == 0) = true := (castq s.lf 0).trans (by simp [h7])
  have t8 : ((s.nx : Int) == 0) = true := (castq s.nx 0).trans (by simp [h8])
  go_enter Tryd.func15, Tryd.ntmps15
  go_wp2_with (first | ((with_reducible refine bx_er w.heap.size s ?_ ?_ ?_); exact rfl; exact rfl; intro W hr hb hz; have fx := hr.cell))
  go_ret
  exact ⟨rfl, hb⟩

set_option maxHeartbeats 1000000 in
theorem rcheck_14 (s : E) (h0 : s.cd ≤ 3) (h1 : s.hv = false) (h2 : s.ak = true) (h3 : 2 ≤ s.cd) (h4 : s.st ≤ 64) (h5 : s.fr = 0) (h6 : s.tt = 0) (h7 : s.lf = 0) (h8 : s.nx ≠ 0) (w : World) :
    Calls Tryd.prog 15 #[.agg s.cells] w fun e w' => e = .returned (.int .i64 ((chkE (mayE s) : Nat) : Int)) ∧ Below w.heap.size w w' := by
  have HV : chkE (mayE s) = 1 := by
    have : mayE s = false := by
      cases hx : mayE s with
      | false => rfl
      | true =>
        obtain ⟨m1, m2, m3, m4, m5⟩ := (mayE_iff s).1 hx
        exfalso
        have := m5 h1; omega
    rw [this]; rfl
  rw [HV]; clear HV
  have t0 : decide ((3 : Int) < (s.cd : Int)) = false := by simp; omega
  have t0n : decide (3 < s.cd) = false := by simp; omega
  have t3 : decide ((s.cd : Int) < 2) = false := by simp; omega
  have t3n : decide (s.cd < 2) = false := by simp; omega
  have t4 : decide ((64 : Int) < (s.st : Int)) = false := by simp; omega
  have t4n : decide (64 < s.st) = false := by simp; omega
  have t5 : ((s.fr : Int) == 0) = true := (castq s.fr 0).trans (by simp [h5])
  have t6 : ((s.tt : Int) == 0) = true := (castq s.tt 0).trans (by simp [h6])
  have t7 : ((s.lf : Int) == 0) = true := (castq s.lf 0).trans (by simp [h7])
  have t8 : ((s.nx : Int) == 0) = false := (castq s.nx 0).trans (by simp [h8])
  go_enter Tryd.func15, Tryd.ntmps15
  go_wp2_with (first | ((with_reducible refine bx_er w.heap.size s ?_ ?_ ?_); exact rfl; exact rfl; intro W hr hb hz; have fx := hr.cell))
  go_ret
  exact ⟨rfl, hb⟩

set_option maxHeartbeats 1000000 in
theorem rcheck_15 (s : E) (h0 : s.cd ≤ 3) (h1 : s.hv = false) (h2 : s.ak = true) (h3 : 2 ≤ s.cd) (h4 : s.st ≤ 64) (h5 : s.fr = 0) (h6 : s.tt = 0) (h7 : s.lf ≠ 0) (w : World) :
    Calls Tryd.prog 15 #[.agg s.cells] w fun e w' => e = .returned (.int .i64 ((chkE (mayE s) : Nat) : Int)) ∧ Below w.heap.size w w' := by
  have HV : chkE (mayE s) = 1 := by
    have : mayE s = false := by
      cases hx : mayE s with
      | false => rfl
      | true =>
        obtain ⟨m1, m2, m3, m4, m5⟩ := (mayE_iff s).1 hx
        exfalso
        have := m5 h1; omega
    rw [this]; rfl
  rw [HV]; clear HV
  have t0 : decide ((3 : Int) < (s.cd : Int)) = false := by simp; omega
  have t0n : decide (3 < s.cd) = false := by simp; omega
  have t3 : decide ((s.cd : Int) < 2) = false := by simp; omega
  have t3n : decide (s.cd < 2) = false := by simp; omega
  have t4 : decide ((64 : Int) < (s.st : Int)) = false := by simp; omega
  have t4n : decide (64 < s.st) = false := by simp; omega
  have t5 : ((s.fr : Int) == 0) = true := (castq s.fr 0).trans (by simp [h5])
  have t6 : ((s.tt : Int) == 0) = true := (castq s.tt 0).trans (by simp [h6])
  have t7 : ((s.lf : Int) == 0) = false := (castq s.lf 0).trans (by simp [h7])
  go_enter Tryd.func15, Tryd.ntmps15
  go_wp2_with (first | ((with_reducible refine bx_er w.heap.size s ?_ ?_ ?_); exact rfl; exact rfl; intro W hr hb hz; have fx := hr.cell))
  go_ret
  exact ⟨rfl, hb⟩

set_option maxHeartbeats 1000000 in
theorem rcheck_16 (s : E) (h0 : s.cd ≤ 3) (h1 : s.hv = false) (h2 : s.ak = true) (h3 : 2 ≤ s.cd) (h4 : s.st ≤ 64) (h5 : s.fr = 0) (h6 : s.tt ≠ 0) (w : World) :
    Calls Tryd.prog 15 #[.agg s.cells] w fun e w' => e = .returned (.int .i64 ((chkE (mayE s) : Nat) : Int)) ∧ Below w.heap.size w w' := by
  have HV : chkE (mayE s) = 1 := by
    have : mayE s = false := by
      cases hx : mayE s with
      | false => rfl
      | true =>
        obtain ⟨m1, m2, m3, m4, m5⟩ := (mayE_iff s).1 hx
        exfalso
        have := m5 h1; omega
    rw [this]; rfl
  rw [HV]; clear HV
  have t0 : decide ((3 : Int) < (s.cd : Int)) = false := by simp; omega
  have t0n : decide (3 < s.cd) = false := by simp; omega
  have t3 : decide ((s.cd : Int) < 2) = false := by simp; omega
  have t3n : decide (s.cd < 2) = false := by simp; omega
  have t4 : decide ((64 : Int) < (s.st : Int)) = false := by simp; omega
  have t4n : decide (64 < s.st) = false := by simp; omega
  have t5 : ((s.fr : Int) == 0) = true := (castq s.fr 0).trans (by simp [h5])
  have t6 : ((s.tt : Int) == 0) = false := (castq s.tt 0).trans (by simp [h6])
  go_enter Tryd.func15, Tryd.ntmps15
  go_wp2_with (first | ((with_reducible refine bx_er w.heap.size s ?_ ?_ ?_); exact rfl; exact rfl; intro W hr hb hz; have fx := hr.cell))
  go_ret
  exact ⟨rfl, hb⟩

set_option maxHeartbeats 1000000 in
theorem rcheck_17 (s : E) (h0 : s.cd ≤ 3) (h1 : s.hv = false) (h2 : s.ak = true) (h3 : 2 ≤ s.cd) (h4 : s.st ≤ 64) (h5 : s.fr ≠ 0) (w : World) :
    Calls Tryd.prog 15 #[.agg s.cells] w fun e w' => e = .returned (.int .i64 ((chkE (mayE s) : Nat) : Int)) ∧ Below w.heap.size w w' := by
  have HV : chkE (mayE s) = 1 := by
    have : mayE s = false := by
      cases hx : mayE s with
      | false => rfl
      | true =>
        obtain ⟨m1, m2, m3, m4, m5⟩ := (mayE_iff s).1 hx
        exfalso
        have := m5 h1; omega
    rw [this]; rfl
  rw [HV]; clear HV
  have t0 : decide ((3 : Int) < (s.cd : Int)) = false := by simp; omega
  have t0n : decide (3 < s.cd) = false := by simp; omega
  have t3 : decide ((s.cd : Int) < 2) = false := by simp; omega
  have t3n : decide (s.cd < 2) = false := by simp; omega
  have t4 : decide ((64 : Int) < (s.st : Int)) = false := by simp; omega
  have t4n : decide (64 < s.st) = false := by simp; omega
  have t5 : ((s.fr : Int) == 0) = false := (castq s.fr 0).trans (by simp [h5])
  go_enter Tryd.func15, Tryd.ntmps15
  go_wp2_with (first | ((with_reducible refine bx_er w.heap.size s ?_ ?_ ?_); exact rfl; exact rfl; intro W hr hb hz; have fx := hr.cell))
  go_ret
  exact ⟨rfl, hb⟩

set_option maxHeartbeats 1000000 in
theorem rcheck_18 (s : E) (h0 : s.cd ≤ 3) (h1 : s.hv = false) (h2 : s.ak = false) (h3 : 64 < s.st) (w : World) :
    Calls Tryd.prog 15 #[.agg s.cells] w fun e w' => e = .returned (.int .i64 ((chkE (mayE s) : Nat) : Int)) ∧ Below w.heap.size w w' := by
  have HV : chkE (mayE s) = 1 := by
    have : mayE s = false := by
      cases hx : mayE s with
      | false => rfl
      | true =>
        obtain ⟨m1, m2, m3, m4, m5⟩ := (mayE_iff s).1 hx
        exfalso
        omega
    rw [this]; rfl
  rw [HV]; clear HV
  have t0 : decide ((3 : Int) < (s.cd : Int)) = false := by simp; omega
  have t0n : decide (3 < s.cd) = false := by simp; omega
  have t3 : (64 : Int) < (s.st : Int) := by omega
  go_enter Tryd.func15, Tryd.ntmps15
  go_wp2_with (first | ((with_reducible refine bx_er w.heap.size s ?_ ?_ ?_); exact rfl; exact rfl; intro W hr hb hz; have fx := hr.cell))
  go_ret
  exact ⟨rfl, hb⟩

set_option maxHeartbeats 1000000 in
theorem rcheck_19 (s : E) (h0 : s.cd ≤ 3) (h1 : s.hv = false) (h2 : s.ak = false) (h3 : s.st ≤ 64) (h4 : s.fr = 0) (h5 : s.tt = 0) (h6 : s.lf = 0) (h7 : s.nx = 0) (w : World) :
    Calls Tryd.prog 15 #[.agg s.cells] w fun e w' => e = .returned (.int .i64 ((chkE (mayE s) : Nat) : Int)) ∧ Below w.heap.size w w' := by
  have HV : chkE (mayE s) = 0 := by
    have : mayE s = true := by
      rw [mayE_iff]
      exact ⟨by omega, by omega, fun h => absurd (h.symm.trans h2) (by decide), fun h => absurd (h.symm.trans h1) (by decide), fun _ => ⟨by omega, by omega, by omega, by omega⟩⟩
    rw [this]; rfl
  rw [HV]; clear HV
  have t0 : decide ((3 : Int) < (s.cd : Int)) = false := by simp; omega
  have t0n : decide (3 < s.cd) = false := by simp; omega
  have t3 : decide ((64 : Int) < (s.st : Int)) = false := by simp; omega
  have t3n : decide (64 < s.st) = false := by simp; omega
  have t4 : ((s.fr : Int) == 0) = true := (castq s.fr 0).trans (by simp [h4])
  have t5 : ((s.tt : Int) == 0) = true := (castq s.tt 0).trans (by simp [h5])
  have t6 : ((s.lf : Int) == 0) = true := (castq s.lf 0).trans (by simp [h6])
  have t7 : ((s.nx : Int) == 0) = true := (castq s.nx 0).trans (by simp [h7])
  go_enter Tryd.func15, Tryd.ntmps15
  go_wp2_with (first | ((with_reducible refine bx_er w.heap.size s ?_ ?_ ?_); exact rfl; exact rfl; intro W hr hb hz; have fx := hr.cell))
  go_ret
  exact ⟨rfl, hb⟩

set_option maxHeartbeats 1000000 in
theorem rcheck_20 (s : E) (h0 : s.cd ≤ 3) (h1 : s.hv = false) (h2 : s.ak = false) (h3 : s.st ≤ 64) (h4 : s.fr = 0) (h5 : s.tt = 0) (h6 : s.lf = 0) (h7 : s.nx ≠ 0) (w : World) :
    Calls Tryd.prog 15 #[.agg s.cells] w fun e w' => e = .returned (.int .i64 ((chkE (mayE s) : Nat) : Int)) ∧ Below w.heap.size w w' := by
  have HV : chkE (mayE s) = 1 := by
    have : mayE s = false := by
      cases hx : mayE s with
      | false => rfl
      | true =>
        obtain ⟨m1, m2, m3, m4, m5⟩ := (mayE_iff s).1 hx
        exfalso
        have := m5 h1; omega
    rw [this]; rfl
  rw [HV]; clear HV
  have t0 : decide ((3 : Int) < (s.cd : Int)) = false := by simp; omega
  have t0n : decide (3 < s.cd) = false := by simp; omega
  have t3 : decide ((64 : Int) < (s.st : Int)) = false := by simp; omega
  have t3n : decide (64 < s.st) = false := by simp; omega
  have t4 : ((s.fr : Int) == 0) = true := (castq s.fr 0).trans (by simp [h4])
  have t5 : ((s.tt : Int) == 0) = true := (castq s.tt 0).trans (by simp [h5])
  have t6 : ((s.lf : Int) == 0) = true := (castq s.lf 0).trans (by simp [h6])
  have t7 : ((s.nx : Int) == 0) = false := (castq s.nx 0).trans (by simp [h7])
  go_enter Tryd.func15, Tryd.ntmps15
  go_wp2_with (first | ((with_reducible refine bx_er w.heap.size s ?_ ?_ ?_); exact rfl; exact rfl; intro W hr hb hz; have fx := hr.cell))
  go_ret
  exact ⟨rfl, hb⟩

set_option maxHeartbeats 1000000 in
theorem rcheck_21 (s : E) (h0 : s.cd ≤ 3) (h1 : s.hv = false) (h2 : s.ak = false) (h3 : s.st ≤ 64) (h4 : s.fr = 0) (h5 : s.tt = 0) (h6 : s.lf ≠ 0) (w : World) :
    Calls Tryd.prog 15 #[.agg s.cells] w fun e w' => e = .returned (.int .i64 ((chkE (mayE s) : Nat) : Int)) ∧ Below w.heap.size w w' := by
  have HV : chkE (mayE s) = 1 := by
    have : mayE s = false := by
      cases hx : mayE s with
      | false => rfl
      | true =>
        obtain ⟨m1, m2, m3, m4, m5⟩ := (mayE_iff s).1 hx
        exfalso
        have := m5 h1; omega
    rw [this]; rfl
  rw [HV]; clear HV
  have t0 : decide ((3 : Int) < (s.cd : Int)) = false := by simp; omega
  have t0n : decide (3 < s.cd) = false := by simp; omega
  have t3 : decide ((64 : Int) < (s.st : Int)) = false := by simp; omega
  have t3n : decide (64 < s.st) = false := by simp; omega
  have t4 : ((s.fr : Int) == 0) = true := (castq s.fr 0).trans (by simp [h4])
  have t5 : ((s.tt : Int) == 0) = true := (castq s.tt 0).trans (by simp [h5])
  have t6 : ((s.lf : Int) == 0) = false := (castq s.lf 0).trans (by simp [h6])
  go_enter Tryd.func15, Tryd.ntmps15
  go_wp2_with (first | ((with_reducible refine bx_er w.heap.size s ?_ ?_ ?_); exact rfl; exact rfl; intro W hr hb hz; have fx := hr.cell))
  go_ret
  exact ⟨rfl, hb⟩

set_option maxHeartbeats 1000000 in
theorem rcheck_22 (s : E) (h0 : s.cd ≤ 3) (h1 : s.hv = false) (h2 : s.ak = false) (h3 : s.st ≤ 64) (h4 : s.fr = 0) (h5 : s.tt ≠ 0) (w : World) :
    Calls Tryd.prog 15 #[.agg s.cells] w fun e w' => e = .returned (.int .i64 ((chkE (mayE s) : Nat) : Int)) ∧ Below w.heap.size w w' := by
  have HV : chkE (mayE s) = 1 := by
    have : mayE s = false := by
      cases hx : mayE s with
      | false => rfl
      | true =>
        obtain ⟨m1, m2, m3, m4, m5⟩ := (mayE_iff s).1 hx
        exfalso
        have := m5 h1; omega
    rw [this]; rfl
  rw [HV]; clear HV
  have t0 : decide ((3 : Int) < (s.cd : Int)) = false := by simp; omega
  have t0n : decide (3 < s.cd) = false := by simp; omega
  have t3 : decide ((64 : Int) < (s.st : Int)) = false := by simp; omega
  have t3n : decide (64 < s.st) = false := by simp; omega
  have t4 : ((s.fr : Int) == 0) = true := (castq s.fr 0).trans (by simp [h4])
  have t5 : ((s.tt : Int) == 0) = false := (castq s.tt 0).trans (by simp [h5])
  go_enter Tryd.func15, Tryd.ntmps15
  go_wp2_with (first | ((with_reducible refine bx_er w.heap.size s ?_ ?_ ?_); exact rfl; exact rfl; intro W hr hb hz; have fx := hr.cell))
  go_ret
  exact ⟨rfl, hb⟩

set_option maxHeartbeats 1000000 in
theorem rcheck_23 (s : E) (h0 : s.cd ≤ 3) (h1 : s.hv = false) (h2 : s.ak = false) (h3 : s.st ≤ 64) (h4 : s.fr ≠ 0) (w : World) :
    Calls Tryd.prog 15 #[.agg s.cells] w fun e w' => e = .returned (.int .i64 ((chkE (mayE s) : Nat) : Int)) ∧ Below w.heap.size w w' := by
  have HV : chkE (mayE s) = 1 := by
    have : mayE s = false := by
      cases hx : mayE s with
      | false => rfl
      | true =>
        obtain ⟨m1, m2, m3, m4, m5⟩ := (mayE_iff s).1 hx
        exfalso
        have := m5 h1; omega
    rw [this]; rfl
  rw [HV]; clear HV
  have t0 : decide ((3 : Int) < (s.cd : Int)) = false := by simp; omega
  have t0n : decide (3 < s.cd) = false := by simp; omega
  have t3 : decide ((64 : Int) < (s.st : Int)) = false := by simp; omega
  have t3n : decide (64 < s.st) = false := by simp; omega
  have t4 : ((s.fr : Int) == 0) = false := (castq s.fr 0).trans (by simp [h4])
  go_enter Tryd.func15, Tryd.ntmps15
  go_wp2_with (first | ((with_reducible refine bx_er w.heap.size s ?_ ?_ ?_); exact rfl; exact rfl; intro W hr hb hz; have fx := hr.cell))
  go_ret
  exact ⟨rfl, hb⟩

theorem rcheck_any (s : E) (w : World) :
    Calls Tryd.prog 15 #[.agg s.cells] w fun e w' => e = .returned (.int .i64 ((chkE (mayE s) : Nat) : Int)) ∧ Below w.heap.size w w' := by
  by_cases h0 : 3 < s.cd
  · skip
    exact rcheck_0 s h0 w
  · replace h0 := Nat.le_of_not_lt h0
    cases h1 : s.hv with
    | true =>
      by_cases h2 : s.cd = 1
      · skip
        cases h3 : s.ak with
        | true =>
          by_cases h4 : s.cd < 2
          · skip
            exact rcheck_1 s h0 h1 h2 h3 h4 w
          · replace h4 := Nat.le_of_not_lt h4
            by_cases h5 : 64 < s.st
            · skip
              exact rcheck_2 s h0 h1 h2 h3 h4 h5 w
            · replace h5 := Nat.le_of_not_lt h5
              by_cases h6 : s.lf = 0
              · skip
                exact rcheck_3 s h0 h1 h2 h3 h4 h5 h6 w
              · skip
                by_cases h7 : 65536 < s.lf
                · skip
                  exact rcheck_4 s h0 h1 h2 h3 h4 h5 h6 h7 w
                · replace h7 := Nat.le_of_not_lt h7
                  exact rcheck_5 s h0 h1 h2 h3 h4 h5 h6 h7 w
        | false =>
          by_cases h4 : 64 < s.st
          · skip
            exact rcheck_6 s h0 h1 h2 h3 h4 w
          · replace h4 := Nat.le_of_not_lt h4
            by_cases h5 : s.lf = 0
            · skip
              exact rcheck_7 s h0 h1 h2 h3 h4 h5 w
            · skip
              by_cases h6 : 65536 < s.lf
              · skip
                exact rcheck_8 s h0 h1 h2 h3 h4 h5 h6 w
              · replace h6 := Nat.le_of_not_lt h6
                exact rcheck_9 s h0 h1 h2 h3 h4 h5 h6 w
      · skip
        exact rcheck_10 s h0 h1 h2 w
    | false =>
      cases h2 : s.ak with
      | true =>
        by_cases h3 : s.cd < 2
        · skip
          exact rcheck_11 s h0 h1 h2 h3 w
        · replace h3 := Nat.le_of_not_lt h3
          by_cases h4 : 64 < s.st
          · skip
            exact rcheck_12 s h0 h1 h2 h3 h4 w
          · replace h4 := Nat.le_of_not_lt h4
            by_cases h5 : s.fr = 0
            · skip
              by_cases h6 : s.tt = 0
              · skip
                by_cases h7 : s.lf = 0
                · skip
                  by_cases h8 : s.nx = 0
                  · skip
                    exact rcheck_13 s h0 h1 h2 h3 h4 h5 h6 h7 h8 w
                  · skip
                    exact rcheck_14 s h0 h1 h2 h3 h4 h5 h6 h7 h8 w
                · skip
                  exact rcheck_15 s h0 h1 h2 h3 h4 h5 h6 h7 w
              · skip
                exact rcheck_16 s h0 h1 h2 h3 h4 h5 h6 w
            · skip
              exact rcheck_17 s h0 h1 h2 h3 h4 h5 w
      | false =>
        by_cases h3 : 64 < s.st
        · skip
          exact rcheck_18 s h0 h1 h2 h3 w
        · replace h3 := Nat.le_of_not_lt h3
          by_cases h4 : s.fr = 0
          · skip
            by_cases h5 : s.tt = 0
            · skip
              by_cases h6 : s.lf = 0
              · skip
                by_cases h7 : s.nx = 0
                · skip
                  exact rcheck_19 s h0 h1 h2 h3 h4 h5 h6 h7 w
                · skip
                  exact rcheck_20 s h0 h1 h2 h3 h4 h5 h6 h7 w
              · skip
                exact rcheck_21 s h0 h1 h2 h3 h4 h5 h6 w
            · skip
              exact rcheck_22 s h0 h1 h2 h3 h4 h5 w
          · skip
            exact rcheck_23 s h0 h1 h2 h3 h4 w
end Go.Proofs.YtalcgipcephnnaaDoor
namespace Go.Proofs.YtalcgipcephnnaaDoor
open Go.RowKit
set_option linter.unusedVariables false
set_option linter.unusedSimpArgs false

attribute [local go_sem] E.at0 E.at1 E.at2 E.at3 E.at4 E.at5 E.at6 E.at7 E.at8 E.at9 E.at10
set_option maxHeartbeats 1000000 in
theorem rfail_any (s : E)  (w : World) :
    Calls Tryd.prog 37 #[.agg s.cells] w fun e w' => e = .returned (.agg (endE s 3).cells) ∧ Below w.heap.size w w' := by
  go_enter Tryd.func37, Tryd.ntmps37
  go_wp2_with (first | ((with_reducible refine bx_er w.heap.size s ?_ ?_ ?_); exact rfl; exact rfl; intro W hr hb hz) | ((with_reducible refine al_er (w.heap.size + 1) ?_ ?_); exact hz.out; intro W hq hb' hz'; replace hr := hr.bl (hz.out ▸ hb'); have fx := hr.cell; replace hb := hb.trans (hb'.mono (by omega)); replace hz := hz') | ((with_reducible refine st_er (w.heap.size + 1) _ (endE s 3) hq ?_ ?_ ?_); exact rfl; exact rfl; intro W hnew ho; replace hr := hr.only ho (by omega); replace hq := hnew; replace hb := ho.bel _ _ (by omega) hb))
  refine bodyPost_ret (results_cell_row Tryd.results37 _ _ (w.heap.size + 1) _ _ _ _ rfl hq Tryd.underlying24 rfl size_er) rfl ?_
  exact ⟨rfl, hb⟩

set_option maxHeartbeats 1000000 in
theorem rin_low (r : RP) (N p x n : Nat) (hN : N = 4096 * p) (hp : p ≤ 16384) (hx : x < 4294967296) (hn : n ≤ 64) (h0 : x < 2147483648) (w : World) :
    Calls Tryd.prog 36 #[.agg (r.v N p), .int .u32 (x : Nat), .int .u32 (n : Nat)] w fun e w' => e = .returned (.bool (inB p x n)) ∧ Below w.heap.size w w' := by
  have hN9 : N ≤ 67108864 := by omega
  have HV : inB p x n = false := decide_eq_false (by omega)
  rw [HV]; clear HV
  have t0 : decide ((2147483648 : Int) ≤ (x : Int)) = false := by simp; omega
  have t0n : decide (2147483648 ≤ x) = false := by simp; omega
  clear hN
  go_enter Tryd.func36, Tryd.ntmps36
  go_wp2_with (first | ((with_reducible refine bx_R w.heap.size r N p ?_ ?_ ?_); exact rfl; exact rfl; intro W hr hb hz; have fB : W.cell? ⟨w.heap.size, 0, none⟩ = some (.slice (some ⟨r.gB, 0, none⟩) N r.cB) := (hr.cell 0).trans rfl))
  go_ret
  exact ⟨rfl, hb⟩

set_option maxHeartbeats 1000000 in
theorem rin_yes (r : RP) (N p x n : Nat) (hN : N = 4096 * p) (hp : p ≤ 16384) (hx : x < 4294967296) (hn : n ≤ 64) (h0 : 2147483648 ≤ x) (h1 : x - 2147483648 + n ≤ N) (w : World) :
    Calls Tryd.prog 36 #[.agg (r.v N p), .int .u32 (x : Nat), .int .u32 (n : Nat)] w fun e w' => e = .returned (.bool (inB p x n)) ∧ Below w.heap.size w w' := by
  have hN9 : N ≤ 67108864 := by omega
  have HV : inB p x n = true := decide_eq_true (by omega)
  rw [HV]; clear HV
  have t0 : (2147483648 : Int) ≤ (x : Int) := by omega
  have t1 : (x : Int) - 2147483648 + (n : Int) ≤ (N : Int) := by omega
  clear hN
  go_enter Tryd.func36, Tryd.ntmps36
  go_wp2_with (first | ((with_reducible refine bx_R w.heap.size r N p ?_ ?_ ?_); exact rfl; exact rfl; intro W hr hb hz; have fB : W.cell? ⟨w.heap.size, 0, none⟩ = some (.slice (some ⟨r.gB, 0, none⟩) N r.cB) := (hr.cell 0).trans rfl))
  go_ret
  exact ⟨rfl, hb⟩

set_option maxHeartbeats 1000000 in
theorem rin_far (r : RP) (N p x n : Nat) (hN : N = 4096 * p) (hp : p ≤ 16384) (hx : x < 4294967296) (hn : n ≤ 64) (h0 : 2147483648 ≤ x) (h1 : N < x - 2147483648 + n) (w : World) :
    Calls Tryd.prog 36 #[.agg (r.v N p), .int .u32 (x : Nat), .int .u32 (n : Nat)] w fun e w' => e = .returned (.bool (inB p x n)) ∧ Below w.heap.size w w' := by
  have hN9 : N ≤ 67108864 := by omega
  have HV : inB p x n = false := decide_eq_false (by omega)
  rw [HV]; clear HV
  have t0 : (2147483648 : Int) ≤ (x : Int) := by omega
  have t1 : decide ((x : Int) - 2147483648 + (n : Int) ≤ (N : Int)) = false := by simp; omega
  clear hN
  go_enter Tryd.func36, Tryd.ntmps36
  go_wp2_with (first | ((with_reducible refine bx_R w.heap.size r N p ?_ ?_ ?_); exact rfl; exact rfl; intro W hr hb hz; have fB : W.cell? ⟨w.heap.size, 0, none⟩ = some (.slice (some ⟨r.gB, 0, none⟩) N r.cB) := (hr.cell 0).trans rfl))
  go_ret
  exact ⟨rfl, hb⟩

theorem rin_any (r : RP) (N p x n : Nat) (hN : N = 4096 * p) (hp : p ≤ 16384) (hx : x < 4294967296) (hn : n ≤ 64) (w : World) :
    Calls Tryd.prog 36 #[.agg (r.v N p), .int .u32 (x : Nat), .int .u32 (n : Nat)] w fun e w' => e = .returned (.bool (inB p x n)) ∧ Below w.heap.size w w' := by
  by_cases h0 : x < 2147483648
  · exact rin_low r N p x n hN hp hx hn h0 w
  · by_cases h1 : x - 2147483648 + n ≤ N
    · exact rin_yes r N p x n hN hp hx hn (by omega) h1 w
    · exact rin_far r N p x n hN hp hx hn (by omega) (by omega) w
set_option maxHeartbeats 1000000 in
theorem rread_ex {w : World} {N n : Nat} {f : Nat → Nat} {r : RP} (h : RefAt w N n f r) (a j : Nat) (ha : a < 4294967296) (hj : 0 < j) (hin : a + j ≤ N) :
    Calls Tryd.prog 39 #[.agg (r.v N n), .int .u32 (a : Nat), .int .i64 (j : Nat)] w fun e w' => e = .returned (.tuple #[.slice (some ⟨r.gB, a, none⟩) j (r.cB - a), .int .i64 0]) ∧ Below w.heap.size w w' := by
  have hN9 : N ≤ 67108864 := by have := h.few; omega
  have hcp := h.capB
  unfold maxLen at hcp
  obtain ⟨hc1, hc2⟩ := hcp
  clear h
  unfold RP.v
  generalize r.gB = gB at *
  generalize r.gD = gD at *
  generalize r.cB = cB at *
  generalize r.cD = cD at *
  generalize r.wr = wr at *
  have t0 : decide ((j : Int) < 0) = false := decide_eq_false (by omega)
  have t1 : decide ((N : Int) < (j : Int)) = false := decide_eq_false (by omega)
  have t1' : decide (N < j) = false := decide_eq_false (by omega)
  have t2 : decide ((N : Int) - (j : Int) < (a : Int)) = false := decide_eq_false (by omega)
  have g1 : (a : Int) + (j : Int) ≤ (N : Int) := by omega
  have g2 : (N : Int) ≤ (cB : Int) := by omega
  go_enter Tryd.func39, Tryd.ntmps39
  go_wp2
  go_ret2
  refine ⟨?_, below_one _ _⟩
  show Ending.returned (.tuple #[.slice (some ⟨gB, a, none⟩) (a + j - a) (cB - a), .int .i64 0]) = _
  rw [show a + j - a = j by omega]
end Go.Proofs.YtalcgipcephnnaaDoor
namespace Go.Proofs.YtalcgipcephnnaaDoor
open Go.RowKit
set_option linter.unusedVariables false
set_option linter.unusedSimpArgs false

variable {ops : Array Oper} {rest : List Oper} {dst : Option Tmp} {ty : TypeId} {pos : String} {after : Array Edge} {a : Act} {w : World} {Q : Exit → Act → World → Prop} {x y : Operand} {b : Nat} {S : World → Prop} {K : Act → World → Prop}
theorem RefAt.only {w W : World} {N n g : Nat} {f : Nat → Nat} {r : RP} (h : RefAt w N n f r) (ho : Only g w W) (hn : ¬ r.owns g) : RefAt W N n f r := h.same (fun x hx => ho.row x (fun e => hn (e ▸ hx)))
theorem RefAt.drD {w : World} {N n : Nat} {f : Nat → Nat} {r : RP} (h : RefAt w N n f r) : RefAt w.drew N n f r := h.same (fun _ _ => rfl)
theorem size_a4 : (Tryd.prog.info? 80).map (·.size) = some 4 := by kernel_rfl
theorem zero_a4 (w : World) : (zeroValue 80).run Tryd.prog w = .ok (.agg (ordV (fun _ => 0))) w :=
  (zero_of_info (P := Tryd.prog) (t := 80) (v := .agg (ordV (fun _ => 0))) (n := 4) (by kernel_rfl)).1 w
theorem al_a4 (N : Nat) (hN : w.heap.size = N)
    (k : ∀ W, RowAt W N (ordV (fun _ => 0)) 80 → Below N w W → Hid (W.heap.size = N + 1) → wpList Tryd.prog ops Q rest (a.put dst (.pointer (some ⟨N, 0, none⟩))) W) :
    wpList Tryd.prog ops Q (⟨dst, .alloc 80, ty, pos, after, none⟩ :: rest) a w := op_alloc N hN _ zero_a4 k
theorem st_a4 (b i : Nat) (h : Nat → Nat) (v : Nat) (hi : i < 4) (hr : RowAt w b (ordV h) 80) (hx : a.eval x = .pointer (some ⟨b, i, none⟩)) (hy : a.eval y = .int .u32 (v : Nat))
    (k : ∀ W, RowAt W b (ordV (upd h i v)) 80 → Only b w W → wpList Tryd.prog ops Q rest (a.put dst undef) W) : wpList Tryd.prog ops Q (⟨dst, .store 22 x y, ty, pos, after, none⟩ :: rest) a w :=
  op_store_cell b i hx _ hy (ordV h) _ _ hr size_u32e (by show i < 4; exact hi) rfl (ord_set h i v hi) k
theorem y_a4 (b i : Nat) (h : Nat → Nat) (hi : i < 4) (hS : ∀ V, S V → RowAt V b (ordV h) 80) (hx : a.eval x = .pointer (some ⟨b, i, none⟩)) :
    YieldsIf Tryd.prog ops S ⟨dst, .load 22 x, ty, pos, after, none⟩ (.int .u32 (h i : Nat)) a := y_cell b i _ (fun V hV => ((hS V hV).cell i).trans (ord_at h i hi)) _ Tryd.underlying22 rfl hx
theorem s_ehv (b : Nat) (h : E) (n : Bool) (t' : TypeId) (hr : RowAt w b h.cells t') (hx : a.eval x = .pointer (some ⟨b, 5, none⟩)) (hy : a.eval y = .bool n)
    (k : ∀ W, RowAt W b ({ h with hv := n } : E).cells t' → Only b w W → K (a.put dst undef) W) : Oper.wp Tryd.prog ⟨dst, .store 4 x y, ty, pos, after, none⟩ a w K Q :=
  s_cellO b 5 hx _ hy h.cells _ _ hr size_boe (by show 5 < 11; decide) rfl rfl k
end Go.Proofs.YtalcgipcephnnaaDoor
