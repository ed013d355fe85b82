/-
  What the document's Write answers.
-/
import Derived.Test.YtalcgipcephnnaaDoorJDmRCheck
import Derived.Test.YtalcgipcephnnaaDoorJDmReg
namespace Go.Proofs.YtalcgipcephnnaaDoor
open Go.RowKit
set_option linter.unusedVariables false
set_option linter.unusedSimpArgs false

attribute [local go_sem] E.at0 E.at1 E.at2 E.at3 E.at4 E.at5 E.at6 E.at7 E.at8 E.at9 E.at10
set_option maxHeartbeats 1000000 in
theorem rread_no (s : E) (p : Nat) (hm : mayE s = false) (w : World) :
    Calls Tryd.prog 10 #[.agg s.cells, .int .u32 (p : Nat)] w fun e w' => e = .returned (.tuple #[.int .u32 (readE s p : Nat), .int .i64 ((accE s p : Nat) : Int)]) ∧ Below w.heap.size w w' := by
  have HA : accE s p = 1 := by unfold accE; rw [hm]; rfl
  have HV : readE s p = 0 := by unfold readE; rw [if_neg (by rw [HA]; decide)]
  rw [HV, HA]; clear HV HA
  have HC := hide (fun w => rcheck_any s w)
  rw [hm] at HC
  rw [show chkE false = 1 from rfl] at HC
  go_enter Tryd.func10, Tryd.ntmps10
  go_wp2_with (first | ((with_reducible refine bx_er w.heap.size s ?_ ?_ ?_); exact rfl; exact rfl; intro W hr hb hz; have fx := hr.cell) | ((with_reducible refine ld_er w.heap.size _ hr ?_ ?_ ?_); exact rfl; exact rfl) | (go_at_call 15; (with_reducible refine (HC.out _).mono ?_); rintro e W ⟨rfl, hbc⟩; replace hr := hr.bl hbc; replace fx := hr.cell; have fa := (fun (o : Obj) (j : Nat) => (hr.al o).cell j); have fb := (fun (o : Obj) (v : Value) (j k : Nat) => ((hr.al o).far (show w.heap.size ≠ W.heap.size from Nat.ne_of_lt hr.lt) k v).cell j); replace hb := below_bl rfl hb hbc; clear hbc))
  go_ret2
  exact ⟨rfl, hb⟩

set_option maxHeartbeats 1000000 in
theorem rread_far (s : E) (p : Nat) (hm : mayE s = true) (h0 : 256 ≤ p) (w : World) :
    Calls Tryd.prog 10 #[.agg s.cells, .int .u32 (p : Nat)] w fun e w' => e = .returned (.tuple #[.int .u32 (readE s p : Nat), .int .i64 ((accE s p : Nat) : Int)]) ∧ Below w.heap.size w w' := by
  have HA : accE s p = 20 := by unfold accE; rw [hm, if_pos rfl, if_pos (Or.inl h0)]
  have HV : readE s p = 0 := by unfold readE; rw [if_neg (by rw [HA]; decide)]
  rw [HV, HA]; clear HV HA
  have HC := hide (fun w => rcheck_any s w)
  rw [hm] at HC
  rw [show chkE true = 0 from rfl] at HC
  have t0 : (255 : Int) < (p : Int) := by omega
  go_enter Tryd.func10, Tryd.ntmps10
  go_wp2_with (first | ((with_reducible refine bx_er w.heap.size s ?_ ?_ ?_); exact rfl; exact rfl; intro W hr hb hz; have fx := hr.cell) | ((with_reducible refine ld_er w.heap.size _ hr ?_ ?_ ?_); exact rfl; exact rfl) | (go_at_call 15; (with_reducible refine (HC.out _).mono ?_); rintro e W ⟨rfl, hbc⟩; replace hr := hr.bl hbc; replace fx := hr.cell; have fa := (fun (o : Obj) (j : Nat) => (hr.al o).cell j); have fb := (fun (o : Obj) (v : Value) (j k : Nat) => ((hr.al o).far (show w.heap.size ≠ W.heap.size from Nat.ne_of_lt hr.lt) k v).cell j); replace hb := below_bl rfl hb hbc; clear hbc))
  go_ret2
  exact ⟨rfl, hb⟩

set_option maxHeartbeats 1000000 in
theorem rread_odd (s : E) (p : Nat) (hm : mayE s = true) (h0 : p < 256) (h1 : p % 4 ≠ 0) (w : World) :
    Calls Tryd.prog 10 #[.agg s.cells, .int .u32 (p : Nat)] w fun e w' => e = .returned (.tuple #[.int .u32 (readE s p : Nat), .int .i64 ((accE s p : Nat) : Int)]) ∧ Below w.heap.size w w' := by
  have HA : accE s p = 20 := by unfold accE; rw [hm, if_pos rfl, if_pos (Or.inr h1)]
  have HV : readE s p = 0 := by unfold readE; rw [if_neg (by rw [HA]; decide)]
  rw [HV, HA]; clear HV HA
  have HC := hide (fun w => rcheck_any s w)
  rw [hm] at HC
  rw [show chkE true = 0 from rfl] at HC
  have t0 : decide ((255 : Int) < (p : Int)) = false := by simp; omega
  have t0n : decide (255 < p) = false := by simp; omega
  have t1n : (((p : Int) % 4) == 0) = false := by simp; omega
  go_enter Tryd.func10, Tryd.ntmps10
  go_wp2_with (first | ((with_reducible refine bx_er w.heap.size s ?_ ?_ ?_); exact rfl; exact rfl; intro W hr hb hz; have fx := hr.cell) | ((with_reducible refine ld_er w.heap.size _ hr ?_ ?_ ?_); exact rfl; exact rfl) | (go_at_call 15; (with_reducible refine (HC.out _).mono ?_); rintro e W ⟨rfl, hbc⟩; replace hr := hr.bl hbc; replace fx := hr.cell; have fa := (fun (o : Obj) (j : Nat) => (hr.al o).cell j); have fb := (fun (o : Obj) (v : Value) (j k : Nat) => ((hr.al o).far (show w.heap.size ≠ W.heap.size from Nat.ne_of_lt hr.lt) k v).cell j); replace hb := below_bl rfl hb hbc; clear hbc))
  go_ret2
  exact ⟨rfl, hb⟩

set_option maxHeartbeats 1000000 in
theorem rread_high (s : E) (p : Nat) (hm : mayE s = true) (h0 : p < 256) (h1 : p % 4 = 0) (h2 : 20 ≤ p) (w : World) :
    Calls Tryd.prog 10 #[.agg s.cells, .int .u32 (p : Nat)] w fun e w' => e = .returned (.tuple #[.int .u32 (readE s p : Nat), .int .i64 ((accE s p : Nat) : Int)]) ∧ Below w.heap.size w w' := by
  have HA : accE s p = 0 := by unfold accE; rw [hm, if_pos rfl, if_neg (by omega)]
  have HV : readE s p = 0 := by unfold readE; rw [if_pos HA]; unfold regE; rw [if_neg (by omega), if_neg (by omega), if_neg (by omega), if_neg (by omega), if_neg (by omega)]
  rw [HV, HA]; clear HV HA
  have HC := hide (fun w => rcheck_any s w)
  rw [hm] at HC
  rw [show chkE true = 0 from rfl] at HC
  have t0 : decide ((255 : Int) < (p : Int)) = false := by simp; omega
  have t0n : decide (255 < p) = false := by simp; omega
  have t1n : (((p : Int) % 4) == 0) = true := by simp; omega
  have d1 : decide ((p : Int) / 4 < 5) = false := by simp; omega
  have tb : ((s.cd : Int) == 1) = (s.cd == 1) := castq s.cd 1
  obtain ⟨q1, hq1⟩ : ∃ b, (s.cd == 1) = b := ⟨_, rfl⟩
  obtain ⟨q2, hq2⟩ : ∃ b, s.ak = b := ⟨_, rfl⟩
  rw [hq1] at tb
  cases q1 <;> cases q2
  all_goals
    go_enter Tryd.func10, Tryd.ntmps10
    go_wp2_with (first | ((with_reducible refine bx_er w.heap.size s ?_ ?_ ?_); exact rfl; exact rfl; intro W hr hb hz; have fx := hr.cell) | ((with_reducible refine ld_er w.heap.size _ hr ?_ ?_ ?_); exact rfl; exact rfl) | (go_at_call 15; (with_reducible refine (HC.out _).mono ?_); rintro e W ⟨rfl, hbc⟩; replace hr := hr.bl hbc; replace fx := hr.cell; have fa := (fun (o : Obj) (j : Nat) => (hr.al o).cell j); have fb := (fun (o : Obj) (v : Value) (j k : Nat) => ((hr.al o).far (show w.heap.size ≠ W.heap.size from Nat.ne_of_lt hr.lt) k v).cell j); replace hb := below_bl rfl hb hbc; clear hbc))
    go_ret2
    exact ⟨rfl, by first | exact hb.alloc hb.size _ | exact (hb.alloc hb.size _).setCell (p := ⟨_, _, none⟩) hb.size _ | exact ((hb.alloc hb.size _).setCell (p := ⟨_, _, none⟩) hb.size _).setCell (p := ⟨_, _, none⟩) hb.size _⟩

set_option maxHeartbeats 1000000 in
theorem rread_r0 (s : E) (p : Nat) (hm : mayE s = true) (h2 : p = 0) (w : World) :
    Calls Tryd.prog 10 #[.agg s.cells, .int .u32 (p : Nat)] w fun e w' => e = .returned (.tuple #[.int .u32 (readE s p : Nat), .int .i64 ((accE s p : Nat) : Int)]) ∧ Below w.heap.size w w' := by
  subst h2
  have HA : accE s 0 = 0 := by unfold accE; rw [hm, if_pos rfl]; rfl
  have HV : readE s 0 = b2n (s.cd == 1) := by unfold readE; rw [if_pos HA]; rfl
  rw [HV, HA]; clear HV HA
  have HC := hide (fun w => rcheck_any s w)
  rw [hm] at HC
  rw [show chkE true = 0 from rfl] at HC
  have tb : ((s.cd : Int) == 1) = (s.cd == 1) := castq s.cd 1
  obtain ⟨q1, hq1⟩ : ∃ b, (s.cd == 1) = b := ⟨_, rfl⟩
  obtain ⟨q2, hq2⟩ : ∃ b, s.ak = b := ⟨_, rfl⟩
  rw [hq1] at tb
  rw [hq1]
  cases q1 <;> cases q2
  all_goals
    go_enter Tryd.func10, Tryd.ntmps10
    go_wp2_with (first | ((with_reducible refine bx_er w.heap.size s ?_ ?_ ?_); exact rfl; exact rfl; intro W hr hb hz; have fx := hr.cell) | ((with_reducible refine ld_er w.heap.size _ hr ?_ ?_ ?_); exact rfl; exact rfl) | (go_at_call 15; (with_reducible refine (HC.out _).mono ?_); rintro e W ⟨rfl, hbc⟩; replace hr := hr.bl hbc; replace fx := hr.cell; have fa := (fun (o : Obj) (j : Nat) => (hr.al o).cell j); have fb := (fun (o : Obj) (v : Value) (j k : Nat) => ((hr.al o).far (show w.heap.size ≠ W.heap.size from Nat.ne_of_lt hr.lt) k v).cell j); replace hb := below_bl rfl hb hbc; clear hbc))
    go_ret2
    exact ⟨rfl, by first | exact hb.alloc hb.size _ | exact (hb.alloc hb.size _).setCell (p := ⟨_, _, none⟩) hb.size _ | exact ((hb.alloc hb.size _).setCell (p := ⟨_, _, none⟩) hb.size _).setCell (p := ⟨_, _, none⟩) hb.size _⟩

set_option maxHeartbeats 1000000 in
theorem rread_r1 (s : E) (p : Nat) (hm : mayE s = true) (h2 : p = 4) (w : World) :
    Calls Tryd.prog 10 #[.agg s.cells, .int .u32 (p : Nat)] w fun e w' => e = .returned (.tuple #[.int .u32 (readE s p : Nat), .int .i64 ((accE s p : Nat) : Int)]) ∧ Below w.heap.size w w' := by
  subst h2
  have HA : accE s 4 = 0 := by unfold accE; rw [hm, if_pos rfl]; rfl
  have HV : readE s 4 = s.cd := by unfold readE; rw [if_pos HA]; rfl
  rw [HV, HA]; clear HV HA
  have HC := hide (fun w => rcheck_any s w)
  rw [hm] at HC
  rw [show chkE true = 0 from rfl] at HC
  have tb : ((s.cd : Int) == 1) = (s.cd == 1) := castq s.cd 1
  obtain ⟨q1, hq1⟩ : ∃ b, (s.cd == 1) = b := ⟨_, rfl⟩
  obtain ⟨q2, hq2⟩ : ∃ b, s.ak = b := ⟨_, rfl⟩
  rw [hq1] at tb
  cases q1 <;> cases q2
  all_goals
    go_enter Tryd.func10, Tryd.ntmps10
    go_wp2_with (first | ((with_reducible refine bx_er w.heap.size s ?_ ?_ ?_); exact rfl; exact rfl; intro W hr hb hz; have fx := hr.cell) | ((with_reducible refine ld_er w.heap.size _ hr ?_ ?_ ?_); exact rfl; exact rfl) | (go_at_call 15; (with_reducible refine (HC.out _).mono ?_); rintro e W ⟨rfl, hbc⟩; replace hr := hr.bl hbc; replace fx := hr.cell; have fa := (fun (o : Obj) (j : Nat) => (hr.al o).cell j); have fb := (fun (o : Obj) (v : Value) (j k : Nat) => ((hr.al o).far (show w.heap.size ≠ W.heap.size from Nat.ne_of_lt hr.lt) k v).cell j); replace hb := below_bl rfl hb hbc; clear hbc))
    go_ret2
    exact ⟨rfl, by first | exact hb.alloc hb.size _ | exact (hb.alloc hb.size _).setCell (p := ⟨_, _, none⟩) hb.size _ | exact ((hb.alloc hb.size _).setCell (p := ⟨_, _, none⟩) hb.size _).setCell (p := ⟨_, _, none⟩) hb.size _⟩

set_option maxHeartbeats 1000000 in
theorem rread_r2 (s : E) (p : Nat) (hm : mayE s = true) (h2 : p = 8) (w : World) :
    Calls Tryd.prog 10 #[.agg s.cells, .int .u32 (p : Nat)] w fun e w' => e = .returned (.tuple #[.int .u32 (readE s p : Nat), .int .i64 ((accE s p : Nat) : Int)]) ∧ Below w.heap.size w w' := by
  subst h2
  have HA : accE s 8 = 0 := by unfold accE; rw [hm, if_pos rfl]; rfl
  have HV : readE s 8 = s.hd := by unfold readE; rw [if_pos HA]; rfl
  rw [HV, HA]; clear HV HA
  have HC := hide (fun w => rcheck_any s w)
  rw [hm] at HC
  rw [show chkE true = 0 from rfl] at HC
  have tb : ((s.cd : Int) == 1) = (s.cd == 1) := castq s.cd 1
  obtain ⟨q1, hq1⟩ : ∃ b, (s.cd == 1) = b := ⟨_, rfl⟩
  obtain ⟨q2, hq2⟩ : ∃ b, s.ak = b := ⟨_, rfl⟩
  rw [hq1] at tb
  cases q1 <;> cases q2
  all_goals
    go_enter Tryd.func10, Tryd.ntmps10
    go_wp2_with (first | ((with_reducible refine bx_er w.heap.size s ?_ ?_ ?_); exact rfl; exact rfl; intro W hr hb hz; have fx := hr.cell) | ((with_reducible refine ld_er w.heap.size _ hr ?_ ?_ ?_); exact rfl; exact rfl) | (go_at_call 15; (with_reducible refine (HC.out _).mono ?_); rintro e W ⟨rfl, hbc⟩; replace hr := hr.bl hbc; replace fx := hr.cell; have fa := (fun (o : Obj) (j : Nat) => (hr.al o).cell j); have fb := (fun (o : Obj) (v : Value) (j k : Nat) => ((hr.al o).far (show w.heap.size ≠ W.heap.size from Nat.ne_of_lt hr.lt) k v).cell j); replace hb := below_bl rfl hb hbc; clear hbc))
    go_ret2
    exact ⟨rfl, by first | exact hb.alloc hb.size _ | exact (hb.alloc hb.size _).setCell (p := ⟨_, _, none⟩) hb.size _ | exact ((hb.alloc hb.size _).setCell (p := ⟨_, _, none⟩) hb.size _).setCell (p := ⟨_, _, none⟩) hb.size _⟩

set_option maxHeartbeats 1000000 in
theorem rread_r3 (s : E) (p : Nat) (hm : mayE s = true) (h2 : p = 12) (w : World) :
    Calls Tryd.prog 10 #[.agg s.cells, .int .u32 (p : Nat)] w fun e w' => e = .returned (.tuple #[.int .u32 (readE s p : Nat), .int .i64 ((accE s p : Nat) : Int)]) ∧ Below w.heap.size w w' := by
  subst h2
  have HA : accE s 12 = 0 := by unfold accE; rw [hm, if_pos rfl]; rfl
  have HV : readE s 12 = s.mv := by unfold readE; rw [if_pos HA]; rfl
  rw [HV, HA]; clear HV HA
  have HC := hide (fun w => rcheck_any s w)
  rw [hm] at HC
  rw [show chkE true = 0 from rfl] at HC
  have tb : ((s.cd : Int) == 1) = (s.cd == 1) := castq s.cd 1
  obtain ⟨q1, hq1⟩ : ∃ b, (s.cd == 1) = b := ⟨_, rfl⟩
  obtain ⟨q2, hq2⟩ : ∃ b, s.ak = b := ⟨_, rfl⟩
  rw [hq1] at tb
  cases q1 <;> cases q2
  all_goals
    go_enter Tryd.func10, Tryd.ntmps10
    go_wp2_with (first | ((with_reducible refine bx_er w.heap.size s ?_ ?_ ?_); exact rfl; exact rfl; intro W hr hb hz; have fx := hr.cell) | ((with_reducible refine ld_er w.heap.size _ hr ?_ ?_ ?_); exact rfl; exact rfl) | (go_at_call 15; (with_reducible refine (HC.out _).mono ?_); rintro e W ⟨rfl, hbc⟩; replace hr := hr.bl hbc; replace fx := hr.cell; have fa := (fun (o : Obj) (j : Nat) => (hr.al o).cell j); have fb := (fun (o : Obj) (v : Value) (j k : Nat) => ((hr.al o).far (show w.heap.size ≠ W.heap.size from Nat.ne_of_lt hr.lt) k v).cell j); replace hb := below_bl rfl hb hbc; clear hbc))
    go_ret2
    exact ⟨rfl, by first | exact hb.alloc hb.size _ | exact (hb.alloc hb.size _).setCell (p := ⟨_, _, none⟩) hb.size _ | exact ((hb.alloc hb.size _).setCell (p := ⟨_, _, none⟩) hb.size _).setCell (p := ⟨_, _, none⟩) hb.size _⟩

set_option maxHeartbeats 1000000 in
theorem rread_r4 (s : E) (p : Nat) (hm : mayE s = true) (h2 : p = 16) (w : World) :
    Calls Tryd.prog 10 #[.agg s.cells, .int .u32 (p : Nat)] w fun e w' => e = .returned (.tuple #[.int .u32 (readE s p : Nat), .int .i64 ((accE s p : Nat) : Int)]) ∧ Below w.heap.size w w' := by
  subst h2
  have HA : accE s 16 = 0 := by unfold accE; rw [hm, if_pos rfl]; rfl
  have HV : readE s 16 = b2n s.ak := by unfold readE; rw [if_pos HA]; rfl
  rw [HV, HA]; clear HV HA
  have HC := hide (fun w => rcheck_any s w)
  rw [hm] at HC
  rw [show chkE true = 0 from rfl] at HC
  have tb : ((s.cd : Int) == 1) = (s.cd == 1) := castq s.cd 1
  obtain ⟨q1, hq1⟩ : ∃ b, (s.cd == 1) = b := ⟨_, rfl⟩
  obtain ⟨q2, hq2⟩ : ∃ b, s.ak = b := ⟨_, rfl⟩
  rw [hq1] at tb
  rw [hq2]
  cases q1 <;> cases q2
  all_goals
    go_enter Tryd.func10, Tryd.ntmps10
    go_wp2_with (first | ((with_reducible refine bx_er w.heap.size s ?_ ?_ ?_); exact rfl; exact rfl; intro W hr hb hz; have fx := hr.cell) | ((with_reducible refine ld_er w.heap.size _ hr ?_ ?_ ?_); exact rfl; exact rfl) | (go_at_call 15; (with_reducible refine (HC.out _).mono ?_); rintro e W ⟨rfl, hbc⟩; replace hr := hr.bl hbc; replace fx := hr.cell; have fa := (fun (o : Obj) (j : Nat) => (hr.al o).cell j); have fb := (fun (o : Obj) (v : Value) (j k : Nat) => ((hr.al o).far (show w.heap.size ≠ W.heap.size from Nat.ne_of_lt hr.lt) k v).cell j); replace hb := below_bl rfl hb hbc; clear hbc))
    go_ret2
    exact ⟨rfl, by first | exact hb.alloc hb.size _ | exact (hb.alloc hb.size _).setCell (p := ⟨_, _, none⟩) hb.size _ | exact ((hb.alloc hb.size _).setCell (p := ⟨_, _, none⟩) hb.size _).setCell (p := ⟨_, _, none⟩) hb.size _⟩

theorem rread_any12 (s : E) (p : Nat) (w : World) :
    Calls Tryd.prog 10 #[.agg s.cells, .int .u32 (p : Nat)] w fun e w' => e = .returned (.tuple #[.int .u32 (readE s p : Nat), .int .i64 ((accE s p : Nat) : Int)]) ∧ Below w.heap.size w w' := by
  cases hm : mayE s with
  | false => exact rread_no s p hm w
  | true =>
    by_cases h0 : 256 ≤ p
    · exact rread_far s p hm h0 w
    by_cases h1 : p % 4 = 0
    · by_cases h2 : 20 ≤ p
      · exact rread_high s p hm (by omega) h1 h2 w
      · obtain e | e | e | e | e : p = 0 ∨ p = 4 ∨ p = 8 ∨ p = 12 ∨ p = 16 := by omega
        · exact rread_r0 s p hm e w
        · exact rread_r1 s p hm e w
        · exact rread_r2 s p hm e w
        · exact rread_r3 s p hm e w
        · exact rread_r4 s p hm e w
    · exact rread_odd s p hm (by omega) h1 w
end Go.Proofs.YtalcgipcephnnaaDoor
namespace Go.Proofs.YtalcgipcephnnaaDoor
open Go.RowKit
set_option linter.unusedVariables false
set_option linter.unusedSimpArgs false

attribute [local go_sem] E.at0 E.at1 E.at2 E.at3 E.at4 E.at5 E.at6 E.at7 E.at8 E.at9 E.at10
set_option maxHeartbeats 1000000 in
theorem xwrite_no (s : E) (p v : Nat) (hm : mayE s = false) (w : World) :
    Calls Tryd.prog 12 #[.agg s.cells, .int .u32 (p : Nat), .int .u32 (v : Nat)] w fun e w' => e = .returned (.tuple #[.agg (writeE s p v).cells, .int .i64 ((accE s p : Nat) : Int)]) ∧ Below w.heap.size w w' := by
  have HA : accE s p = 1 := by unfold accE; rw [hm]; rfl
  have HV : writeE s p v = zeroE := by unfold writeE; rw [if_neg (by rw [HA]; decide)]
  rw [HV, HA]; clear HV HA
  have HC := hide (fun w => rcheck_any s w)
  rw [hm] at HC
  rw [show chkE false = 1 from rfl] at HC
  go_enter Tryd.func12, Tryd.ntmps12
  go_wp2_with (first | ((with_reducible refine bx_er w.heap.size s ?_ ?_ ?_); exact rfl; exact rfl; intro W hr hb hz; have fx := hr.cell) | ((with_reducible refine al_er (w.heap.size + 1) ?_ ?_); exact hz.out; intro W hq hb' hz'; replace hr := hr.bl (hz.out ▸ hb'); replace fx := hr.cell; replace hb := hb.trans (hb'.mono (by omega)); replace hz := hz') | ((with_reducible refine ld_er w.heap.size _ hr ?_ ?_ ?_); exact rfl; exact rfl) | (go_at_call 15; (with_reducible refine (HC.out _).mono ?_); rintro e W ⟨rfl, hbc⟩; replace hr := hr.bl hbc; replace hq := hq.bl hbc; replace fx := hr.cell; replace hb := below_bl rfl hb hbc; clear hbc) | ((with_reducible refine st_er (w.heap.size + 1) _ zeroE hq ?_ ?_ ?_); exact rfl; exact rfl; intro W hnew ho; replace hr := hr.only ho (by omega); replace hq := hnew; replace hb := ho.bel _ _ (by omega) hb))
  refine bodyPost_ret (results_cell_one Tryd.results12 _ _ (w.heap.size + 1) _ _ _ rfl hq Tryd.underlying24 rfl size_er) rfl ?_
  exact ⟨rfl, hb⟩

set_option maxHeartbeats 1000000 in
theorem xwrite_far (s : E) (p v : Nat) (hm : mayE s = true) (h0 : 256 ≤ p) (w : World) :
    Calls Tryd.prog 12 #[.agg s.cells, .int .u32 (p : Nat), .int .u32 (v : Nat)] w fun e w' => e = .returned (.tuple #[.agg (writeE s p v).cells, .int .i64 ((accE s p : Nat) : Int)]) ∧ Below w.heap.size w w' := by
  have HA : accE s p = 20 := by unfold accE; rw [hm, if_pos rfl, if_pos (Or.inl h0)]
  have HV : writeE s p v = zeroE := by unfold writeE; rw [if_neg (by rw [HA]; decide)]
  rw [HV, HA]; clear HV HA
  have HC := hide (fun w => rcheck_any s w)
  rw [hm] at HC
  rw [show chkE true = 0 from rfl] at HC
  have t0 : (255 : Int) < (p : Int) := by omega
  go_enter Tryd.func12, Tryd.ntmps12
  go_wp2_with (first | ((with_reducible refine bx_er w.heap.size s ?_ ?_ ?_); exact rfl; exact rfl; intro W hr hb hz; have fx := hr.cell) | ((with_reducible refine al_er (w.heap.size + 1) ?_ ?_); exact hz.out; intro W hq hb' hz'; replace hr := hr.bl (hz.out ▸ hb'); replace fx := hr.cell; replace hb := hb.trans (hb'.mono (by omega)); replace hz := hz') | ((with_reducible refine ld_er w.heap.size _ hr ?_ ?_ ?_); exact rfl; exact rfl) | (go_at_call 15; (with_reducible refine (HC.out _).mono ?_); rintro e W ⟨rfl, hbc⟩; replace hr := hr.bl hbc; replace hq := hq.bl hbc; replace fx := hr.cell; replace hb := below_bl rfl hb hbc; clear hbc) | ((with_reducible refine st_er (w.heap.size + 1) _ zeroE hq ?_ ?_ ?_); exact rfl; exact rfl; intro W hnew ho; replace hr := hr.only ho (by omega); replace hq := hnew; replace hb := ho.bel _ _ (by omega) hb))
  refine bodyPost_ret (results_cell_one Tryd.results12 _ _ (w.heap.size + 1) _ _ _ rfl hq Tryd.underlying24 rfl size_er) rfl ?_
  exact ⟨rfl, hb⟩

set_option maxHeartbeats 1000000 in
theorem xwrite_odd (s : E) (p v : Nat) (hm : mayE s = true) (h0 : p < 256) (h1 : p % 4 ≠ 0) (w : World) :
    Calls Tryd.prog 12 #[.agg s.cells, .int .u32 (p : Nat), .int .u32 (v : Nat)] w fun e w' => e = .returned (.tuple #[.agg (writeE s p v).cells, .int .i64 ((accE s p : Nat) : Int)]) ∧ Below w.heap.size w w' := by
  have HA : accE s p = 20 := by unfold accE; rw [hm, if_pos rfl, if_pos (Or.inr h1)]
  have HV : writeE s p v = zeroE := by unfold writeE; rw [if_neg (by rw [HA]; decide)]
  rw [HV, HA]; clear HV HA
  have HC := hide (fun w => rcheck_any s w)
  rw [hm] at HC
  rw [show chkE true = 0 from rfl] at HC
  have t0 : decide ((255 : Int) < (p : Int)) = false := by simp; omega
  have t0n : decide (255 < p) = false := by simp; omega
  have t1n : (((p : Int) % 4) == 0) = false := by simp; omega
  go_enter Tryd.func12, Tryd.ntmps12
  go_wp2_with (first | ((with_reducible refine bx_er w.heap.size s ?_ ?_ ?_); exact rfl; exact rfl; intro W hr hb hz; have fx := hr.cell) | ((with_reducible refine al_er (w.heap.size + 1) ?_ ?_); exact hz.out; intro W hq hb' hz'; replace hr := hr.bl (hz.out ▸ hb'); replace fx := hr.cell; replace hb := hb.trans (hb'.mono (by omega)); replace hz := hz') | ((with_reducible refine ld_er w.heap.size _ hr ?_ ?_ ?_); exact rfl; exact rfl) | (go_at_call 15; (with_reducible refine (HC.out _).mono ?_); rintro e W ⟨rfl, hbc⟩; replace hr := hr.bl hbc; replace hq := hq.bl hbc; replace fx := hr.cell; replace hb := below_bl rfl hb hbc; clear hbc) | ((with_reducible refine st_er (w.heap.size + 1) _ zeroE hq ?_ ?_ ?_); exact rfl; exact rfl; intro W hnew ho; replace hr := hr.only ho (by omega); replace hq := hnew; replace hb := ho.bel _ _ (by omega) hb))
  refine bodyPost_ret (results_cell_one Tryd.results12 _ _ (w.heap.size + 1) _ _ _ rfl hq Tryd.underlying24 rfl size_er) rfl ?_
  exact ⟨rfl, hb⟩

set_option maxHeartbeats 1000000 in
theorem xwrite_go (s : E) (p v : Nat) (hm : mayE s = true) (h0 : p < 256) (h1 : p % 4 = 0) (h2 : p = 0) (h3 : v = 1) (h4 : s.cd ≠ 1) (w : World) :
    Calls Tryd.prog 12 #[.agg s.cells, .int .u32 (p : Nat), .int .u32 (v : Nat)] w fun e w' => e = .returned (.tuple #[.agg (writeE s p v).cells, .int .i64 ((accE s p : Nat) : Int)]) ∧ Below w.heap.size w w' := by
  have HA : accE s p = 0 := by unfold accE; rw [hm, if_pos rfl, if_neg (by omega)]
  have HV : writeE s p v = ({ zeroE with cd := 1, hd := s.hd, pl := s.hd } : E) := by unfold writeE; rw [if_pos HA]; unfold setE goE; rw [if_pos h2, if_pos ⟨h3, h4⟩]
  rw [HV, HA]; clear HV HA
  have HC := hide (fun w => rcheck_any s w)
  rw [hm] at HC
  rw [show chkE true = 0 from rfl] at HC
  have t0 : decide ((255 : Int) < (p : Int)) = false := by simp; omega
  have t0n : decide (255 < p) = false := by simp; omega
  have t1n : (((p : Int) % 4) == 0) = true := by simp; omega
  have up0 : ((p : Int) == 0) = true := (castq p 0).trans (by simp; omega)
  have uv1 : ((v : Int) == 1) = true := (castq v 1).trans (by simp; omega)
  have uscd1 : ((s.cd : Int) == 1) = false := (castq s.cd 1).trans (by simp; omega)
  clear h2 h3 h4 h1 h0
  go_enter Tryd.func12, Tryd.ntmps12
  go_wp2_with (first | ((with_reducible refine bx_er w.heap.size s ?_ ?_ ?_); exact rfl; exact rfl; intro W hr hb hz; have fx := hr.cell) | ((with_reducible refine al_er (w.heap.size + 1) ?_ ?_); exact hz.out; intro W hq hb' hz'; replace hr := hr.bl (hz.out ▸ hb'); replace fx := hr.cell; replace hb := hb.trans (hb'.mono (by omega)); replace hz := hz') | ((with_reducible refine ld_er w.heap.size _ hr ?_ ?_ ?_); exact rfl; exact rfl) | (go_at_call 15; (with_reducible refine (HC.out _).mono ?_); rintro e W ⟨rfl, hbc⟩; replace hr := hr.bl hbc; replace hq := hq.bl hbc; replace fx := hr.cell; replace hb := below_bl rfl hb hbc; clear hbc) | ((with_reducible refine st_er (w.heap.size + 1) _ ({ zeroE with cd := 1, hd := s.hd, pl := s.hd } : E) hq ?_ ?_ ?_); exact rfl; exact rfl; intro W hnew ho; replace hr := hr.only ho (by omega); replace hq := hnew; replace hb := ho.bel _ _ (by omega) hb))
  refine bodyPost_ret (results_cell_one Tryd.results12 _ _ (w.heap.size + 1) _ _ _ rfl hq Tryd.underlying24 rfl size_er) rfl ?_
  exact ⟨rfl, hb⟩

set_option maxHeartbeats 1000000 in
theorem xwrite_go1 (s : E) (p v : Nat) (hm : mayE s = true) (h0 : p < 256) (h1 : p % 4 = 0) (h2 : p = 0) (h3 : v = 1) (h4 : s.cd = 1) (w : World) :
    Calls Tryd.prog 12 #[.agg s.cells, .int .u32 (p : Nat), .int .u32 (v : Nat)] w fun e w' => e = .returned (.tuple #[.agg (writeE s p v).cells, .int .i64 ((accE s p : Nat) : Int)]) ∧ Below w.heap.size w w' := by
  have HA : accE s p = 0 := by unfold accE; rw [hm, if_pos rfl, if_neg (by omega)]
  have HV : writeE s p v = s := by unfold writeE; rw [if_pos HA]; unfold setE goE; rw [if_pos h2, if_neg (by omega), if_neg (by omega)]
  rw [HV, HA]; clear HV HA
  have HC := hide (fun w => rcheck_any s w)
  rw [hm] at HC
  rw [show chkE true = 0 from rfl] at HC
  have t0 : decide ((255 : Int) < (p : Int)) = false := by simp; omega
  have t0n : decide (255 < p) = false := by simp; omega
  have t1n : (((p : Int) % 4) == 0) = true := by simp; omega
  have up0 : ((p : Int) == 0) = true := (castq p 0).trans (by simp; omega)
  have uv1 : ((v : Int) == 1) = true := (castq v 1).trans (by simp; omega)
  have uv2 : ((v : Int) == 2) = false := (castq v 2).trans (by simp; omega)
  have uscd1 : ((s.cd : Int) == 1) = true := (castq s.cd 1).trans (by simp; omega)
  have up8 : ((p : Int) == 8) = false := (castq p 8).trans (by simp; omega)
  have up16 : ((p : Int) == 16) = false := (castq p 16).trans (by simp; omega)
  clear h2 h3 h4 h1 h0
  go_enter Tryd.func12, Tryd.ntmps12
  go_wp2_with (first | ((with_reducible refine bx_er w.heap.size s ?_ ?_ ?_); exact rfl; exact rfl; intro W hr hb hz; have fx := hr.cell) | ((with_reducible refine al_er (w.heap.size + 1) ?_ ?_); exact hz.out; intro W hq hb' hz'; replace hr := hr.bl (hz.out ▸ hb'); replace fx := hr.cell; replace hb := hb.trans (hb'.mono (by omega)); replace hz := hz') | ((with_reducible refine ld_er w.heap.size _ hr ?_ ?_ ?_); exact rfl; exact rfl) | (go_at_call 15; (with_reducible refine (HC.out _).mono ?_); rintro e W ⟨rfl, hbc⟩; replace hr := hr.bl hbc; replace hq := hq.bl hbc; replace fx := hr.cell; replace hb := below_bl rfl hb hbc; clear hbc) | ((with_reducible refine st_er (w.heap.size + 1) _ s hq ?_ ?_ ?_); exact rfl; exact rfl; intro W hnew ho; replace hr := hr.only ho (by omega); replace hq := hnew; replace hb := ho.bel _ _ (by omega) hb))
  refine bodyPost_ret (results_cell_one Tryd.results12 _ _ (w.heap.size + 1) _ _ _ rfl hq Tryd.underlying24 rfl size_er) rfl ?_
  exact ⟨rfl, hb⟩

set_option maxHeartbeats 1000000 in
theorem xwrite_stop (s : E) (p v : Nat) (hm : mayE s = true) (h0 : p < 256) (h1 : p % 4 = 0) (h2 : p = 0) (h3 : v = 2) (w : World) :
    Calls Tryd.prog 12 #[.agg s.cells, .int .u32 (p : Nat), .int .u32 (v : Nat)] w fun e w' => e = .returned (.tuple #[.agg (writeE s p v).cells, .int .i64 ((accE s p : Nat) : Int)]) ∧ Below w.heap.size w w' := by
  have HA : accE s p = 0 := by unfold accE; rw [hm, if_pos rfl, if_neg (by omega)]
  have HV : writeE s p v = ({ zeroE with hd := s.hd, mv := s.mv } : E) := by unfold writeE; rw [if_pos HA]; unfold setE goE; rw [if_pos h2, if_neg (by omega), if_pos h3]
  rw [HV, HA]; clear HV HA
  have HC := hide (fun w => rcheck_any s w)
  rw [hm] at HC
  rw [show chkE true = 0 from rfl] at HC
  have t0 : decide ((255 : Int) < (p : Int)) = false := by simp; omega
  have t0n : decide (255 < p) = false := by simp; omega
  have t1n : (((p : Int) % 4) == 0) = true := by simp; omega
  have up0 : ((p : Int) == 0) = true := (castq p 0).trans (by simp; omega)
  have uv1 : ((v : Int) == 1) = false := (castq v 1).trans (by simp; omega)
  have uv2 : ((v : Int) == 2) = true := (castq v 2).trans (by simp; omega)
  clear h2 h3 h1 h0
  go_enter Tryd.func12, Tryd.ntmps12
  go_wp2_with (first | ((with_reducible refine bx_er w.heap.size s ?_ ?_ ?_); exact rfl; exact rfl; intro W hr hb hz; have fx := hr.cell) | ((with_reducible refine al_er (w.heap.size + 1) ?_ ?_); exact hz.out; intro W hq hb' hz'; replace hr := hr.bl (hz.out ▸ hb'); replace fx := hr.cell; replace hb := hb.trans (hb'.mono (by omega)); replace hz := hz') | ((with_reducible refine ld_er w.heap.size _ hr ?_ ?_ ?_); exact rfl; exact rfl) | (go_at_call 15; (with_reducible refine (HC.out _).mono ?_); rintro e W ⟨rfl, hbc⟩; replace hr := hr.bl hbc; replace hq := hq.bl hbc; replace fx := hr.cell; replace hb := below_bl rfl hb hbc; clear hbc) | ((with_reducible refine st_er (w.heap.size + 1) _ ({ zeroE with hd := s.hd, mv := s.mv } : E) hq ?_ ?_ ?_); exact rfl; exact rfl; intro W hnew ho; replace hr := hr.only ho (by omega); replace hq := hnew; replace hb := ho.bel _ _ (by omega) hb))
  refine bodyPost_ret (results_cell_one Tryd.results12 _ _ (w.heap.size + 1) _ _ _ rfl hq Tryd.underlying24 rfl size_er) rfl ?_
  exact ⟨rfl, hb⟩

set_option maxHeartbeats 1000000 in
theorem xwrite_zno (s : E) (p v : Nat) (hm : mayE s = true) (h0 : p < 256) (h1 : p % 4 = 0) (h2 : p = 0) (h3 : v ≠ 1) (h4 : v ≠ 2) (w : World) :
    Calls Tryd.prog 12 #[.agg s.cells, .int .u32 (p : Nat), .int .u32 (v : Nat)] w fun e w' => e = .returned (.tuple #[.agg (writeE s p v).cells, .int .i64 ((accE s p : Nat) : Int)]) ∧ Below w.heap.size w w' := by
  have HA : accE s p = 0 := by unfold accE; rw [hm, if_pos rfl, if_neg (by omega)]
  have HV : writeE s p v = s := by unfold writeE; rw [if_pos HA]; unfold setE goE; rw [if_pos h2, if_neg (by omega), if_neg h4]
  rw [HV, HA]; clear HV HA
  have HC := hide (fun w => rcheck_any s w)
  rw [hm] at HC
  rw [show chkE true = 0 from rfl] at HC
  have t0 : decide ((255 : Int) < (p : Int)) = false := by simp; omega
  have t0n : decide (255 < p) = false := by simp; omega
  have t1n : (((p : Int) % 4) == 0) = true := by simp; omega
  have up0 : ((p : Int) == 0) = true := (castq p 0).trans (by simp; omega)
  have uv1 : ((v : Int) == 1) = false := (castq v 1).trans (by simp; omega)
  have uv2 : ((v : Int) == 2) = false := (castq v 2).trans (by simp; omega)
  have up8 : ((p : Int) == 8) = false := (castq p 8).trans (by simp; omega)
  have up16 : ((p : Int) == 16) = false := (castq p 16).trans (by simp; omega)
  clear h2 h3 h4 h1 h0
  go_enter Tryd.func12, Tryd.ntmps12
  go_wp2_with (first | ((with_reducible refine bx_er w.heap.size s ?_ ?_ ?_); exact rfl; exact rfl; intro W hr hb hz; have fx := hr.cell) | ((with_reducible refine al_er (w.heap.size + 1) ?_ ?_); exact hz.out; intro W hq hb' hz'; replace hr := hr.bl (hz.out ▸ hb'); replace fx := hr.cell; replace hb := hb.trans (hb'.mono (by omega)); replace hz := hz') | ((with_reducible refine ld_er w.heap.size _ hr ?_ ?_ ?_); exact rfl; exact rfl) | (go_at_call 15; (with_reducible refine (HC.out _).mono ?_); rintro e W ⟨rfl, hbc⟩; replace hr := hr.bl hbc; replace hq := hq.bl hbc; replace fx := hr.cell; replace hb := below_bl rfl hb hbc; clear hbc) | ((with_reducible refine st_er (w.heap.size + 1) _ s hq ?_ ?_ ?_); exact rfl; exact rfl; intro W hnew ho; replace hr := hr.only ho (by omega); replace hq := hnew; replace hb := ho.bel _ _ (by omega) hb))
  refine bodyPost_ret (results_cell_one Tryd.results12 _ _ (w.heap.size + 1) _ _ _ rfl hq Tryd.underlying24 rfl size_er) rfl ?_
  exact ⟨rfl, hb⟩

set_option maxHeartbeats 1000000 in
theorem xwrite_hd (s : E) (p v : Nat) (hm : mayE s = true) (h0 : p < 256) (h1 : p % 4 = 0) (h2 : p = 8) (h3 : s.cd ≠ 1) (w : World) :
    Calls Tryd.prog 12 #[.agg s.cells, .int .u32 (p : Nat), .int .u32 (v : Nat)] w fun e w' => e = .returned (.tuple #[.agg (writeE s p v).cells, .int .i64 ((accE s p : Nat) : Int)]) ∧ Below w.heap.size w w' := by
  have HA : accE s p = 0 := by unfold accE; rw [hm, if_pos rfl, if_neg (by omega)]
  have HV : writeE s p v = ({ s with hd := v } : E) := by unfold writeE; rw [if_pos HA]; unfold setE; rw [if_neg (by omega), if_pos h2, if_pos h3]
  rw [HV, HA]; clear HV HA
  have HC := hide (fun w => rcheck_any s w)
  rw [hm] at HC
  rw [show chkE true = 0 from rfl] at HC
  have t0 : decide ((255 : Int) < (p : Int)) = false := by simp; omega
  have t0n : decide (255 < p) = false := by simp; omega
  have t1n : (((p : Int) % 4) == 0) = true := by simp; omega
  have up0 : ((p : Int) == 0) = false := (castq p 0).trans (by simp; omega)
  have up8 : ((p : Int) == 8) = true := (castq p 8).trans (by simp; omega)
  have up16 : ((p : Int) == 16) = false := (castq p 16).trans (by simp; omega)
  have uscd1 : ((s.cd : Int) == 1) = false := (castq s.cd 1).trans (by simp; omega)
  clear h2 h3 h1 h0
  go_enter Tryd.func12, Tryd.ntmps12
  go_wp2_with (first | ((with_reducible refine bx_er w.heap.size s ?_ ?_ ?_); exact rfl; exact rfl; intro W hr hb hz; have fx := hr.cell) | ((with_reducible refine al_er (w.heap.size + 1) ?_ ?_); exact hz.out; intro W hq hb' hz'; replace hr := hr.bl (hz.out ▸ hb'); replace fx := hr.cell; replace hb := hb.trans (hb'.mono (by omega)); replace hz := hz') | ((with_reducible refine ld_er w.heap.size _ hr ?_ ?_ ?_); exact rfl; exact rfl) | (go_at_call 15; (with_reducible refine (HC.out _).mono ?_); rintro e W ⟨rfl, hbc⟩; replace hr := hr.bl hbc; replace hq := hq.bl hbc; replace fx := hr.cell; replace hb := below_bl rfl hb hbc; clear hbc) | ((with_reducible refine st_ehd w.heap.size _ v _ hr ?_ ?_ ?_); exact rfl; exact rfl; intro W hnew ho; replace hq := hq.only ho (by omega); replace hr := hnew; replace fx := hr.cell; replace hb := ho.bel _ _ (by omega) hb) | ((with_reducible refine st_er (w.heap.size + 1) _ ({ s with hd := v } : E) hq ?_ ?_ ?_); exact rfl; exact rfl; intro W hnew ho; replace hr := hr.only ho (by omega); replace hq := hnew; replace hb := ho.bel _ _ (by omega) hb))
  refine bodyPost_ret (results_cell_one Tryd.results12 _ _ (w.heap.size + 1) _ _ _ rfl hq Tryd.underlying24 rfl size_er) rfl ?_
  exact ⟨rfl, hb⟩

set_option maxHeartbeats 1000000 in
theorem xwrite_hdno (s : E) (p v : Nat) (hm : mayE s = true) (h0 : p < 256) (h1 : p % 4 = 0) (h2 : p = 8) (h3 : s.cd = 1) (w : World) :
    Calls Tryd.prog 12 #[.agg s.cells, .int .u32 (p : Nat), .int .u32 (v : Nat)] w fun e w' => e = .returned (.tuple #[.agg (writeE s p v).cells, .int .i64 ((accE s p : Nat) : Int)]) ∧ Below w.heap.size w w' := by
  have HA : accE s p = 0 := by unfold accE; rw [hm, if_pos rfl, if_neg (by omega)]
  have HV : writeE s p v = s := by unfold writeE; rw [if_pos HA]; unfold setE; rw [if_neg (by omega), if_pos h2, if_neg (by omega)]
  rw [HV, HA]; clear HV HA
  have HC := hide (fun w => rcheck_any s w)
  rw [hm] at HC
  rw [show chkE true = 0 from rfl] at HC
  have t0 : decide ((255 : Int) < (p : Int)) = false := by simp; omega
  have t0n : decide (255 < p) = false := by simp; omega
  have t1n : (((p : Int) % 4) == 0) = true := by simp; omega
  have up0 : ((p : Int) == 0) = false := (castq p 0).trans (by simp; omega)
  have up8 : ((p : Int) == 8) = true := (castq p 8).trans (by simp; omega)
  have up16 : ((p : Int) == 16) = false := (castq p 16).trans (by simp; omega)
  have uscd1 : ((s.cd : Int) == 1) = true := (castq s.cd 1).trans (by simp; omega)
  clear h2 h3 h1 h0
  go_enter Tryd.func12, Tryd.ntmps12
  go_wp2_with (first | ((with_reducible refine bx_er w.heap.size s ?_ ?_ ?_); exact rfl; exact rfl; intro W hr hb hz; have fx := hr.cell) | ((with_reducible refine al_er (w.heap.size + 1) ?_ ?_); exact hz.out; intro W hq hb' hz'; replace hr := hr.bl (hz.out ▸ hb'); replace fx := hr.cell; replace hb := hb.trans (hb'.mono (by omega)); replace hz := hz') | ((with_reducible refine ld_er w.heap.size _ hr ?_ ?_ ?_); exact rfl; exact rfl) | (go_at_call 15; (with_reducible refine (HC.out _).mono ?_); rintro e W ⟨rfl, hbc⟩; replace hr := hr.bl hbc; replace hq := hq.bl hbc; replace fx := hr.cell; replace hb := below_bl rfl hb hbc; clear hbc) | ((with_reducible refine st_er (w.heap.size + 1) _ s hq ?_ ?_ ?_); exact rfl; exact rfl; intro W hnew ho; replace hr := hr.only ho (by omega); replace hq := hnew; replace hb := ho.bel _ _ (by omega) hb))
  refine bodyPost_ret (results_cell_one Tryd.results12 _ _ (w.heap.size + 1) _ _ _ rfl hq Tryd.underlying24 rfl size_er) rfl ?_
  exact ⟨rfl, hb⟩

set_option maxHeartbeats 1000000 in
theorem xwrite_ak (s : E) (p v : Nat) (hm : mayE s = true) (h0 : p < 256) (h1 : p % 4 = 0) (h2 : p = 16) (h3 : v = 1) (w : World) :
    Calls Tryd.prog 12 #[.agg s.cells, .int .u32 (p : Nat), .int .u32 (v : Nat)] w fun e w' => e = .returned (.tuple #[.agg (writeE s p v).cells, .int .i64 ((accE s p : Nat) : Int)]) ∧ Below w.heap.size w w' := by
  have HA : accE s p = 0 := by unfold accE; rw [hm, if_pos rfl, if_neg (by omega)]
  have HV : writeE s p v = ({ s with ak := false } : E) := by unfold writeE; rw [if_pos HA]; unfold setE; rw [if_neg (by omega), if_neg (by omega), if_pos h2, if_pos h3]
  rw [HV, HA]; clear HV HA
  have HC := hide (fun w => rcheck_any s w)
  rw [hm] at HC
  rw [show chkE true = 0 from rfl] at HC
  have t0 : decide ((255 : Int) < (p : Int)) = false := by simp; omega
  have t0n : decide (255 < p) = false := by simp; omega
  have t1n : (((p : Int) % 4) == 0) = true := by simp; omega
  have up0 : ((p : Int) == 0) = false := (castq p 0).trans (by simp; omega)
  have up8 : ((p : Int) == 8) = false := (castq p 8).trans (by simp; omega)
  have up16 : ((p : Int) == 16) = true := (castq p 16).trans (by simp; omega)
  have uv1 : ((v : Int) == 1) = true := (castq v 1).trans (by simp; omega)
  clear h2 h3 h1 h0
  go_enter Tryd.func12, Tryd.ntmps12
  go_wp2_with (first | ((with_reducible refine bx_er w.heap.size s ?_ ?_ ?_); exact rfl; exact rfl; intro W hr hb hz; have fx := hr.cell) | ((with_reducible refine al_er (w.heap.size + 1) ?_ ?_); exact hz.out; intro W hq hb' hz'; replace hr := hr.bl (hz.out ▸ hb'); replace fx := hr.cell; replace hb := hb.trans (hb'.mono (by omega)); replace hz := hz') | ((with_reducible refine ld_er w.heap.size _ hr ?_ ?_ ?_); exact rfl; exact rfl) | (go_at_call 15; (with_reducible refine (HC.out _).mono ?_); rintro e W ⟨rfl, hbc⟩; replace hr := hr.bl hbc; replace hq := hq.bl hbc; replace fx := hr.cell; replace hb := below_bl rfl hb hbc; clear hbc) | ((with_reducible refine st_eak w.heap.size _ false _ hr ?_ ?_ ?_); exact rfl; exact rfl; intro W hnew ho; replace hq := hq.only ho (by omega); replace hr := hnew; replace fx := hr.cell; replace hb := ho.bel _ _ (by omega) hb) | ((with_reducible refine st_er (w.heap.size + 1) _ ({ s with ak := false } : E) hq ?_ ?_ ?_); exact rfl; exact rfl; intro W hnew ho; replace hr := hr.only ho (by omega); replace hq := hnew; replace hb := ho.bel _ _ (by omega) hb))
  refine bodyPost_ret (results_cell_one Tryd.results12 _ _ (w.heap.size + 1) _ _ _ rfl hq Tryd.underlying24 rfl size_er) rfl ?_
  exact ⟨rfl, hb⟩

set_option maxHeartbeats 1000000 in
theorem xwrite_akno (s : E) (p v : Nat) (hm : mayE s = true) (h0 : p < 256) (h1 : p % 4 = 0) (h2 : p = 16) (h3 : v ≠ 1) (w : World) :
    Calls Tryd.prog 12 #[.agg s.cells, .int .u32 (p : Nat), .int .u32 (v : Nat)] w fun e w' => e = .returned (.tuple #[.agg (writeE s p v).cells, .int .i64 ((accE s p : Nat) : Int)]) ∧ Below w.heap.size w w' := by
  have HA : accE s p = 0 := by unfold accE; rw [hm, if_pos rfl, if_neg (by omega)]
  have HV : writeE s p v = s := by unfold writeE; rw [if_pos HA]; unfold setE; rw [if_neg (by omega), if_neg (by omega), if_pos h2, if_neg h3]
  rw [HV, HA]; clear HV HA
  have HC := hide (fun w => rcheck_any s w)
  rw [hm] at HC
  rw [show chkE true = 0 from rfl] at HC
  have t0 : decide ((255 : Int) < (p : Int)) = false := by simp; omega
  have t0n : decide (255 < p) = false := by simp; omega
  have t1n : (((p : Int) % 4) == 0) = true := by simp; omega
  have up0 : ((p : Int) == 0) = false := (castq p 0).trans (by simp; omega)
  have up8 : ((p : Int) == 8) = false := (castq p 8).trans (by simp; omega)
  have up16 : ((p : Int) == 16) = true := (castq p 16).trans (by simp; omega)
  have uv1 : ((v : Int) == 1) = false := (castq v 1).trans (by simp; omega)
  clear h2 h3 h1 h0
  go_enter Tryd.func12, Tryd.ntmps12
  go_wp2_with (first | ((with_reducible refine bx_er w.heap.size s ?_ ?_ ?_); exact rfl; exact rfl; intro W hr hb hz; have fx := hr.cell) | ((with_reducible refine al_er (w.heap.size + 1) ?_ ?_); exact hz.out; intro W hq hb' hz'; replace hr := hr.bl (hz.out ▸ hb'); replace fx := hr.cell; replace hb := hb.trans (hb'.mono (by omega)); replace hz := hz') | ((with_reducible refine ld_er w.heap.size _ hr ?_ ?_ ?_); exact rfl; exact rfl) | (go_at_call 15; (with_reducible refine (HC.out _).mono ?_); rintro e W ⟨rfl, hbc⟩; replace hr := hr.bl hbc; replace hq := hq.bl hbc; replace fx := hr.cell; replace hb := below_bl rfl hb hbc; clear hbc) | ((with_reducible refine st_er (w.heap.size + 1) _ s hq ?_ ?_ ?_); exact rfl; exact rfl; intro W hnew ho; replace hr := hr.only ho (by omega); replace hq := hnew; replace hb := ho.bel _ _ (by omega) hb))
  refine bodyPost_ret (results_cell_one Tryd.results12 _ _ (w.heap.size + 1) _ _ _ rfl hq Tryd.underlying24 rfl size_er) rfl ?_
  exact ⟨rfl, hb⟩

set_option maxHeartbeats 1000000 in
theorem xwrite_else (s : E) (p v : Nat) (hm : mayE s = true) (h0 : p < 256) (h1 : p % 4 = 0) (h2 : p ≠ 0 ∧ p ≠ 8 ∧ p ≠ 16) (w : World) :
    Calls Tryd.prog 12 #[.agg s.cells, .int .u32 (p : Nat), .int .u32 (v : Nat)] w fun e w' => e = .returned (.tuple #[.agg (writeE s p v).cells, .int .i64 ((accE s p : Nat) : Int)]) ∧ Below w.heap.size w w' := by
  have HA : accE s p = 0 := by unfold accE; rw [hm, if_pos rfl, if_neg (by omega)]
  have HV : writeE s p v = s := by unfold writeE; rw [if_pos HA]; unfold setE; rw [if_neg (by omega), if_neg (by omega), if_neg (by omega)]
  rw [HV, HA]; clear HV HA
  have HC := hide (fun w => rcheck_any s w)
  rw [hm] at HC
  rw [show chkE true = 0 from rfl] at HC
  have t0 : decide ((255 : Int) < (p : Int)) = false := by simp; omega
  have t0n : decide (255 < p) = false := by simp; omega
  have t1n : (((p : Int) % 4) == 0) = true := by simp; omega
  have up0 : ((p : Int) == 0) = false := (castq p 0).trans (by simp; omega)
  have up8 : ((p : Int) == 8) = false := (castq p 8).trans (by simp; omega)
  have up16 : ((p : Int) == 16) = false := (castq p 16).trans (by simp; omega)
  clear h2 h1 h0
  go_enter Tryd.func12, Tryd.ntmps12
  go_wp2_with (first | ((with_reducible refine bx_er w.heap.size s ?_ ?_ ?_); exact rfl; exact rfl; intro W hr hb hz; have fx := hr.cell) | ((with_reducible refine al_er (w.heap.size + 1) ?_ ?_); exact hz.out; intro W hq hb' hz'; replace hr := hr.bl (hz.out ▸ hb'); replace fx := hr.cell; replace hb := hb.trans (hb'.mono (by omega)); replace hz := hz') | ((with_reducible refine ld_er w.heap.size _ hr ?_ ?_ ?_); exact rfl; exact rfl) | (go_at_call 15; (with_reducible refine (HC.out _).mono ?_); rintro e W ⟨rfl, hbc⟩; replace hr := hr.bl hbc; replace hq := hq.bl hbc; replace fx := hr.cell; replace hb := below_bl rfl hb hbc; clear hbc) | ((with_reducible refine st_er (w.heap.size + 1) _ s hq ?_ ?_ ?_); exact rfl; exact rfl; intro W hnew ho; replace hr := hr.only ho (by omega); replace hq := hnew; replace hb := ho.bel _ _ (by omega) hb))
  refine bodyPost_ret (results_cell_one Tryd.results12 _ _ (w.heap.size + 1) _ _ _ rfl hq Tryd.underlying24 rfl size_er) rfl ?_
  exact ⟨rfl, hb⟩

theorem rwrite_any12 (s : E) (p v : Nat) (w : World) :
    Calls Tryd.prog 12 #[.agg s.cells, .int .u32 (p : Nat), .int .u32 (v : Nat)] w fun e w' => e = .returned (.tuple #[.agg (writeE s p v).cells, .int .i64 ((accE s p : Nat) : Int)]) ∧ Below w.heap.size w w' := by
  cases hm : mayE s with
  | false => exact xwrite_no s p v hm w
  | true =>
    by_cases h0 : 256 ≤ p
    · exact xwrite_far s p v hm h0 w
    by_cases h1 : p % 4 = 0
    · by_cases h2 : p = 0
      · by_cases h3 : v = 1
        · by_cases h4 : s.cd = 1
          · exact xwrite_go1 s p v hm (by omega) h1 h2 h3 h4 w
          · exact xwrite_go s p v hm (by omega) h1 h2 h3 h4 w
        · by_cases h4 : v = 2
          · exact xwrite_stop s p v hm (by omega) h1 h2 h4 w
          · exact xwrite_zno s p v hm (by omega) h1 h2 h3 h4 w
      · by_cases h5 : p = 8
        · by_cases h4 : s.cd = 1
          · exact xwrite_hdno s p v hm (by omega) h1 h5 h4 w
          · exact xwrite_hd s p v hm (by omega) h1 h5 h4 w
        · by_cases h6 : p = 16
          · by_cases h3 : v = 1
            · exact xwrite_ak s p v hm (by omega) h1 h6 h3 w
            · exact xwrite_akno s p v hm (by omega) h1 h6 h3 w
          · exact xwrite_else s p v hm (by omega) h1 ⟨h2, h5, h6⟩ w
    · exact xwrite_odd s p v hm (by omega) h1 w
end Go.Proofs.YtalcgipcephnnaaDoor
