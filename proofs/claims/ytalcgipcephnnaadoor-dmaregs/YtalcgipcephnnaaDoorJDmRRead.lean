/-
  What the document's Read and Write answer.
-/
import Derived.Test.YtalcgipcephnnaaDoorJDmRCheck
import Derived.Test.YtalcgipcephnnaaDoorJDmReg
namespace Go.Proofs.YtalcgipcephnnaaDoor
open Go.RowKit
set_option linter.unusedVariables false
set_option linter.unusedSimpArgs false

attribute [local go_sem] E.at0 E.at1 E.at2 E.at3 E.at4 E.at5 E.at6 E.at7 E.at8 E.at9 E.at10
set_option maxHeartbeats 1000000 in
theorem rread_no (s : E) (p : Nat) (hm : mayE s = false) (w : World) :
    Calls Tryd.prog 10 #[.agg s.cells, .int .u32 (p : Nat)] w fun e w' => e = .returned (.tuple #[.int .u32 (readE s p : Nat), .int .i64 ((accE s p : Nat) : Int)]) ∧ Below w.heap.size w w' := by
  have HA : accE s p = 1 := by unfold accE; rw [hm]; rfl
  have HV : readE s p = 0 := by unfold readE; rw [if_neg (by rw [HA]; decide)]
  rw [HV, HA]; clear HV HA
  have HC := hide (fun w => rcheck_any s w)
  rw [hm] at HC
  rw [show chkE false = 1 from rfl] at HC
  go_enter Tryd.func10, Tryd.ntmps10
  go_wp2_with (first | ((with_reducible refine bx_er w.heap.size s ?_ ?_ ?_); exact rfl; exact rfl; intro W hr hb hz; have fx := hr.cell) | ((with_reducible refine ld_er w.heap.size _ hr ?_ ?_ ?_); exact rfl; exact rfl) | (go_at_call 15; (with_reducible refine (HC.out _).mono ?_); rintro e W ⟨rfl, hbc⟩; replace hr := hr.bl hbc; replace fx := hr.cell; have fa := (fun (o : Obj) (j : Nat) => (hr.al o).cell j); have fb := (fun (o : Obj) (v : Value) (j k : Nat) => ((hr.al o).far (show w.heap.size ≠ W.heap.size from Nat.ne_of_lt hr.lt) k v).cell j); replace hb := below_bl rfl hb hbc; clear hbc))
  go_ret2
  exact ⟨rfl, hb⟩

set_option maxHeartbeats 1000000 in
theorem rread_far (s : E) (p : Nat) (hm : mayE s = true) (h0 : 256 ≤ p) (w : World) :
    Calls Tryd.prog 10 #[.agg s.cells, .int .u32 (p : Nat)] w fun e w' => e = .returned (.tuple #[.int .u32 (readE s p : Nat), .int .i64 ((accE s p : Nat) : Int)]) ∧ Below w.heap.size w w' := by
  have HA : accE s p = 20 := by unfold accE; rw [hm, if_pos rfl, if_pos (Or.inl h0)]
  have HV : readE s p = 0 := by unfold readE; rw [if_neg (by rw [HA]; decide)]
  rw [HV, HA]; clear HV HA
  have HC := hide (fun w => rcheck_any s w)
  rw [hm] at HC
  rw [show chkE true = 0 from rfl] at HC
  have t0 : (255 : Int) < (p : Int) := by omega
  go_enter Tryd.func10, Tryd.ntmps10
  go_wp2_with (first | ((with_reducible refine bx_er w.heap.size s ?_ ?_ ?_); exact rfl; exact rfl; intro W hr hb hz; have fx := hr.cell) | ((with_reducible refine ld_er w.heap.size _ hr ?_ ?_ ?_); exact rfl; exact rfl) | (go_at_call 15; (with_reducible refine (HC.out _).mono ?_); rintro e W ⟨rfl, hbc⟩; replace hr := hr.bl hbc; replace fx := hr.cell; have fa := (fun (o : Obj) (j : Nat) => (hr.al o).cell j); have fb := (fun (o : Obj) (v : Value) (j k : Nat) => ((hr.al o).far (show w.heap.size ≠ W.heap.size from Nat.ne_of_lt hr.lt) k v).cell j); replace hb := below_bl rfl hb hbc; clear hbc))
  go_ret2
  exact ⟨rfl, hb⟩

set_option maxHeartbeats 1000000 in
theorem rread_odd (s : E) (p : Nat) (hm : mayE s = true) (h0 : p < 256) (h1 : p % 4 ≠ 0) (w : World) :
    Calls Tryd.prog 10 #[.agg s.cells, .int .u32 (p : Nat)] w fun e w' => e = .returned (.tuple #[.int .u32 (readE s p : Nat), .int .i64 ((accE s p : Nat) : Int)]) ∧ Below w.heap.size w w' := by
  have HA : accE s p = 20 := by unfold accE; rw [hm, if_pos rfl, if_pos (Or.inr h1)]
  have HV : readE s p = 0 := by unfold readE; rw [if_neg (by rw [HA]; decide)]
  rw [HV, HA]; clear HV HA
  have HC := hide (fun w => rcheck_any s w)
  rw [hm] at HC
  rw [show chkE true = 0 from rfl] at HC
  have t0 : decide ((255 : Int) < (p : Int)) = false := by simp; omega
  have t0n : decide (255 < p) = false := by simp; omega
  have t1n : (((p : Int) % 4) == 0) = false := by simp; omega
  go_enter Tryd.func10, Tryd.ntmps10
  go_wp2_with (first | ((with_reducible refine bx_er w.heap.size s ?_ ?_ ?_); exact rfl; exact rfl; intro W hr hb hz; have fx := hr.cell) | ((with_reducible refine ld_er w.heap.size _ hr ?_ ?_ ?_); exact rfl; exact rfl) | (go_at_call 15; (with_reducible refine (HC.out _).mono ?_); rintro e W ⟨rfl, hbc⟩; replace hr := hr.bl hbc; replace fx := hr.cell; have fa := (fun (o : Obj) (j : Nat) => (hr.al o).cell j); have fb := (fun (o : Obj) (v : Value) (j k : Nat) => ((hr.al o).far (show w.heap.size ≠ W.heap.size from Nat.ne_of_lt hr.lt) k v).cell j); replace hb := below_bl rfl hb hbc; clear hbc))
  go_ret2
  exact ⟨rfl, hb⟩

set_option maxHeartbeats 1000000 in
theorem rread_high (s : E) (p : Nat) (hm : mayE s = true) (h0 : p < 256) (h1 : p % 4 = 0) (h2 : 20 ≤ p) (w : World) :
    Calls Tryd.prog 10 #[.agg s.cells, .int .u32 (p : Nat)] w fun e w' => e = .returned (.tuple #[.int .u32 (readE s p : Nat), .int .i64 ((accE s p : Nat) : Int)]) ∧ Below w.heap.size w w' := by
  have HA : accE s p = 0 := by unfold accE; rw [hm, if_pos rfl, if_neg (by omega)]
  have HV : readE s p = 0 := by unfold readE; rw [if_pos HA]; unfold regE; rw [if_neg (by omega), if_neg (by omega), if_neg (by omega), if_neg (by omega), if_neg (by omega)]
  rw [HV, HA]; clear HV HA
  have HC := hide (fun w => rcheck_any s w)
  rw [hm] at HC
  rw [show chkE true = 0 from rfl] at HC
  have t0 : decide ((255 : Int) < (p : Int)) = false := by simp; omega
  have t0n : decide (255 < p) = false := by simp; omega
  have t1n : (((p : Int) % 4) == 0) = true := by simp; omega
  have d1 : decide ((p : Int) / 4 < 5) = false := by simp; omega
  have tb : ((s.cd : Int) == 1) = (s.cd == 1) := castq s.cd 1
  obtain ⟨q1, hq1⟩ : ∃ b, (s.cd == 1) = b := ⟨_, rfl⟩
  obtain ⟨q2, hq2⟩ : ∃ b, s.ak = b := ⟨_, rfl⟩
  rw [hq1] at tb
  cases q1 <;> cases q2
  all_goals
    go_enter Tryd.func10, Tryd.ntmps10
    go_wp2_with (first | ((with_reducible refine bx_er w.heap.size s ?_ ?_ ?_); exact rfl; exact rfl; intro W hr hb hz; have fx := hr.cell) | ((with_reducible refine ld_er w.heap.size _ hr ?_ ?_ ?_); exact rfl; exact rfl) | (go_at_call 15; (with_reducible refine (HC.out _).mono ?_); rintro e W ⟨rfl, hbc⟩; replace hr := hr.bl hbc; replace fx := hr.cell; have fa := (fun (o : Obj) (j : Nat) => (hr.al o).cell j); have fb := (fun (o : Obj) (v : Value) (j k : Nat) => ((hr.al o).far (show w.heap.size ≠ W.heap.size from Nat.ne_of_lt hr.lt) k v).cell j); replace hb := below_bl rfl hb hbc; clear hbc))
    go_ret2
    exact ⟨rfl, by first | exact hb.alloc hb.size _ | exact (hb.alloc hb.size _).setCell (p := ⟨_, _, none⟩) hb.size _ | exact ((hb.alloc hb.size _).setCell (p := ⟨_, _, none⟩) hb.size _).setCell (p := ⟨_, _, none⟩) hb.size _⟩

set_option maxHeartbeats 1000000 in
theorem rread_r0 (s : E) (p : Nat) (hm : mayE s = true) (h2 : p = 0) (w : World) :
    Calls Tryd.prog 10 #[.agg s.cells, .int .u32 (p : Nat)] w fun e w' => e = .returned (.tuple #[.int .u32 (readE s p : Nat), .int .i64 ((accE s p : Nat) : Int)]) ∧ Below w.heap.size w w' := by
  subst h2
  have HA : accE s 0 = 0 := by unfold accE; rw [hm, if_pos rfl]; rfl
  have HV : readE s 0 = b2n (s.cd == 1) := by unfold readE; rw [if_pos HA]; rfl
  rw [HV, HA]; clear HV HA
  have HC := hide (fun w => rcheck_any s w)
  rw [hm] at HC
  rw [show chkE true = 0 from rfl] at HC
  have tb : ((s.cd : Int) == 1) = (s.cd == 1) := castq s.cd 1
  obtain ⟨q1, hq1⟩ : ∃ b, (s.cd == 1) = b := ⟨_, rfl⟩
  obtain ⟨q2, hq2⟩ : ∃ b, s.ak = b := ⟨_, rfl⟩
  rw [hq1] at tb
  rw [hq1]
  cases q1 <;> cases q2
  all_goals
    go_enter Tryd.func10, Tryd.ntmps10
    go_wp2_with (first | ((with_reducible refine bx_er w.heap.size s ?_ ?_ ?_); exact rfl; exact rfl; intro W hr hb hz; have fx := hr.cell) | ((with_reducible refine ld_er w.heap.size _ hr ?_ ?_ ?_); exact rfl; exact rfl) | (go_at_call 15; (with_reducible refine (HC.out _).mono ?_); rintro e W ⟨rfl, hbc⟩; replace hr := hr.bl hbc; replace fx := hr.cell; have fa := (fun (o : Obj) (j : Nat) => (hr.al o).cell j); have fb := (fun (o : Obj) (v : Value) (j k : Nat) => ((hr.al o).far (show w.heap.size ≠ W.heap.size from Nat.ne_of_lt hr.lt) k v).cell j); replace hb := below_bl rfl hb hbc; clear hbc))
    go_ret2
    exact ⟨rfl, by first | exact hb.alloc hb.size _ | exact (hb.alloc hb.size _).setCell (p := ⟨_, _, none⟩) hb.size _ | exact ((hb.alloc hb.size _).setCell (p := ⟨_, _, none⟩) hb.size _).setCell (p := ⟨_, _, none⟩) hb.size _⟩

set_option maxHeartbeats 1000000 in
theorem rread_r1 (s : E) (p : Nat) (hm : mayE s = true) (h2 : p = 4) (w : World) :
    Calls Tryd.prog 10 #[.agg s.cells, .int .u32 (p : Nat)] w fun e w' => e = .returned (.tuple #[.int .u32 (readE s p : Nat), .int .i64 ((accE s p : Nat) : Int)]) ∧ Below w.heap.size w w' := by
  subst h2
  have HA : accE s 4 = 0 := by unfold accE; rw [hm, if_pos rfl]; rfl
  have HV : readE s 4 = s.cd := by unfold readE; rw [if_pos HA]; rfl
  rw [HV, HA]; clear HV HA
  have HC := hide (fun w => rcheck_any s w)
  rw [hm] at HC
  rw [show chkE true = 0 from rfl] at HC
  have tb : ((s.cd : Int) == 1) = (s.cd == 1) := castq s.cd 1
  obtain ⟨q1, hq1⟩ : ∃ b, (s.cd == 1) = b := ⟨_, rfl⟩
  obtain ⟨q2, hq2⟩ : ∃ b, s.ak = b := ⟨_, rfl⟩
  rw [hq1] at tb
  cases q1 <;> cases q2
  all_goals
    go_enter Tryd.func10, Tryd.ntmps10
    go_wp2_with (first | ((with_reducible refine bx_er w.heap.size s ?_ ?_ ?_); exact rfl; exact rfl; intro W hr hb hz; have fx := hr.cell) | ((with_reducible refine ld_er w.heap.size _ hr ?_ ?_ ?_); exact rfl; exact rfl) | (go_at_call 15; (with_reducible refine (HC.out _).mono ?_); rintro e W ⟨rfl, hbc⟩; replace hr := hr.bl hbc; replace fx := hr.cell; have fa := (fun (o : Obj) (j : Nat) => (hr.al o).cell j); have fb := (fun (o : Obj) (v : Value) (j k : Nat) => ((hr.al o).far (show w.heap.size ≠ W.heap.size from Nat.ne_of_lt hr.lt) k v).cell j); replace hb := below_bl rfl hb hbc; clear hbc))
    go_ret2
    exact ⟨rfl, by first | exact hb.alloc hb.size _ | exact (hb.alloc hb.size _).setCell (p := ⟨_, _, none⟩) hb.size _ | exact ((hb.alloc hb.size _).setCell (p := ⟨_, _, none⟩) hb.size _).setCell (p := ⟨_, _, none⟩) hb.size _⟩

set_option maxHeartbeats 1000000 in
theorem rread_r2 (s : E) (p : Nat) (hm : mayE s = true) (h2 : p = 8) (w : World) :
    Calls Tryd.prog 10 #[.agg s.cells, .int .u32 (p : Nat)] w fun e w' => e = .returned (.tuple #[.int .u32 (readE s p : Nat), .int .i64 ((accE s p : Nat) : Int)]) ∧ Below w.heap.size w w' := by
  subst h2
  have HA : accE s 8 = 0 := by unfold accE; rw [hm, if_pos rfl]; rfl
  have HV : readE s 8 = s.hd := by unfold readE; rw [if_pos HA]; rfl
  rw [HV, HA]; clear HV HA
  have HC := hide (fun w => rcheck_any s w)
  rw [hm] at HC
  rw [show chkE true = 0 from rfl] at HC
  have tb : ((s.cd : Int) == 1) = (s.cd == 1) := castq s.cd 1
  obtain ⟨q1, hq1⟩ : ∃ b, (s.cd == 1) = b := ⟨_, rfl⟩
  obtain ⟨q2, hq2⟩ : ∃ b, s.ak = b := ⟨_, rfl⟩
  rw [hq1] at tb
  cases q1 <;> cases q2
  all_goals
    go_enter Tryd.func10, Tryd.ntmps10
    go_wp2_with (first | ((with_reducible refine bx_er w.heap.size s ?_ ?_ ?_); exact rfl; exact rfl; intro W hr hb hz; have fx := hr.cell) | ((with_reducible refine ld_er w.heap.size _ hr ?_ ?_ ?_); exact rfl; exact rfl) | (go_at_call 15; (with_reducible refine (HC.out _).mono ?_); rintro e W ⟨rfl, hbc⟩; replace hr := hr.bl hbc; replace fx := hr.cell; have fa := (fun (o : Obj) (j : Nat) => (hr.al o).cell j); have fb := (fun (o : Obj) (v : Value) (j k : Nat) => ((hr.al o).far (show w.heap.size ≠ W.heap.size from Nat.ne_of_lt hr.lt) k v).cell j); replace hb := below_bl rfl hb hbc; clear hbc))
    go_ret2
    exact ⟨rfl, by first | exact hb.alloc hb.size _ | exact (hb.alloc hb.size _).setCell (p := ⟨_, _, none⟩) hb.size _ | exact ((hb.alloc hb.size _).setCell (p := ⟨_, _, none⟩) hb.size _).setCell (p := ⟨_, _, none⟩) hb.size _⟩

set_option maxHeartbeats 1000000 in
theorem rread_r3 (s : E) (p : Nat) (hm : mayE s = true) (h2 : p = 12) (w : World) :
    Calls Tryd.prog 10 #[.agg s.cells, .int .u32 (p : Nat)] w fun e w' => e = .returned (.tuple #[.int .u32 (readE s p : Nat), .int .i64 ((accE s p : Nat) : Int)]) ∧ Below w.heap.size w w' := by
  subst h2
  have HA : accE s 12 = 0 := by unfold accE; rw [hm, if_pos rfl]; rfl
  have HV : readE s 12 = s.mv := by unfold readE; rw [if_pos HA]; rfl
  rw [HV, HA]; clear HV HA
  have HC := hide (fun w => rcheck_any s w)
  rw [hm] at HC
  rw [show chkE true = 0 from rfl] at HC
  have tb : ((s.cd : Int) == 1) = (s.cd == 1) := castq s.cd 1
  obtain ⟨q1, hq1⟩ : ∃ b, (s.cd == 1) = b := ⟨_, rfl⟩
  obtain ⟨q2, hq2⟩ : ∃ b, s.ak = b := ⟨_, rfl⟩
  rw [hq1] at tb
  cases q1 <;> cases q2
  all_goals
    go_enter Tryd.func10, Tryd.ntmps10
    go_wp2_with (first | ((with_reducible refine bx_er w.heap.size s ?_ ?_ ?_); exact rfl; exact rfl; intro W hr hb hz; have fx := hr.cell) | ((with_reducible refine ld_er w.heap.size _ hr ?_ ?_ ?_); exact rfl; exact rfl) | (go_at_call 15; (with_reducible refine (HC.out _).mono ?_); rintro e W ⟨rfl, hbc⟩; replace hr := hr.bl hbc; replace fx := hr.cell; have fa := (fun (o : Obj) (j : Nat) => (hr.al o).cell j); have fb := (fun (o : Obj) (v : Value) (j k : Nat) => ((hr.al o).far (show w.heap.size ≠ W.heap.size from Nat.ne_of_lt hr.lt) k v).cell j); replace hb := below_bl rfl hb hbc; clear hbc))
    go_ret2
    exact ⟨rfl, by first | exact hb.alloc hb.size _ | exact (hb.alloc hb.size _).setCell (p := ⟨_, _, none⟩) hb.size _ | exact ((hb.alloc hb.size _).setCell (p := ⟨_, _, none⟩) hb.size _).setCell (p := ⟨_, _, none⟩) hb.size _⟩

set_option maxHeartbeats 1000000 in
theorem rread_r4 (s : E) (p : Nat) (hm : mayE s = true) (h2 : p = 16) (w : World) :
    Calls Tryd.prog 10 #[.agg s.cells, .int .u32 (p : Nat)] w fun e w' => e = .returned (.tuple #[.int .u32 (readE s p : Nat), .int .i64 ((accE s p : Nat) : Int)]) ∧ Below w.heap.size w w' := by
  subst h2
  have HA : accE s 16 = 0 := by unfold accE; rw [hm, if_pos rfl]; rfl
  have HV : readE s 16 = b2n s.ak := by unfold readE; rw [if_pos HA]; rfl
  rw [HV, HA]; clear HV HA
  have HC := hide (fun w => rcheck_any s w)
  rw [hm] at HC
  rw [show chkE true = 0 from rfl] at HC
  have tb : ((s.cd : Int) == 1) = (s.cd == 1) := castq s.cd 1
  obtain ⟨q1, hq1⟩ : ∃ b, (s.cd == 1) = b := ⟨_, rfl⟩
  obtain ⟨q2, hq2⟩ : ∃ b, s.ak = b := ⟨_, rfl⟩
  rw [hq1] at tb
  rw [hq2]
  cases q1 <;> cases q2
  all_goals
    go_enter Tryd.func10, Tryd.ntmps10
    go_wp2_with (first | ((with_reducible refine bx_er w.heap.size s ?_ ?_ ?_); exact rfl; exact rfl; intro W hr hb hz; have fx := hr.cell) | ((with_reducible refine ld_er w.heap.size _ hr ?_ ?_ ?_); exact rfl; exact rfl) | (go_at_call 15; (with_reducible refine (HC.out _).mono ?_); rintro e W ⟨rfl, hbc⟩; replace hr := hr.bl hbc; replace fx := hr.cell; have fa := (fun (o : Obj) (j : Nat) => (hr.al o).cell j); have fb := (fun (o : Obj) (v : Value) (j k : Nat) => ((hr.al o).far (show w.heap.size ≠ W.heap.size from Nat.ne_of_lt hr.lt) k v).cell j); replace hb := below_bl rfl hb hbc; clear hbc))
    go_ret2
    exact ⟨rfl, by first | exact hb.alloc hb.size _ | exact (hb.alloc hb.size _).setCell (p := ⟨_, _, none⟩) hb.size _ | exact ((hb.alloc hb.size _).setCell (p := ⟨_, _, none⟩) hb.size _).setCell (p := ⟨_, _, none⟩) hb.size _⟩

theorem rread_any12 (s : E) (p : Nat) (w : World) :
    Calls Tryd.prog 10 #[.agg s.cells, .int .u32 (p : Nat)] w fun e w' => e = .returned (.tuple #[.int .u32 (readE s p : Nat), .int .i64 ((accE s p : Nat) : Int)]) ∧ Below w.heap.size w w' := by
  cases hm : mayE s with
  | false => exact rread_no s p hm w
  | true =>
    by_cases h0 : 256 ≤ p
    · exact rread_far s p hm h0 w
    by_cases h1 : p % 4 = 0
    · by_cases h2 : 20 ≤ p
      · exact rread_high s p hm (by omega) h1 h2 w
      · obtain e | e | e | e | e : p = 0 ∨ p = 4 ∨ p = 8 ∨ p = 12 ∨ p = 16 := by omega
        · exact rread_r0 s p hm e w
        · exact rread_r1 s p hm e w
        · exact rread_r2 s p hm e w
        · exact rread_r3 s p hm e w
        · exact rread_r4 s p hm e w
    · exact rread_odd s p hm (by omega) h1 w
end Go.Proofs.YtalcgipcephnnaaDoor
