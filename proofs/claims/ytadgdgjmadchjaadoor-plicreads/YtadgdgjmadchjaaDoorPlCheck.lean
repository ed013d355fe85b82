/-
  What plic.Check answers.
-/
import Derived.Test.YtadgdgjmadchjaaDoorPlRead
namespace Go.Proofs.YtadgdgjmadchjaaDoor
open Go.RowKit
set_option linter.unusedVariables false

set_option maxHeartbeats 400000 in
theorem big_any (v : Nat) (w : World) :
    Calls Tryd.prog 19 #[.int .u32 (v : Nat)] w fun e w' => e = .returned (.bool (decide (7 < v))) ∧ w' = w := by
  by_cases h : 7 < v
  · have t0 : (v : Int) > 7 := by omega
    rw [decide_eq_true h]; clear h
    go_enter Tryd.func19, Tryd.ntmps19
    go_wp2
    go_ret
    exact ⟨rfl, rfl⟩
  · have t0 : decide ((v : Int) > 7) = false := by simp; omega
    have t1 : decide ((7 : Int) < (v : Int)) = false := by simp; omega
    rw [decide_eq_false h]; clear h
    go_enter Tryd.func19, Tryd.ntmps19
    go_wp2
    go_ret
    exact ⟨rfl, rfl⟩
set_option maxHeartbeats 1000000 in
theorem index_pr (s : P5) (g : Nat) (w : World) (hr : RowAt w g s.cells 26) :
    Calls Tryd.prog 30 #[.slice (some ⟨g, 0, none⟩) 8 8, .func (.func 19) #[] #[]] w fun e w' => (∃ z : Int, e = .returned (.int .i64 z) ∧ decide (0 ≤ z) = !smallP s) ∧ w' = w := by
  have HR := hide hr
  clear hr
  go_enter Tryd.func30, Tryd.ntmps30
  go_wp2
  go_loop [8] (fun iv => ∃ k : Nat, iv = .int .i64 (k : Int) ∧ k ≤ 8 ∧ ∀ i, i < k → s.pr i ≤ 7) (fun iv => 8 - (intOf iv).toNat)
  case atStart => exact ⟨0, rfl, by omega, fun i h => absurd h (by omega)⟩
  case round =>
    obtain ⟨k, rfl, hk, hno⟩ := hrel
    have HN := hide hno
    clear hno
    by_cases hlt : k < 8
    · have cn := (HR.out.cell k).trans (s.cell_pr k hlt)
      have HB := hide (fun w => big_any (s.pr k) w)
      by_cases h7 : 7 < s.pr k
      · rw [decide_eq_true h7] at HB
        go_wp2_with (go_at_call 19; refine (HB.out _).mono ?_; rintro e w2 ⟨rfl, rfl⟩)
        go_ret
        refine ⟨⟨_, rfl, ?_⟩, rfl⟩
        have : smallP s = false := by
          rw [Bool.eq_false_iff]
          intro h
          have := (smallP_iff s).1 h k hlt
          omega
        rw [this]; simp
      · rw [decide_eq_false h7] at HB
        go_wp2_with (go_at_call 19; refine (HB.out _).mono ?_; rintro e w2 ⟨rfl, rfl⟩)
        go_round
        case rel => exact ⟨k + 1, by go_num, by omega, fun i hi => by (by_cases e : i = k; (subst e; omega); exact HN.out i (by omega))⟩
        case measure => simp [intOf]; omega
    · obtain rfl : k = 8 := by omega
      go_wp2
      go_ret
      refine ⟨⟨_, rfl, ?_⟩, rfl⟩
      rw [(smallP_iff s).2 HN.out]; rfl
set_option maxHeartbeats 400000 in
theorem contains_pr (s : P5) (g : Nat) (w : World) (hr : RowAt w g s.cells 26) :
    Calls Tryd.prog 20 #[.slice (some ⟨g, 0, none⟩) 8 8, .func (.func 19) #[] #[]] w fun e w' => e = .returned (.bool (!smallP s)) ∧ w' = w := by
  have HI := hide (index_pr s g w hr)
  clear hr
  generalize smallP s = b at *
  go_enter Tryd.func20, Tryd.ntmps20
  go_wp2_with (go_at_call 30; refine HI.out.mono ?_; rintro e w1 ⟨⟨z, rfl, hz⟩, rfl⟩)
  go_ret
  refine ⟨?_, rfl⟩
  first | rfl | (rw [← hz])
set_option maxHeartbeats 1000000 in
theorem check_p0 (s : P5) (hs : s.Ok) (h0 : ¬ s.pr 0 = 0) (w : World) :
    Calls Tryd.prog 8 #[.agg s.cells] w fun e w' => e = .returned (errP (1)) ∧ Below w.heap.size w w' := by
  have HT := hide (fun w => big_any s.th w)
  have t0 : (((s.pr 0 : Nat) : Int) != 0) = true := by simp; omega
  clear h0
  go_enter Tryd.func8, Tryd.ntmps8
  go_wp2_with (first | ((with_reducible refine bx_p w.heap.size s ?_ ?_ ?_); exact rfl; exact rfl; intro W hr hb hz; have HR := hide hr; have f0 := (hr.cell 0).trans (P5.at0 s); have f8 := (hr.cell 8).trans (P5.at8 s); have f9 := (hr.cell 9).trans (P5.at9 s); have f10 := (hr.cell 10).trans (P5.at10 s); have f11 := (hr.cell 11).trans (P5.at11 s); replace hb := hide hb; clear hr) | (go_at_call 19; refine (HT.out _).mono ?_; rintro e W2 ⟨rfl, rfl⟩))
  go_ret
  exact ⟨rfl, hb.out⟩

set_option maxHeartbeats 1000000 in
theorem check_th (s : P5) (hs : s.Ok) (h0 : s.pr 0 = 0) (h1 : 7 < s.th) (w : World) :
    Calls Tryd.prog 8 #[.agg s.cells] w fun e w' => e = .returned (errP (1)) ∧ Below w.heap.size w w' := by
  have HT := hide (fun w => big_any s.th w)
  have t0 : (((s.pr 0 : Nat) : Int) != 0) = false := by simp; omega
  rw [decide_eq_true h1] at HT
  clear h0 h1
  go_enter Tryd.func8, Tryd.ntmps8
  go_wp2_with (first | ((with_reducible refine bx_p w.heap.size s ?_ ?_ ?_); exact rfl; exact rfl; intro W hr hb hz; have HR := hide hr; have f0 := (hr.cell 0).trans (P5.at0 s); have f8 := (hr.cell 8).trans (P5.at8 s); have f9 := (hr.cell 9).trans (P5.at9 s); have f10 := (hr.cell 10).trans (P5.at10 s); have f11 := (hr.cell 11).trans (P5.at11 s); replace hb := hide hb; clear hr) | (go_at_call 19; refine (HT.out _).mono ?_; rintro e W2 ⟨rfl, rfl⟩))
  go_ret
  exact ⟨rfl, hb.out⟩

set_option maxHeartbeats 1000000 in
theorem check_sm (s : P5) (hs : s.Ok) (h0 : s.pr 0 = 0) (h1 : ¬ 7 < s.th) (h2 : smallP s = false) (w : World) :
    Calls Tryd.prog 8 #[.agg s.cells] w fun e w' => e = .returned (errP (1)) ∧ Below w.heap.size w w' := by
  have HT := hide (fun w => big_any s.th w)
  have HCn := hide (fun g w h => contains_pr s g w h)
  have t0 : (((s.pr 0 : Nat) : Int) != 0) = false := by simp; omega
  rw [decide_eq_false h1] at HT
  rw [h2] at HCn
  clear h0 h1 h2
  go_enter Tryd.func8, Tryd.ntmps8
  go_wp2_with (first | ((with_reducible refine bx_p w.heap.size s ?_ ?_ ?_); exact rfl; exact rfl; intro W hr hb hz; have HR := hide hr; have f0 := (hr.cell 0).trans (P5.at0 s); have f8 := (hr.cell 8).trans (P5.at8 s); have f9 := (hr.cell 9).trans (P5.at9 s); have f10 := (hr.cell 10).trans (P5.at10 s); have f11 := (hr.cell 11).trans (P5.at11 s); replace hb := hide hb; clear hr) | (go_at_call 19; refine (HT.out _).mono ?_; rintro e W2 ⟨rfl, rfl⟩) | (go_at_call 20; refine (HCn.out _ _ HR.out).mono ?_; rintro e W2 ⟨rfl, rfl⟩))
  go_ret
  exact ⟨rfl, hb.out⟩

set_option maxHeartbeats 1000000 in
theorem check_no (s : P5) (hs : s.Ok) (h0 : s.pr 0 = 0) (h1 : ¬ 7 < s.th) (h2 : smallP s = true) (h3 : ¬ (((s.en ||| s.pe) ||| s.bu) &&& 4294967041 = 0)) (w : World) :
    Calls Tryd.prog 8 #[.agg s.cells] w fun e w' => e = .returned (errP (1)) ∧ Below w.heap.size w w' := by
  have HT := hide (fun w => big_any s.th w)
  have HCn := hide (fun g w h => contains_pr s g w h)
  have t0 : (((s.pr 0 : Nat) : Int) != 0) = false := by simp; omega
  rw [decide_eq_false h1] at HT
  rw [h2] at HCn
  clear h0 h1 h2
  have e1 : s.en ||| s.pe < 4294967296 := Nat.or_lt_two_pow (n := 32) hs.en hs.pe
  have e2 : s.en ||| s.pe ||| s.bu < 4294967296 := Nat.or_lt_two_pow (n := 32) e1 hs.bu
  have t3 : (bits .andNot .u32 (bits .or .u32 (bits .or .u32 (s.en : Int) (s.pe : Int)) (s.bu : Int)) 254 != 0) = true := by
    rw [u32_or_nat _ _ hs.en hs.pe, u32_or_nat _ _ e1 hs.bu]
    have := u32_andNot_nat (s.en ||| s.pe ||| s.bu) 254 e2 (by decide)
    rw [show (((254 : Nat) : Int)) = 254 from rfl] at this
    rw [this, show (4294967295 - 254 : Nat) = 4294967041 from rfl]
    (simp; omega)
  clear e1 e2 h3
  go_enter Tryd.func8, Tryd.ntmps8
  go_wp2_with (first | ((with_reducible refine bx_p w.heap.size s ?_ ?_ ?_); exact rfl; exact rfl; intro W hr hb hz; have HR := hide hr; have f0 := (hr.cell 0).trans (P5.at0 s); have f8 := (hr.cell 8).trans (P5.at8 s); have f9 := (hr.cell 9).trans (P5.at9 s); have f10 := (hr.cell 10).trans (P5.at10 s); have f11 := (hr.cell 11).trans (P5.at11 s); replace hb := hide hb; clear hr) | (go_at_call 19; refine (HT.out _).mono ?_; rintro e W2 ⟨rfl, rfl⟩) | (go_at_call 20; refine (HCn.out _ _ HR.out).mono ?_; rintro e W2 ⟨rfl, rfl⟩))
  go_ret
  exact ⟨rfl, hb.out⟩

set_option maxHeartbeats 1000000 in
theorem check_ok (s : P5) (hs : s.Ok) (h0 : s.pr 0 = 0) (h1 : ¬ 7 < s.th) (h2 : smallP s = true) (h3 : ((s.en ||| s.pe) ||| s.bu) &&& 4294967041 = 0) (w : World) :
    Calls Tryd.prog 8 #[.agg s.cells] w fun e w' => e = .returned (errP (0)) ∧ Below w.heap.size w w' := by
  have HT := hide (fun w => big_any s.th w)
  have HCn := hide (fun g w h => contains_pr s g w h)
  have t0 : (((s.pr 0 : Nat) : Int) != 0) = false := by simp; omega
  rw [decide_eq_false h1] at HT
  rw [h2] at HCn
  clear h0 h1 h2
  have e1 : s.en ||| s.pe < 4294967296 := Nat.or_lt_two_pow (n := 32) hs.en hs.pe
  have e2 : s.en ||| s.pe ||| s.bu < 4294967296 := Nat.or_lt_two_pow (n := 32) e1 hs.bu
  have t3 : (bits .andNot .u32 (bits .or .u32 (bits .or .u32 (s.en : Int) (s.pe : Int)) (s.bu : Int)) 254 != 0) = false := by
    rw [u32_or_nat _ _ hs.en hs.pe, u32_or_nat _ _ e1 hs.bu]
    have := u32_andNot_nat (s.en ||| s.pe ||| s.bu) 254 e2 (by decide)
    rw [show (((254 : Nat) : Int)) = 254 from rfl] at this
    rw [this, show (4294967295 - 254 : Nat) = 4294967041 from rfl]
    (rw [h3]; rfl)
  clear e1 e2 h3
  go_enter Tryd.func8, Tryd.ntmps8
  go_wp2_with (first | ((with_reducible refine bx_p w.heap.size s ?_ ?_ ?_); exact rfl; exact rfl; intro W hr hb hz; have HR := hide hr; have f0 := (hr.cell 0).trans (P5.at0 s); have f8 := (hr.cell 8).trans (P5.at8 s); have f9 := (hr.cell 9).trans (P5.at9 s); have f10 := (hr.cell 10).trans (P5.at10 s); have f11 := (hr.cell 11).trans (P5.at11 s); replace hb := hide hb; clear hr) | (go_at_call 19; refine (HT.out _).mono ?_; rintro e W2 ⟨rfl, rfl⟩) | (go_at_call 20; refine (HCn.out _ _ HR.out).mono ?_; rintro e W2 ⟨rfl, rfl⟩))
  go_ret
  exact ⟨rfl, hb.out⟩

theorem check_any (s : P5) (hs : s.Ok) (w : World) :
    Calls Tryd.prog 8 #[.agg s.cells] w fun e w' => e = .returned (errP (if mayP5 s = true then 0 else 1)) ∧ Below w.heap.size w w' := by
  unfold mayP5
  by_cases h0 : s.pr 0 = 0
  · by_cases h1 : 7 < s.th
    · rw [decide_eq_true h0, decide_eq_false (show ¬ s.th ≤ 7 by omega)]; exact check_th s hs h0 h1 w
    · rw [decide_eq_true h0, decide_eq_true (show s.th ≤ 7 by omega)]
      cases h2 : smallP s with
      | false => exact check_sm s hs h0 h1 h2 w
      | true =>
        by_cases h3 : ((s.en ||| s.pe) ||| s.bu) &&& 4294967041 = 0
        · rw [beq_iff_eq.2 h3]; exact check_ok s hs h0 h1 h2 h3 w
        · rw [beq_eq_false_iff_ne.2 h3]; exact check_no s hs h0 h1 h2 h3 w
  · rw [decide_eq_false h0]; exact check_p0 s hs h0 w
end Go.Proofs.YtadgdgjmadchjaaDoor
