/-
  ClintTicks, walked.
-/
import Derived.Test.YtjibjginafjpcaaClNext
import Derived.Test.YtjibjginafjpcaaClSure
namespace Go.Proofs.Ytjibjginafjpcaa
open Go.RowKit
set_option linter.unusedVariables false

theorem away_nat (z : Int) : ∃ m : Nat, (IntKind.u64.wrap z).tmod 60 = (m : Int) ∧ m < 60 := by
  have h1 : IntKind.u64.wrap z = z % 18446744073709551616 := by simp [IntKind.wrap, IntKind.bits, IntKind.signed]
  rw [h1, Int.tmod_eq_emod_of_nonneg (by omega)]
  exact ⟨(z % 18446744073709551616 % 60).toNat, by omega, by omega⟩
theorem asks_yes (s : S3) (h : s.cm ≤ s.ti) : (bits .and .u32 ((linesV s : Nat) : Int) 128 != 0) = true := by
  have e : linesV s = 128 ∨ linesV s = 136 := by unfold linesV; rw [decide_eq_true h]; cases (s.so % 2 == 1) <;> simp [softN, timeN]
  rcases e with e | e <;> rw [e] <;> decide
theorem asks_no (s : S3) (h : s.ti < s.cm) : (bits .and .u32 ((linesV s : Nat) : Int) 128 != 0) = false := by
  have e : linesV s = 0 ∨ linesV s = 8 := by unfold linesV; rw [decide_eq_false (Nat.not_le.2 h)]; cases (s.so % 2 == 1) <;> simp [softN, timeN]
  rcases e with e | e <;> rw [e] <;> decide
variable {ops : Array Oper} {rest : List Oper} {dst : Option Tmp} {ty : TypeId} {after : Array Edge} {a : Act} {x : Operand} {gd : Option (Nat × Bool)} {pos : String} {w : World} {Q : Exit → Act → World → Prop}
set_option maxHeartbeats 1000000 in
theorem ticks_a (s : S3) (hs : s.Ok) (z : Int) (m c : Nat) (hm : (IntKind.u64.wrap z).tmod 60 = (m : Int)) (hm60 : m < 60) (h0 : s.ti + m = c + 18446744073709551616) (w : World) :
    Calls Try.prog 3 #[.agg s.cells, .int .i64 z] w fun e w' => e = .returned (.bool true) ∧ Below w.heap.size w w' := by
  have h1 := hs.ti
  have HS := hide (fun w => sure_any w)
  have HC : Hid (Value.int .u64 (IntKind.u64.wrap ((s.ti : Int) + (m : Int))) = .int .u64 ((c : Nat) : Int)) := hide (by rw [show IntKind.u64.wrap ((s.ti : Int) + (m : Int)) = ((s.ti : Int) + (m : Int)) % 18446744073709551616 by simp [IntKind.wrap, IntKind.bits, IntKind.signed]]; congr 1; omega)
  have t1 : (c : Int) < (s.ti : Int) := by omega
  clear h0
  go_enter Try.func3, Try.ntmps3
  go_wp2_with (first | ((with_reducible refine bx_r w.heap.size s ?_ ?_ ?_); exact rfl; exact rfl; intro W hg hb hz) | ((with_reducible refine ld_r w.heap.size s hg ?_ ?_); exact rfl) | ((with_reducible refine al_p (w.heap.size + 1) ?_ ?_); exact hz.out; intro W hx hb' hz'; replace hg := hg.bl (hz.out ▸ hb'); replace hb := hb.trans (hb'.mono (by omega)); replace hz := hz') | ((with_reducible refine st_p (w.heap.size + 1) _ s hx ?_ ?_ ?_); exact rfl; exact rfl; intro W hnew ho; replace hg := hg.only ho (by omega); replace hx := hnew; replace hb := ho.bel _ _ (by omega) hb; replace hz := hide (ho.size.trans hz.out)) | ((with_reducible refine ld_ti (w.heap.size + 1) _ _ hx ?_ ?_); exact rfl) | ((with_reducible refine st_cm (w.heap.size + 1) _ c _ hx ?_ ?_ ?_); exact rfl; exact HC.out; intro W hnew ho; replace hx := hnew; replace hb := ho.bel _ _ (by omega) hb; have f1 := (hx.cell 1).trans (S3.at1 _); have f2 := (hx.cell 2).trans (S3.at2 _)) | (go_at_call 6; refine (HS.out _).mono ?_; rintro e W ⟨rfl, hbc⟩; replace hb := below_bl rfl hb hbc))
  go_ret
  exact ⟨rfl, hb⟩

set_option maxHeartbeats 1000000 in
theorem ticks_b (s : S3) (hs : s.Ok) (z : Int) (m c : Nat) (hm : (IntKind.u64.wrap z).tmod 60 = (m : Int)) (hm60 : m < 60) (h0 : c = s.ti + m) (h2 : s.ti + m < 18446744073709551616) (h3 : 18446744073709551616 ≤ c + 60) (w : World) :
    Calls Try.prog 3 #[.agg s.cells, .int .i64 z] w fun e w' => e = .returned (.bool true) ∧ Below w.heap.size w w' := by
  have h1 := hs.ti
  have HS := hide (fun w => sure_any w)
  have HC : Hid (Value.int .u64 ((s.ti : Int) + (m : Int)) = .int .u64 ((c : Nat) : Int)) := hide (by congr 1; omega)
  have hc : c < 18446744073709551616 := by omega
  have t1 : decide ((c : Int) < (s.ti : Int)) = false := by simp; omega
  have t1n : decide (c < s.ti) = false := by simp; omega
  obtain ⟨d, t2, t3⟩ : ∃ d : Nat, IntKind.u64.wrap ((c : Int) + 60) = (d : Int) ∧ d < c := ⟨c + 60 - 18446744073709551616, by rw [show IntKind.u64.wrap ((c : Int) + 60) = ((c : Int) + 60) % 18446744073709551616 by simp [IntKind.wrap, IntKind.bits, IntKind.signed]]; omega, by omega⟩
  clear h0 h3
  go_enter Try.func3, Try.ntmps3
  go_wp2_with (first | ((with_reducible refine bx_r w.heap.size s ?_ ?_ ?_); exact rfl; exact rfl; intro W hg hb hz) | ((with_reducible refine ld_r w.heap.size s hg ?_ ?_); exact rfl) | ((with_reducible refine al_p (w.heap.size + 1) ?_ ?_); exact hz.out; intro W hx hb' hz'; replace hg := hg.bl (hz.out ▸ hb'); replace hb := hb.trans (hb'.mono (by omega)); replace hz := hz') | ((with_reducible refine st_p (w.heap.size + 1) _ s hx ?_ ?_ ?_); exact rfl; exact rfl; intro W hnew ho; replace hg := hg.only ho (by omega); replace hx := hnew; replace hb := ho.bel _ _ (by omega) hb; replace hz := hide (ho.size.trans hz.out)) | ((with_reducible refine ld_ti (w.heap.size + 1) _ _ hx ?_ ?_); exact rfl) | ((with_reducible refine st_cm (w.heap.size + 1) _ c _ hx ?_ ?_ ?_); exact rfl; exact HC.out; intro W hnew ho; replace hx := hnew; replace hb := ho.bel _ _ (by omega) hb; have f1 := (hx.cell 1).trans (S3.at1 _); have f2 := (hx.cell 2).trans (S3.at2 _)) | (go_at_call 6; refine (HS.out _).mono ?_; rintro e W ⟨rfl, hbc⟩; replace hb := below_bl rfl hb hbc))
  go_ret
  exact ⟨rfl, hb⟩

set_option maxRecDepth 20000 in
set_option maxHeartbeats 2000000 in
theorem ticks_c (s : S3) (hs : s.Ok) (z : Int) (m c : Nat) (hm : (IntKind.u64.wrap z).tmod 60 = (m : Int)) (hm60 : m < 60) (h0 : c = s.ti + m) (h3 : c + 60 < 18446744073709551616) (w : World) :
    Calls Try.prog 3 #[.agg s.cells, .int .i64 z] w fun e w' => e = .returned (.bool true) ∧ Below w.heap.size w w' := by
  have h1 := hs.ti
  have HS := hide (fun w => sure_any w)
  have HC : Hid (Value.int .u64 ((s.ti : Int) + (m : Int)) = .int .u64 ((c : Nat) : Int)) := hide (by congr 1; omega)
  have hc : c < 18446744073709551616 := by omega
  have hc2 : c + 60 < 18446744073709551616 := by omega
  have t1 : decide ((c : Int) < (s.ti : Int)) = false := by simp; omega
  have t1n : decide (c < s.ti) = false := by simp; omega
  have t3 : decide ((c : Int) + 60 < (c : Int)) = false := by simp; omega
  have HHH := hide (And.intro h0 h3)
  have h2 : s.ti + m < 18446744073709551616 := by omega
  clear h0 h3
  go_enter Try.func3, Try.ntmps3
  go_wp2_with (first | ((with_reducible refine bx_r w.heap.size s ?_ ?_ ?_); exact rfl; exact rfl; intro W hg hb hz) | ((with_reducible refine ld_r w.heap.size s hg ?_ ?_); exact rfl) | ((with_reducible refine al_p (w.heap.size + 1) ?_ ?_); exact hz.out; intro W hx hb' hz'; replace hg := hg.bl (hz.out ▸ hb'); replace hb := hb.trans (hb'.mono (by omega)); replace hz := hz') | ((with_reducible refine st_p (w.heap.size + 1) _ s hx ?_ ?_ ?_); exact rfl; exact rfl; intro W hnew ho; replace hg := hg.only ho (by omega); replace hx := hnew; replace hb := ho.bel _ _ (by omega) hb; replace hz := hide (ho.size.trans hz.out)) | ((with_reducible refine ld_ti (w.heap.size + 1) _ _ hx ?_ ?_); exact rfl) | ((with_reducible refine st_cm (w.heap.size + 1) _ c _ hx ?_ ?_ ?_); exact rfl; exact HC.out; intro W hnew ho; replace hx := hnew; replace hb := ho.bel _ _ (by omega) hb; have HX2 := hide hx; have f1 := (hx.cell 1).trans (S3.at1 _); have f2 := (hx.cell 2).trans (S3.at2 _)))
  clear f1 f2 t1 t3 HC
  go_loopw [7] (fun iv wr => ∃ i : Nat, i ≤ 60 ∧ iv = .int .u64 (i : Nat) ∧ RowAt wr (w.heap.size + 1) (S3.cells ⟨s.so, s.ti + i, c⟩) 26 ∧ Below w.heap.size w wr) (fun iv _ => 60 - (intOf iv).toNat)
  case atStart => exact ⟨0, by omega, rfl, HX2.out, hb⟩
  case round =>
    clear hx hg hb hz HX2 hnew ho
    obtain ⟨i, hi, rfl, hx, hb⟩ := hrel
    by_cases hlt : i < 60
    · obtain ⟨t, ht⟩ : ∃ t, s.ti + i = t := ⟨_, rfl⟩
      have hso := hs.so
      have hb1 : t + 1 < 18446744073709551616 := by have := HHH.out.1; omega
      have hto : S3.Ok ⟨s.so, t, c⟩ := ⟨hso, by show t < _; omega, by show c < _; omega⟩
      have HL := hide (fun w => lines_any ⟨s.so, t, c⟩ hto w)
      have HX := hide (fun w => next_any ⟨s.so, t, c⟩ hto w)
      have HT := hide (fun w => tick_any ⟨s.so, t, c⟩ hto w)
      rw [show tickV ⟨s.so, t, c⟩ = ⟨s.so, t + 1, c⟩ by unfold tickV plus1; rw [if_neg (by show ¬ t = _; omega)]] at HT
      rw [ht] at hx
      have hcm := HHH.out.1
      rcases Nat.lt_trichotomy i m with hc3 | hc3 | hc3
      · have e1 := asks_no ⟨s.so, t, c⟩ (by show t < c; omega)
        rw [show nextV ⟨s.so, t, c⟩ = m - i by show c - t = _; omega, show ((m - i : Nat) : Int) = (m : Int) - (i : Int) by omega] at HX
        have e2 : decide ((m : Int) ≤ (i : Int)) = false := by simp; omega
        have e2n : decide (m ≤ i) = false := by simp; omega
        have e3 : (i : Int) ≤ (m : Int) := by omega
        have HTT := hide ht
        clear ht hcm
        generalize linesV ⟨s.so, t, c⟩ = L at *
        go_wp2_with (first | ((with_reducible refine ld_p (w.heap.size + 1) _ hx ?_ ?_); exact rfl) | ((with_reducible refine gl_p (w.heap.size + 1) _ hx ?_ ?_ ?_); exact rfl; exact rfl) | (go_at_call 7; (with_reducible refine (HL.out _).mono ?_); rintro e W ⟨rfl, hbc⟩; replace hx := hx.bl hbc; replace hb := below_bl rfl hb hbc) | (go_at_call 8; (with_reducible refine (HX.out _).mono ?_); rintro e W ⟨rfl, hbc⟩; replace hx := hx.bl hbc; replace hb := below_bl rfl hb hbc) | (go_at_call 9; (with_reducible refine (HT.out _).mono ?_); rintro e W ⟨rfl, hbc⟩; replace hx := hx.bl hbc; obtain ⟨NY, hNY⟩ : ∃ n, W.heap.size = n := ⟨_, rfl⟩; have lNY : w.heap.size + 2 ≤ NY := (by (have := hx.lt; omega)); replace hNY := hide hNY; replace hb := below_bl rfl hb hbc) | ((with_reducible refine al_p NY ?_ ?_); exact hNY.out; intro W hy hb' hz2; replace hx := hx.bl (hNY.out ▸ hb'); replace hb := hb.trans (hb'.mono (by omega))) | ((with_reducible refine st_p NY _ ⟨s.so, t + 1, c⟩ hy ?_ ?_ ?_); exact rfl; exact rfl; intro W hnew ho; replace hx := hx.only ho (by omega); replace hy := hnew; replace hb := ho.bel _ _ (by omega) hb; have f0 := (hx.cell 0).trans (S3.at0 _); have f1 := (hx.cell 1).trans (S3.at1 _); have f2 := (hx.cell 2).trans (S3.at2 _); have g0 := (hy.cell 0).trans (S3.at0 _); have g1 := (hy.cell 1).trans (S3.at1 _); have g2 := (hy.cell 2).trans (S3.at2 _); simp only at f0 f1 f2 g0 g1 g2) | ((with_reducible refine ld_p NY _ hy ?_ ?_); exact rfl) | ((with_reducible refine st_p (w.heap.size + 1) _ ⟨s.so, t + 1, c⟩ hx ?_ ?_ ?_); exact rfl; exact rfl; intro W hnew ho; clear f0 f1 f2 g0 g1 g2; replace hy := hy.only ho (by omega); replace hx := hnew; replace hb := ho.bel _ _ (by omega) hb))
        go_roundw
        case rel => exact ⟨i + 1, by omega, by go_num, by (have := HTT.out; subst this; exact hx), hb⟩
        case measure => simp [intOf]; omega
      · subst hc3
        have e1 := asks_yes ⟨s.so, t, c⟩ (by show c ≤ t; omega)
        rw [show nextV ⟨s.so, t, c⟩ = 0 by show c - t = _; omega, show ((0 : Nat) : Int) = 0 from rfl] at HX
        have HTT := hide ht
        clear ht hcm
        generalize linesV ⟨s.so, t, c⟩ = L at *
        go_wp2_with (first | ((with_reducible refine ld_p (w.heap.size + 1) _ hx ?_ ?_); exact rfl) | ((with_reducible refine gl_p (w.heap.size + 1) _ hx ?_ ?_ ?_); exact rfl; exact rfl) | (go_at_call 7; (with_reducible refine (HL.out _).mono ?_); rintro e W ⟨rfl, hbc⟩; replace hx := hx.bl hbc; replace hb := below_bl rfl hb hbc) | (go_at_call 8; (with_reducible refine (HX.out _).mono ?_); rintro e W ⟨rfl, hbc⟩; replace hx := hx.bl hbc; replace hb := below_bl rfl hb hbc) | (go_at_call 9; (with_reducible refine (HT.out _).mono ?_); rintro e W ⟨rfl, hbc⟩; replace hx := hx.bl hbc; obtain ⟨NY, hNY⟩ : ∃ n, W.heap.size = n := ⟨_, rfl⟩; have lNY : w.heap.size + 2 ≤ NY := (by (have := hx.lt; omega)); replace hNY := hide hNY; replace hb := below_bl rfl hb hbc) | ((with_reducible refine al_p NY ?_ ?_); exact hNY.out; intro W hy hb' hz2; replace hx := hx.bl (hNY.out ▸ hb'); replace hb := hb.trans (hb'.mono (by omega))) | ((with_reducible refine st_p NY _ ⟨s.so, t + 1, c⟩ hy ?_ ?_ ?_); exact rfl; exact rfl; intro W hnew ho; replace hx := hx.only ho (by omega); replace hy := hnew; replace hb := ho.bel _ _ (by omega) hb; have f0 := (hx.cell 0).trans (S3.at0 _); have f1 := (hx.cell 1).trans (S3.at1 _); have f2 := (hx.cell 2).trans (S3.at2 _); have g0 := (hy.cell 0).trans (S3.at0 _); have g1 := (hy.cell 1).trans (S3.at1 _); have g2 := (hy.cell 2).trans (S3.at2 _); simp only at f0 f1 f2 g0 g1 g2) | ((with_reducible refine ld_p NY _ hy ?_ ?_); exact rfl) | ((with_reducible refine st_p (w.heap.size + 1) _ ⟨s.so, t + 1, c⟩ hx ?_ ?_ ?_); exact rfl; exact rfl; intro W hnew ho; clear f0 f1 f2 g0 g1 g2; replace hy := hy.only ho (by omega); replace hx := hnew; replace hb := ho.bel _ _ (by omega) hb))
        go_roundw
        case rel => exact ⟨i + 1, by omega, by go_num, by (have := HTT.out; subst this; exact hx), hb⟩
        case measure => simp [intOf]; omega
      · have e1 := asks_yes ⟨s.so, t, c⟩ (by show c ≤ t; omega)
        have e2 : decide ((i : Int) ≤ (m : Int)) = false := by simp; omega
        have e2n : decide (i ≤ m) = false := by simp; omega
        have e3 : (m : Int) ≤ (i : Int) := by omega
        have HTT := hide ht
        clear ht hcm
        generalize linesV ⟨s.so, t, c⟩ = L at *
        go_wp2_with (first | ((with_reducible refine ld_p (w.heap.size + 1) _ hx ?_ ?_); exact rfl) | ((with_reducible refine gl_p (w.heap.size + 1) _ hx ?_ ?_ ?_); exact rfl; exact rfl) | (go_at_call 7; (with_reducible refine (HL.out _).mono ?_); rintro e W ⟨rfl, hbc⟩; replace hx := hx.bl hbc; replace hb := below_bl rfl hb hbc) | (go_at_call 8; (with_reducible refine (HX.out _).mono ?_); rintro e W ⟨rfl, hbc⟩; replace hx := hx.bl hbc; replace hb := below_bl rfl hb hbc) | (go_at_call 9; (with_reducible refine (HT.out _).mono ?_); rintro e W ⟨rfl, hbc⟩; replace hx := hx.bl hbc; obtain ⟨NY, hNY⟩ : ∃ n, W.heap.size = n := ⟨_, rfl⟩; have lNY : w.heap.size + 2 ≤ NY := (by (have := hx.lt; omega)); replace hNY := hide hNY; replace hb := below_bl rfl hb hbc) | ((with_reducible refine al_p NY ?_ ?_); exact hNY.out; intro W hy hb' hz2; replace hx := hx.bl (hNY.out ▸ hb'); replace hb := hb.trans (hb'.mono (by omega))) | ((with_reducible refine st_p NY _ ⟨s.so, t + 1, c⟩ hy ?_ ?_ ?_); exact rfl; exact rfl; intro W hnew ho; replace hx := hx.only ho (by omega); replace hy := hnew; replace hb := ho.bel _ _ (by omega) hb; have f0 := (hx.cell 0).trans (S3.at0 _); have f1 := (hx.cell 1).trans (S3.at1 _); have f2 := (hx.cell 2).trans (S3.at2 _); have g0 := (hy.cell 0).trans (S3.at0 _); have g1 := (hy.cell 1).trans (S3.at1 _); have g2 := (hy.cell 2).trans (S3.at2 _); simp only at f0 f1 f2 g0 g1 g2) | ((with_reducible refine ld_p NY _ hy ?_ ?_); exact rfl) | ((with_reducible refine st_p (w.heap.size + 1) _ ⟨s.so, t + 1, c⟩ hx ?_ ?_ ?_); exact rfl; exact rfl; intro W hnew ho; clear f0 f1 f2 g0 g1 g2; replace hy := hy.only ho (by omega); replace hx := hnew; replace hb := ho.bel _ _ (by omega) hb))
        go_roundw
        case rel => exact ⟨i + 1, by omega, by go_num, by (have := HTT.out; subst this; exact hx), hb⟩
        case measure => simp [intOf]; omega
    · obtain rfl : i = 60 := by omega
      go_wp2_with (first | (go_at_call 6; refine (HS.out _).mono ?_; rintro e W ⟨rfl, hbc⟩; replace hb := below_bl rfl hb hbc))
      go_ret
      exact ⟨rfl, hb⟩

theorem ticks_walk (s : S3) (hs : s.Ok) (z : Int) (w : World) :
    Calls Try.prog 3 #[.agg s.cells, .int .i64 z] w fun e w' => e = .returned (.bool true) ∧ Below w.heap.size w w' := by
  obtain ⟨m, hm, hm60⟩ := away_nat z
  have := hs.ti
  rcases Nat.lt_or_ge (s.ti + m) 18446744073709551616 with h | h
  · rcases Nat.lt_or_ge (s.ti + m + 60) 18446744073709551616 with h2 | h2
    · exact ticks_c s hs z m _ hm hm60 rfl h2 w
    · exact ticks_b s hs z m _ hm hm60 rfl h h2 w
  · exact ticks_a s hs z m (s.ti + m - 18446744073709551616) hm hm60 (by omega) w
end Go.Proofs.Ytjibjginafjpcaa
