/-
  What stays, whatever is written: plain.
-/
import Derived.Test.YtahgacdkofmbmaaDoorViMath
namespace Go.Proofs.YtahgacdkofmbmaaDoor
open Go.RowKit
set_option linter.unusedVariables false

structure MayV (s : V) : Prop where
  st : okSt s.st = true
  ir : s.ir ≤ 3
  se : s.st.testBit 3 = true → setl s = true
  q0 : mayQ s.q0 = true
  q1 : mayQ s.q1 = true
theorem mayV_iff (s : V) : mayV s = true ↔ MayV s := by
  unfold mayV
  simp only [Bool.and_eq_true, decide_eq_true_eq, Bool.or_eq_true, Bool.not_eq_true']
  constructor
  · rintro ⟨a, b, c, d, e⟩
    refine ⟨a, b, fun h => ?_, d, e⟩
    rcases c with c | c
    · rw [h] at c; cases c
    · exact c
  · rintro ⟨a, b, c, d, e⟩
    refine ⟨a, b, ?_, d, e⟩
    cases h : s.st.testBit 3 with
    | false => exact Or.inl rfl
    | true => exact Or.inr (c h)
theorem okSt_or {a b : Nat} (ha : okSt a = true) (hb : okSt b = true) : okSt (a ||| b) = true := by
  rw [okSt_iff] at *
  intro i hi h
  rw [Nat.testBit_or, Bool.or_eq_true] at h
  rcases h with h | h
  · exact ha i hi h
  · exact hb i hi h
theorem okSt_and {a : Nat} (b : Nat) (ha : okSt a = true) : okSt (a &&& b) = true := by
  rw [okSt_iff] at *
  intro i hi h
  rw [Nat.testBit_and, Bool.and_eq_true] at h
  exact ha i hi h.1
theorem okSt_143 (v : Nat) : okSt (v &&& 143) = true := by
  rw [Nat.and_comm]; exact okSt_and v (by decide)
theorem okSt_statB (s : V) (v : Nat) : okSt (statB s v) = true := by
  unfold statB; split
  · exact okSt_143 v
  · exact okSt_and _ (okSt_143 v)
theorem okSt_statM (s : V) (v : Nat) : okSt (statM s v) = true := by
  unfold statM; split
  · exact okSt_statB s v
  · exact okSt_and _ (okSt_statB s v)
theorem ir_or : ∀ n, n ≤ 3 → n ||| 2 ≤ 3 := by decide
theorem mayV_fail {s : V} (h : mayV s = true) : mayV (failV s) = true := by
  rw [mayV_iff] at *
  refine ⟨okSt_or h.st (by decide), ir_or _ h.ir, fun e => h.se ?_, h.q0, h.q1⟩
  have e : (s.st ||| 64).testBit 3 = true := e
  rw [Nat.testBit_or, show (64 : Nat).testBit 3 = false from by decide, Bool.or_false] at e
  exact e
theorem live_fail (s : V) : liveV (failV s) = false := by
  unfold liveV
  have e : (failV s).st.testBit 6 = true := by
    show (s.st ||| 64).testBit 6 = true
    rw [Nat.testBit_or, show (64 : Nat).testBit 6 = true from by decide, Bool.or_true]
  rw [e]; simp
theorem tb3_mask (n : Nat) : (n &&& 4294967287).testBit 3 = false := by
  rw [Nat.testBit_and, show (4294967287 : Nat).testBit 3 = false from by decide, Bool.and_false]
theorem stat_settled {s : V} (h : MayV s) (v : Nat) (e : (s.st ||| statM s v).testBit 3 = true) : setl s = true := by
  rw [Nat.testBit_or, Bool.or_eq_true] at e
  rcases e with e | e
  · exact h.se e
  · cases hs : setl s with
    | true => rfl
    | false =>
      have hB : (statB s v).testBit 3 = false := by
        unfold statB; rw [hs, if_neg (by decide)]; exact tb3_mask _
      exfalso
      unfold statM at e
      split at e
      · rw [hB] at e; cases e
      · rw [Nat.testBit_and, hB] at e; cases e
theorem mayQ_of (q : Qu) (h : mayQ q = true) : 0 ≤ q.r.sz ∧ q.r.sz ≤ 256 := by
  unfold mayQ at h
  split at h
  · obtain ⟨n, e, h1, h2⟩ := chkR_sz h
    omega
  · simpa using h
theorem mayV_q {s : V} (h : MayV s) (i : Nat) : mayQ (s.q i) = true := by
  unfold V.q; split
  · exact h.q0
  · exact h.q1
theorem mayV_qw {s : V} (h : MayV s) (i : Nat) {q : Qu} (hq : mayQ q = true) : MayV (s.qw i q) := by
  unfold V.qw; split
  · exact ⟨h.st, h.ir, h.se, hq, h.q1⟩
  · exact ⟨h.st, h.ir, h.se, h.q0, hq⟩
theorem mayV_zero : mayV zeroV = true := by kernel_rfl
theorem mayV_ask {s : V} (h : MayV s) (v : Nat) : MayV (askV s v) := by
  unfold askV
  by_cases e : s.st.testBit 3 = true
  · rw [if_pos e]; exact h
  · rw [if_neg e]
    split
    · exact ⟨h.st, h.ir, fun k => absurd k e, h.q0, h.q1⟩
    · split
      · exact ⟨h.st, h.ir, fun k => absurd k e, h.q0, h.q1⟩
      · exact h
theorem mayV_stat {s : V} (h : MayV s) (v : Nat) : MayV (statV s v) := by
  unfold statV; split
  · exact (mayV_iff _).1 mayV_zero
  · exact ⟨okSt_or h.st (okSt_statM s v), h.ir, fun e => (show setl s = true from stat_settled (s := s) h v e), h.q0, h.q1⟩
theorem mayV_rdy {s : V} (h : MayV s) (v : Nat) : MayV (rdyV s v) := by
  unfold rdyV; split
  · split
    · rename_i hc
      refine mayV_qw h _ ?_
      unfold mayQ
      rw [if_pos rfl]
      exact hc
    · exact (mayV_iff _).1 (mayV_fail ((mayV_iff _).2 h))
  · split
    · refine mayV_qw h _ ?_
      have := mayQ_of _ (mayV_q h s.se)
      unfold mayQ Qu.rdw
      simp only
      rw [if_neg (by simp)]
      simpa using this
    · exact h
theorem mayQ_rw {q : Qu} (hr : q.rd = false) {r : Rg} (h0 : 0 ≤ r.sz) (h1 : r.sz ≤ 256) : mayQ (q.rw' r) = true := by
  unfold mayQ Qu.rw'
  simp only
  rw [hr, if_neg (by decide)]
  simp [h0, h1]
theorem mayV_reg {s : V} (h : MayV s) (hr : (s.q s.se).rd = false) (a v : Nat) : MayV (regV s a v) := by
  have hq := mayQ_of _ (mayV_q h s.se)
  unfold regV; split
  · split
    · exact mayV_qw h _ (mayQ_rw hr (by show (0 : Int) ≤ (v : Int); omega) (by show (v : Int) ≤ 256; omega))
    · exact h
  · split
    · exact mayV_qw h _ (mayQ_rw hr hq.1 hq.2)
    · split
      · exact mayV_qw h _ (mayQ_rw hr hq.1 hq.2)
      · split
        · exact mayV_qw h _ (mayQ_rw hr hq.1 hq.2)
        · split
          · split
            · exact h
            · exact (mayV_iff _).1 (mayV_fail ((mayV_iff _).2 h))
          · exact h
theorem mayV_writeS {s : V} (h : MayV s) (a v : Nat) : MayV (writeS s a v).1 := by
  unfold writeS
  by_cases h0 : a = 20
  · rw [if_pos h0]; exact ⟨h.st, h.ir, h.se, h.q0, h.q1⟩
  rw [if_neg h0]
  by_cases h1 : a = 36
  · rw [if_pos h1]; exact ⟨h.st, h.ir, h.se, h.q0, h.q1⟩
  rw [if_neg h1]
  by_cases h2 : a = 32
  · rw [if_pos h2]; exact mayV_ask h v
  rw [if_neg h2]
  by_cases h3 : a = 48
  · rw [if_pos h3]; exact ⟨h.st, h.ir, h.se, h.q0, h.q1⟩
  rw [if_neg h3]
  by_cases h4 : a = 80
  · rw [if_pos h4]; exact h
  rw [if_neg h4]
  by_cases h5 : a = 100
  · rw [if_pos h5]; exact ⟨h.st, Nat.le_trans Nat.and_le_left h.ir, h.se, h.q0, h.q1⟩
  rw [if_neg h5]
  by_cases h6 : a = 112
  · rw [if_pos h6]; exact mayV_stat h v
  rw [if_neg h6]
  by_cases h7 : s.se < 2
  · rw [if_pos h7]
    show MayV (wqV s a v)
    unfold wqV; split
    · exact mayV_rdy h v
    · split
      · exact h
      · rename_i hr
        exact mayV_reg h (by simpa using hr) a v
  · rw [if_neg h7]; exact h
theorem live_set {s : V} (h : MayV s) (e : liveV s = true) : s.d0 = 0 ∧ s.d1 = 1 := by
  unfold liveV at e
  simp only [Bool.and_eq_true] at e
  have := h.se e.2.1
  unfold setl at this
  simpa using this
/-- What is told of a queue that is notified. -/
structure ToldV (z : V) (n : Int) : Prop where
  ok : n = -1 ∨ (n = 0 ∧ z.q0.rd = true ∧ liveV z = true ∧ chkR z.q0.r = true) ∨ (n = 1 ∧ z.q1.rd = true ∧ liveV z = true ∧ chkR z.q1.r = true)
theorem mayQ_chk {q : Qu} (h : mayQ q = true) (hr : q.rd = true) : chkR q.r = true := by
  unfold mayQ at h; rw [if_pos hr] at h; exact h
theorem told_write {s : V} (h : MayV s) (a v : Nat) : ToldV (writeS s a v).1 (writeS s a v).2 := by
  by_cases h4 : a = 80
  · have e : writeS s a v = (s, notV s v) := by subst h4; rfl
    rw [e]
    show ToldV s (notV s v)
    unfold notV
    by_cases c : (decide (v < 2) && ((s.q v).rd && liveV s)) = true
    · rw [if_pos c]
      simp only [Bool.and_eq_true, decide_eq_true_eq] at c
      obtain ⟨c1, c2, c3⟩ := c
      have hv : v = 0 ∨ v = 1 := by omega
      rcases hv with rfl | rfl
      · exact ⟨Or.inr (Or.inl ⟨rfl, c2, c3, mayQ_chk h.q0 c2⟩)⟩
      · exact ⟨Or.inr (Or.inr ⟨rfl, c2, c3, mayQ_chk h.q1 c2⟩)⟩
    · rw [if_neg c]; exact ⟨Or.inl rfl⟩
  · refine ⟨Or.inl ?_⟩
    unfold writeS
    repeat' split
    all_goals first | rfl | omega
theorem hold_may {s : V} (h : mayV s = true) (a v : Nat) (e : (writeV s a v).2.2 = 0) : mayV (writeV s a v).1 = true ∧ ToldV (writeV s a v).1 (writeV s a v).2.1 := by
  have e0 : accV s a = 0 := by
    unfold writeV at e; split at e
    · assumption
    · exact e
  have ew : writeV s a v = ((writeS s a v).1, (writeS s a v).2, 0) := by unfold writeV; rw [if_pos e0]
  rw [ew]
  exact ⟨(mayV_iff _).2 (mayV_writeS ((mayV_iff _).1 h) a v), told_write ((mayV_iff _).1 h) a v⟩
theorem reset_any {s : V} (h : mayV s = true) : writeV s 112 0 = (zeroV, -1, 0) := by
  have e0 : accV s 112 = 0 := by unfold accV; rw [if_pos h]; rfl
  unfold writeV; rw [if_pos e0]; rfl
end Go.Proofs.YtahgacdkofmbmaaDoor
