/-
  What ring's Check answers.
-/
import Derived.Test.YtahgacdkofmbmaaDoorRgRow
namespace Go.Proofs.YtahgacdkofmbmaaDoor
open Go.RowKit
set_option linter.unusedVariables false
set_option linter.unusedSimpArgs false

attribute [local go_sem] Rg.at0 Rg.at1 Rg.at2 Rg.at3 Rg.at4 Rg.at5
theorem sizesI : ∀ n : Fin 257, 1 ≤ n.val → (bits .and .i64 (n.val : Int) ((n.val : Int) - 1) == 0) = okSz (n.val : Int) := by decide +kernel
theorem okSz_far {s : Int} (h : ¬ (1 ≤ s ∧ s ≤ 256)) : okSz s = false := by
  rw [Bool.eq_false_iff]
  intro e
  have := okSz_cases e
  omega
set_option maxHeartbeats 1000000 in
theorem rcheck_any (r : Rg) (hr0 : r.Ok) (w : World) :
    Calls Tryd.prog 23 #[.agg r.cells] w fun e w' => e = .returned (errR (if chkR r then 0 else 1)) ∧ Below w.heap.size w w' := by
  obtain ⟨sz, de, av, us, la, pu⟩ := r
  by_cases h1 : 1 ≤ sz ∧ sz ≤ 256
  · obtain ⟨n, rfl⟩ := Int.eq_ofNat_of_zero_le (show 0 ≤ sz by omega)
    have ha := sizesI ⟨n, by omega⟩ (by show 1 ≤ n; omega)
    simp only at ha
    have hd := hr0.de
    have hv := hr0.av
    have hu := hr0.us
    simp only at hd hv hu
    clear hr0
    have l1 : decide ((n : Int) < 1) = false := by simp; omega
    have l2 : decide (256 < (n : Int)) = false := by simp; omega
    unfold chkR alR
    simp only
    generalize okSz (n : Int) = ob at ha ⊢
    obtain ⟨h11, h12⟩ := h1
    cases ob with
    | false =>
      have t3 : (bits .and .i64 (n : Int) ((n : Int) - 1) != 0) = true := by simp only [bne, ha]; rfl
      rw [Bool.false_and, show errR (if false = true then 0 else 1) = .iface 65 (.int .i64 1) from rfl]
      go_enter Tryd.func23, Tryd.ntmps23
      go_wp2_with (first | ((with_reducible refine bx_rp w.heap.size ⟨(n : Int), de, av, us, la, pu⟩ ?_ ?_ ?_); exact rfl; exact rfl; intro W hr hb hz; have fx := hr.cell))
      go_ret
      exact ⟨rfl, hb⟩
    | true =>
      have t3 : (bits .and .i64 (n : Int) ((n : Int) - 1) != 0) = false := by simp only [bne, ha]; rfl
      rw [Bool.true_and]
      by_cases d1 : de % 16 = 0
      · by_cases d2 : av % 2 = 0
        · by_cases d3 : us % 4 = 0
          · rw [show (decide (de % 16 = 0) && (decide (av % 2 = 0) && decide (us % 4 = 0))) = true by simp [d1, d2, d3], show errR (if true = true then 0 else 1) = .nilIface from rfl]
            have mde1 : (((de : Int) % 16) != 0) = false := by simp; omega
            have mde2 : ((((de % 16 : Nat)) : Int) != 0) = false := by simp; omega
            have mde3 : (((de : Int) % 16) == 0) = true := by simp; omega
            have mde4 : ((((de % 16 : Nat)) : Int) == 0) = true := by simp; omega
            have mav1 : (((av : Int) % 2) != 0) = false := by simp; omega
            have mav2 : ((((av % 2 : Nat)) : Int) != 0) = false := by simp; omega
            have mav3 : (((av : Int) % 2) == 0) = true := by simp; omega
            have mav4 : ((((av % 2 : Nat)) : Int) == 0) = true := by simp; omega
            have mus1 : (((us : Int) % 4) != 0) = false := by simp; omega
            have mus2 : ((((us % 4 : Nat)) : Int) != 0) = false := by simp; omega
            have mus3 : (((us : Int) % 4) == 0) = true := by simp; omega
            have mus4 : ((((us % 4 : Nat)) : Int) == 0) = true := by simp; omega
            clear d1 d2 d3
            go_enter Tryd.func23, Tryd.ntmps23
            go_wp2_with (first | ((with_reducible refine bx_rp w.heap.size ⟨(n : Int), de, av, us, la, pu⟩ ?_ ?_ ?_); exact rfl; exact rfl; intro W hr hb hz; have fx := hr.cell))
            go_ret
            exact ⟨rfl, hb⟩
          · rw [show (decide (de % 16 = 0) && (decide (av % 2 = 0) && decide (us % 4 = 0))) = false by simp [d3], show errR (if false = true then 0 else 1) = .iface 65 (.int .i64 1) from rfl]
            have mde1 : (((de : Int) % 16) != 0) = false := by simp; omega
            have mde2 : ((((de % 16 : Nat)) : Int) != 0) = false := by simp; omega
            have mde3 : (((de : Int) % 16) == 0) = true := by simp; omega
            have mde4 : ((((de % 16 : Nat)) : Int) == 0) = true := by simp; omega
            have mav1 : (((av : Int) % 2) != 0) = false := by simp; omega
            have mav2 : ((((av % 2 : Nat)) : Int) != 0) = false := by simp; omega
            have mav3 : (((av : Int) % 2) == 0) = true := by simp; omega
            have mav4 : ((((av % 2 : Nat)) : Int) == 0) = true := by simp; omega
            have mus1 : (((us : Int) % 4) != 0) = true := by simp; omega
            have mus2 : ((((us % 4 : Nat)) : Int) != 0) = true := by simp; omega
            have mus3 : (((us : Int) % 4) == 0) = false := by simp; omega
            have mus4 : ((((us % 4 : Nat)) : Int) == 0) = false := by simp; omega
            clear d1 d2 d3
            go_enter Tryd.func23, Tryd.ntmps23
            go_wp2_with (first | ((with_reducible refine bx_rp w.heap.size ⟨(n : Int), de, av, us, la, pu⟩ ?_ ?_ ?_); exact rfl; exact rfl; intro W hr hb hz; have fx := hr.cell))
            go_ret
            exact ⟨rfl, hb⟩
        · rw [show (decide (de % 16 = 0) && (decide (av % 2 = 0) && decide (us % 4 = 0))) = false by simp [d2], show errR (if false = true then 0 else 1) = .iface 65 (.int .i64 1) from rfl]
          have mde1 : (((de : Int) % 16) != 0) = false := by simp; omega
          have mde2 : ((((de % 16 : Nat)) : Int) != 0) = false := by simp; omega
          have mde3 : (((de : Int) % 16) == 0) = true := by simp; omega
          have mde4 : ((((de % 16 : Nat)) : Int) == 0) = true := by simp; omega
          have mav1 : (((av : Int) % 2) != 0) = true := by simp; omega
          have mav2 : ((((av % 2 : Nat)) : Int) != 0) = true := by simp; omega
          have mav3 : (((av : Int) % 2) == 0) = false := by simp; omega
          have mav4 : ((((av % 2 : Nat)) : Int) == 0) = false := by simp; omega
          clear d1 d2
          go_enter Tryd.func23, Tryd.ntmps23
          go_wp2_with (first | ((with_reducible refine bx_rp w.heap.size ⟨(n : Int), de, av, us, la, pu⟩ ?_ ?_ ?_); exact rfl; exact rfl; intro W hr hb hz; have fx := hr.cell))
          go_ret
          exact ⟨rfl, hb⟩
      · rw [show (decide (de % 16 = 0) && (decide (av % 2 = 0) && decide (us % 4 = 0))) = false by simp [d1], show errR (if false = true then 0 else 1) = .iface 65 (.int .i64 1) from rfl]
        have mde1 : (((de : Int) % 16) != 0) = true := by simp; omega
        have mde2 : ((((de % 16 : Nat)) : Int) != 0) = true := by simp; omega
        have mde3 : (((de : Int) % 16) == 0) = false := by simp; omega
        have mde4 : ((((de % 16 : Nat)) : Int) == 0) = false := by simp; omega
        clear d1
        go_enter Tryd.func23, Tryd.ntmps23
        go_wp2_with (first | ((with_reducible refine bx_rp w.heap.size ⟨(n : Int), de, av, us, la, pu⟩ ?_ ?_ ?_); exact rfl; exact rfl; intro W hr hb hz; have fx := hr.cell))
        go_ret
        exact ⟨rfl, hb⟩
  · have hf : chkR ⟨sz, de, av, us, la, pu⟩ = false := by unfold chkR; rw [okSz_far h1]; rfl
    rw [hf, show errR (if false = true then 0 else 1) = .iface 65 (.int .i64 1) from rfl]
    clear hf
    by_cases h2 : sz < 1
    · have l1 : decide (sz < 1) = true := by simpa using h2
      go_enter Tryd.func23, Tryd.ntmps23
      go_wp2_with (first | ((with_reducible refine bx_rp w.heap.size ⟨sz, de, av, us, la, pu⟩ ?_ ?_ ?_); exact rfl; exact rfl; intro W hr hb hz; have fx := hr.cell))
      go_ret
      exact ⟨rfl, hb⟩
    · have l1 : decide (sz < 1) = false := by simpa using h2
      have l2 : decide (256 < sz) = true := by simp; omega
      clear h1 h2
      go_enter Tryd.func23, Tryd.ntmps23
      go_wp2_with (first | ((with_reducible refine bx_rp w.heap.size ⟨sz, de, av, us, la, pu⟩ ?_ ?_ ?_); exact rfl; exact rfl; intro W hr hb hz; have fx := hr.cell))
      go_ret
      exact ⟨rfl, hb⟩
end Go.Proofs.YtahgacdkofmbmaaDoor
