/-
  What plic.Best answers.
-/
import Derived.Test.YtadgdgjmadchjaaDoorPlProg
import Derived.BigQuiet
import Derived.Deep.QuietTactic
namespace Go.Proofs.YtadgdgjmadchjaaDoor
open Go.RowKit
set_option linter.unusedVariables false

theorem bK_one (s : P5) : bK s 1 = (0, s.th) := by
  show (if _ then _ else _) = _
  rw [if_neg (by simp [wants])]; rfl
set_option maxRecDepth 100000 in
set_option maxHeartbeats 2000000 in
theorem best_any (s : P5) (hs : s.Ok) (w : World) :
    Calls Tryd.prog 10 #[.agg s.cells] w fun e w' => e = .returned (.int .i64 (bestV s : Nat)) ∧ Below w.heap.size w w' := by
  have h1 := hs.en
  have h3 := hs.pe
  have HC := hide hs
  go_enter Tryd.func10, Tryd.ntmps10
  go_wp2_with (first | ((with_reducible refine bx_p w.heap.size s ?_ ?_ ?_); exact rfl; exact rfl; intro W hr hb hz))
  have c9 := (hr.cell 9).trans (P5.at9 s)
  have HR := hide hr
  have HBl := hide hb
  clear hr hb hz
  go_quiet (fail)
  go_wp2
  go_loopw [3, 4, 5] (fun bv av nv wr => ∃ n : Nat, 1 ≤ n ∧ n ≤ 8 ∧ nv = .int .i64 n ∧ bv = .int .i64 ((bK s n).1 : Nat) ∧ av = .int .u32 ((bK s n).2 : Nat) ∧ RowAt wr w.heap.size s.cells 26 ∧ Below w.heap.size w wr) (fun _ _ nv _ => 8 - (intOf nv).toNat)
  case atStart => exact ⟨1, by omega, by omega, rfl, by rw [bK_one]; rfl, by rw [bK_one], HR.out.dn _, below_dn HBl.out _⟩
  case round =>
    obtain ⟨n, hn1, hn8, rfl, rfl, rfl, hr, hB⟩ := hrel
    clear c9 HR HBl
    have HR := hide hr
    have HBl := hide hB
    by_cases hlt : n < 8
    · have c8 := (hr.cell 8).trans (P5.at8 s)
      have c10 := (hr.cell 10).trans (P5.at10 s)
      have cn := (hr.cell n).trans (s.cell_pr n hlt)
      have hp : 2 ^ n < 4294967296 := pow_lt32 (by omega)
      have hae : s.pe &&& s.en < 4294967296 := and_lt_l (n := 32) h3
      have E2 : (bits .and .u32 (bits .and .u32 (s.pe : Int) (s.en : Int)) ((2 ^ n : Nat) : Int) != 0) = wants s n := by
        rw [u32_and_nat _ _ h3 h1, u32_and_nat _ _ hae hp, ← wants_and s n (by omega), Bool.eq_iff_iff]; simp
      have HB := hide (fun w => pbit_any n (by omega) w)
      have hv := (HC.out).pr n
      have hy := bK_ok s HC.out n
      have hN : bK s (n + 1) = if wants s n = true ∧ (bK s n).2 < s.pr n then (n, s.pr n) else bK s n := rfl
      clear hr hB hae hn8
      generalize 2 ^ n = pw at *
      generalize wants s n = wt at *
      generalize hk : bK s n = xy at *
      obtain ⟨x, y⟩ := xy
      dsimp only at hN hy ⊢
      cases wt with
      | false =>
        have HN : Hid (bK s (n + 1) = (x, y)) := hide (by rw [hN, if_neg (by simp)])
        clear hN hk
        go_wp2
        go_quiet ((go_at_call 21; exact Calls.quiet_of_same (HB.out _)))
        go_wp2
        go_roundw
        case rel => exact ⟨n + 1, by omega, by omega, by go_num, by rw [HN.out], by rw [HN.out], HR.out.dn _, below_dn HBl.out _⟩
        case measure => simp [intOf]; omega
      | true =>
        by_cases hpy : y < s.pr n
        · have t9 : ((s.pr n : Nat) : Int) > (y : Int) := by omega
          have HN : Hid (bK s (n + 1) = (n, s.pr n)) := hide (by rw [hN, if_pos ⟨rfl, hpy⟩])
          have t8 : decide (y < s.pr n) = true := by simpa using hpy
          clear hN hk t9
          go_wp2
          go_quiet ((go_at_call 21; exact Calls.quiet_of_same (HB.out _)))
          go_wp2
          go_quiet (fail)
          go_wp2
          go_roundw
          case rel => exact ⟨n + 1, by omega, by omega, by go_num, by rw [HN.out], by rw [HN.out], HR.out.dn _, below_dn HBl.out _⟩
          case measure => simp [intOf]; omega
        · have t9 : decide (((s.pr n : Nat) : Int) > (y : Int)) = false := by simp; omega
          have t8 : decide (y < s.pr n) = false := by simp; omega
          have HN : Hid (bK s (n + 1) = (x, y)) := hide (by rw [hN, if_neg (by simp [hpy])])
          clear hN hk t9
          go_wp2
          go_quiet ((go_at_call 21; exact Calls.quiet_of_same (HB.out _)))
          go_wp2
          go_roundw
          case rel => exact ⟨n + 1, by omega, by omega, by go_num, by rw [HN.out], by rw [HN.out], HR.out.dn _, below_dn HBl.out _⟩
          case measure => simp [intOf]; omega
    · obtain rfl : n = 8 := by omega
      clear hr hB
      go_wp2
      go_ret
      exact ⟨rfl, HBl.out⟩

end Go.Proofs.YtadgdgjmadchjaaDoor
