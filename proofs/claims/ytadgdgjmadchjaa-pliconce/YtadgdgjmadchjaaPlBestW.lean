/-
  PlicBest, walked.
-/
import Derived.Test.YtadgdgjmadchjaaPlSure
import Derived.Test.YtadgdgjmadchjaaPlBestM
import Derived.BigQuiet
import Derived.Deep.QuietTactic
namespace Go.Proofs.Ytadgdgjmadchjaa
open Go.RowKit
set_option linter.unusedVariables false

theorem shr_tb (v n : Nat) (hv : v < 4294967296) : (bits .and .u32 ((v : Int) / 2 ^ n) 1 == 1) = v.testBit n := by
  have e : ((v : Int) / 2 ^ n) = ((v / 2 ^ n : Nat) : Int) := by simp
  have hd : v / 2 ^ n < 4294967296 := Nat.lt_of_le_of_lt (Nat.div_le_self _ _) hv
  have := u32_and_nat (v / 2 ^ n) 1 hd (by decide)
  rw [show (((1 : Nat) : Int)) = 1 from rfl] at this
  rw [e, this, Nat.testBit_eq_decide_div_mod_eq, Nat.and_one_is_mod, Bool.eq_iff_iff]
  simp
  omega
set_option maxRecDepth 100000 in
set_option maxHeartbeats 2000000 in
theorem best_walk (s : P5) (hs : s.Ok) (w : World) :
    Calls Try.prog 5 #[.agg s.cells] w fun e w' => e = .returned (.bool true) ∧ Below w.heap.size w w' := by
  have HBe := hide (fun w => best_any s hs w)
  have hle := bestV_le s
  have HNo := hide (fun n hn hw ht => best_no s n hn hw ht)
  have HS := hide (fun w => sure_any w)
  generalize bestV s = b at *
  have tb0 : decide ((b : Int) < 0) = false := by simp
  have tb7 : decide ((b : Int) > 7) = false := by simp; omega
  have tb7' : decide ((7 : Int) < (b : Int)) = false := by simp; omega
  go_enter Try.func5, Try.ntmps5
  go_wp2_with (first | ((with_reducible refine bx_r w.heap.size s ?_ ?_ ?_); exact rfl; exact rfl; intro W hr hb hz) | ((with_reducible refine ld_r w.heap.size s hr ?_ ?_); exact rfl) | ((with_reducible refine al_p (w.heap.size + 1) ?_ ?_); exact hz.out; intro W hx hb' hz'; replace hr := hr.bl (hz.out ▸ hb'); replace hb := hb.trans (hb'.mono (by omega)); replace hz := hz') | ((with_reducible refine st_p (w.heap.size + 1) _ s hx ?_ ?_ ?_); exact rfl; exact rfl; intro W hnew ho; replace hr := hr.only ho (by omega); replace hx := hnew; replace hb := ho.bel _ _ (by omega) hb) | ((with_reducible refine ld_p (w.heap.size + 1) s hx ?_ ?_); exact rfl) | (go_at_call 12; refine (HBe.out _).mono ?_; rintro e W ⟨rfl, hbc⟩; replace hx := hx.bl hbc; replace hb := below_bl rfl hb hbc))
  go_loopw [5] (fun nv wr => ∃ n : Nat, 1 ≤ n ∧ n ≤ 8 ∧ nv = .int .i64 n ∧ RowAt wr (w.heap.size + 1) s.cells 26 ∧ Below w.heap.size w wr) (fun nv _ => 8 - (intOf nv).toNat)
  case atStart => exact ⟨1, by omega, by omega, rfl, hx, hb⟩
  case round =>
    clear hr hx hb hz tb0 tb7 tb7'
    obtain ⟨n, hn1, hn8, rfl, hx, hb⟩ := hrel
    have HX := hide hx
    have HBl := hide hb
    by_cases hlt : n < 8
    · have c8 := (hx.cell 8).trans (P5.at8 s)
      have c9 := (hx.cell 9).trans (P5.at9 s)
      have c10 := (hx.cell 10).trans (P5.at10 s)
      have cn := (hx.cell n).trans (s.cell_pr n hlt)
      have cb := (hx.cell b).trans (s.cell_pr b (by omega))
      have hwn := fun (h1 : s.pe.testBit n = true) (h2 : s.en.testBit n = true) (h3 : s.th < s.pr n) => HNo.out n hlt (show wants s n = true by unfold wants; rw [h1, h2, Bool.and_true, Bool.and_true]; simp; omega) h3
      have HW := hide hwn
      clear hx hb hwn HNo
      have t1 := shr_tb s.pe n hs.pe
      have t2 := shr_tb s.en n hs.en
      cases hp : s.pe.testBit n with
      | false =>
        rw [hp] at t1
        go_wp2
        go_quiet (fail)
        go_wp2
        go_roundw
        case rel => exact ⟨n + 1, by omega, by omega, by go_num, HX.out.dn _, below_dn HBl.out _⟩
        case measure => simp [intOf]; omega
      | true =>
        rw [hp] at t1
        cases he : s.en.testBit n with
        | false =>
          rw [he] at t2
          go_wp2
          go_quiet (fail)
          go_wp2
          go_roundw
          case rel => exact ⟨n + 1, by omega, by omega, by go_num, HX.out.dn _, below_dn HBl.out _⟩
          case measure => simp [intOf]; omega
        | true =>
          rw [he] at t2
          by_cases h3 : s.th < s.pr n
          · have t3 : decide (s.th < s.pr n) = true := by simpa using h3
            obtain ⟨g1, g2, g3⟩ := HW.out hp he h3
            have t4 : ((b : Int) == 0) = false := by simp; omega
            have t5 : decide (s.pr b < s.pr n) = false := by simp; omega
            by_cases h6 : n < b
            · have t6 : decide (n < b) = true := by simpa using h6
              have t7 : (((s.pr n : Nat) : Int) == ((s.pr b : Nat) : Int)) = false := by (have := g3 h6; simp; omega)
              clear g1 g2 g3
              go_wp2
              go_quiet (fail)
              go_wp2
              go_roundw
              case rel => exact ⟨n + 1, by omega, by omega, by go_num, HX.out.dn _, below_dn HBl.out _⟩
              case measure => simp [intOf]; omega
            · have t6 : decide (n < b) = false := by simp; omega
              clear g1 g2 g3
              go_wp2
              go_quiet (fail)
              go_wp2
              go_roundw
              case rel => exact ⟨n + 1, by omega, by omega, by go_num, HX.out.dn _, below_dn HBl.out _⟩
              case measure => simp [intOf]; omega
          · have t3 : decide (s.th < s.pr n) = false := by simp; omega
            go_wp2
            go_quiet (fail)
            go_wp2
            go_roundw
            case rel => exact ⟨n + 1, by omega, by omega, by go_num, HX.out.dn _, below_dn HBl.out _⟩
            case measure => simp [intOf]; omega
    · obtain rfl : n = 8 := by omega
      clear hx
      go_wp2_with (go_at_call 8; refine (HS.out _).mono ?_; rintro e W ⟨rfl, hbc⟩; replace hb := below_bl rfl hb hbc)
      go_ret
      exact ⟨rfl, hb⟩

end Go.Proofs.Ytadgdgjmadchjaa
