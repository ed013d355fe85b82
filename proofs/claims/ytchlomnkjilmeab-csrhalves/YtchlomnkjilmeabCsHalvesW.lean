/-
  CsrHalves, walked.
-/
import Derived.Test.YtchlomnkjilmeabCsRead
import Derived.Test.YtchlomnkjilmeabCsWrite
import Derived.Test.YtchlomnkjilmeabCsEq
import Derived.Deep.RegionHeld3
namespace Go.Proofs.Ytchlomnkjilmeab
open Go.RowKit
set_option linter.unusedVariables false

theorem halves_or (h l : Nat) (h0 : h < 4294967296) (l0 : l < 4294967296) : bits .or .u64 ((h : Int) * 4294967296) (l : Int) = ((h * 4294967296 + l : Nat) : Int) := by
  have e2 : (h : Int) * 4294967296 = ((h * 4294967296 : Nat) : Int) := by simp
  have e3 := shl_or l h
  rw [Nat.mod_eq_of_lt l0] at e3
  rw [e2, u64_or_nat _ _ (by omega) (by omega), e3]

/-- A state's cells, number by number. -/
abbrev cells8 (st en ve sc ep ca va ct : Nat) : Array Value := #[.int .u32 st, .int .u32 en, .int .u32 ve, .int .u32 sc, .int .u32 ep, .int .u32 ca, .int .u32 va, .int .u64 ct]

set_option maxHeartbeats 2000000 in
set_option maxRecDepth 100000 in
theorem halves_core (st en ve sc ep ca va ct hi lo yc xc v x : Nat) (w : World)
    (HR1 : Hid (∀ w, Calls Try.prog 4 #[.agg #[.int .u32 st, .int .u32 en, .int .u32 ve, .int .u32 sc, .int .u32 ep, .int .u32 ca, .int .u32 va, .int .u64 ct], .int .i64 2816, .int .u32 0] w fun e w' => e = .returned (.tuple #[.int .u32 lo, .nilIface]) ∧ ∃ o, w' = w.alloc o))
    (HR2 : Hid (∀ w, Calls Try.prog 4 #[.agg #[.int .u32 st, .int .u32 en, .int .u32 ve, .int .u32 sc, .int .u32 ep, .int .u32 ca, .int .u32 va, .int .u64 ct], .int .i64 2946, .int .u32 0] w fun e w' => e = .returned (.tuple #[.int .u32 hi, .nilIface]) ∧ ∃ o, w' = w.alloc o))
    (HW1 : Hid (∀ w, Calls Try.prog 5 #[.agg #[.int .u32 st, .int .u32 en, .int .u32 ve, .int .u32 sc, .int .u32 ep, .int .u32 ca, .int .u32 va, .int .u64 ct], .int .i64 2818, .int .u32 v] w fun e w' => e = .returned (.tuple #[.agg #[.int .u32 st, .int .u32 en, .int .u32 ve, .int .u32 sc, .int .u32 ep, .int .u32 ca, .int .u32 va, .int .u64 yc], .nilIface]) ∧ ∃ o o', w' = (w.alloc o).alloc o'))
    (HW2 : Hid (∀ w, Calls Try.prog 5 #[.agg #[.int .u32 st, .int .u32 en, .int .u32 ve, .int .u32 sc, .int .u32 ep, .int .u32 ca, .int .u32 va, .int .u64 yc], .int .i64 2944, .int .u32 x] w fun e w' => e = .returned (.tuple #[.agg #[.int .u32 st, .int .u32 en, .int .u32 ve, .int .u32 sc, .int .u32 ep, .int .u32 ca, .int .u32 va, .int .u64 xc], .nilIface]) ∧ ∃ o o', w' = (w.alloc o).alloc o'))
    (e2 : bits .or .u64 ((hi : Int) * 4294967296) (lo : Int) = (ct : Int)) (e4 : bits .or .u64 ((x : Int) * 4294967296) (v : Int) = (xc : Int))
    (l1 : hi < 4294967296) (l2 : x < 4294967296) (l3 : lo < 4294967296) (l4 : v < 4294967296) :
    Calls Try.prog 3 #[.agg #[.int .u32 st, .int .u32 en, .int .u32 ve, .int .u32 sc, .int .u32 ep, .int .u32 ca, .int .u32 va, .int .u64 ct], .int .u32 v, .int .u32 x] w fun e w' => e = .returned (.bool true) ∧ Below w.heap.size w w' := by
  have HS := hide sure_any
  have hE := eql_same st en ve sc ep ca va xc
  go_enter Try.func3, Try.ntmps3
  go_wp2_with (fail)
  refine (HR1.out _).mono ?_
  rintro e w1 ⟨rfl, o1, rfl⟩
  go_wp2_with (fail)
  refine (HR2.out _).mono ?_
  rintro e w2 ⟨rfl, o2, rfl⟩
  go_wp2_with (fail)
  refine (HW1.out _).mono ?_
  rintro e w3 ⟨rfl, o3, o4, rfl⟩
  go_wp2_with (fail)
  refine (HW2.out _).mono ?_
  rintro e w4 ⟨rfl, o5, o6, rfl⟩
  go_wp2_with (fail)
  refine (HS.out _).mono ?_
  rintro e w5 ⟨rfl, o7, o8, o9, rfl⟩
  go_wp2_with (fail)
  go_ret
  refine ⟨rfl, ?_⟩
  repeat (first | exact Below.refl _ _ | refine Below.drew ?_ | refine Below.alloc ?_ (by simp <;> omega) _)

theorem halves_walk (s : S8) (hs : s.Ok) (v x : Nat) (hv : v < 4294967296) (hx : x < 4294967296) (w : World) :
    Calls Try.prog 3 #[.agg s.cells, .int .u32 v, .int .u32 x] w fun e w' => e = .returned (.bool true) ∧ Below w.heap.size w w' := by
  obtain ⟨st, en, ve, sc, ep, ca, va, ct⟩ := s
  obtain ⟨h0, h1, h2, h3, h4, h5, h6, h7⟩ := hs
  dsimp only at h0 h1 h2 h3 h4 h5 h6 h7
  have e1 : (ct / 4294967296 * 4294967296 + v) % 4294967296 = v := by omega
  have e3 : ct / 4294967296 * 4294967296 + ct % 4294967296 = ct := by omega
  have l1 : ct / 4294967296 < 4294967296 := by omega
  have l3 : ct % 4294967296 < 4294967296 := by omega
  refine halves_core st en ve sc ep ca va ct (ct / 4294967296) (ct % 4294967296) (ct / 4294967296 * 4294967296 + v) (x * 4294967296 + v) v x w
    (hide (read_2816 st en ve sc ep ca va ct h0 h1 h2 h3 h4 h5 h6 h7 0 (by decide)))
    (hide (read_2946 st en ve sc ep ca va ct h0 h1 h2 h3 h4 h5 h6 h7 0 (by decide)))
    (hide (write_2818 st en ve sc ep ca va ct h0 h1 h2 h3 h4 h5 h6 h7 v hv)) (hide ?_) ?_ (halves_or x v hx hv) l1 hx l3 hv
  · have h := write_2944 st en ve sc ep ca va (ct / 4294967296 * 4294967296 + v) h0 h1 h2 h3 h4 h5 h6 (high_lt h7 hv) x hx
    rw [e1] at h
    exact h
  · have h := halves_or (ct / 4294967296) (ct % 4294967296) l1 l3
    rw [e3] at h
    exact h
end Go.Proofs.Ytchlomnkjilmeab
