/-
  What the document's Write answers.
-/
import Derived.Test.YtchjhpeogdkbmaaDoorJB
import Derived.Deep.QuietTactic
import Derived.BigQuiet
namespace Go.Proofs.YtchjhpeogdkbmaaDoor
open Go.RowKit
set_option linter.unusedVariables false

/-- What Read answers, as the document's values. -/
def readR : Option Nat → Value
  | some x => .tuple #[.int .u32 x, .int .i64 0]
  | none => .tuple #[.int .u32 0, .int .i64 8]
theorem ret_readr {a b : Int} (h : a = b) : Ending.returned (.tuple #[.int .u32 a, .int .i64 0]) = .returned (.tuple #[.int .u32 b, .int .i64 0]) := by rw [h]

set_option maxHeartbeats 400000 in
theorem rread_768 (st en ve sc ep ca va ct : Nat) (h0 : st < 4294967296) (h1 : en < 4294967296) (h2 : ve < 4294967296) (h3 : sc < 4294967296) (h4 : ep < 4294967296) (h5 : ca < 4294967296) (h6 : va < 4294967296) (h7 : ct < 18446744073709551616) (l : Nat) (hl : l < 4294967296) (w : World) :
    Calls Tryd.prog 71 #[.agg #[.int .u32 st, .int .u32 en, .int .u32 ve, .int .u32 sc, .int .u32 ep, .int .u32 ca, .int .u32 va, .int .u64 ct], .int .i64 768, .int .u32 l] w fun e w' => e = .returned (.tuple #[.int .u32 (st ||| 6144 : Nat), .int .i64 0]) ∧ Below w.heap.size w w' := by
  have HX : Hid (bits .or .u32 (st : Int) 6144 = ((st ||| 6144 : Nat) : Int)) := u32_or_nat st 6144 h0 (by decide)
  go_enter Tryd.func71, Tryd.ntmps71
  go_wp2
  go_ret2
  exact ⟨ret_readr HX.out, below_one _ _⟩

set_option maxHeartbeats 400000 in
theorem rread_769 (st en ve sc ep ca va ct : Nat) (h0 : st < 4294967296) (h1 : en < 4294967296) (h2 : ve < 4294967296) (h3 : sc < 4294967296) (h4 : ep < 4294967296) (h5 : ca < 4294967296) (h6 : va < 4294967296) (h7 : ct < 18446744073709551616) (l : Nat) (hl : l < 4294967296) (w : World) :
    Calls Tryd.prog 71 #[.agg #[.int .u32 st, .int .u32 en, .int .u32 ve, .int .u32 sc, .int .u32 ep, .int .u32 ca, .int .u32 va, .int .u64 ct], .int .i64 769, .int .u32 l] w fun e w' => e = .returned (.tuple #[.int .u32 1073746176, .int .i64 0]) ∧ Below w.heap.size w w' := by
  go_enter Tryd.func71, Tryd.ntmps71
  go_wp2
  go_ret2
  exact ⟨rfl, below_one _ _⟩

set_option maxHeartbeats 400000 in
theorem rread_772 (st en ve sc ep ca va ct : Nat) (h0 : st < 4294967296) (h1 : en < 4294967296) (h2 : ve < 4294967296) (h3 : sc < 4294967296) (h4 : ep < 4294967296) (h5 : ca < 4294967296) (h6 : va < 4294967296) (h7 : ct < 18446744073709551616) (l : Nat) (hl : l < 4294967296) (w : World) :
    Calls Tryd.prog 71 #[.agg #[.int .u32 st, .int .u32 en, .int .u32 ve, .int .u32 sc, .int .u32 ep, .int .u32 ca, .int .u32 va, .int .u64 ct], .int .i64 772, .int .u32 l] w fun e w' => e = .returned (.tuple #[.int .u32 (en : Nat), .int .i64 0]) ∧ Below w.heap.size w w' := by
  go_enter Tryd.func71, Tryd.ntmps71
  go_wp2
  go_ret2
  exact ⟨rfl, below_one _ _⟩

set_option maxHeartbeats 400000 in
theorem rread_773 (st en ve sc ep ca va ct : Nat) (h0 : st < 4294967296) (h1 : en < 4294967296) (h2 : ve < 4294967296) (h3 : sc < 4294967296) (h4 : ep < 4294967296) (h5 : ca < 4294967296) (h6 : va < 4294967296) (h7 : ct < 18446744073709551616) (l : Nat) (hl : l < 4294967296) (w : World) :
    Calls Tryd.prog 71 #[.agg #[.int .u32 st, .int .u32 en, .int .u32 ve, .int .u32 sc, .int .u32 ep, .int .u32 ca, .int .u32 va, .int .u64 ct], .int .i64 773, .int .u32 l] w fun e w' => e = .returned (.tuple #[.int .u32 (ve : Nat), .int .i64 0]) ∧ Below w.heap.size w w' := by
  go_enter Tryd.func71, Tryd.ntmps71
  go_wp2
  go_ret2
  exact ⟨rfl, below_one _ _⟩

set_option maxHeartbeats 400000 in
theorem rread_832 (st en ve sc ep ca va ct : Nat) (h0 : st < 4294967296) (h1 : en < 4294967296) (h2 : ve < 4294967296) (h3 : sc < 4294967296) (h4 : ep < 4294967296) (h5 : ca < 4294967296) (h6 : va < 4294967296) (h7 : ct < 18446744073709551616) (l : Nat) (hl : l < 4294967296) (w : World) :
    Calls Tryd.prog 71 #[.agg #[.int .u32 st, .int .u32 en, .int .u32 ve, .int .u32 sc, .int .u32 ep, .int .u32 ca, .int .u32 va, .int .u64 ct], .int .i64 832, .int .u32 l] w fun e w' => e = .returned (.tuple #[.int .u32 (sc : Nat), .int .i64 0]) ∧ Below w.heap.size w w' := by
  go_enter Tryd.func71, Tryd.ntmps71
  go_wp2
  go_ret2
  exact ⟨rfl, below_one _ _⟩

set_option maxHeartbeats 400000 in
theorem rread_833 (st en ve sc ep ca va ct : Nat) (h0 : st < 4294967296) (h1 : en < 4294967296) (h2 : ve < 4294967296) (h3 : sc < 4294967296) (h4 : ep < 4294967296) (h5 : ca < 4294967296) (h6 : va < 4294967296) (h7 : ct < 18446744073709551616) (l : Nat) (hl : l < 4294967296) (w : World) :
    Calls Tryd.prog 71 #[.agg #[.int .u32 st, .int .u32 en, .int .u32 ve, .int .u32 sc, .int .u32 ep, .int .u32 ca, .int .u32 va, .int .u64 ct], .int .i64 833, .int .u32 l] w fun e w' => e = .returned (.tuple #[.int .u32 (ep : Nat), .int .i64 0]) ∧ Below w.heap.size w w' := by
  go_enter Tryd.func71, Tryd.ntmps71
  go_wp2
  go_ret2
  exact ⟨rfl, below_one _ _⟩

set_option maxHeartbeats 400000 in
theorem rread_834 (st en ve sc ep ca va ct : Nat) (h0 : st < 4294967296) (h1 : en < 4294967296) (h2 : ve < 4294967296) (h3 : sc < 4294967296) (h4 : ep < 4294967296) (h5 : ca < 4294967296) (h6 : va < 4294967296) (h7 : ct < 18446744073709551616) (l : Nat) (hl : l < 4294967296) (w : World) :
    Calls Tryd.prog 71 #[.agg #[.int .u32 st, .int .u32 en, .int .u32 ve, .int .u32 sc, .int .u32 ep, .int .u32 ca, .int .u32 va, .int .u64 ct], .int .i64 834, .int .u32 l] w fun e w' => e = .returned (.tuple #[.int .u32 (ca : Nat), .int .i64 0]) ∧ Below w.heap.size w w' := by
  go_enter Tryd.func71, Tryd.ntmps71
  go_wp2
  go_ret2
  exact ⟨rfl, below_one _ _⟩

set_option maxHeartbeats 400000 in
theorem rread_835 (st en ve sc ep ca va ct : Nat) (h0 : st < 4294967296) (h1 : en < 4294967296) (h2 : ve < 4294967296) (h3 : sc < 4294967296) (h4 : ep < 4294967296) (h5 : ca < 4294967296) (h6 : va < 4294967296) (h7 : ct < 18446744073709551616) (l : Nat) (hl : l < 4294967296) (w : World) :
    Calls Tryd.prog 71 #[.agg #[.int .u32 st, .int .u32 en, .int .u32 ve, .int .u32 sc, .int .u32 ep, .int .u32 ca, .int .u32 va, .int .u64 ct], .int .i64 835, .int .u32 l] w fun e w' => e = .returned (.tuple #[.int .u32 (va : Nat), .int .i64 0]) ∧ Below w.heap.size w w' := by
  go_enter Tryd.func71, Tryd.ntmps71
  go_wp2
  go_ret2
  exact ⟨rfl, below_one _ _⟩

set_option maxHeartbeats 400000 in
theorem rread_836 (st en ve sc ep ca va ct : Nat) (h0 : st < 4294967296) (h1 : en < 4294967296) (h2 : ve < 4294967296) (h3 : sc < 4294967296) (h4 : ep < 4294967296) (h5 : ca < 4294967296) (h6 : va < 4294967296) (h7 : ct < 18446744073709551616) (l : Nat) (hl : l < 4294967296) (w : World) :
    Calls Tryd.prog 71 #[.agg #[.int .u32 st, .int .u32 en, .int .u32 ve, .int .u32 sc, .int .u32 ep, .int .u32 ca, .int .u32 va, .int .u64 ct], .int .i64 836, .int .u32 l] w fun e w' => e = .returned (.tuple #[.int .u32 (l &&& 2184 : Nat), .int .i64 0]) ∧ Below w.heap.size w w' := by
  have HO := hide (only3_at l hl)
  clear h0 h1 h2 h3 h4 h5 h6 h7
  generalize l &&& 2184 = r at *
  go_enter Tryd.func71, Tryd.ntmps71
  go_wp2_with (fail)
  obtain ⟨W, hW⟩ : ∃ X, (w.alloc (.cells #[.int .u32 st, .int .u32 en, .int .u32 ve, .int .u32 sc, .int .u32 ep, .int .u32 ca, .int .u32 va, .int .u64 ct] 26)).alloc (.cells #[.int .i64 3, .int .i64 7, .int .i64 11] 3) = X := ⟨_, rfl⟩
  have hI : RowAt W (w.heap.size + 1) #[.int .i64 3, .int .i64 7, .int .i64 11] 3 := hW ▸ RowAt.new _ _ _ _ (by simp)
  have hB : Below w.heap.size w W := hW ▸ below_two _ _ _
  rw [hW]
  clear hW
  refine (HO.out _ _ _ hI).mono ?_
  rintro e w1 ⟨rfl, hb1⟩
  have HB1 := hide (below_bl rfl hB hb1)
  clear hI hB hb1
  go_wp2
  go_ret2
  exact ⟨rfl, HB1.out⟩

set_option maxHeartbeats 400000 in
theorem rread_2816 (st en ve sc ep ca va ct : Nat) (h0 : st < 4294967296) (h1 : en < 4294967296) (h2 : ve < 4294967296) (h3 : sc < 4294967296) (h4 : ep < 4294967296) (h5 : ca < 4294967296) (h6 : va < 4294967296) (h7 : ct < 18446744073709551616) (l : Nat) (hl : l < 4294967296) (w : World) :
    Calls Tryd.prog 71 #[.agg #[.int .u32 st, .int .u32 en, .int .u32 ve, .int .u32 sc, .int .u32 ep, .int .u32 ca, .int .u32 va, .int .u64 ct], .int .i64 2816, .int .u32 l] w fun e w' => e = .returned (.tuple #[.int .u32 (ct % 4294967296 : Nat), .int .i64 0]) ∧ Below w.heap.size w w' := by
  go_enter Tryd.func71, Tryd.ntmps71
  go_wp2
  go_ret2
  exact ⟨ret_readr (by omega), below_one _ _⟩

set_option maxHeartbeats 400000 in
theorem rread_2818 (st en ve sc ep ca va ct : Nat) (h0 : st < 4294967296) (h1 : en < 4294967296) (h2 : ve < 4294967296) (h3 : sc < 4294967296) (h4 : ep < 4294967296) (h5 : ca < 4294967296) (h6 : va < 4294967296) (h7 : ct < 18446744073709551616) (l : Nat) (hl : l < 4294967296) (w : World) :
    Calls Tryd.prog 71 #[.agg #[.int .u32 st, .int .u32 en, .int .u32 ve, .int .u32 sc, .int .u32 ep, .int .u32 ca, .int .u32 va, .int .u64 ct], .int .i64 2818, .int .u32 l] w fun e w' => e = .returned (.tuple #[.int .u32 (ct % 4294967296 : Nat), .int .i64 0]) ∧ Below w.heap.size w w' := by
  go_enter Tryd.func71, Tryd.ntmps71
  go_wp2
  go_ret2
  exact ⟨ret_readr (by omega), below_one _ _⟩

set_option maxHeartbeats 400000 in
theorem rread_2944 (st en ve sc ep ca va ct : Nat) (h0 : st < 4294967296) (h1 : en < 4294967296) (h2 : ve < 4294967296) (h3 : sc < 4294967296) (h4 : ep < 4294967296) (h5 : ca < 4294967296) (h6 : va < 4294967296) (h7 : ct < 18446744073709551616) (l : Nat) (hl : l < 4294967296) (w : World) :
    Calls Tryd.prog 71 #[.agg #[.int .u32 st, .int .u32 en, .int .u32 ve, .int .u32 sc, .int .u32 ep, .int .u32 ca, .int .u32 va, .int .u64 ct], .int .i64 2944, .int .u32 l] w fun e w' => e = .returned (.tuple #[.int .u32 (ct / 4294967296 : Nat), .int .i64 0]) ∧ Below w.heap.size w w' := by
  go_enter Tryd.func71, Tryd.ntmps71
  go_wp2
  go_ret2
  exact ⟨ret_readr (by omega), below_one _ _⟩

set_option maxHeartbeats 400000 in
theorem rread_2946 (st en ve sc ep ca va ct : Nat) (h0 : st < 4294967296) (h1 : en < 4294967296) (h2 : ve < 4294967296) (h3 : sc < 4294967296) (h4 : ep < 4294967296) (h5 : ca < 4294967296) (h6 : va < 4294967296) (h7 : ct < 18446744073709551616) (l : Nat) (hl : l < 4294967296) (w : World) :
    Calls Tryd.prog 71 #[.agg #[.int .u32 st, .int .u32 en, .int .u32 ve, .int .u32 sc, .int .u32 ep, .int .u32 ca, .int .u32 va, .int .u64 ct], .int .i64 2946, .int .u32 l] w fun e w' => e = .returned (.tuple #[.int .u32 (ct / 4294967296 : Nat), .int .i64 0]) ∧ Below w.heap.size w w' := by
  go_enter Tryd.func71, Tryd.ntmps71
  go_wp2
  go_ret2
  exact ⟨ret_readr (by omega), below_one _ _⟩

set_option maxHeartbeats 400000 in
theorem rread_3857 (st en ve sc ep ca va ct : Nat) (h0 : st < 4294967296) (h1 : en < 4294967296) (h2 : ve < 4294967296) (h3 : sc < 4294967296) (h4 : ep < 4294967296) (h5 : ca < 4294967296) (h6 : va < 4294967296) (h7 : ct < 18446744073709551616) (l : Nat) (hl : l < 4294967296) (w : World) :
    Calls Tryd.prog 71 #[.agg #[.int .u32 st, .int .u32 en, .int .u32 ve, .int .u32 sc, .int .u32 ep, .int .u32 ca, .int .u32 va, .int .u64 ct], .int .i64 3857, .int .u32 l] w fun e w' => e = .returned (.tuple #[.int .u32 0, .int .i64 0]) ∧ Below w.heap.size w w' := by
  go_enter Tryd.func71, Tryd.ntmps71
  go_wp2
  go_ret2
  exact ⟨rfl, below_one _ _⟩

set_option maxHeartbeats 400000 in
theorem rread_3858 (st en ve sc ep ca va ct : Nat) (h0 : st < 4294967296) (h1 : en < 4294967296) (h2 : ve < 4294967296) (h3 : sc < 4294967296) (h4 : ep < 4294967296) (h5 : ca < 4294967296) (h6 : va < 4294967296) (h7 : ct < 18446744073709551616) (l : Nat) (hl : l < 4294967296) (w : World) :
    Calls Tryd.prog 71 #[.agg #[.int .u32 st, .int .u32 en, .int .u32 ve, .int .u32 sc, .int .u32 ep, .int .u32 ca, .int .u32 va, .int .u64 ct], .int .i64 3858, .int .u32 l] w fun e w' => e = .returned (.tuple #[.int .u32 0, .int .i64 0]) ∧ Below w.heap.size w w' := by
  go_enter Tryd.func71, Tryd.ntmps71
  go_wp2
  go_ret2
  exact ⟨rfl, below_one _ _⟩

set_option maxHeartbeats 400000 in
theorem rread_3859 (st en ve sc ep ca va ct : Nat) (h0 : st < 4294967296) (h1 : en < 4294967296) (h2 : ve < 4294967296) (h3 : sc < 4294967296) (h4 : ep < 4294967296) (h5 : ca < 4294967296) (h6 : va < 4294967296) (h7 : ct < 18446744073709551616) (l : Nat) (hl : l < 4294967296) (w : World) :
    Calls Tryd.prog 71 #[.agg #[.int .u32 st, .int .u32 en, .int .u32 ve, .int .u32 sc, .int .u32 ep, .int .u32 ca, .int .u32 va, .int .u64 ct], .int .i64 3859, .int .u32 l] w fun e w' => e = .returned (.tuple #[.int .u32 0, .int .i64 0]) ∧ Below w.heap.size w w' := by
  go_enter Tryd.func71, Tryd.ntmps71
  go_wp2
  go_ret2
  exact ⟨rfl, below_one _ _⟩

set_option maxHeartbeats 400000 in
theorem rread_3860 (st en ve sc ep ca va ct : Nat) (h0 : st < 4294967296) (h1 : en < 4294967296) (h2 : ve < 4294967296) (h3 : sc < 4294967296) (h4 : ep < 4294967296) (h5 : ca < 4294967296) (h6 : va < 4294967296) (h7 : ct < 18446744073709551616) (l : Nat) (hl : l < 4294967296) (w : World) :
    Calls Tryd.prog 71 #[.agg #[.int .u32 st, .int .u32 en, .int .u32 ve, .int .u32 sc, .int .u32 ep, .int .u32 ca, .int .u32 va, .int .u64 ct], .int .i64 3860, .int .u32 l] w fun e w' => e = .returned (.tuple #[.int .u32 0, .int .i64 0]) ∧ Below w.heap.size w w' := by
  go_enter Tryd.func71, Tryd.ntmps71
  go_wp2
  go_ret2
  exact ⟨rfl, below_one _ _⟩

set_option maxHeartbeats 400000 in
theorem rread_none (st en ve sc ep ca va ct : Nat) (a : Int) (c768 : ¬ a = 768) (c769 : ¬ a = 769) (c772 : ¬ a = 772) (c773 : ¬ a = 773) (c832 : ¬ a = 832) (c833 : ¬ a = 833) (c834 : ¬ a = 834) (c835 : ¬ a = 835) (c836 : ¬ a = 836) (c2816 : ¬ a = 2816) (c2818 : ¬ a = 2818) (c2944 : ¬ a = 2944) (c2946 : ¬ a = 2946) (c3857 : ¬ a = 3857) (c3858 : ¬ a = 3858) (c3859 : ¬ a = 3859) (c3860 : ¬ a = 3860) (l : Nat) (w : World) :
    Calls Tryd.prog 71 #[.agg #[.int .u32 st, .int .u32 en, .int .u32 ve, .int .u32 sc, .int .u32 ep, .int .u32 ca, .int .u32 va, .int .u64 ct], .int .i64 a, .int .u32 l] w fun e w' => e = .returned (.tuple #[.int .u32 0, .int .i64 8]) ∧ Below w.heap.size w w' := by
  go_enter Tryd.func71, Tryd.ntmps71
  go_wp2
  go_ret2
  exact ⟨rfl, below_one _ _⟩

theorem rread_any (s : S8) (hs : s.Ok) (a : Int) (l : Nat) (hl : l < 4294967296) (w : World) :
    Calls Tryd.prog 71 #[.agg s.cells, .int .i64 a, .int .u32 l] w fun e w' => e = .returned (readR (readN s a l)) ∧ Below w.heap.size w w' := by
  obtain ⟨st, en, ve, sc, ep, ca, va, ct⟩ := s
  obtain ⟨h0, h1, h2, h3, h4, h5, h6, h7⟩ := hs
  by_cases c768 : a = 768
  · subst c768; exact rread_768 st en ve sc ep ca va ct h0 h1 h2 h3 h4 h5 h6 h7 l hl w
  by_cases c769 : a = 769
  · subst c769; exact rread_769 st en ve sc ep ca va ct h0 h1 h2 h3 h4 h5 h6 h7 l hl w
  by_cases c772 : a = 772
  · subst c772; exact rread_772 st en ve sc ep ca va ct h0 h1 h2 h3 h4 h5 h6 h7 l hl w
  by_cases c773 : a = 773
  · subst c773; exact rread_773 st en ve sc ep ca va ct h0 h1 h2 h3 h4 h5 h6 h7 l hl w
  by_cases c832 : a = 832
  · subst c832; exact rread_832 st en ve sc ep ca va ct h0 h1 h2 h3 h4 h5 h6 h7 l hl w
  by_cases c833 : a = 833
  · subst c833; exact rread_833 st en ve sc ep ca va ct h0 h1 h2 h3 h4 h5 h6 h7 l hl w
  by_cases c834 : a = 834
  · subst c834; exact rread_834 st en ve sc ep ca va ct h0 h1 h2 h3 h4 h5 h6 h7 l hl w
  by_cases c835 : a = 835
  · subst c835; exact rread_835 st en ve sc ep ca va ct h0 h1 h2 h3 h4 h5 h6 h7 l hl w
  by_cases c836 : a = 836
  · subst c836; exact rread_836 st en ve sc ep ca va ct h0 h1 h2 h3 h4 h5 h6 h7 l hl w
  by_cases c2816 : a = 2816
  · subst c2816; exact rread_2816 st en ve sc ep ca va ct h0 h1 h2 h3 h4 h5 h6 h7 l hl w
  by_cases c2818 : a = 2818
  · subst c2818; exact rread_2818 st en ve sc ep ca va ct h0 h1 h2 h3 h4 h5 h6 h7 l hl w
  by_cases c2944 : a = 2944
  · subst c2944; exact rread_2944 st en ve sc ep ca va ct h0 h1 h2 h3 h4 h5 h6 h7 l hl w
  by_cases c2946 : a = 2946
  · subst c2946; exact rread_2946 st en ve sc ep ca va ct h0 h1 h2 h3 h4 h5 h6 h7 l hl w
  by_cases c3857 : a = 3857
  · subst c3857; exact rread_3857 st en ve sc ep ca va ct h0 h1 h2 h3 h4 h5 h6 h7 l hl w
  by_cases c3858 : a = 3858
  · subst c3858; exact rread_3858 st en ve sc ep ca va ct h0 h1 h2 h3 h4 h5 h6 h7 l hl w
  by_cases c3859 : a = 3859
  · subst c3859; exact rread_3859 st en ve sc ep ca va ct h0 h1 h2 h3 h4 h5 h6 h7 l hl w
  by_cases c3860 : a = 3860
  · subst c3860; exact rread_3860 st en ve sc ep ca va ct h0 h1 h2 h3 h4 h5 h6 h7 l hl w
  have hn : readN ⟨st, en, ve, sc, ep, ca, va, ct⟩ a l = none := by
    unfold readN
    rw [if_neg c768, if_neg c769, if_neg c772, if_neg c773, if_neg c832, if_neg c833, if_neg c834, if_neg c835, if_neg c836, if_neg (by omega), if_neg (by omega), if_neg (by omega)]
  rw [hn]
  exact rread_none st en ve sc ep ca va ct a c768 c769 c772 c773 c832 c833 c834 c835 c836 c2816 c2818 c2944 c2946 c3857 c3858 c3859 c3860 l w
end Go.Proofs.YtchjhpeogdkbmaaDoor
namespace Go.Proofs.YtchjhpeogdkbmaaDoor
open Go.RowKit
set_option linter.unusedVariables false

abbrev rS (st en ve sc ep ca va ct : Nat) : Array Value := #[.int .u32 st, .int .u32 en, .int .u32 ve, .int .u32 sc, .int .u32 ep, .int .u32 ca, .int .u32 va, .int .u64 ct]
abbrev rZ : Array Value := #[.int .u32 0, .int .u32 0, .int .u32 0, .int .u32 0, .int .u32 0, .int .u32 0, .int .u32 0, .int .u64 0]

theorem ret_writer {cs ds : Array Value} (h : cs = ds) : Ending.returned (.tuple #[.agg cs, .int .i64 0]) = .returned (.tuple #[.agg ds, .int .i64 0]) := by rw [h]

set_option maxHeartbeats 1000000 in
theorem rwrite_768 (st en ve sc ep ca va ct : Nat) (h0 : st < 4294967296) (h1 : en < 4294967296) (h2 : ve < 4294967296) (h3 : sc < 4294967296) (h4 : ep < 4294967296) (h5 : ca < 4294967296) (h6 : va < 4294967296) (h7 : ct < 18446744073709551616) (v : Nat) (hv : v < 4294967296) (w : World) :
    Calls Tryd.prog 72 #[.agg #[.int .u32 st, .int .u32 en, .int .u32 ve, .int .u32 sc, .int .u32 ep, .int .u32 ca, .int .u32 va, .int .u64 ct], .int .i64 768, .int .u32 v] w fun e w' => e = .returned (.tuple #[.agg #[.int .u32 (v &&& 136 : Nat), .int .u32 en, .int .u32 ve, .int .u32 sc, .int .u32 ep, .int .u32 ca, .int .u32 va, .int .u64 ct], .int .i64 0]) ∧ Below w.heap.size w w' := by
  have HO := hide (only2_at v hv)
  clear h0 h1 h2 h3 h4 h5 h6
  generalize v &&& 136 = r at *
  go_enter Tryd.func72, Tryd.ntmps72
  go_wp2
  obtain ⟨W0, hW0⟩ : ∃ X, (w.alloc (.cells #[.int .u32 st, .int .u32 en, .int .u32 ve, .int .u32 sc, .int .u32 ep, .int .u32 ca, .int .u32 va, .int .u64 ct] 26)).alloc (.cells #[.int .u32 0, .int .u32 0, .int .u32 0, .int .u32 0, .int .u32 0, .int .u32 0, .int .u32 0, .int .u64 0] 26) = X := ⟨_, rfl⟩
  have hR0 : RowAt W0 w.heap.size (rS st en ve sc ep ca va ct) 26 := hW0 ▸ (RowAt.new w _ _ _ rfl).al _
  have hZ0 : RowAt W0 (w.heap.size + 1) rZ 26 := hW0 ▸ RowAt.new _ _ _ _ (by simp)
  have hB0 : Below w.heap.size w W0 := hW0 ▸ below_two _ _ _
  have c7 : W0.cell? ⟨w.heap.size, 7, none⟩ = some (.int .u64 (ct : Nat)) := hR0.cell 7
  have HR0 := hide hR0
  have HZ0 := hide hZ0
  have HB0 := hide hB0
  rw [hW0]
  clear hW0 hR0 hZ0 hB0
  go_quiet (fail)
  obtain ⟨W, hW⟩ : ∃ X, W0.drewN nq = X := ⟨_, rfl⟩
  have hR : RowAt W w.heap.size (rS st en ve sc ep ca va ct) 26 := hW ▸ HR0.out.dn nq
  have hZ : RowAt W (w.heap.size + 1) rZ 26 := hW ▸ HZ0.out.dn nq
  have hB : Below w.heap.size w W := hW ▸ below_drewN HB0.out nq
  rw [hW]
  clear hW HR0 HZ0 HB0 c7
  have HR := hide hR
  have HZ := hide hZ
  have HB := hide hB
  clear hR hZ hB
  go_wp2_with (fail)
  obtain ⟨V, hV⟩ : ∃ X, W.alloc (.cells #[.int .i64 3, .int .i64 7] 3) = X := ⟨_, rfl⟩
  have hI : RowAt V W.heap.size #[.int .i64 3, .int .i64 7] 3 := hV ▸ RowAt.new _ _ _ _ rfl
  have HR2 : Hid (RowAt V w.heap.size (rS st en ve sc ep ca va ct) 26) := hV ▸ HR.out.al _
  have HZ2 : Hid (RowAt V (w.heap.size + 1) rZ 26) := hV ▸ HZ.out.al _
  have HB2 : Hid (Below w.heap.size w V) := hV ▸ HB.out.alloc HB.out.size _
  rw [hV]
  clear hV HR HZ HB
  refine (HO.out _ _ _ hI).mono ?_
  rintro e w1 ⟨rfl, hb1⟩
  have hR1 := HR2.out.bl hb1
  have hZ1 := HZ2.out.bl hb1
  have HB1 := hide (below_bl rfl HB2.out hb1)
  have hY := hZ1.far (g := w.heap.size) (by omega) 0 (.int .u32 (r : Nat))
  have hB3 := HB1.out.setCell (p := ⟨w.heap.size, 0, none⟩) (Nat.le_refl _) (.int .u32 (r : Nat))
  have HF := hide (hY.put8 (.int .u32 (r : Nat)) (.int .u32 (en : Nat)) (.int .u32 (ve : Nat)) (.int .u32 (sc : Nat)) (.int .u32 (ep : Nat)) (.int .u32 (ca : Nat)) (.int .u32 (va : Nat)) (.int .u64 (ct : Nat)))
  have HG := hide (below_put8 hB3 (Nat.le_succ _) (.int .u32 (r : Nat)) (.int .u32 (en : Nat)) (.int .u32 (ve : Nat)) (.int .u32 (sc : Nat)) (.int .u32 (ep : Nat)) (.int .u32 (ca : Nat)) (.int .u32 (va : Nat)) (.int .u64 (ct : Nat)))
  have tR := hR1.thaw 0
  obtain ⟨c0, c1, c2, c3, c4, c5, c6, c7⟩ := cell8 hR1
  obtain ⟨z0, z1, z2, z3, z4, z5, z6, z7⟩ := cell8 hZ1
  obtain ⟨f0, f1, f2, f3, f4, f5, f6, f7⟩ := thaw8 hZ1
  clear HR2 HZ2 HB2 HB1 hI hb1 hR1 hZ1 hY hB3
  go_wp2
  have hF := HF.out
  have hG := HG.out
  clear HF HG
  generalize (((((((((w1.setCell ⟨w.heap.size, 0, none⟩ (.int .u32 (r : Nat))).setCell ⟨w.heap.size + 1, 0, none⟩ (.int .u32 (r : Nat))).setCell ⟨w.heap.size + 1, 1, none⟩ (.int .u32 (en : Nat))).setCell ⟨w.heap.size + 1, 2, none⟩ (.int .u32 (ve : Nat))).setCell ⟨w.heap.size + 1, 3, none⟩ (.int .u32 (sc : Nat))).setCell ⟨w.heap.size + 1, 4, none⟩ (.int .u32 (ep : Nat))).setCell ⟨w.heap.size + 1, 5, none⟩ (.int .u32 (ca : Nat))).setCell ⟨w.heap.size + 1, 6, none⟩ (.int .u32 (va : Nat))).setCell ⟨w.heap.size + 1, 7, none⟩ (.int .u64 (ct : Nat))) = Q at hF hG ⊢
  refine bodyPost_ret (results_cell_tmp_row Tryd.results72 _ _ (w.heap.size + 1) _ _ _ _ rfl hF Tryd.underlying26 rfl size_rst) rfl ?_
  exact ⟨rfl, hG⟩

set_option maxHeartbeats 1000000 in
theorem rwrite_769 (st en ve sc ep ca va ct : Nat) (h0 : st < 4294967296) (h1 : en < 4294967296) (h2 : ve < 4294967296) (h3 : sc < 4294967296) (h4 : ep < 4294967296) (h5 : ca < 4294967296) (h6 : va < 4294967296) (h7 : ct < 18446744073709551616) (v : Nat) (hv : v < 4294967296) (w : World) :
    Calls Tryd.prog 72 #[.agg #[.int .u32 st, .int .u32 en, .int .u32 ve, .int .u32 sc, .int .u32 ep, .int .u32 ca, .int .u32 va, .int .u64 ct], .int .i64 769, .int .u32 v] w fun e w' => e = .returned (.tuple #[.agg #[.int .u32 st, .int .u32 en, .int .u32 ve, .int .u32 sc, .int .u32 ep, .int .u32 ca, .int .u32 va, .int .u64 ct], .int .i64 0]) ∧ Below w.heap.size w w' := by
  clear h0 h1 h2 h3 h4 h5 h6
  go_enter Tryd.func72, Tryd.ntmps72
  go_wp2
  obtain ⟨W0, hW0⟩ : ∃ X, (w.alloc (.cells #[.int .u32 st, .int .u32 en, .int .u32 ve, .int .u32 sc, .int .u32 ep, .int .u32 ca, .int .u32 va, .int .u64 ct] 26)).alloc (.cells #[.int .u32 0, .int .u32 0, .int .u32 0, .int .u32 0, .int .u32 0, .int .u32 0, .int .u32 0, .int .u64 0] 26) = X := ⟨_, rfl⟩
  have hR0 : RowAt W0 w.heap.size (rS st en ve sc ep ca va ct) 26 := hW0 ▸ (RowAt.new w _ _ _ rfl).al _
  have hZ0 : RowAt W0 (w.heap.size + 1) rZ 26 := hW0 ▸ RowAt.new _ _ _ _ (by simp)
  have hB0 : Below w.heap.size w W0 := hW0 ▸ below_two _ _ _
  have c7 : W0.cell? ⟨w.heap.size, 7, none⟩ = some (.int .u64 (ct : Nat)) := hR0.cell 7
  have HR0 := hide hR0
  have HZ0 := hide hZ0
  have HB0 := hide hB0
  rw [hW0]
  clear hW0 hR0 hZ0 hB0
  go_quiet (fail)
  obtain ⟨W, hW⟩ : ∃ X, W0.drewN nq = X := ⟨_, rfl⟩
  have hR : RowAt W w.heap.size (rS st en ve sc ep ca va ct) 26 := hW ▸ HR0.out.dn nq
  have hZ : RowAt W (w.heap.size + 1) rZ 26 := hW ▸ HZ0.out.dn nq
  have hB : Below w.heap.size w W := hW ▸ below_drewN HB0.out nq
  rw [hW]
  clear hW HR0 HZ0 HB0 c7
  have HF := hide (hZ.put8 (.int .u32 (st : Nat)) (.int .u32 (en : Nat)) (.int .u32 (ve : Nat)) (.int .u32 (sc : Nat)) (.int .u32 (ep : Nat)) (.int .u32 (ca : Nat)) (.int .u32 (va : Nat)) (.int .u64 (ct : Nat)))
  have HG := hide (below_put8 hB (Nat.le_succ _) (.int .u32 (st : Nat)) (.int .u32 (en : Nat)) (.int .u32 (ve : Nat)) (.int .u32 (sc : Nat)) (.int .u32 (ep : Nat)) (.int .u32 (ca : Nat)) (.int .u32 (va : Nat)) (.int .u64 (ct : Nat)))
  obtain ⟨c0, c1, c2, c3, c4, c5, c6, c7⟩ := cell8 hR
  obtain ⟨z0, z1, z2, z3, z4, z5, z6, z7⟩ := cell8 hZ
  obtain ⟨f0, f1, f2, f3, f4, f5, f6, f7⟩ := thaw8 hZ
  clear hR hZ hB
  go_wp2
  have hF := HF.out
  have hG := HG.out
  clear HF HG
  generalize ((((((((W.setCell ⟨w.heap.size + 1, 0, none⟩ (.int .u32 (st : Nat))).setCell ⟨w.heap.size + 1, 1, none⟩ (.int .u32 (en : Nat))).setCell ⟨w.heap.size + 1, 2, none⟩ (.int .u32 (ve : Nat))).setCell ⟨w.heap.size + 1, 3, none⟩ (.int .u32 (sc : Nat))).setCell ⟨w.heap.size + 1, 4, none⟩ (.int .u32 (ep : Nat))).setCell ⟨w.heap.size + 1, 5, none⟩ (.int .u32 (ca : Nat))).setCell ⟨w.heap.size + 1, 6, none⟩ (.int .u32 (va : Nat))).setCell ⟨w.heap.size + 1, 7, none⟩ (.int .u64 (ct : Nat))) = Q at hF hG ⊢
  refine bodyPost_ret (results_cell_tmp_row Tryd.results72 _ _ (w.heap.size + 1) _ _ _ _ rfl hF Tryd.underlying26 rfl size_rst) rfl ?_
  exact ⟨rfl, hG⟩

set_option maxHeartbeats 1000000 in
theorem rwrite_772 (st en ve sc ep ca va ct : Nat) (h0 : st < 4294967296) (h1 : en < 4294967296) (h2 : ve < 4294967296) (h3 : sc < 4294967296) (h4 : ep < 4294967296) (h5 : ca < 4294967296) (h6 : va < 4294967296) (h7 : ct < 18446744073709551616) (v : Nat) (hv : v < 4294967296) (w : World) :
    Calls Tryd.prog 72 #[.agg #[.int .u32 st, .int .u32 en, .int .u32 ve, .int .u32 sc, .int .u32 ep, .int .u32 ca, .int .u32 va, .int .u64 ct], .int .i64 772, .int .u32 v] w fun e w' => e = .returned (.tuple #[.agg #[.int .u32 st, .int .u32 (v &&& 2184 : Nat), .int .u32 ve, .int .u32 sc, .int .u32 ep, .int .u32 ca, .int .u32 va, .int .u64 ct], .int .i64 0]) ∧ Below w.heap.size w w' := by
  have HO := hide (only3_at v hv)
  clear h0 h1 h2 h3 h4 h5 h6
  generalize v &&& 2184 = r at *
  go_enter Tryd.func72, Tryd.ntmps72
  go_wp2
  obtain ⟨W0, hW0⟩ : ∃ X, (w.alloc (.cells #[.int .u32 st, .int .u32 en, .int .u32 ve, .int .u32 sc, .int .u32 ep, .int .u32 ca, .int .u32 va, .int .u64 ct] 26)).alloc (.cells #[.int .u32 0, .int .u32 0, .int .u32 0, .int .u32 0, .int .u32 0, .int .u32 0, .int .u32 0, .int .u64 0] 26) = X := ⟨_, rfl⟩
  have hR0 : RowAt W0 w.heap.size (rS st en ve sc ep ca va ct) 26 := hW0 ▸ (RowAt.new w _ _ _ rfl).al _
  have hZ0 : RowAt W0 (w.heap.size + 1) rZ 26 := hW0 ▸ RowAt.new _ _ _ _ (by simp)
  have hB0 : Below w.heap.size w W0 := hW0 ▸ below_two _ _ _
  have c7 : W0.cell? ⟨w.heap.size, 7, none⟩ = some (.int .u64 (ct : Nat)) := hR0.cell 7
  have HR0 := hide hR0
  have HZ0 := hide hZ0
  have HB0 := hide hB0
  rw [hW0]
  clear hW0 hR0 hZ0 hB0
  go_quiet (fail)
  obtain ⟨W, hW⟩ : ∃ X, W0.drewN nq = X := ⟨_, rfl⟩
  have hR : RowAt W w.heap.size (rS st en ve sc ep ca va ct) 26 := hW ▸ HR0.out.dn nq
  have hZ : RowAt W (w.heap.size + 1) rZ 26 := hW ▸ HZ0.out.dn nq
  have hB : Below w.heap.size w W := hW ▸ below_drewN HB0.out nq
  rw [hW]
  clear hW HR0 HZ0 HB0 c7
  have HR := hide hR
  have HZ := hide hZ
  have HB := hide hB
  clear hR hZ hB
  go_wp2_with (fail)
  obtain ⟨V, hV⟩ : ∃ X, W.alloc (.cells #[.int .i64 3, .int .i64 7, .int .i64 11] 3) = X := ⟨_, rfl⟩
  have hI : RowAt V W.heap.size #[.int .i64 3, .int .i64 7, .int .i64 11] 3 := hV ▸ RowAt.new _ _ _ _ rfl
  have HR2 : Hid (RowAt V w.heap.size (rS st en ve sc ep ca va ct) 26) := hV ▸ HR.out.al _
  have HZ2 : Hid (RowAt V (w.heap.size + 1) rZ 26) := hV ▸ HZ.out.al _
  have HB2 : Hid (Below w.heap.size w V) := hV ▸ HB.out.alloc HB.out.size _
  rw [hV]
  clear hV HR HZ HB
  refine (HO.out _ _ _ hI).mono ?_
  rintro e w1 ⟨rfl, hb1⟩
  have hR1 := HR2.out.bl hb1
  have hZ1 := HZ2.out.bl hb1
  have HB1 := hide (below_bl rfl HB2.out hb1)
  have hY := hZ1.far (g := w.heap.size) (by omega) 1 (.int .u32 (r : Nat))
  have hB3 := HB1.out.setCell (p := ⟨w.heap.size, 1, none⟩) (Nat.le_refl _) (.int .u32 (r : Nat))
  have HF := hide (hY.put8 (.int .u32 (st : Nat)) (.int .u32 (r : Nat)) (.int .u32 (ve : Nat)) (.int .u32 (sc : Nat)) (.int .u32 (ep : Nat)) (.int .u32 (ca : Nat)) (.int .u32 (va : Nat)) (.int .u64 (ct : Nat)))
  have HG := hide (below_put8 hB3 (Nat.le_succ _) (.int .u32 (st : Nat)) (.int .u32 (r : Nat)) (.int .u32 (ve : Nat)) (.int .u32 (sc : Nat)) (.int .u32 (ep : Nat)) (.int .u32 (ca : Nat)) (.int .u32 (va : Nat)) (.int .u64 (ct : Nat)))
  have tR := hR1.thaw 1
  obtain ⟨c0, c1, c2, c3, c4, c5, c6, c7⟩ := cell8 hR1
  obtain ⟨z0, z1, z2, z3, z4, z5, z6, z7⟩ := cell8 hZ1
  obtain ⟨f0, f1, f2, f3, f4, f5, f6, f7⟩ := thaw8 hZ1
  clear HR2 HZ2 HB2 HB1 hI hb1 hR1 hZ1 hY hB3
  go_wp2
  have hF := HF.out
  have hG := HG.out
  clear HF HG
  generalize (((((((((w1.setCell ⟨w.heap.size, 1, none⟩ (.int .u32 (r : Nat))).setCell ⟨w.heap.size + 1, 0, none⟩ (.int .u32 (st : Nat))).setCell ⟨w.heap.size + 1, 1, none⟩ (.int .u32 (r : Nat))).setCell ⟨w.heap.size + 1, 2, none⟩ (.int .u32 (ve : Nat))).setCell ⟨w.heap.size + 1, 3, none⟩ (.int .u32 (sc : Nat))).setCell ⟨w.heap.size + 1, 4, none⟩ (.int .u32 (ep : Nat))).setCell ⟨w.heap.size + 1, 5, none⟩ (.int .u32 (ca : Nat))).setCell ⟨w.heap.size + 1, 6, none⟩ (.int .u32 (va : Nat))).setCell ⟨w.heap.size + 1, 7, none⟩ (.int .u64 (ct : Nat))) = Q at hF hG ⊢
  refine bodyPost_ret (results_cell_tmp_row Tryd.results72 _ _ (w.heap.size + 1) _ _ _ _ rfl hF Tryd.underlying26 rfl size_rst) rfl ?_
  exact ⟨rfl, hG⟩

set_option maxHeartbeats 1000000 in
theorem rwrite_773 (st en ve sc ep ca va ct : Nat) (h0 : st < 4294967296) (h1 : en < 4294967296) (h2 : ve < 4294967296) (h3 : sc < 4294967296) (h4 : ep < 4294967296) (h5 : ca < 4294967296) (h6 : va < 4294967296) (h7 : ct < 18446744073709551616) (v : Nat) (hv : v < 4294967296) (w : World) :
    Calls Tryd.prog 72 #[.agg #[.int .u32 st, .int .u32 en, .int .u32 ve, .int .u32 sc, .int .u32 ep, .int .u32 ca, .int .u32 va, .int .u64 ct], .int .i64 773, .int .u32 v] w fun e w' => e = .returned (.tuple #[.agg #[.int .u32 st, .int .u32 en, .int .u32 (v &&& 4294967293 : Nat), .int .u32 sc, .int .u32 ep, .int .u32 ca, .int .u32 va, .int .u64 ct], .int .i64 0]) ∧ Below w.heap.size w w' := by
  have HO := hide (but1_at v hv)
  clear h0 h1 h2 h3 h4 h5 h6
  generalize v &&& 4294967293 = r at *
  go_enter Tryd.func72, Tryd.ntmps72
  go_wp2
  obtain ⟨W0, hW0⟩ : ∃ X, (w.alloc (.cells #[.int .u32 st, .int .u32 en, .int .u32 ve, .int .u32 sc, .int .u32 ep, .int .u32 ca, .int .u32 va, .int .u64 ct] 26)).alloc (.cells #[.int .u32 0, .int .u32 0, .int .u32 0, .int .u32 0, .int .u32 0, .int .u32 0, .int .u32 0, .int .u64 0] 26) = X := ⟨_, rfl⟩
  have hR0 : RowAt W0 w.heap.size (rS st en ve sc ep ca va ct) 26 := hW0 ▸ (RowAt.new w _ _ _ rfl).al _
  have hZ0 : RowAt W0 (w.heap.size + 1) rZ 26 := hW0 ▸ RowAt.new _ _ _ _ (by simp)
  have hB0 : Below w.heap.size w W0 := hW0 ▸ below_two _ _ _
  have c7 : W0.cell? ⟨w.heap.size, 7, none⟩ = some (.int .u64 (ct : Nat)) := hR0.cell 7
  have HR0 := hide hR0
  have HZ0 := hide hZ0
  have HB0 := hide hB0
  rw [hW0]
  clear hW0 hR0 hZ0 hB0
  go_quiet (fail)
  obtain ⟨W, hW⟩ : ∃ X, W0.drewN nq = X := ⟨_, rfl⟩
  have hR : RowAt W w.heap.size (rS st en ve sc ep ca va ct) 26 := hW ▸ HR0.out.dn nq
  have hZ : RowAt W (w.heap.size + 1) rZ 26 := hW ▸ HZ0.out.dn nq
  have hB : Below w.heap.size w W := hW ▸ below_drewN HB0.out nq
  rw [hW]
  clear hW HR0 HZ0 HB0 c7
  have HR := hide hR
  have HZ := hide hZ
  have HB := hide hB
  clear hR hZ hB
  go_wp2_with (fail)
  obtain ⟨V, hV⟩ : ∃ X, W.alloc (.cells #[.int .i64 1] 3) = X := ⟨_, rfl⟩
  have hI : RowAt V W.heap.size #[.int .i64 1] 3 := hV ▸ RowAt.new _ _ _ _ rfl
  have HR2 : Hid (RowAt V w.heap.size (rS st en ve sc ep ca va ct) 26) := hV ▸ HR.out.al _
  have HZ2 : Hid (RowAt V (w.heap.size + 1) rZ 26) := hV ▸ HZ.out.al _
  have HB2 : Hid (Below w.heap.size w V) := hV ▸ HB.out.alloc HB.out.size _
  rw [hV]
  clear hV HR HZ HB
  refine (HO.out _ _ _ hI).mono ?_
  rintro e w1 ⟨rfl, hb1⟩
  have hR1 := HR2.out.bl hb1
  have hZ1 := HZ2.out.bl hb1
  have HB1 := hide (below_bl rfl HB2.out hb1)
  have hY := hZ1.far (g := w.heap.size) (by omega) 2 (.int .u32 (r : Nat))
  have hB3 := HB1.out.setCell (p := ⟨w.heap.size, 2, none⟩) (Nat.le_refl _) (.int .u32 (r : Nat))
  have HF := hide (hY.put8 (.int .u32 (st : Nat)) (.int .u32 (en : Nat)) (.int .u32 (r : Nat)) (.int .u32 (sc : Nat)) (.int .u32 (ep : Nat)) (.int .u32 (ca : Nat)) (.int .u32 (va : Nat)) (.int .u64 (ct : Nat)))
  have HG := hide (below_put8 hB3 (Nat.le_succ _) (.int .u32 (st : Nat)) (.int .u32 (en : Nat)) (.int .u32 (r : Nat)) (.int .u32 (sc : Nat)) (.int .u32 (ep : Nat)) (.int .u32 (ca : Nat)) (.int .u32 (va : Nat)) (.int .u64 (ct : Nat)))
  have tR := hR1.thaw 2
  obtain ⟨c0, c1, c2, c3, c4, c5, c6, c7⟩ := cell8 hR1
  obtain ⟨z0, z1, z2, z3, z4, z5, z6, z7⟩ := cell8 hZ1
  obtain ⟨f0, f1, f2, f3, f4, f5, f6, f7⟩ := thaw8 hZ1
  clear HR2 HZ2 HB2 HB1 hI hb1 hR1 hZ1 hY hB3
  go_wp2
  have hF := HF.out
  have hG := HG.out
  clear HF HG
  generalize (((((((((w1.setCell ⟨w.heap.size, 2, none⟩ (.int .u32 (r : Nat))).setCell ⟨w.heap.size + 1, 0, none⟩ (.int .u32 (st : Nat))).setCell ⟨w.heap.size + 1, 1, none⟩ (.int .u32 (en : Nat))).setCell ⟨w.heap.size + 1, 2, none⟩ (.int .u32 (r : Nat))).setCell ⟨w.heap.size + 1, 3, none⟩ (.int .u32 (sc : Nat))).setCell ⟨w.heap.size + 1, 4, none⟩ (.int .u32 (ep : Nat))).setCell ⟨w.heap.size + 1, 5, none⟩ (.int .u32 (ca : Nat))).setCell ⟨w.heap.size + 1, 6, none⟩ (.int .u32 (va : Nat))).setCell ⟨w.heap.size + 1, 7, none⟩ (.int .u64 (ct : Nat))) = Q at hF hG ⊢
  refine bodyPost_ret (results_cell_tmp_row Tryd.results72 _ _ (w.heap.size + 1) _ _ _ _ rfl hF Tryd.underlying26 rfl size_rst) rfl ?_
  exact ⟨rfl, hG⟩

set_option maxHeartbeats 1000000 in
theorem rwrite_832 (st en ve sc ep ca va ct : Nat) (h0 : st < 4294967296) (h1 : en < 4294967296) (h2 : ve < 4294967296) (h3 : sc < 4294967296) (h4 : ep < 4294967296) (h5 : ca < 4294967296) (h6 : va < 4294967296) (h7 : ct < 18446744073709551616) (v : Nat) (hv : v < 4294967296) (w : World) :
    Calls Tryd.prog 72 #[.agg #[.int .u32 st, .int .u32 en, .int .u32 ve, .int .u32 sc, .int .u32 ep, .int .u32 ca, .int .u32 va, .int .u64 ct], .int .i64 832, .int .u32 v] w fun e w' => e = .returned (.tuple #[.agg #[.int .u32 st, .int .u32 en, .int .u32 ve, .int .u32 v, .int .u32 ep, .int .u32 ca, .int .u32 va, .int .u64 ct], .int .i64 0]) ∧ Below w.heap.size w w' := by
  clear h0 h1 h2 h3 h4 h5 h6
  go_enter Tryd.func72, Tryd.ntmps72
  go_wp2
  obtain ⟨W0, hW0⟩ : ∃ X, (w.alloc (.cells #[.int .u32 st, .int .u32 en, .int .u32 ve, .int .u32 sc, .int .u32 ep, .int .u32 ca, .int .u32 va, .int .u64 ct] 26)).alloc (.cells #[.int .u32 0, .int .u32 0, .int .u32 0, .int .u32 0, .int .u32 0, .int .u32 0, .int .u32 0, .int .u64 0] 26) = X := ⟨_, rfl⟩
  have hR0 : RowAt W0 w.heap.size (rS st en ve sc ep ca va ct) 26 := hW0 ▸ (RowAt.new w _ _ _ rfl).al _
  have hZ0 : RowAt W0 (w.heap.size + 1) rZ 26 := hW0 ▸ RowAt.new _ _ _ _ (by simp)
  have hB0 : Below w.heap.size w W0 := hW0 ▸ below_two _ _ _
  have c7 : W0.cell? ⟨w.heap.size, 7, none⟩ = some (.int .u64 (ct : Nat)) := hR0.cell 7
  have HR0 := hide hR0
  have HZ0 := hide hZ0
  have HB0 := hide hB0
  rw [hW0]
  clear hW0 hR0 hZ0 hB0
  go_quiet (fail)
  obtain ⟨W, hW⟩ : ∃ X, W0.drewN nq = X := ⟨_, rfl⟩
  have hR : RowAt W w.heap.size (rS st en ve sc ep ca va ct) 26 := hW ▸ HR0.out.dn nq
  have hZ : RowAt W (w.heap.size + 1) rZ 26 := hW ▸ HZ0.out.dn nq
  have hB : Below w.heap.size w W := hW ▸ below_drewN HB0.out nq
  rw [hW]
  clear hW HR0 HZ0 HB0 c7
  have hY := hZ.far (g := w.heap.size) (by omega) 3 (.int .u32 (v : Nat))
  have hB3 := hB.setCell (p := ⟨w.heap.size, 3, none⟩) (Nat.le_refl _) (.int .u32 (v : Nat))
  have HF := hide (hY.put8 (.int .u32 (st : Nat)) (.int .u32 (en : Nat)) (.int .u32 (ve : Nat)) (.int .u32 (v : Nat)) (.int .u32 (ep : Nat)) (.int .u32 (ca : Nat)) (.int .u32 (va : Nat)) (.int .u64 (ct : Nat)))
  have HG := hide (below_put8 hB3 (Nat.le_succ _) (.int .u32 (st : Nat)) (.int .u32 (en : Nat)) (.int .u32 (ve : Nat)) (.int .u32 (v : Nat)) (.int .u32 (ep : Nat)) (.int .u32 (ca : Nat)) (.int .u32 (va : Nat)) (.int .u64 (ct : Nat)))
  have tR := hR.thaw 3
  obtain ⟨c0, c1, c2, c3, c4, c5, c6, c7⟩ := cell8 hR
  obtain ⟨z0, z1, z2, z3, z4, z5, z6, z7⟩ := cell8 hZ
  obtain ⟨f0, f1, f2, f3, f4, f5, f6, f7⟩ := thaw8 hZ
  clear hR hZ hB hY hB3
  go_wp2
  have hF := HF.out
  have hG := HG.out
  clear HF HG
  generalize (((((((((W.setCell ⟨w.heap.size, 3, none⟩ (.int .u32 (v : Nat))).setCell ⟨w.heap.size + 1, 0, none⟩ (.int .u32 (st : Nat))).setCell ⟨w.heap.size + 1, 1, none⟩ (.int .u32 (en : Nat))).setCell ⟨w.heap.size + 1, 2, none⟩ (.int .u32 (ve : Nat))).setCell ⟨w.heap.size + 1, 3, none⟩ (.int .u32 (v : Nat))).setCell ⟨w.heap.size + 1, 4, none⟩ (.int .u32 (ep : Nat))).setCell ⟨w.heap.size + 1, 5, none⟩ (.int .u32 (ca : Nat))).setCell ⟨w.heap.size + 1, 6, none⟩ (.int .u32 (va : Nat))).setCell ⟨w.heap.size + 1, 7, none⟩ (.int .u64 (ct : Nat))) = Q at hF hG ⊢
  refine bodyPost_ret (results_cell_tmp_row Tryd.results72 _ _ (w.heap.size + 1) _ _ _ _ rfl hF Tryd.underlying26 rfl size_rst) rfl ?_
  exact ⟨rfl, hG⟩

set_option maxHeartbeats 1000000 in
theorem rwrite_833 (st en ve sc ep ca va ct : Nat) (h0 : st < 4294967296) (h1 : en < 4294967296) (h2 : ve < 4294967296) (h3 : sc < 4294967296) (h4 : ep < 4294967296) (h5 : ca < 4294967296) (h6 : va < 4294967296) (h7 : ct < 18446744073709551616) (v : Nat) (hv : v < 4294967296) (w : World) :
    Calls Tryd.prog 72 #[.agg #[.int .u32 st, .int .u32 en, .int .u32 ve, .int .u32 sc, .int .u32 ep, .int .u32 ca, .int .u32 va, .int .u64 ct], .int .i64 833, .int .u32 v] w fun e w' => e = .returned (.tuple #[.agg #[.int .u32 st, .int .u32 en, .int .u32 ve, .int .u32 sc, .int .u32 (v &&& 4294967292 : Nat), .int .u32 ca, .int .u32 va, .int .u64 ct], .int .i64 0]) ∧ Below w.heap.size w w' := by
  have HO := hide (but2_at v hv)
  clear h0 h1 h2 h3 h4 h5 h6
  generalize v &&& 4294967292 = r at *
  go_enter Tryd.func72, Tryd.ntmps72
  go_wp2
  obtain ⟨W0, hW0⟩ : ∃ X, (w.alloc (.cells #[.int .u32 st, .int .u32 en, .int .u32 ve, .int .u32 sc, .int .u32 ep, .int .u32 ca, .int .u32 va, .int .u64 ct] 26)).alloc (.cells #[.int .u32 0, .int .u32 0, .int .u32 0, .int .u32 0, .int .u32 0, .int .u32 0, .int .u32 0, .int .u64 0] 26) = X := ⟨_, rfl⟩
  have hR0 : RowAt W0 w.heap.size (rS st en ve sc ep ca va ct) 26 := hW0 ▸ (RowAt.new w _ _ _ rfl).al _
  have hZ0 : RowAt W0 (w.heap.size + 1) rZ 26 := hW0 ▸ RowAt.new _ _ _ _ (by simp)
  have hB0 : Below w.heap.size w W0 := hW0 ▸ below_two _ _ _
  have c7 : W0.cell? ⟨w.heap.size, 7, none⟩ = some (.int .u64 (ct : Nat)) := hR0.cell 7
  have HR0 := hide hR0
  have HZ0 := hide hZ0
  have HB0 := hide hB0
  rw [hW0]
  clear hW0 hR0 hZ0 hB0
  go_quiet (fail)
  obtain ⟨W, hW⟩ : ∃ X, W0.drewN nq = X := ⟨_, rfl⟩
  have hR : RowAt W w.heap.size (rS st en ve sc ep ca va ct) 26 := hW ▸ HR0.out.dn nq
  have hZ : RowAt W (w.heap.size + 1) rZ 26 := hW ▸ HZ0.out.dn nq
  have hB : Below w.heap.size w W := hW ▸ below_drewN HB0.out nq
  rw [hW]
  clear hW HR0 HZ0 HB0 c7
  have HR := hide hR
  have HZ := hide hZ
  have HB := hide hB
  clear hR hZ hB
  go_wp2_with (fail)
  obtain ⟨V, hV⟩ : ∃ X, W.alloc (.cells #[.int .i64 0, .int .i64 1] 3) = X := ⟨_, rfl⟩
  have hI : RowAt V W.heap.size #[.int .i64 0, .int .i64 1] 3 := hV ▸ RowAt.new _ _ _ _ rfl
  have HR2 : Hid (RowAt V w.heap.size (rS st en ve sc ep ca va ct) 26) := hV ▸ HR.out.al _
  have HZ2 : Hid (RowAt V (w.heap.size + 1) rZ 26) := hV ▸ HZ.out.al _
  have HB2 : Hid (Below w.heap.size w V) := hV ▸ HB.out.alloc HB.out.size _
  rw [hV]
  clear hV HR HZ HB
  refine (HO.out _ _ _ hI).mono ?_
  rintro e w1 ⟨rfl, hb1⟩
  have hR1 := HR2.out.bl hb1
  have hZ1 := HZ2.out.bl hb1
  have HB1 := hide (below_bl rfl HB2.out hb1)
  have hY := hZ1.far (g := w.heap.size) (by omega) 4 (.int .u32 (r : Nat))
  have hB3 := HB1.out.setCell (p := ⟨w.heap.size, 4, none⟩) (Nat.le_refl _) (.int .u32 (r : Nat))
  have HF := hide (hY.put8 (.int .u32 (st : Nat)) (.int .u32 (en : Nat)) (.int .u32 (ve : Nat)) (.int .u32 (sc : Nat)) (.int .u32 (r : Nat)) (.int .u32 (ca : Nat)) (.int .u32 (va : Nat)) (.int .u64 (ct : Nat)))
  have HG := hide (below_put8 hB3 (Nat.le_succ _) (.int .u32 (st : Nat)) (.int .u32 (en : Nat)) (.int .u32 (ve : Nat)) (.int .u32 (sc : Nat)) (.int .u32 (r : Nat)) (.int .u32 (ca : Nat)) (.int .u32 (va : Nat)) (.int .u64 (ct : Nat)))
  have tR := hR1.thaw 4
  obtain ⟨c0, c1, c2, c3, c4, c5, c6, c7⟩ := cell8 hR1
  obtain ⟨z0, z1, z2, z3, z4, z5, z6, z7⟩ := cell8 hZ1
  obtain ⟨f0, f1, f2, f3, f4, f5, f6, f7⟩ := thaw8 hZ1
  clear HR2 HZ2 HB2 HB1 hI hb1 hR1 hZ1 hY hB3
  go_wp2
  have hF := HF.out
  have hG := HG.out
  clear HF HG
  generalize (((((((((w1.setCell ⟨w.heap.size, 4, none⟩ (.int .u32 (r : Nat))).setCell ⟨w.heap.size + 1, 0, none⟩ (.int .u32 (st : Nat))).setCell ⟨w.heap.size + 1, 1, none⟩ (.int .u32 (en : Nat))).setCell ⟨w.heap.size + 1, 2, none⟩ (.int .u32 (ve : Nat))).setCell ⟨w.heap.size + 1, 3, none⟩ (.int .u32 (sc : Nat))).setCell ⟨w.heap.size + 1, 4, none⟩ (.int .u32 (r : Nat))).setCell ⟨w.heap.size + 1, 5, none⟩ (.int .u32 (ca : Nat))).setCell ⟨w.heap.size + 1, 6, none⟩ (.int .u32 (va : Nat))).setCell ⟨w.heap.size + 1, 7, none⟩ (.int .u64 (ct : Nat))) = Q at hF hG ⊢
  refine bodyPost_ret (results_cell_tmp_row Tryd.results72 _ _ (w.heap.size + 1) _ _ _ _ rfl hF Tryd.underlying26 rfl size_rst) rfl ?_
  exact ⟨rfl, hG⟩

set_option maxHeartbeats 1000000 in
theorem rwrite_834 (st en ve sc ep ca va ct : Nat) (h0 : st < 4294967296) (h1 : en < 4294967296) (h2 : ve < 4294967296) (h3 : sc < 4294967296) (h4 : ep < 4294967296) (h5 : ca < 4294967296) (h6 : va < 4294967296) (h7 : ct < 18446744073709551616) (v : Nat) (hv : v < 4294967296) (w : World) :
    Calls Tryd.prog 72 #[.agg #[.int .u32 st, .int .u32 en, .int .u32 ve, .int .u32 sc, .int .u32 ep, .int .u32 ca, .int .u32 va, .int .u64 ct], .int .i64 834, .int .u32 v] w fun e w' => e = .returned (.tuple #[.agg #[.int .u32 st, .int .u32 en, .int .u32 ve, .int .u32 sc, .int .u32 ep, .int .u32 v, .int .u32 va, .int .u64 ct], .int .i64 0]) ∧ Below w.heap.size w w' := by
  clear h0 h1 h2 h3 h4 h5 h6
  go_enter Tryd.func72, Tryd.ntmps72
  go_wp2
  obtain ⟨W0, hW0⟩ : ∃ X, (w.alloc (.cells #[.int .u32 st, .int .u32 en, .int .u32 ve, .int .u32 sc, .int .u32 ep, .int .u32 ca, .int .u32 va, .int .u64 ct] 26)).alloc (.cells #[.int .u32 0, .int .u32 0, .int .u32 0, .int .u32 0, .int .u32 0, .int .u32 0, .int .u32 0, .int .u64 0] 26) = X := ⟨_, rfl⟩
  have hR0 : RowAt W0 w.heap.size (rS st en ve sc ep ca va ct) 26 := hW0 ▸ (RowAt.new w _ _ _ rfl).al _
  have hZ0 : RowAt W0 (w.heap.size + 1) rZ 26 := hW0 ▸ RowAt.new _ _ _ _ (by simp)
  have hB0 : Below w.heap.size w W0 := hW0 ▸ below_two _ _ _
  have c7 : W0.cell? ⟨w.heap.size, 7, none⟩ = some (.int .u64 (ct : Nat)) := hR0.cell 7
  have HR0 := hide hR0
  have HZ0 := hide hZ0
  have HB0 := hide hB0
  rw [hW0]
  clear hW0 hR0 hZ0 hB0
  go_quiet (fail)
  obtain ⟨W, hW⟩ : ∃ X, W0.drewN nq = X := ⟨_, rfl⟩
  have hR : RowAt W w.heap.size (rS st en ve sc ep ca va ct) 26 := hW ▸ HR0.out.dn nq
  have hZ : RowAt W (w.heap.size + 1) rZ 26 := hW ▸ HZ0.out.dn nq
  have hB : Below w.heap.size w W := hW ▸ below_drewN HB0.out nq
  rw [hW]
  clear hW HR0 HZ0 HB0 c7
  have hY := hZ.far (g := w.heap.size) (by omega) 5 (.int .u32 (v : Nat))
  have hB3 := hB.setCell (p := ⟨w.heap.size, 5, none⟩) (Nat.le_refl _) (.int .u32 (v : Nat))
  have HF := hide (hY.put8 (.int .u32 (st : Nat)) (.int .u32 (en : Nat)) (.int .u32 (ve : Nat)) (.int .u32 (sc : Nat)) (.int .u32 (ep : Nat)) (.int .u32 (v : Nat)) (.int .u32 (va : Nat)) (.int .u64 (ct : Nat)))
  have HG := hide (below_put8 hB3 (Nat.le_succ _) (.int .u32 (st : Nat)) (.int .u32 (en : Nat)) (.int .u32 (ve : Nat)) (.int .u32 (sc : Nat)) (.int .u32 (ep : Nat)) (.int .u32 (v : Nat)) (.int .u32 (va : Nat)) (.int .u64 (ct : Nat)))
  have tR := hR.thaw 5
  obtain ⟨c0, c1, c2, c3, c4, c5, c6, c7⟩ := cell8 hR
  obtain ⟨z0, z1, z2, z3, z4, z5, z6, z7⟩ := cell8 hZ
  obtain ⟨f0, f1, f2, f3, f4, f5, f6, f7⟩ := thaw8 hZ
  clear hR hZ hB hY hB3
  go_wp2
  have hF := HF.out
  have hG := HG.out
  clear HF HG
  generalize (((((((((W.setCell ⟨w.heap.size, 5, none⟩ (.int .u32 (v : Nat))).setCell ⟨w.heap.size + 1, 0, none⟩ (.int .u32 (st : Nat))).setCell ⟨w.heap.size + 1, 1, none⟩ (.int .u32 (en : Nat))).setCell ⟨w.heap.size + 1, 2, none⟩ (.int .u32 (ve : Nat))).setCell ⟨w.heap.size + 1, 3, none⟩ (.int .u32 (sc : Nat))).setCell ⟨w.heap.size + 1, 4, none⟩ (.int .u32 (ep : Nat))).setCell ⟨w.heap.size + 1, 5, none⟩ (.int .u32 (v : Nat))).setCell ⟨w.heap.size + 1, 6, none⟩ (.int .u32 (va : Nat))).setCell ⟨w.heap.size + 1, 7, none⟩ (.int .u64 (ct : Nat))) = Q at hF hG ⊢
  refine bodyPost_ret (results_cell_tmp_row Tryd.results72 _ _ (w.heap.size + 1) _ _ _ _ rfl hF Tryd.underlying26 rfl size_rst) rfl ?_
  exact ⟨rfl, hG⟩

set_option maxHeartbeats 1000000 in
theorem rwrite_835 (st en ve sc ep ca va ct : Nat) (h0 : st < 4294967296) (h1 : en < 4294967296) (h2 : ve < 4294967296) (h3 : sc < 4294967296) (h4 : ep < 4294967296) (h5 : ca < 4294967296) (h6 : va < 4294967296) (h7 : ct < 18446744073709551616) (v : Nat) (hv : v < 4294967296) (w : World) :
    Calls Tryd.prog 72 #[.agg #[.int .u32 st, .int .u32 en, .int .u32 ve, .int .u32 sc, .int .u32 ep, .int .u32 ca, .int .u32 va, .int .u64 ct], .int .i64 835, .int .u32 v] w fun e w' => e = .returned (.tuple #[.agg #[.int .u32 st, .int .u32 en, .int .u32 ve, .int .u32 sc, .int .u32 ep, .int .u32 ca, .int .u32 v, .int .u64 ct], .int .i64 0]) ∧ Below w.heap.size w w' := by
  clear h0 h1 h2 h3 h4 h5 h6
  go_enter Tryd.func72, Tryd.ntmps72
  go_wp2
  obtain ⟨W0, hW0⟩ : ∃ X, (w.alloc (.cells #[.int .u32 st, .int .u32 en, .int .u32 ve, .int .u32 sc, .int .u32 ep, .int .u32 ca, .int .u32 va, .int .u64 ct] 26)).alloc (.cells #[.int .u32 0, .int .u32 0, .int .u32 0, .int .u32 0, .int .u32 0, .int .u32 0, .int .u32 0, .int .u64 0] 26) = X := ⟨_, rfl⟩
  have hR0 : RowAt W0 w.heap.size (rS st en ve sc ep ca va ct) 26 := hW0 ▸ (RowAt.new w _ _ _ rfl).al _
  have hZ0 : RowAt W0 (w.heap.size + 1) rZ 26 := hW0 ▸ RowAt.new _ _ _ _ (by simp)
  have hB0 : Below w.heap.size w W0 := hW0 ▸ below_two _ _ _
  have c7 : W0.cell? ⟨w.heap.size, 7, none⟩ = some (.int .u64 (ct : Nat)) := hR0.cell 7
  have HR0 := hide hR0
  have HZ0 := hide hZ0
  have HB0 := hide hB0
  rw [hW0]
  clear hW0 hR0 hZ0 hB0
  go_quiet (fail)
  obtain ⟨W, hW⟩ : ∃ X, W0.drewN nq = X := ⟨_, rfl⟩
  have hR : RowAt W w.heap.size (rS st en ve sc ep ca va ct) 26 := hW ▸ HR0.out.dn nq
  have hZ : RowAt W (w.heap.size + 1) rZ 26 := hW ▸ HZ0.out.dn nq
  have hB : Below w.heap.size w W := hW ▸ below_drewN HB0.out nq
  rw [hW]
  clear hW HR0 HZ0 HB0 c7
  have hY := hZ.far (g := w.heap.size) (by omega) 6 (.int .u32 (v : Nat))
  have hB3 := hB.setCell (p := ⟨w.heap.size, 6, none⟩) (Nat.le_refl _) (.int .u32 (v : Nat))
  have HF := hide (hY.put8 (.int .u32 (st : Nat)) (.int .u32 (en : Nat)) (.int .u32 (ve : Nat)) (.int .u32 (sc : Nat)) (.int .u32 (ep : Nat)) (.int .u32 (ca : Nat)) (.int .u32 (v : Nat)) (.int .u64 (ct : Nat)))
  have HG := hide (below_put8 hB3 (Nat.le_succ _) (.int .u32 (st : Nat)) (.int .u32 (en : Nat)) (.int .u32 (ve : Nat)) (.int .u32 (sc : Nat)) (.int .u32 (ep : Nat)) (.int .u32 (ca : Nat)) (.int .u32 (v : Nat)) (.int .u64 (ct : Nat)))
  have tR := hR.thaw 6
  obtain ⟨c0, c1, c2, c3, c4, c5, c6, c7⟩ := cell8 hR
  obtain ⟨z0, z1, z2, z3, z4, z5, z6, z7⟩ := cell8 hZ
  obtain ⟨f0, f1, f2, f3, f4, f5, f6, f7⟩ := thaw8 hZ
  clear hR hZ hB hY hB3
  go_wp2
  have hF := HF.out
  have hG := HG.out
  clear HF HG
  generalize (((((((((W.setCell ⟨w.heap.size, 6, none⟩ (.int .u32 (v : Nat))).setCell ⟨w.heap.size + 1, 0, none⟩ (.int .u32 (st : Nat))).setCell ⟨w.heap.size + 1, 1, none⟩ (.int .u32 (en : Nat))).setCell ⟨w.heap.size + 1, 2, none⟩ (.int .u32 (ve : Nat))).setCell ⟨w.heap.size + 1, 3, none⟩ (.int .u32 (sc : Nat))).setCell ⟨w.heap.size + 1, 4, none⟩ (.int .u32 (ep : Nat))).setCell ⟨w.heap.size + 1, 5, none⟩ (.int .u32 (ca : Nat))).setCell ⟨w.heap.size + 1, 6, none⟩ (.int .u32 (v : Nat))).setCell ⟨w.heap.size + 1, 7, none⟩ (.int .u64 (ct : Nat))) = Q at hF hG ⊢
  refine bodyPost_ret (results_cell_tmp_row Tryd.results72 _ _ (w.heap.size + 1) _ _ _ _ rfl hF Tryd.underlying26 rfl size_rst) rfl ?_
  exact ⟨rfl, hG⟩

set_option maxHeartbeats 1000000 in
theorem rwrite_836 (st en ve sc ep ca va ct : Nat) (h0 : st < 4294967296) (h1 : en < 4294967296) (h2 : ve < 4294967296) (h3 : sc < 4294967296) (h4 : ep < 4294967296) (h5 : ca < 4294967296) (h6 : va < 4294967296) (h7 : ct < 18446744073709551616) (v : Nat) (hv : v < 4294967296) (w : World) :
    Calls Tryd.prog 72 #[.agg #[.int .u32 st, .int .u32 en, .int .u32 ve, .int .u32 sc, .int .u32 ep, .int .u32 ca, .int .u32 va, .int .u64 ct], .int .i64 836, .int .u32 v] w fun e w' => e = .returned (.tuple #[.agg #[.int .u32 st, .int .u32 en, .int .u32 ve, .int .u32 sc, .int .u32 ep, .int .u32 ca, .int .u32 va, .int .u64 ct], .int .i64 0]) ∧ Below w.heap.size w w' := by
  clear h0 h1 h2 h3 h4 h5 h6
  go_enter Tryd.func72, Tryd.ntmps72
  go_wp2
  obtain ⟨W0, hW0⟩ : ∃ X, (w.alloc (.cells #[.int .u32 st, .int .u32 en, .int .u32 ve, .int .u32 sc, .int .u32 ep, .int .u32 ca, .int .u32 va, .int .u64 ct] 26)).alloc (.cells #[.int .u32 0, .int .u32 0, .int .u32 0, .int .u32 0, .int .u32 0, .int .u32 0, .int .u32 0, .int .u64 0] 26) = X := ⟨_, rfl⟩
  have hR0 : RowAt W0 w.heap.size (rS st en ve sc ep ca va ct) 26 := hW0 ▸ (RowAt.new w _ _ _ rfl).al _
  have hZ0 : RowAt W0 (w.heap.size + 1) rZ 26 := hW0 ▸ RowAt.new _ _ _ _ (by simp)
  have hB0 : Below w.heap.size w W0 := hW0 ▸ below_two _ _ _
  have c7 : W0.cell? ⟨w.heap.size, 7, none⟩ = some (.int .u64 (ct : Nat)) := hR0.cell 7
  have HR0 := hide hR0
  have HZ0 := hide hZ0
  have HB0 := hide hB0
  rw [hW0]
  clear hW0 hR0 hZ0 hB0
  go_quiet (fail)
  obtain ⟨W, hW⟩ : ∃ X, W0.drewN nq = X := ⟨_, rfl⟩
  have hR : RowAt W w.heap.size (rS st en ve sc ep ca va ct) 26 := hW ▸ HR0.out.dn nq
  have hZ : RowAt W (w.heap.size + 1) rZ 26 := hW ▸ HZ0.out.dn nq
  have hB : Below w.heap.size w W := hW ▸ below_drewN HB0.out nq
  rw [hW]
  clear hW HR0 HZ0 HB0 c7
  have HF := hide (hZ.put8 (.int .u32 (st : Nat)) (.int .u32 (en : Nat)) (.int .u32 (ve : Nat)) (.int .u32 (sc : Nat)) (.int .u32 (ep : Nat)) (.int .u32 (ca : Nat)) (.int .u32 (va : Nat)) (.int .u64 (ct : Nat)))
  have HG := hide (below_put8 hB (Nat.le_succ _) (.int .u32 (st : Nat)) (.int .u32 (en : Nat)) (.int .u32 (ve : Nat)) (.int .u32 (sc : Nat)) (.int .u32 (ep : Nat)) (.int .u32 (ca : Nat)) (.int .u32 (va : Nat)) (.int .u64 (ct : Nat)))
  obtain ⟨c0, c1, c2, c3, c4, c5, c6, c7⟩ := cell8 hR
  obtain ⟨z0, z1, z2, z3, z4, z5, z6, z7⟩ := cell8 hZ
  obtain ⟨f0, f1, f2, f3, f4, f5, f6, f7⟩ := thaw8 hZ
  clear hR hZ hB
  go_wp2
  have hF := HF.out
  have hG := HG.out
  clear HF HG
  generalize ((((((((W.setCell ⟨w.heap.size + 1, 0, none⟩ (.int .u32 (st : Nat))).setCell ⟨w.heap.size + 1, 1, none⟩ (.int .u32 (en : Nat))).setCell ⟨w.heap.size + 1, 2, none⟩ (.int .u32 (ve : Nat))).setCell ⟨w.heap.size + 1, 3, none⟩ (.int .u32 (sc : Nat))).setCell ⟨w.heap.size + 1, 4, none⟩ (.int .u32 (ep : Nat))).setCell ⟨w.heap.size + 1, 5, none⟩ (.int .u32 (ca : Nat))).setCell ⟨w.heap.size + 1, 6, none⟩ (.int .u32 (va : Nat))).setCell ⟨w.heap.size + 1, 7, none⟩ (.int .u64 (ct : Nat))) = Q at hF hG ⊢
  refine bodyPost_ret (results_cell_tmp_row Tryd.results72 _ _ (w.heap.size + 1) _ _ _ _ rfl hF Tryd.underlying26 rfl size_rst) rfl ?_
  exact ⟨rfl, hG⟩

set_option maxHeartbeats 1000000 in
theorem rwrite_2816 (st en ve sc ep ca va ct : Nat) (h0 : st < 4294967296) (h1 : en < 4294967296) (h2 : ve < 4294967296) (h3 : sc < 4294967296) (h4 : ep < 4294967296) (h5 : ca < 4294967296) (h6 : va < 4294967296) (h7 : ct < 18446744073709551616) (v : Nat) (hv : v < 4294967296) (w : World) :
    Calls Tryd.prog 72 #[.agg #[.int .u32 st, .int .u32 en, .int .u32 ve, .int .u32 sc, .int .u32 ep, .int .u32 ca, .int .u32 va, .int .u64 ct], .int .i64 2816, .int .u32 v] w fun e w' => e = .returned (.tuple #[.agg #[.int .u32 st, .int .u32 en, .int .u32 ve, .int .u32 sc, .int .u32 ep, .int .u32 ca, .int .u32 va, .int .u64 (ct / 4294967296 * 4294967296 + v : Nat)], .int .i64 0]) ∧ Below w.heap.size w w' := by
  clear h0 h1 h2 h3 h4 h5 h6
  go_enter Tryd.func72, Tryd.ntmps72
  go_wp2
  obtain ⟨W0, hW0⟩ : ∃ X, (w.alloc (.cells #[.int .u32 st, .int .u32 en, .int .u32 ve, .int .u32 sc, .int .u32 ep, .int .u32 ca, .int .u32 va, .int .u64 ct] 26)).alloc (.cells #[.int .u32 0, .int .u32 0, .int .u32 0, .int .u32 0, .int .u32 0, .int .u32 0, .int .u32 0, .int .u64 0] 26) = X := ⟨_, rfl⟩
  have hR0 : RowAt W0 w.heap.size (rS st en ve sc ep ca va ct) 26 := hW0 ▸ (RowAt.new w _ _ _ rfl).al _
  have hZ0 : RowAt W0 (w.heap.size + 1) rZ 26 := hW0 ▸ RowAt.new _ _ _ _ (by simp)
  have hB0 : Below w.heap.size w W0 := hW0 ▸ below_two _ _ _
  have c7 : W0.cell? ⟨w.heap.size, 7, none⟩ = some (.int .u64 (ct : Nat)) := hR0.cell 7
  have HR0 := hide hR0
  have HZ0 := hide hZ0
  have HB0 := hide hB0
  rw [hW0]
  clear hW0 hR0 hZ0 hB0
  go_quiet (fail)
  obtain ⟨W, hW⟩ : ∃ X, W0.drewN nq = X := ⟨_, rfl⟩
  have hR : RowAt W w.heap.size (rS st en ve sc ep ca va ct) 26 := hW ▸ HR0.out.dn nq
  have hZ : RowAt W (w.heap.size + 1) rZ 26 := hW ▸ HZ0.out.dn nq
  have hB : Below w.heap.size w W := hW ▸ below_drewN HB0.out nq
  rw [hW]
  clear hW HR0 HZ0 HB0 c7
  have hY := hZ.far (g := w.heap.size) (by omega) 7 (.int .u64 ((ct : Int) / 4294967296 * 4294967296 + (v : Int)))
  have hB3 := hB.setCell (p := ⟨w.heap.size, 7, none⟩) (Nat.le_refl _) (.int .u64 ((ct : Int) / 4294967296 * 4294967296 + (v : Int)))
  have HF := hide (hY.put8 (.int .u32 (st : Nat)) (.int .u32 (en : Nat)) (.int .u32 (ve : Nat)) (.int .u32 (sc : Nat)) (.int .u32 (ep : Nat)) (.int .u32 (ca : Nat)) (.int .u32 (va : Nat)) (.int .u64 ((ct : Int) / 4294967296 * 4294967296 + (v : Int))))
  have HG := hide (below_put8 hB3 (Nat.le_succ _) (.int .u32 (st : Nat)) (.int .u32 (en : Nat)) (.int .u32 (ve : Nat)) (.int .u32 (sc : Nat)) (.int .u32 (ep : Nat)) (.int .u32 (ca : Nat)) (.int .u32 (va : Nat)) (.int .u64 ((ct : Int) / 4294967296 * 4294967296 + (v : Int))))
  have tR := hR.thaw 7
  obtain ⟨c0, c1, c2, c3, c4, c5, c6, c7⟩ := cell8 hR
  obtain ⟨z0, z1, z2, z3, z4, z5, z6, z7⟩ := cell8 hZ
  obtain ⟨f0, f1, f2, f3, f4, f5, f6, f7⟩ := thaw8 hZ
  clear hR hZ hB hY hB3
  go_wp2
  have hF := HF.out
  have hG := HG.out
  clear HF HG
  generalize (((((((((W.setCell ⟨w.heap.size, 7, none⟩ (.int .u64 ((ct : Int) / 4294967296 * 4294967296 + (v : Int)))).setCell ⟨w.heap.size + 1, 0, none⟩ (.int .u32 (st : Nat))).setCell ⟨w.heap.size + 1, 1, none⟩ (.int .u32 (en : Nat))).setCell ⟨w.heap.size + 1, 2, none⟩ (.int .u32 (ve : Nat))).setCell ⟨w.heap.size + 1, 3, none⟩ (.int .u32 (sc : Nat))).setCell ⟨w.heap.size + 1, 4, none⟩ (.int .u32 (ep : Nat))).setCell ⟨w.heap.size + 1, 5, none⟩ (.int .u32 (ca : Nat))).setCell ⟨w.heap.size + 1, 6, none⟩ (.int .u32 (va : Nat))).setCell ⟨w.heap.size + 1, 7, none⟩ (.int .u64 ((ct : Int) / 4294967296 * 4294967296 + (v : Int)))) = Q at hF hG ⊢
  refine bodyPost_ret (results_cell_tmp_row Tryd.results72 _ _ (w.heap.size + 1) _ _ _ _ rfl hF Tryd.underlying26 rfl size_rst) rfl ?_
  exact ⟨ret_writer (by simp), hG⟩

set_option maxHeartbeats 1000000 in
theorem rwrite_2818 (st en ve sc ep ca va ct : Nat) (h0 : st < 4294967296) (h1 : en < 4294967296) (h2 : ve < 4294967296) (h3 : sc < 4294967296) (h4 : ep < 4294967296) (h5 : ca < 4294967296) (h6 : va < 4294967296) (h7 : ct < 18446744073709551616) (v : Nat) (hv : v < 4294967296) (w : World) :
    Calls Tryd.prog 72 #[.agg #[.int .u32 st, .int .u32 en, .int .u32 ve, .int .u32 sc, .int .u32 ep, .int .u32 ca, .int .u32 va, .int .u64 ct], .int .i64 2818, .int .u32 v] w fun e w' => e = .returned (.tuple #[.agg #[.int .u32 st, .int .u32 en, .int .u32 ve, .int .u32 sc, .int .u32 ep, .int .u32 ca, .int .u32 va, .int .u64 (ct / 4294967296 * 4294967296 + v : Nat)], .int .i64 0]) ∧ Below w.heap.size w w' := by
  clear h0 h1 h2 h3 h4 h5 h6
  go_enter Tryd.func72, Tryd.ntmps72
  go_wp2
  obtain ⟨W0, hW0⟩ : ∃ X, (w.alloc (.cells #[.int .u32 st, .int .u32 en, .int .u32 ve, .int .u32 sc, .int .u32 ep, .int .u32 ca, .int .u32 va, .int .u64 ct] 26)).alloc (.cells #[.int .u32 0, .int .u32 0, .int .u32 0, .int .u32 0, .int .u32 0, .int .u32 0, .int .u32 0, .int .u64 0] 26) = X := ⟨_, rfl⟩
  have hR0 : RowAt W0 w.heap.size (rS st en ve sc ep ca va ct) 26 := hW0 ▸ (RowAt.new w _ _ _ rfl).al _
  have hZ0 : RowAt W0 (w.heap.size + 1) rZ 26 := hW0 ▸ RowAt.new _ _ _ _ (by simp)
  have hB0 : Below w.heap.size w W0 := hW0 ▸ below_two _ _ _
  have c7 : W0.cell? ⟨w.heap.size, 7, none⟩ = some (.int .u64 (ct : Nat)) := hR0.cell 7
  have HR0 := hide hR0
  have HZ0 := hide hZ0
  have HB0 := hide hB0
  rw [hW0]
  clear hW0 hR0 hZ0 hB0
  go_quiet (fail)
  obtain ⟨W, hW⟩ : ∃ X, W0.drewN nq = X := ⟨_, rfl⟩
  have hR : RowAt W w.heap.size (rS st en ve sc ep ca va ct) 26 := hW ▸ HR0.out.dn nq
  have hZ : RowAt W (w.heap.size + 1) rZ 26 := hW ▸ HZ0.out.dn nq
  have hB : Below w.heap.size w W := hW ▸ below_drewN HB0.out nq
  rw [hW]
  clear hW HR0 HZ0 HB0 c7
  have hY := hZ.far (g := w.heap.size) (by omega) 7 (.int .u64 ((ct : Int) / 4294967296 * 4294967296 + (v : Int)))
  have hB3 := hB.setCell (p := ⟨w.heap.size, 7, none⟩) (Nat.le_refl _) (.int .u64 ((ct : Int) / 4294967296 * 4294967296 + (v : Int)))
  have HF := hide (hY.put8 (.int .u32 (st : Nat)) (.int .u32 (en : Nat)) (.int .u32 (ve : Nat)) (.int .u32 (sc : Nat)) (.int .u32 (ep : Nat)) (.int .u32 (ca : Nat)) (.int .u32 (va : Nat)) (.int .u64 ((ct : Int) / 4294967296 * 4294967296 + (v : Int))))
  have HG := hide (below_put8 hB3 (Nat.le_succ _) (.int .u32 (st : Nat)) (.int .u32 (en : Nat)) (.int .u32 (ve : Nat)) (.int .u32 (sc : Nat)) (.int .u32 (ep : Nat)) (.int .u32 (ca : Nat)) (.int .u32 (va : Nat)) (.int .u64 ((ct : Int) / 4294967296 * 4294967296 + (v : Int))))
  have tR := hR.thaw 7
  obtain ⟨c0, c1, c2, c3, c4, c5, c6, c7⟩ := cell8 hR
  obtain ⟨z0, z1, z2, z3, z4, z5, z6, z7⟩ := cell8 hZ
  obtain ⟨f0, f1, f2, f3, f4, f5, f6, f7⟩ := thaw8 hZ
  clear hR hZ hB hY hB3
  go_wp2
  have hF := HF.out
  have hG := HG.out
  clear HF HG
  generalize (((((((((W.setCell ⟨w.heap.size, 7, none⟩ (.int .u64 ((ct : Int) / 4294967296 * 4294967296 + (v : Int)))).setCell ⟨w.heap.size + 1, 0, none⟩ (.int .u32 (st : Nat))).setCell ⟨w.heap.size + 1, 1, none⟩ (.int .u32 (en : Nat))).setCell ⟨w.heap.size + 1, 2, none⟩ (.int .u32 (ve : Nat))).setCell ⟨w.heap.size + 1, 3, none⟩ (.int .u32 (sc : Nat))).setCell ⟨w.heap.size + 1, 4, none⟩ (.int .u32 (ep : Nat))).setCell ⟨w.heap.size + 1, 5, none⟩ (.int .u32 (ca : Nat))).setCell ⟨w.heap.size + 1, 6, none⟩ (.int .u32 (va : Nat))).setCell ⟨w.heap.size + 1, 7, none⟩ (.int .u64 ((ct : Int) / 4294967296 * 4294967296 + (v : Int)))) = Q at hF hG ⊢
  refine bodyPost_ret (results_cell_tmp_row Tryd.results72 _ _ (w.heap.size + 1) _ _ _ _ rfl hF Tryd.underlying26 rfl size_rst) rfl ?_
  exact ⟨ret_writer (by simp), hG⟩

set_option maxHeartbeats 1000000 in
theorem rwrite_2944 (st en ve sc ep ca va ct : Nat) (h0 : st < 4294967296) (h1 : en < 4294967296) (h2 : ve < 4294967296) (h3 : sc < 4294967296) (h4 : ep < 4294967296) (h5 : ca < 4294967296) (h6 : va < 4294967296) (h7 : ct < 18446744073709551616) (v : Nat) (hv : v < 4294967296) (w : World) :
    Calls Tryd.prog 72 #[.agg #[.int .u32 st, .int .u32 en, .int .u32 ve, .int .u32 sc, .int .u32 ep, .int .u32 ca, .int .u32 va, .int .u64 ct], .int .i64 2944, .int .u32 v] w fun e w' => e = .returned (.tuple #[.agg #[.int .u32 st, .int .u32 en, .int .u32 ve, .int .u32 sc, .int .u32 ep, .int .u32 ca, .int .u32 va, .int .u64 (v * 4294967296 + ct % 4294967296 : Nat)], .int .i64 0]) ∧ Below w.heap.size w w' := by
  clear h0 h1 h2 h3 h4 h5 h6
  go_enter Tryd.func72, Tryd.ntmps72
  go_wp2
  obtain ⟨W0, hW0⟩ : ∃ X, (w.alloc (.cells #[.int .u32 st, .int .u32 en, .int .u32 ve, .int .u32 sc, .int .u32 ep, .int .u32 ca, .int .u32 va, .int .u64 ct] 26)).alloc (.cells #[.int .u32 0, .int .u32 0, .int .u32 0, .int .u32 0, .int .u32 0, .int .u32 0, .int .u32 0, .int .u64 0] 26) = X := ⟨_, rfl⟩
  have hR0 : RowAt W0 w.heap.size (rS st en ve sc ep ca va ct) 26 := hW0 ▸ (RowAt.new w _ _ _ rfl).al _
  have hZ0 : RowAt W0 (w.heap.size + 1) rZ 26 := hW0 ▸ RowAt.new _ _ _ _ (by simp)
  have hB0 : Below w.heap.size w W0 := hW0 ▸ below_two _ _ _
  have c7 : W0.cell? ⟨w.heap.size, 7, none⟩ = some (.int .u64 (ct : Nat)) := hR0.cell 7
  have HR0 := hide hR0
  have HZ0 := hide hZ0
  have HB0 := hide hB0
  rw [hW0]
  clear hW0 hR0 hZ0 hB0
  go_quiet (fail)
  obtain ⟨W, hW⟩ : ∃ X, W0.drewN nq = X := ⟨_, rfl⟩
  have hR : RowAt W w.heap.size (rS st en ve sc ep ca va ct) 26 := hW ▸ HR0.out.dn nq
  have hZ : RowAt W (w.heap.size + 1) rZ 26 := hW ▸ HZ0.out.dn nq
  have hB : Below w.heap.size w W := hW ▸ below_drewN HB0.out nq
  rw [hW]
  clear hW HR0 HZ0 HB0 c7
  have hY := hZ.far (g := w.heap.size) (by omega) 7 (.int .u64 ((v : Int) * 4294967296 + (ct : Int) % 4294967296))
  have hB3 := hB.setCell (p := ⟨w.heap.size, 7, none⟩) (Nat.le_refl _) (.int .u64 ((v : Int) * 4294967296 + (ct : Int) % 4294967296))
  have HF := hide (hY.put8 (.int .u32 (st : Nat)) (.int .u32 (en : Nat)) (.int .u32 (ve : Nat)) (.int .u32 (sc : Nat)) (.int .u32 (ep : Nat)) (.int .u32 (ca : Nat)) (.int .u32 (va : Nat)) (.int .u64 ((v : Int) * 4294967296 + (ct : Int) % 4294967296)))
  have HG := hide (below_put8 hB3 (Nat.le_succ _) (.int .u32 (st : Nat)) (.int .u32 (en : Nat)) (.int .u32 (ve : Nat)) (.int .u32 (sc : Nat)) (.int .u32 (ep : Nat)) (.int .u32 (ca : Nat)) (.int .u32 (va : Nat)) (.int .u64 ((v : Int) * 4294967296 + (ct : Int) % 4294967296)))
  have tR := hR.thaw 7
  obtain ⟨c0, c1, c2, c3, c4, c5, c6, c7⟩ := cell8 hR
  obtain ⟨z0, z1, z2, z3, z4, z5, z6, z7⟩ := cell8 hZ
  obtain ⟨f0, f1, f2, f3, f4, f5, f6, f7⟩ := thaw8 hZ
  clear hR hZ hB hY hB3
  go_wp2
  have hF := HF.out
  have hG := HG.out
  clear HF HG
  generalize (((((((((W.setCell ⟨w.heap.size, 7, none⟩ (.int .u64 ((v : Int) * 4294967296 + (ct : Int) % 4294967296))).setCell ⟨w.heap.size + 1, 0, none⟩ (.int .u32 (st : Nat))).setCell ⟨w.heap.size + 1, 1, none⟩ (.int .u32 (en : Nat))).setCell ⟨w.heap.size + 1, 2, none⟩ (.int .u32 (ve : Nat))).setCell ⟨w.heap.size + 1, 3, none⟩ (.int .u32 (sc : Nat))).setCell ⟨w.heap.size + 1, 4, none⟩ (.int .u32 (ep : Nat))).setCell ⟨w.heap.size + 1, 5, none⟩ (.int .u32 (ca : Nat))).setCell ⟨w.heap.size + 1, 6, none⟩ (.int .u32 (va : Nat))).setCell ⟨w.heap.size + 1, 7, none⟩ (.int .u64 ((v : Int) * 4294967296 + (ct : Int) % 4294967296))) = Q at hF hG ⊢
  refine bodyPost_ret (results_cell_tmp_row Tryd.results72 _ _ (w.heap.size + 1) _ _ _ _ rfl hF Tryd.underlying26 rfl size_rst) rfl ?_
  exact ⟨ret_writer (by simp), hG⟩

set_option maxHeartbeats 1000000 in
theorem rwrite_2946 (st en ve sc ep ca va ct : Nat) (h0 : st < 4294967296) (h1 : en < 4294967296) (h2 : ve < 4294967296) (h3 : sc < 4294967296) (h4 : ep < 4294967296) (h5 : ca < 4294967296) (h6 : va < 4294967296) (h7 : ct < 18446744073709551616) (v : Nat) (hv : v < 4294967296) (w : World) :
    Calls Tryd.prog 72 #[.agg #[.int .u32 st, .int .u32 en, .int .u32 ve, .int .u32 sc, .int .u32 ep, .int .u32 ca, .int .u32 va, .int .u64 ct], .int .i64 2946, .int .u32 v] w fun e w' => e = .returned (.tuple #[.agg #[.int .u32 st, .int .u32 en, .int .u32 ve, .int .u32 sc, .int .u32 ep, .int .u32 ca, .int .u32 va, .int .u64 (v * 4294967296 + ct % 4294967296 : Nat)], .int .i64 0]) ∧ Below w.heap.size w w' := by
  clear h0 h1 h2 h3 h4 h5 h6
  go_enter Tryd.func72, Tryd.ntmps72
  go_wp2
  obtain ⟨W0, hW0⟩ : ∃ X, (w.alloc (.cells #[.int .u32 st, .int .u32 en, .int .u32 ve, .int .u32 sc, .int .u32 ep, .int .u32 ca, .int .u32 va, .int .u64 ct] 26)).alloc (.cells #[.int .u32 0, .int .u32 0, .int .u32 0, .int .u32 0, .int .u32 0, .int .u32 0, .int .u32 0, .int .u64 0] 26) = X := ⟨_, rfl⟩
  have hR0 : RowAt W0 w.heap.size (rS st en ve sc ep ca va ct) 26 := hW0 ▸ (RowAt.new w _ _ _ rfl).al _
  have hZ0 : RowAt W0 (w.heap.size + 1) rZ 26 := hW0 ▸ RowAt.new _ _ _ _ (by simp)
  have hB0 : Below w.heap.size w W0 := hW0 ▸ below_two _ _ _
  have c7 : W0.cell? ⟨w.heap.size, 7, none⟩ = some (.int .u64 (ct : Nat)) := hR0.cell 7
  have HR0 := hide hR0
  have HZ0 := hide hZ0
  have HB0 := hide hB0
  rw [hW0]
  clear hW0 hR0 hZ0 hB0
  go_quiet (fail)
  obtain ⟨W, hW⟩ : ∃ X, W0.drewN nq = X := ⟨_, rfl⟩
  have hR : RowAt W w.heap.size (rS st en ve sc ep ca va ct) 26 := hW ▸ HR0.out.dn nq
  have hZ : RowAt W (w.heap.size + 1) rZ 26 := hW ▸ HZ0.out.dn nq
  have hB : Below w.heap.size w W := hW ▸ below_drewN HB0.out nq
  rw [hW]
  clear hW HR0 HZ0 HB0 c7
  have hY := hZ.far (g := w.heap.size) (by omega) 7 (.int .u64 ((v : Int) * 4294967296 + (ct : Int) % 4294967296))
  have hB3 := hB.setCell (p := ⟨w.heap.size, 7, none⟩) (Nat.le_refl _) (.int .u64 ((v : Int) * 4294967296 + (ct : Int) % 4294967296))
  have HF := hide (hY.put8 (.int .u32 (st : Nat)) (.int .u32 (en : Nat)) (.int .u32 (ve : Nat)) (.int .u32 (sc : Nat)) (.int .u32 (ep : Nat)) (.int .u32 (ca : Nat)) (.int .u32 (va : Nat)) (.int .u64 ((v : Int) * 4294967296 + (ct : Int) % 4294967296)))
  have HG := hide (below_put8 hB3 (Nat.le_succ _) (.int .u32 (st : Nat)) (.int .u32 (en : Nat)) (.int .u32 (ve : Nat)) (.int .u32 (sc : Nat)) (.int .u32 (ep : Nat)) (.int .u32 (ca : Nat)) (.int .u32 (va : Nat)) (.int .u64 ((v : Int) * 4294967296 + (ct : Int) % 4294967296)))
  have tR := hR.thaw 7
  obtain ⟨c0, c1, c2, c3, c4, c5, c6, c7⟩ := cell8 hR
  obtain ⟨z0, z1, z2, z3, z4, z5, z6, z7⟩ := cell8 hZ
  obtain ⟨f0, f1, f2, f3, f4, f5, f6, f7⟩ := thaw8 hZ
  clear hR hZ hB hY hB3
  go_wp2
  have hF := HF.out
  have hG := HG.out
  clear HF HG
  generalize (((((((((W.setCell ⟨w.heap.size, 7, none⟩ (.int .u64 ((v : Int) * 4294967296 + (ct : Int) % 4294967296))).setCell ⟨w.heap.size + 1, 0, none⟩ (.int .u32 (st : Nat))).setCell ⟨w.heap.size + 1, 1, none⟩ (.int .u32 (en : Nat))).setCell ⟨w.heap.size + 1, 2, none⟩ (.int .u32 (ve : Nat))).setCell ⟨w.heap.size + 1, 3, none⟩ (.int .u32 (sc : Nat))).setCell ⟨w.heap.size + 1, 4, none⟩ (.int .u32 (ep : Nat))).setCell ⟨w.heap.size + 1, 5, none⟩ (.int .u32 (ca : Nat))).setCell ⟨w.heap.size + 1, 6, none⟩ (.int .u32 (va : Nat))).setCell ⟨w.heap.size + 1, 7, none⟩ (.int .u64 ((v : Int) * 4294967296 + (ct : Int) % 4294967296))) = Q at hF hG ⊢
  refine bodyPost_ret (results_cell_tmp_row Tryd.results72 _ _ (w.heap.size + 1) _ _ _ _ rfl hF Tryd.underlying26 rfl size_rst) rfl ?_
  exact ⟨ret_writer (by simp), hG⟩

set_option maxHeartbeats 1000000 in
theorem rwrite_3857 (st en ve sc ep ca va ct : Nat) (h0 : st < 4294967296) (h1 : en < 4294967296) (h2 : ve < 4294967296) (h3 : sc < 4294967296) (h4 : ep < 4294967296) (h5 : ca < 4294967296) (h6 : va < 4294967296) (h7 : ct < 18446744073709551616) (v : Nat) (hv : v < 4294967296) (w : World) :
    Calls Tryd.prog 72 #[.agg #[.int .u32 st, .int .u32 en, .int .u32 ve, .int .u32 sc, .int .u32 ep, .int .u32 ca, .int .u32 va, .int .u64 ct], .int .i64 3857, .int .u32 v] w fun e w' => e = .returned (.tuple #[.agg zeroS.cells, .int .i64 33]) ∧ Below w.heap.size w w' := by
  clear h0 h1 h2 h3 h4 h5 h6
  go_enter Tryd.func72, Tryd.ntmps72
  go_wp2
  obtain ⟨W0, hW0⟩ : ∃ X, (w.alloc (.cells #[.int .u32 st, .int .u32 en, .int .u32 ve, .int .u32 sc, .int .u32 ep, .int .u32 ca, .int .u32 va, .int .u64 ct] 26)).alloc (.cells #[.int .u32 0, .int .u32 0, .int .u32 0, .int .u32 0, .int .u32 0, .int .u32 0, .int .u32 0, .int .u64 0] 26) = X := ⟨_, rfl⟩
  have hR0 : RowAt W0 w.heap.size (rS st en ve sc ep ca va ct) 26 := hW0 ▸ (RowAt.new w _ _ _ rfl).al _
  have hZ0 : RowAt W0 (w.heap.size + 1) rZ 26 := hW0 ▸ RowAt.new _ _ _ _ (by simp)
  have hB0 : Below w.heap.size w W0 := hW0 ▸ below_two _ _ _
  have c7 : W0.cell? ⟨w.heap.size, 7, none⟩ = some (.int .u64 (ct : Nat)) := hR0.cell 7
  have HR0 := hide hR0
  have HZ0 := hide hZ0
  have HB0 := hide hB0
  rw [hW0]
  clear hW0 hR0 hZ0 hB0
  go_quiet (fail)
  obtain ⟨W, hW⟩ : ∃ X, W0.drewN nq = X := ⟨_, rfl⟩
  have hR : RowAt W w.heap.size (rS st en ve sc ep ca va ct) 26 := hW ▸ HR0.out.dn nq
  have hZ : RowAt W (w.heap.size + 1) rZ 26 := hW ▸ HZ0.out.dn nq
  have hB : Below w.heap.size w W := hW ▸ below_drewN HB0.out nq
  rw [hW]
  clear hW HR0 HZ0 HB0 c7
  have HF := hide (hZ.put8 (.int .u32 0) (.int .u32 0) (.int .u32 0) (.int .u32 0) (.int .u32 0) (.int .u32 0) (.int .u32 0) (.int .u64 0))
  have HG := hide (below_put8 hB (Nat.le_succ _) (.int .u32 0) (.int .u32 0) (.int .u32 0) (.int .u32 0) (.int .u32 0) (.int .u32 0) (.int .u32 0) (.int .u64 0))
  obtain ⟨c0, c1, c2, c3, c4, c5, c6, c7⟩ := cell8 hR
  obtain ⟨z0, z1, z2, z3, z4, z5, z6, z7⟩ := cell8 hZ
  obtain ⟨f0, f1, f2, f3, f4, f5, f6, f7⟩ := thaw8 hZ
  clear hR hZ hB
  go_wp2
  have hF := HF.out
  have hG := HG.out
  clear HF HG
  generalize ((((((((W.setCell ⟨w.heap.size + 1, 0, none⟩ (.int .u32 0)).setCell ⟨w.heap.size + 1, 1, none⟩ (.int .u32 0)).setCell ⟨w.heap.size + 1, 2, none⟩ (.int .u32 0)).setCell ⟨w.heap.size + 1, 3, none⟩ (.int .u32 0)).setCell ⟨w.heap.size + 1, 4, none⟩ (.int .u32 0)).setCell ⟨w.heap.size + 1, 5, none⟩ (.int .u32 0)).setCell ⟨w.heap.size + 1, 6, none⟩ (.int .u32 0)).setCell ⟨w.heap.size + 1, 7, none⟩ (.int .u64 0)) = Q at hF hG ⊢
  refine bodyPost_ret (results_cell_tmp_row Tryd.results72 _ _ (w.heap.size + 1) _ _ _ _ rfl hF Tryd.underlying26 rfl size_rst) rfl ?_
  exact ⟨rfl, hG⟩

set_option maxHeartbeats 1000000 in
theorem rwrite_3858 (st en ve sc ep ca va ct : Nat) (h0 : st < 4294967296) (h1 : en < 4294967296) (h2 : ve < 4294967296) (h3 : sc < 4294967296) (h4 : ep < 4294967296) (h5 : ca < 4294967296) (h6 : va < 4294967296) (h7 : ct < 18446744073709551616) (v : Nat) (hv : v < 4294967296) (w : World) :
    Calls Tryd.prog 72 #[.agg #[.int .u32 st, .int .u32 en, .int .u32 ve, .int .u32 sc, .int .u32 ep, .int .u32 ca, .int .u32 va, .int .u64 ct], .int .i64 3858, .int .u32 v] w fun e w' => e = .returned (.tuple #[.agg zeroS.cells, .int .i64 33]) ∧ Below w.heap.size w w' := by
  clear h0 h1 h2 h3 h4 h5 h6
  go_enter Tryd.func72, Tryd.ntmps72
  go_wp2
  obtain ⟨W0, hW0⟩ : ∃ X, (w.alloc (.cells #[.int .u32 st, .int .u32 en, .int .u32 ve, .int .u32 sc, .int .u32 ep, .int .u32 ca, .int .u32 va, .int .u64 ct] 26)).alloc (.cells #[.int .u32 0, .int .u32 0, .int .u32 0, .int .u32 0, .int .u32 0, .int .u32 0, .int .u32 0, .int .u64 0] 26) = X := ⟨_, rfl⟩
  have hR0 : RowAt W0 w.heap.size (rS st en ve sc ep ca va ct) 26 := hW0 ▸ (RowAt.new w _ _ _ rfl).al _
  have hZ0 : RowAt W0 (w.heap.size + 1) rZ 26 := hW0 ▸ RowAt.new _ _ _ _ (by simp)
  have hB0 : Below w.heap.size w W0 := hW0 ▸ below_two _ _ _
  have c7 : W0.cell? ⟨w.heap.size, 7, none⟩ = some (.int .u64 (ct : Nat)) := hR0.cell 7
  have HR0 := hide hR0
  have HZ0 := hide hZ0
  have HB0 := hide hB0
  rw [hW0]
  clear hW0 hR0 hZ0 hB0
  go_quiet (fail)
  obtain ⟨W, hW⟩ : ∃ X, W0.drewN nq = X := ⟨_, rfl⟩
  have hR : RowAt W w.heap.size (rS st en ve sc ep ca va ct) 26 := hW ▸ HR0.out.dn nq
  have hZ : RowAt W (w.heap.size + 1) rZ 26 := hW ▸ HZ0.out.dn nq
  have hB : Below w.heap.size w W := hW ▸ below_drewN HB0.out nq
  rw [hW]
  clear hW HR0 HZ0 HB0 c7
  have HF := hide (hZ.put8 (.int .u32 0) (.int .u32 0) (.int .u32 0) (.int .u32 0) (.int .u32 0) (.int .u32 0) (.int .u32 0) (.int .u64 0))
  have HG := hide (below_put8 hB (Nat.le_succ _) (.int .u32 0) (.int .u32 0) (.int .u32 0) (.int .u32 0) (.int .u32 0) (.int .u32 0) (.int .u32 0) (.int .u64 0))
  obtain ⟨c0, c1, c2, c3, c4, c5, c6, c7⟩ := cell8 hR
  obtain ⟨z0, z1, z2, z3, z4, z5, z6, z7⟩ := cell8 hZ
  obtain ⟨f0, f1, f2, f3, f4, f5, f6, f7⟩ := thaw8 hZ
  clear hR hZ hB
  go_wp2
  have hF := HF.out
  have hG := HG.out
  clear HF HG
  generalize ((((((((W.setCell ⟨w.heap.size + 1, 0, none⟩ (.int .u32 0)).setCell ⟨w.heap.size + 1, 1, none⟩ (.int .u32 0)).setCell ⟨w.heap.size + 1, 2, none⟩ (.int .u32 0)).setCell ⟨w.heap.size + 1, 3, none⟩ (.int .u32 0)).setCell ⟨w.heap.size + 1, 4, none⟩ (.int .u32 0)).setCell ⟨w.heap.size + 1, 5, none⟩ (.int .u32 0)).setCell ⟨w.heap.size + 1, 6, none⟩ (.int .u32 0)).setCell ⟨w.heap.size + 1, 7, none⟩ (.int .u64 0)) = Q at hF hG ⊢
  refine bodyPost_ret (results_cell_tmp_row Tryd.results72 _ _ (w.heap.size + 1) _ _ _ _ rfl hF Tryd.underlying26 rfl size_rst) rfl ?_
  exact ⟨rfl, hG⟩

set_option maxHeartbeats 1000000 in
theorem rwrite_3859 (st en ve sc ep ca va ct : Nat) (h0 : st < 4294967296) (h1 : en < 4294967296) (h2 : ve < 4294967296) (h3 : sc < 4294967296) (h4 : ep < 4294967296) (h5 : ca < 4294967296) (h6 : va < 4294967296) (h7 : ct < 18446744073709551616) (v : Nat) (hv : v < 4294967296) (w : World) :
    Calls Tryd.prog 72 #[.agg #[.int .u32 st, .int .u32 en, .int .u32 ve, .int .u32 sc, .int .u32 ep, .int .u32 ca, .int .u32 va, .int .u64 ct], .int .i64 3859, .int .u32 v] w fun e w' => e = .returned (.tuple #[.agg zeroS.cells, .int .i64 33]) ∧ Below w.heap.size w w' := by
  clear h0 h1 h2 h3 h4 h5 h6
  go_enter Tryd.func72, Tryd.ntmps72
  go_wp2
  obtain ⟨W0, hW0⟩ : ∃ X, (w.alloc (.cells #[.int .u32 st, .int .u32 en, .int .u32 ve, .int .u32 sc, .int .u32 ep, .int .u32 ca, .int .u32 va, .int .u64 ct] 26)).alloc (.cells #[.int .u32 0, .int .u32 0, .int .u32 0, .int .u32 0, .int .u32 0, .int .u32 0, .int .u32 0, .int .u64 0] 26) = X := ⟨_, rfl⟩
  have hR0 : RowAt W0 w.heap.size (rS st en ve sc ep ca va ct) 26 := hW0 ▸ (RowAt.new w _ _ _ rfl).al _
  have hZ0 : RowAt W0 (w.heap.size + 1) rZ 26 := hW0 ▸ RowAt.new _ _ _ _ (by simp)
  have hB0 : Below w.heap.size w W0 := hW0 ▸ below_two _ _ _
  have c7 : W0.cell? ⟨w.heap.size, 7, none⟩ = some (.int .u64 (ct : Nat)) := hR0.cell 7
  have HR0 := hide hR0
  have HZ0 := hide hZ0
  have HB0 := hide hB0
  rw [hW0]
  clear hW0 hR0 hZ0 hB0
  go_quiet (fail)
  obtain ⟨W, hW⟩ : ∃ X, W0.drewN nq = X := ⟨_, rfl⟩
  have hR : RowAt W w.heap.size (rS st en ve sc ep ca va ct) 26 := hW ▸ HR0.out.dn nq
  have hZ : RowAt W (w.heap.size + 1) rZ 26 := hW ▸ HZ0.out.dn nq
  have hB : Below w.heap.size w W := hW ▸ below_drewN HB0.out nq
  rw [hW]
  clear hW HR0 HZ0 HB0 c7
  have HF := hide (hZ.put8 (.int .u32 0) (.int .u32 0) (.int .u32 0) (.int .u32 0) (.int .u32 0) (.int .u32 0) (.int .u32 0) (.int .u64 0))
  have HG := hide (below_put8 hB (Nat.le_succ _) (.int .u32 0) (.int .u32 0) (.int .u32 0) (.int .u32 0) (.int .u32 0) (.int .u32 0) (.int .u32 0) (.int .u64 0))
  obtain ⟨c0, c1, c2, c3, c4, c5, c6, c7⟩ := cell8 hR
  obtain ⟨z0, z1, z2, z3, z4, z5, z6, z7⟩ := cell8 hZ
  obtain ⟨f0, f1, f2, f3, f4, f5, f6, f7⟩ := thaw8 hZ
  clear hR hZ hB
  go_wp2
  have hF := HF.out
  have hG := HG.out
  clear HF HG
  generalize ((((((((W.setCell ⟨w.heap.size + 1, 0, none⟩ (.int .u32 0)).setCell ⟨w.heap.size + 1, 1, none⟩ (.int .u32 0)).setCell ⟨w.heap.size + 1, 2, none⟩ (.int .u32 0)).setCell ⟨w.heap.size + 1, 3, none⟩ (.int .u32 0)).setCell ⟨w.heap.size + 1, 4, none⟩ (.int .u32 0)).setCell ⟨w.heap.size + 1, 5, none⟩ (.int .u32 0)).setCell ⟨w.heap.size + 1, 6, none⟩ (.int .u32 0)).setCell ⟨w.heap.size + 1, 7, none⟩ (.int .u64 0)) = Q at hF hG ⊢
  refine bodyPost_ret (results_cell_tmp_row Tryd.results72 _ _ (w.heap.size + 1) _ _ _ _ rfl hF Tryd.underlying26 rfl size_rst) rfl ?_
  exact ⟨rfl, hG⟩

set_option maxHeartbeats 1000000 in
theorem rwrite_3860 (st en ve sc ep ca va ct : Nat) (h0 : st < 4294967296) (h1 : en < 4294967296) (h2 : ve < 4294967296) (h3 : sc < 4294967296) (h4 : ep < 4294967296) (h5 : ca < 4294967296) (h6 : va < 4294967296) (h7 : ct < 18446744073709551616) (v : Nat) (hv : v < 4294967296) (w : World) :
    Calls Tryd.prog 72 #[.agg #[.int .u32 st, .int .u32 en, .int .u32 ve, .int .u32 sc, .int .u32 ep, .int .u32 ca, .int .u32 va, .int .u64 ct], .int .i64 3860, .int .u32 v] w fun e w' => e = .returned (.tuple #[.agg zeroS.cells, .int .i64 33]) ∧ Below w.heap.size w w' := by
  clear h0 h1 h2 h3 h4 h5 h6
  go_enter Tryd.func72, Tryd.ntmps72
  go_wp2
  obtain ⟨W0, hW0⟩ : ∃ X, (w.alloc (.cells #[.int .u32 st, .int .u32 en, .int .u32 ve, .int .u32 sc, .int .u32 ep, .int .u32 ca, .int .u32 va, .int .u64 ct] 26)).alloc (.cells #[.int .u32 0, .int .u32 0, .int .u32 0, .int .u32 0, .int .u32 0, .int .u32 0, .int .u32 0, .int .u64 0] 26) = X := ⟨_, rfl⟩
  have hR0 : RowAt W0 w.heap.size (rS st en ve sc ep ca va ct) 26 := hW0 ▸ (RowAt.new w _ _ _ rfl).al _
  have hZ0 : RowAt W0 (w.heap.size + 1) rZ 26 := hW0 ▸ RowAt.new _ _ _ _ (by simp)
  have hB0 : Below w.heap.size w W0 := hW0 ▸ below_two _ _ _
  have c7 : W0.cell? ⟨w.heap.size, 7, none⟩ = some (.int .u64 (ct : Nat)) := hR0.cell 7
  have HR0 := hide hR0
  have HZ0 := hide hZ0
  have HB0 := hide hB0
  rw [hW0]
  clear hW0 hR0 hZ0 hB0
  go_quiet (fail)
  obtain ⟨W, hW⟩ : ∃ X, W0.drewN nq = X := ⟨_, rfl⟩
  have hR : RowAt W w.heap.size (rS st en ve sc ep ca va ct) 26 := hW ▸ HR0.out.dn nq
  have hZ : RowAt W (w.heap.size + 1) rZ 26 := hW ▸ HZ0.out.dn nq
  have hB : Below w.heap.size w W := hW ▸ below_drewN HB0.out nq
  rw [hW]
  clear hW HR0 HZ0 HB0 c7
  have HF := hide (hZ.put8 (.int .u32 0) (.int .u32 0) (.int .u32 0) (.int .u32 0) (.int .u32 0) (.int .u32 0) (.int .u32 0) (.int .u64 0))
  have HG := hide (below_put8 hB (Nat.le_succ _) (.int .u32 0) (.int .u32 0) (.int .u32 0) (.int .u32 0) (.int .u32 0) (.int .u32 0) (.int .u32 0) (.int .u64 0))
  obtain ⟨c0, c1, c2, c3, c4, c5, c6, c7⟩ := cell8 hR
  obtain ⟨z0, z1, z2, z3, z4, z5, z6, z7⟩ := cell8 hZ
  obtain ⟨f0, f1, f2, f3, f4, f5, f6, f7⟩ := thaw8 hZ
  clear hR hZ hB
  go_wp2
  have hF := HF.out
  have hG := HG.out
  clear HF HG
  generalize ((((((((W.setCell ⟨w.heap.size + 1, 0, none⟩ (.int .u32 0)).setCell ⟨w.heap.size + 1, 1, none⟩ (.int .u32 0)).setCell ⟨w.heap.size + 1, 2, none⟩ (.int .u32 0)).setCell ⟨w.heap.size + 1, 3, none⟩ (.int .u32 0)).setCell ⟨w.heap.size + 1, 4, none⟩ (.int .u32 0)).setCell ⟨w.heap.size + 1, 5, none⟩ (.int .u32 0)).setCell ⟨w.heap.size + 1, 6, none⟩ (.int .u32 0)).setCell ⟨w.heap.size + 1, 7, none⟩ (.int .u64 0)) = Q at hF hG ⊢
  refine bodyPost_ret (results_cell_tmp_row Tryd.results72 _ _ (w.heap.size + 1) _ _ _ _ rfl hF Tryd.underlying26 rfl size_rst) rfl ?_
  exact ⟨rfl, hG⟩

set_option maxHeartbeats 1000000 in
theorem rwrite_none (st en ve sc ep ca va ct : Nat) (h7 : ct < 18446744073709551616) (a : Int) (c768 : ¬ a = 768) (c769 : ¬ a = 769) (c772 : ¬ a = 772) (c773 : ¬ a = 773) (c832 : ¬ a = 832) (c833 : ¬ a = 833) (c834 : ¬ a = 834) (c835 : ¬ a = 835) (c836 : ¬ a = 836) (c2816 : ¬ a = 2816) (c2818 : ¬ a = 2818) (c2944 : ¬ a = 2944) (c2946 : ¬ a = 2946) (c3857 : ¬ a = 3857) (c3858 : ¬ a = 3858) (c3859 : ¬ a = 3859) (c3860 : ¬ a = 3860) (v : Nat) (w : World) :
    Calls Tryd.prog 72 #[.agg #[.int .u32 st, .int .u32 en, .int .u32 ve, .int .u32 sc, .int .u32 ep, .int .u32 ca, .int .u32 va, .int .u64 ct], .int .i64 a, .int .u32 v] w fun e w' => e = .returned (.tuple #[.agg zeroS.cells, .int .i64 8]) ∧ Below w.heap.size w w' := by
  have q768 : (a == 768) = false := by simpa using c768
  have q769 : (a == 769) = false := by simpa using c769
  have q772 : (a == 772) = false := by simpa using c772
  have q773 : (a == 773) = false := by simpa using c773
  have q832 : (a == 832) = false := by simpa using c832
  have q833 : (a == 833) = false := by simpa using c833
  have q834 : (a == 834) = false := by simpa using c834
  have q835 : (a == 835) = false := by simpa using c835
  have q836 : (a == 836) = false := by simpa using c836
  have q2816 : (a == 2816) = false := by simpa using c2816
  have q2818 : (a == 2818) = false := by simpa using c2818
  have q2944 : (a == 2944) = false := by simpa using c2944
  have q2946 : (a == 2946) = false := by simpa using c2946
  have q3857 : (a == 3857) = false := by simpa using c3857
  have q3858 : (a == 3858) = false := by simpa using c3858
  have q3859 : (a == 3859) = false := by simpa using c3859
  have q3860 : (a == 3860) = false := by simpa using c3860
  clear c768 c769 c772 c773 c832 c833 c834 c835 c836 c2816 c2818 c2944 c2946 c3857 c3858 c3859 c3860
  go_enter Tryd.func72, Tryd.ntmps72
  go_wp2
  obtain ⟨W0, hW0⟩ : ∃ X, (w.alloc (.cells #[.int .u32 st, .int .u32 en, .int .u32 ve, .int .u32 sc, .int .u32 ep, .int .u32 ca, .int .u32 va, .int .u64 ct] 26)).alloc (.cells #[.int .u32 0, .int .u32 0, .int .u32 0, .int .u32 0, .int .u32 0, .int .u32 0, .int .u32 0, .int .u64 0] 26) = X := ⟨_, rfl⟩
  have hR0 : RowAt W0 w.heap.size (rS st en ve sc ep ca va ct) 26 := hW0 ▸ (RowAt.new w _ _ _ rfl).al _
  have hZ0 : RowAt W0 (w.heap.size + 1) rZ 26 := hW0 ▸ RowAt.new _ _ _ _ (by simp)
  have hB0 : Below w.heap.size w W0 := hW0 ▸ below_two _ _ _
  have c7 : W0.cell? ⟨w.heap.size, 7, none⟩ = some (.int .u64 (ct : Nat)) := hR0.cell 7
  have HR0 := hide hR0
  have HZ0 := hide hZ0
  have HB0 := hide hB0
  rw [hW0]
  clear hW0 hR0 hZ0 hB0
  go_quiet (fail)
  obtain ⟨W, hW⟩ : ∃ X, W0.drewN nq = X := ⟨_, rfl⟩
  have hR : RowAt W w.heap.size (rS st en ve sc ep ca va ct) 26 := hW ▸ HR0.out.dn nq
  have hZ : RowAt W (w.heap.size + 1) rZ 26 := hW ▸ HZ0.out.dn nq
  have hB : Below w.heap.size w W := hW ▸ below_drewN HB0.out nq
  rw [hW]
  clear hW HR0 HZ0 HB0 c7
  have HF := hide (hZ.put8 (.int .u32 0) (.int .u32 0) (.int .u32 0) (.int .u32 0) (.int .u32 0) (.int .u32 0) (.int .u32 0) (.int .u64 0))
  have HG := hide (below_put8 hB (Nat.le_succ _) (.int .u32 0) (.int .u32 0) (.int .u32 0) (.int .u32 0) (.int .u32 0) (.int .u32 0) (.int .u32 0) (.int .u64 0))
  obtain ⟨c0, c1, c2, c3, c4, c5, c6, c7⟩ := cell8 hR
  obtain ⟨z0, z1, z2, z3, z4, z5, z6, z7⟩ := cell8 hZ
  obtain ⟨f0, f1, f2, f3, f4, f5, f6, f7⟩ := thaw8 hZ
  clear hR hZ hB
  go_wp2
  have hF := HF.out
  have hG := HG.out
  clear HF HG
  generalize ((((((((W.setCell ⟨w.heap.size + 1, 0, none⟩ (.int .u32 0)).setCell ⟨w.heap.size + 1, 1, none⟩ (.int .u32 0)).setCell ⟨w.heap.size + 1, 2, none⟩ (.int .u32 0)).setCell ⟨w.heap.size + 1, 3, none⟩ (.int .u32 0)).setCell ⟨w.heap.size + 1, 4, none⟩ (.int .u32 0)).setCell ⟨w.heap.size + 1, 5, none⟩ (.int .u32 0)).setCell ⟨w.heap.size + 1, 6, none⟩ (.int .u32 0)).setCell ⟨w.heap.size + 1, 7, none⟩ (.int .u64 0)) = Q at hF hG ⊢
  refine bodyPost_ret (results_cell_tmp_row Tryd.results72 _ _ (w.heap.size + 1) _ _ _ _ rfl hF Tryd.underlying26 rfl size_rst) rfl ?_
  exact ⟨rfl, hG⟩

theorem rwrite_any (s : S8) (hs : s.Ok) (a : Int) (v : Nat) (hv : v < 4294967296) (w : World) :
    Calls Tryd.prog 72 #[.agg s.cells, .int .i64 a, .int .u32 v] w fun e w' => e = .returned (.tuple #[.agg (writeN s a v).1.cells, .int .i64 ((writeN s a v).2 : Nat)]) ∧ Below w.heap.size w w' := by
  obtain ⟨st, en, ve, sc, ep, ca, va, ct⟩ := s
  obtain ⟨h0, h1, h2, h3, h4, h5, h6, h7⟩ := hs
  by_cases c768 : a = 768
  · subst c768; exact rwrite_768 st en ve sc ep ca va ct h0 h1 h2 h3 h4 h5 h6 h7 v hv w
  by_cases c769 : a = 769
  · subst c769; exact rwrite_769 st en ve sc ep ca va ct h0 h1 h2 h3 h4 h5 h6 h7 v hv w
  by_cases c772 : a = 772
  · subst c772; exact rwrite_772 st en ve sc ep ca va ct h0 h1 h2 h3 h4 h5 h6 h7 v hv w
  by_cases c773 : a = 773
  · subst c773; exact rwrite_773 st en ve sc ep ca va ct h0 h1 h2 h3 h4 h5 h6 h7 v hv w
  by_cases c832 : a = 832
  · subst c832; exact rwrite_832 st en ve sc ep ca va ct h0 h1 h2 h3 h4 h5 h6 h7 v hv w
  by_cases c833 : a = 833
  · subst c833; exact rwrite_833 st en ve sc ep ca va ct h0 h1 h2 h3 h4 h5 h6 h7 v hv w
  by_cases c834 : a = 834
  · subst c834; exact rwrite_834 st en ve sc ep ca va ct h0 h1 h2 h3 h4 h5 h6 h7 v hv w
  by_cases c835 : a = 835
  · subst c835; exact rwrite_835 st en ve sc ep ca va ct h0 h1 h2 h3 h4 h5 h6 h7 v hv w
  by_cases c836 : a = 836
  · subst c836; exact rwrite_836 st en ve sc ep ca va ct h0 h1 h2 h3 h4 h5 h6 h7 v hv w
  by_cases c2816 : a = 2816
  · subst c2816; exact rwrite_2816 st en ve sc ep ca va ct h0 h1 h2 h3 h4 h5 h6 h7 v hv w
  by_cases c2818 : a = 2818
  · subst c2818; exact rwrite_2818 st en ve sc ep ca va ct h0 h1 h2 h3 h4 h5 h6 h7 v hv w
  by_cases c2944 : a = 2944
  · subst c2944; exact rwrite_2944 st en ve sc ep ca va ct h0 h1 h2 h3 h4 h5 h6 h7 v hv w
  by_cases c2946 : a = 2946
  · subst c2946; exact rwrite_2946 st en ve sc ep ca va ct h0 h1 h2 h3 h4 h5 h6 h7 v hv w
  by_cases c3857 : a = 3857
  · subst c3857; exact rwrite_3857 st en ve sc ep ca va ct h0 h1 h2 h3 h4 h5 h6 h7 v hv w
  by_cases c3858 : a = 3858
  · subst c3858; exact rwrite_3858 st en ve sc ep ca va ct h0 h1 h2 h3 h4 h5 h6 h7 v hv w
  by_cases c3859 : a = 3859
  · subst c3859; exact rwrite_3859 st en ve sc ep ca va ct h0 h1 h2 h3 h4 h5 h6 h7 v hv w
  by_cases c3860 : a = 3860
  · subst c3860; exact rwrite_3860 st en ve sc ep ca va ct h0 h1 h2 h3 h4 h5 h6 h7 v hv w
  have hn : writeN ⟨st, en, ve, sc, ep, ca, va, ct⟩ a v = (zeroS, 8) := by
    unfold writeN
    rw [if_neg c768, if_neg (by omega), if_neg c772, if_neg c773, if_neg c832, if_neg c833, if_neg c834, if_neg c835, if_neg (by omega), if_neg (by omega), if_neg (by omega)]
  rw [hn]
  exact rwrite_none st en ve sc ep ca va ct h7 a c768 c769 c772 c773 c832 c833 c834 c835 c836 c2816 c2818 c2944 c2946 c3857 c3858 c3859 c3860 v w
end Go.Proofs.YtchjhpeogdkbmaaDoor
