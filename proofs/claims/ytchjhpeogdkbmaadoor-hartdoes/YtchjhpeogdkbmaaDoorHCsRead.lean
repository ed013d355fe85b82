/-
  What csr.Read answers.
-/
import Derived.Test.YtchjhpeogdkbmaaDoorHCsProg
namespace Go.Proofs.YtchjhpeogdkbmaaDoor
open Go.RowKit
set_option linter.unusedVariables false

/-- What Read answers, as the program's values. -/
def readV : Option Nat → Value
  | some x => .tuple #[.int .u32 x, .nilIface]
  | none => .tuple #[.int .u32 0, .iface 89 (.int .i64 8)]
theorem ret_read {a b : Int} (h : a = b) : Ending.returned (.tuple #[.int .u32 a, .nilIface]) = .returned (.tuple #[.int .u32 b, .nilIface]) := by rw [h]

set_option maxHeartbeats 400000 in
theorem read_768 (st en ve sc ep ca va ct : Nat) (h0 : st < 4294967296) (h1 : en < 4294967296) (h2 : ve < 4294967296) (h3 : sc < 4294967296) (h4 : ep < 4294967296) (h5 : ca < 4294967296) (h6 : va < 4294967296) (h7 : ct < 18446744073709551616) (l : Nat) (hl : l < 4294967296) (w : World) :
    Calls Tryd.prog 52 #[.agg #[.int .u32 st, .int .u32 en, .int .u32 ve, .int .u32 sc, .int .u32 ep, .int .u32 ca, .int .u32 va, .int .u64 ct], .int .i64 768, .int .u32 l] w fun e w' => e = .returned (.tuple #[.int .u32 (st ||| 6144 : Nat), .nilIface]) ∧ ∃ o, w' = w.alloc o := by
  have HX : Hid (bits .or .u32 (st : Int) 6144 = ((st ||| 6144 : Nat) : Int)) := u32_or_nat st 6144 h0 (by decide)
  go_enter Tryd.func52, Tryd.ntmps52
  go_wp2
  go_ret2
  exact ⟨ret_read HX.out, _, rfl⟩

set_option maxHeartbeats 400000 in
theorem read_769 (st en ve sc ep ca va ct : Nat) (h0 : st < 4294967296) (h1 : en < 4294967296) (h2 : ve < 4294967296) (h3 : sc < 4294967296) (h4 : ep < 4294967296) (h5 : ca < 4294967296) (h6 : va < 4294967296) (h7 : ct < 18446744073709551616) (l : Nat) (hl : l < 4294967296) (w : World) :
    Calls Tryd.prog 52 #[.agg #[.int .u32 st, .int .u32 en, .int .u32 ve, .int .u32 sc, .int .u32 ep, .int .u32 ca, .int .u32 va, .int .u64 ct], .int .i64 769, .int .u32 l] w fun e w' => e = .returned (.tuple #[.int .u32 1073746176, .nilIface]) ∧ ∃ o, w' = w.alloc o := by
  go_enter Tryd.func52, Tryd.ntmps52
  go_wp2
  go_ret2
  exact ⟨rfl, _, rfl⟩

set_option maxHeartbeats 400000 in
theorem read_772 (st en ve sc ep ca va ct : Nat) (h0 : st < 4294967296) (h1 : en < 4294967296) (h2 : ve < 4294967296) (h3 : sc < 4294967296) (h4 : ep < 4294967296) (h5 : ca < 4294967296) (h6 : va < 4294967296) (h7 : ct < 18446744073709551616) (l : Nat) (hl : l < 4294967296) (w : World) :
    Calls Tryd.prog 52 #[.agg #[.int .u32 st, .int .u32 en, .int .u32 ve, .int .u32 sc, .int .u32 ep, .int .u32 ca, .int .u32 va, .int .u64 ct], .int .i64 772, .int .u32 l] w fun e w' => e = .returned (.tuple #[.int .u32 (en : Nat), .nilIface]) ∧ ∃ o, w' = w.alloc o := by
  go_enter Tryd.func52, Tryd.ntmps52
  go_wp2
  go_ret2
  exact ⟨rfl, _, rfl⟩

set_option maxHeartbeats 400000 in
theorem read_773 (st en ve sc ep ca va ct : Nat) (h0 : st < 4294967296) (h1 : en < 4294967296) (h2 : ve < 4294967296) (h3 : sc < 4294967296) (h4 : ep < 4294967296) (h5 : ca < 4294967296) (h6 : va < 4294967296) (h7 : ct < 18446744073709551616) (l : Nat) (hl : l < 4294967296) (w : World) :
    Calls Tryd.prog 52 #[.agg #[.int .u32 st, .int .u32 en, .int .u32 ve, .int .u32 sc, .int .u32 ep, .int .u32 ca, .int .u32 va, .int .u64 ct], .int .i64 773, .int .u32 l] w fun e w' => e = .returned (.tuple #[.int .u32 (ve : Nat), .nilIface]) ∧ ∃ o, w' = w.alloc o := by
  go_enter Tryd.func52, Tryd.ntmps52
  go_wp2
  go_ret2
  exact ⟨rfl, _, rfl⟩

set_option maxHeartbeats 400000 in
theorem read_832 (st en ve sc ep ca va ct : Nat) (h0 : st < 4294967296) (h1 : en < 4294967296) (h2 : ve < 4294967296) (h3 : sc < 4294967296) (h4 : ep < 4294967296) (h5 : ca < 4294967296) (h6 : va < 4294967296) (h7 : ct < 18446744073709551616) (l : Nat) (hl : l < 4294967296) (w : World) :
    Calls Tryd.prog 52 #[.agg #[.int .u32 st, .int .u32 en, .int .u32 ve, .int .u32 sc, .int .u32 ep, .int .u32 ca, .int .u32 va, .int .u64 ct], .int .i64 832, .int .u32 l] w fun e w' => e = .returned (.tuple #[.int .u32 (sc : Nat), .nilIface]) ∧ ∃ o, w' = w.alloc o := by
  go_enter Tryd.func52, Tryd.ntmps52
  go_wp2
  go_ret2
  exact ⟨rfl, _, rfl⟩

set_option maxHeartbeats 400000 in
theorem read_833 (st en ve sc ep ca va ct : Nat) (h0 : st < 4294967296) (h1 : en < 4294967296) (h2 : ve < 4294967296) (h3 : sc < 4294967296) (h4 : ep < 4294967296) (h5 : ca < 4294967296) (h6 : va < 4294967296) (h7 : ct < 18446744073709551616) (l : Nat) (hl : l < 4294967296) (w : World) :
    Calls Tryd.prog 52 #[.agg #[.int .u32 st, .int .u32 en, .int .u32 ve, .int .u32 sc, .int .u32 ep, .int .u32 ca, .int .u32 va, .int .u64 ct], .int .i64 833, .int .u32 l] w fun e w' => e = .returned (.tuple #[.int .u32 (ep : Nat), .nilIface]) ∧ ∃ o, w' = w.alloc o := by
  go_enter Tryd.func52, Tryd.ntmps52
  go_wp2
  go_ret2
  exact ⟨rfl, _, rfl⟩

set_option maxHeartbeats 400000 in
theorem read_834 (st en ve sc ep ca va ct : Nat) (h0 : st < 4294967296) (h1 : en < 4294967296) (h2 : ve < 4294967296) (h3 : sc < 4294967296) (h4 : ep < 4294967296) (h5 : ca < 4294967296) (h6 : va < 4294967296) (h7 : ct < 18446744073709551616) (l : Nat) (hl : l < 4294967296) (w : World) :
    Calls Tryd.prog 52 #[.agg #[.int .u32 st, .int .u32 en, .int .u32 ve, .int .u32 sc, .int .u32 ep, .int .u32 ca, .int .u32 va, .int .u64 ct], .int .i64 834, .int .u32 l] w fun e w' => e = .returned (.tuple #[.int .u32 (ca : Nat), .nilIface]) ∧ ∃ o, w' = w.alloc o := by
  go_enter Tryd.func52, Tryd.ntmps52
  go_wp2
  go_ret2
  exact ⟨rfl, _, rfl⟩

set_option maxHeartbeats 400000 in
theorem read_835 (st en ve sc ep ca va ct : Nat) (h0 : st < 4294967296) (h1 : en < 4294967296) (h2 : ve < 4294967296) (h3 : sc < 4294967296) (h4 : ep < 4294967296) (h5 : ca < 4294967296) (h6 : va < 4294967296) (h7 : ct < 18446744073709551616) (l : Nat) (hl : l < 4294967296) (w : World) :
    Calls Tryd.prog 52 #[.agg #[.int .u32 st, .int .u32 en, .int .u32 ve, .int .u32 sc, .int .u32 ep, .int .u32 ca, .int .u32 va, .int .u64 ct], .int .i64 835, .int .u32 l] w fun e w' => e = .returned (.tuple #[.int .u32 (va : Nat), .nilIface]) ∧ ∃ o, w' = w.alloc o := by
  go_enter Tryd.func52, Tryd.ntmps52
  go_wp2
  go_ret2
  exact ⟨rfl, _, rfl⟩

set_option maxHeartbeats 400000 in
theorem read_836 (st en ve sc ep ca va ct : Nat) (h0 : st < 4294967296) (h1 : en < 4294967296) (h2 : ve < 4294967296) (h3 : sc < 4294967296) (h4 : ep < 4294967296) (h5 : ca < 4294967296) (h6 : va < 4294967296) (h7 : ct < 18446744073709551616) (l : Nat) (hl : l < 4294967296) (w : World) :
    Calls Tryd.prog 52 #[.agg #[.int .u32 st, .int .u32 en, .int .u32 ve, .int .u32 sc, .int .u32 ep, .int .u32 ca, .int .u32 va, .int .u64 ct], .int .i64 836, .int .u32 l] w fun e w' => e = .returned (.tuple #[.int .u32 (l &&& 2184 : Nat), .nilIface]) ∧ ∃ o, w' = w.alloc o := by
  have HX : Hid (bits .and .u32 (l : Int) 2184 = ((l &&& 2184 : Nat) : Int)) := u32_and_nat l 2184 hl (by decide)
  go_enter Tryd.func52, Tryd.ntmps52
  go_wp2
  go_ret2
  exact ⟨ret_read HX.out, _, rfl⟩

set_option maxHeartbeats 400000 in
theorem read_2816 (st en ve sc ep ca va ct : Nat) (h0 : st < 4294967296) (h1 : en < 4294967296) (h2 : ve < 4294967296) (h3 : sc < 4294967296) (h4 : ep < 4294967296) (h5 : ca < 4294967296) (h6 : va < 4294967296) (h7 : ct < 18446744073709551616) (l : Nat) (hl : l < 4294967296) (w : World) :
    Calls Tryd.prog 52 #[.agg #[.int .u32 st, .int .u32 en, .int .u32 ve, .int .u32 sc, .int .u32 ep, .int .u32 ca, .int .u32 va, .int .u64 ct], .int .i64 2816, .int .u32 l] w fun e w' => e = .returned (.tuple #[.int .u32 (ct % 4294967296 : Nat), .nilIface]) ∧ ∃ o, w' = w.alloc o := by
  go_enter Tryd.func52, Tryd.ntmps52
  go_wp2
  go_ret2
  exact ⟨rfl, _, rfl⟩

set_option maxHeartbeats 400000 in
theorem read_2818 (st en ve sc ep ca va ct : Nat) (h0 : st < 4294967296) (h1 : en < 4294967296) (h2 : ve < 4294967296) (h3 : sc < 4294967296) (h4 : ep < 4294967296) (h5 : ca < 4294967296) (h6 : va < 4294967296) (h7 : ct < 18446744073709551616) (l : Nat) (hl : l < 4294967296) (w : World) :
    Calls Tryd.prog 52 #[.agg #[.int .u32 st, .int .u32 en, .int .u32 ve, .int .u32 sc, .int .u32 ep, .int .u32 ca, .int .u32 va, .int .u64 ct], .int .i64 2818, .int .u32 l] w fun e w' => e = .returned (.tuple #[.int .u32 (ct % 4294967296 : Nat), .nilIface]) ∧ ∃ o, w' = w.alloc o := by
  go_enter Tryd.func52, Tryd.ntmps52
  go_wp2
  go_ret2
  exact ⟨rfl, _, rfl⟩

set_option maxHeartbeats 400000 in
theorem read_2944 (st en ve sc ep ca va ct : Nat) (h0 : st < 4294967296) (h1 : en < 4294967296) (h2 : ve < 4294967296) (h3 : sc < 4294967296) (h4 : ep < 4294967296) (h5 : ca < 4294967296) (h6 : va < 4294967296) (h7 : ct < 18446744073709551616) (l : Nat) (hl : l < 4294967296) (w : World) :
    Calls Tryd.prog 52 #[.agg #[.int .u32 st, .int .u32 en, .int .u32 ve, .int .u32 sc, .int .u32 ep, .int .u32 ca, .int .u32 va, .int .u64 ct], .int .i64 2944, .int .u32 l] w fun e w' => e = .returned (.tuple #[.int .u32 (ct / 4294967296 : Nat), .nilIface]) ∧ ∃ o, w' = w.alloc o := by
  go_enter Tryd.func52, Tryd.ntmps52
  go_wp2
  go_ret2
  exact ⟨rfl, _, rfl⟩

set_option maxHeartbeats 400000 in
theorem read_2946 (st en ve sc ep ca va ct : Nat) (h0 : st < 4294967296) (h1 : en < 4294967296) (h2 : ve < 4294967296) (h3 : sc < 4294967296) (h4 : ep < 4294967296) (h5 : ca < 4294967296) (h6 : va < 4294967296) (h7 : ct < 18446744073709551616) (l : Nat) (hl : l < 4294967296) (w : World) :
    Calls Tryd.prog 52 #[.agg #[.int .u32 st, .int .u32 en, .int .u32 ve, .int .u32 sc, .int .u32 ep, .int .u32 ca, .int .u32 va, .int .u64 ct], .int .i64 2946, .int .u32 l] w fun e w' => e = .returned (.tuple #[.int .u32 (ct / 4294967296 : Nat), .nilIface]) ∧ ∃ o, w' = w.alloc o := by
  go_enter Tryd.func52, Tryd.ntmps52
  go_wp2
  go_ret2
  exact ⟨rfl, _, rfl⟩

set_option maxHeartbeats 400000 in
theorem read_3857 (st en ve sc ep ca va ct : Nat) (h0 : st < 4294967296) (h1 : en < 4294967296) (h2 : ve < 4294967296) (h3 : sc < 4294967296) (h4 : ep < 4294967296) (h5 : ca < 4294967296) (h6 : va < 4294967296) (h7 : ct < 18446744073709551616) (l : Nat) (hl : l < 4294967296) (w : World) :
    Calls Tryd.prog 52 #[.agg #[.int .u32 st, .int .u32 en, .int .u32 ve, .int .u32 sc, .int .u32 ep, .int .u32 ca, .int .u32 va, .int .u64 ct], .int .i64 3857, .int .u32 l] w fun e w' => e = .returned (.tuple #[.int .u32 0, .nilIface]) ∧ ∃ o, w' = w.alloc o := by
  go_enter Tryd.func52, Tryd.ntmps52
  go_wp2
  go_ret2
  exact ⟨rfl, _, rfl⟩

set_option maxHeartbeats 400000 in
theorem read_3858 (st en ve sc ep ca va ct : Nat) (h0 : st < 4294967296) (h1 : en < 4294967296) (h2 : ve < 4294967296) (h3 : sc < 4294967296) (h4 : ep < 4294967296) (h5 : ca < 4294967296) (h6 : va < 4294967296) (h7 : ct < 18446744073709551616) (l : Nat) (hl : l < 4294967296) (w : World) :
    Calls Tryd.prog 52 #[.agg #[.int .u32 st, .int .u32 en, .int .u32 ve, .int .u32 sc, .int .u32 ep, .int .u32 ca, .int .u32 va, .int .u64 ct], .int .i64 3858, .int .u32 l] w fun e w' => e = .returned (.tuple #[.int .u32 0, .nilIface]) ∧ ∃ o, w' = w.alloc o := by
  go_enter Tryd.func52, Tryd.ntmps52
  go_wp2
  go_ret2
  exact ⟨rfl, _, rfl⟩

set_option maxHeartbeats 400000 in
theorem read_3859 (st en ve sc ep ca va ct : Nat) (h0 : st < 4294967296) (h1 : en < 4294967296) (h2 : ve < 4294967296) (h3 : sc < 4294967296) (h4 : ep < 4294967296) (h5 : ca < 4294967296) (h6 : va < 4294967296) (h7 : ct < 18446744073709551616) (l : Nat) (hl : l < 4294967296) (w : World) :
    Calls Tryd.prog 52 #[.agg #[.int .u32 st, .int .u32 en, .int .u32 ve, .int .u32 sc, .int .u32 ep, .int .u32 ca, .int .u32 va, .int .u64 ct], .int .i64 3859, .int .u32 l] w fun e w' => e = .returned (.tuple #[.int .u32 0, .nilIface]) ∧ ∃ o, w' = w.alloc o := by
  go_enter Tryd.func52, Tryd.ntmps52
  go_wp2
  go_ret2
  exact ⟨rfl, _, rfl⟩

set_option maxHeartbeats 400000 in
theorem read_3860 (st en ve sc ep ca va ct : Nat) (h0 : st < 4294967296) (h1 : en < 4294967296) (h2 : ve < 4294967296) (h3 : sc < 4294967296) (h4 : ep < 4294967296) (h5 : ca < 4294967296) (h6 : va < 4294967296) (h7 : ct < 18446744073709551616) (l : Nat) (hl : l < 4294967296) (w : World) :
    Calls Tryd.prog 52 #[.agg #[.int .u32 st, .int .u32 en, .int .u32 ve, .int .u32 sc, .int .u32 ep, .int .u32 ca, .int .u32 va, .int .u64 ct], .int .i64 3860, .int .u32 l] w fun e w' => e = .returned (.tuple #[.int .u32 0, .nilIface]) ∧ ∃ o, w' = w.alloc o := by
  go_enter Tryd.func52, Tryd.ntmps52
  go_wp2
  go_ret2
  exact ⟨rfl, _, rfl⟩

set_option maxHeartbeats 400000 in
theorem cs_read_none (st en ve sc ep ca va ct : Nat) (a : Int) (c768 : ¬ a = 768) (c769 : ¬ a = 769) (c772 : ¬ a = 772) (c773 : ¬ a = 773) (c832 : ¬ a = 832) (c833 : ¬ a = 833) (c834 : ¬ a = 834) (c835 : ¬ a = 835) (c836 : ¬ a = 836) (c2816 : ¬ a = 2816) (c2818 : ¬ a = 2818) (c2944 : ¬ a = 2944) (c2946 : ¬ a = 2946) (c3857 : ¬ a = 3857) (c3858 : ¬ a = 3858) (c3859 : ¬ a = 3859) (c3860 : ¬ a = 3860) (l : Nat) (w : World) :
    Calls Tryd.prog 52 #[.agg #[.int .u32 st, .int .u32 en, .int .u32 ve, .int .u32 sc, .int .u32 ep, .int .u32 ca, .int .u32 va, .int .u64 ct], .int .i64 a, .int .u32 l] w fun e w' => e = .returned (.tuple #[.int .u32 0, .iface 89 (.int .i64 8)]) ∧ ∃ o, w' = w.alloc o := by
  go_enter Tryd.func52, Tryd.ntmps52
  go_wp2
  go_ret2
  exact ⟨rfl, _, rfl⟩

theorem cs_read_any (s : S8) (hs : s.Ok) (a : Int) (l : Nat) (hl : l < 4294967296) (w : World) :
    Calls Tryd.prog 52 #[.agg s.cells, .int .i64 a, .int .u32 l] w fun e w' => e = .returned (readV (readN s a l)) ∧ ∃ o, w' = w.alloc o := by
  obtain ⟨st, en, ve, sc, ep, ca, va, ct⟩ := s
  obtain ⟨h0, h1, h2, h3, h4, h5, h6, h7⟩ := hs
  by_cases c768 : a = 768
  · subst c768; exact read_768 st en ve sc ep ca va ct h0 h1 h2 h3 h4 h5 h6 h7 l hl w
  by_cases c769 : a = 769
  · subst c769; exact read_769 st en ve sc ep ca va ct h0 h1 h2 h3 h4 h5 h6 h7 l hl w
  by_cases c772 : a = 772
  · subst c772; exact read_772 st en ve sc ep ca va ct h0 h1 h2 h3 h4 h5 h6 h7 l hl w
  by_cases c773 : a = 773
  · subst c773; exact read_773 st en ve sc ep ca va ct h0 h1 h2 h3 h4 h5 h6 h7 l hl w
  by_cases c832 : a = 832
  · subst c832; exact read_832 st en ve sc ep ca va ct h0 h1 h2 h3 h4 h5 h6 h7 l hl w
  by_cases c833 : a = 833
  · subst c833; exact read_833 st en ve sc ep ca va ct h0 h1 h2 h3 h4 h5 h6 h7 l hl w
  by_cases c834 : a = 834
  · subst c834; exact read_834 st en ve sc ep ca va ct h0 h1 h2 h3 h4 h5 h6 h7 l hl w
  by_cases c835 : a = 835
  · subst c835; exact read_835 st en ve sc ep ca va ct h0 h1 h2 h3 h4 h5 h6 h7 l hl w
  by_cases c836 : a = 836
  · subst c836; exact read_836 st en ve sc ep ca va ct h0 h1 h2 h3 h4 h5 h6 h7 l hl w
  by_cases c2816 : a = 2816
  · subst c2816; exact read_2816 st en ve sc ep ca va ct h0 h1 h2 h3 h4 h5 h6 h7 l hl w
  by_cases c2818 : a = 2818
  · subst c2818; exact read_2818 st en ve sc ep ca va ct h0 h1 h2 h3 h4 h5 h6 h7 l hl w
  by_cases c2944 : a = 2944
  · subst c2944; exact read_2944 st en ve sc ep ca va ct h0 h1 h2 h3 h4 h5 h6 h7 l hl w
  by_cases c2946 : a = 2946
  · subst c2946; exact read_2946 st en ve sc ep ca va ct h0 h1 h2 h3 h4 h5 h6 h7 l hl w
  by_cases c3857 : a = 3857
  · subst c3857; exact read_3857 st en ve sc ep ca va ct h0 h1 h2 h3 h4 h5 h6 h7 l hl w
  by_cases c3858 : a = 3858
  · subst c3858; exact read_3858 st en ve sc ep ca va ct h0 h1 h2 h3 h4 h5 h6 h7 l hl w
  by_cases c3859 : a = 3859
  · subst c3859; exact read_3859 st en ve sc ep ca va ct h0 h1 h2 h3 h4 h5 h6 h7 l hl w
  by_cases c3860 : a = 3860
  · subst c3860; exact read_3860 st en ve sc ep ca va ct h0 h1 h2 h3 h4 h5 h6 h7 l hl w
  have hn : readN ⟨st, en, ve, sc, ep, ca, va, ct⟩ a l = none := by
    unfold readN
    rw [if_neg c768, if_neg c769, if_neg c772, if_neg c773, if_neg c832, if_neg c833, if_neg c834, if_neg c835, if_neg c836, if_neg (by omega), if_neg (by omega), if_neg (by omega)]
  rw [hn]
  exact cs_read_none st en ve sc ep ca va ct a c768 c769 c772 c773 c832 c833 c834 c835 c836 c2816 c2818 c2944 c2946 c3857 c3858 c3859 c3860 l w
end Go.Proofs.YtchjhpeogdkbmaaDoor
