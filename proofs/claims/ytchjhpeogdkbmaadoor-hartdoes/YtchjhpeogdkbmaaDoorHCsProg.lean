/-
  What csr.given and Trap answer.
-/
import Derived.Test.YtchjhpeogdkbmaaDoorRes
import Derived.Test.YtchjhpeogdkbmaaDoorRow
import Derived.Test.YtchjhpeogdkbmaaDoorCsMath
import Derived.Laws.BitsAllLaws
import Derived.Below
import Derived.RegionTactic
import Derived.Laws.ResultCell
namespace Go.Proofs.YtchjhpeogdkbmaaDoor
open Go.RowKit
set_option linter.unusedVariables false

/-- A state as the program's cells. -/
def S8.cells (s : S8) : Array Value := #[.int .u32 s.st, .int .u32 s.en, .int .u32 s.ve, .int .u32 s.sc, .int .u32 s.ep, .int .u32 s.ca, .int .u32 s.va, .int .u64 s.ct]

set_option maxHeartbeats 400000 in
theorem given_any (v b : Nat) (hv : v < 4294967296) (hb : b < 4294967296) (set : Bool) (w : World) :
    Calls Tryd.prog 84 #[.int .u32 v, .int .u32 b, .bool set] w fun e w' => e = .returned (.int .u32 (givenN v b set : Nat)) ∧ w' = w := by
  cases set with
  | true =>
    have HX : Hid (bits .or .u32 (v : Int) (b : Int) = ((givenN v b true : Nat) : Int)) := u32_or_nat v b hv hb
    go_enter Tryd.func84, Tryd.ntmps84
    go_wp2
    go_ret
    exact ⟨ret_int HX.out, rfl⟩
  | false =>
    have HX : Hid (bits .andNot .u32 (v : Int) (b : Int) = ((givenN v b false : Nat) : Int)) := u32_andNot_nat v b hv hb
    go_enter Tryd.func84, Tryd.ntmps84
    go_wp2
    go_ret
    exact ⟨ret_int HX.out, rfl⟩

/-- A test of a word under a mask. -/
theorem mask_ne (v m : Nat) (hv : v < 4294967296) (hm : m < 4294967296) : (bits .and .u32 (v : Int) (m : Int) != 0) = (v &&& m != 0) := by
  rw [u32_and_nat v m hv hm, Bool.eq_iff_iff]; simp
theorem mask_eq (v m : Nat) (hv : v < 4294967296) (hm : m < 4294967296) : (bits .and .u32 (v : Int) (m : Int) == 0) = (v &&& m == 0) := by
  rw [u32_and_nat v m hv hm, Bool.eq_iff_iff]; simp
theorem but_ne (v m : Nat) (hv : v < 4294967296) (hm : m < 4294967296) : (bits .andNot .u32 (v : Int) (m : Int) != 0) = (v &&& (4294967295 - m) != 0) := by
  rw [u32_andNot_nat v m hv hm, Bool.eq_iff_iff]; simp

theorem two_new (w : World) (a : Obj) (cs : Array Value) (t : TypeId) : ((w.alloc a).alloc (.cells cs t)).heap[w.heap.size + 1]? = some (.cells cs t (0, 0)) := by
  have h := heap_alloc_new (w.alloc a) (.cells cs t)
  have e : (w.alloc a).heap.size = w.heap.size + 1 := by simp
  rw [e] at h
  exact h
theorem size_state : (Tryd.prog.info? 29).map (·.size) = some 8 := by kernel_rfl
theorem ret_two {cs ds : Array Value} {a b : Int} (h : cs = ds) (h' : a = b) : Ending.returned (.tuple #[.agg cs, .int .u32 a]) = .returned (.tuple #[.agg ds, .int .u32 b]) := by rw [h, h']

/-- Trap: the status behind it, as the program reckons it. -/
theorem trap_arith (st : Nat) (h : st < 4294967296) : bits .andNot .u32 ((givenN st 128 (st &&& 8 != 0) : Nat) : Int) 8 = ((trapSt st : Nat) : Int) :=
  u32_andNot_nat _ 8 (givenN_lt h (by decide) _) (by decide)

set_option maxHeartbeats 1000000 in
theorem cs_trap_any (s : S8) (hs : s.Ok) (cause value pc : Nat) (hc : cause < 4294967296) (hp : pc < 4294967296) (w : World) :
    Calls Tryd.prog 50 #[.agg s.cells, .int .u32 cause, .int .u32 value, .int .u32 pc] w fun e w' => e = .returned (.tuple #[.agg (trapN s cause value pc).cells, .int .u32 (trapTo s.ve cause : Nat)]) ∧ ∃ o o', w' = (w.alloc o).alloc o' := by
  obtain ⟨st, en, ve, sc, ep, ca, va, ct⟩ := s
  obtain ⟨h0, h1, h2, h3, h4, h5, h6, h7⟩ := hs
  dsimp only at h0 h2
  have t0 := mask_ne st 8 h0 (by decide)
  rw [show ((8 : Nat) : Int) = 8 from rfl] at t0
  have t1 := mask_ne ve 1 h2 (by decide)
  rw [show ((1 : Nat) : Int) = 1 from rfl] at t1
  have t2 := mask_ne cause 2147483648 hc (by decide)
  rw [show ((2147483648 : Nat) : Int) = 2147483648 from rfl] at t2
  have HG := hide (given_any st 128 h0 (by decide))
  rw [show ((128 : Nat) : Int) = 128 from rfl] at HG
  have HX := hide (trap_arith st h0)
  have HE : Hid (bits .andNot .u32 (pc : Int) 3 = ((pc &&& 4294967292 : Nat) : Int)) := u32_andNot_nat pc 3 hp (by decide)
  have HV : Hid (bits .andNot .u32 (ve : Int) 3 = ((ve &&& 4294967292 : Nat) : Int)) := u32_andNot_nat ve 3 h2 (by decide)
  have HT : Hid (trapTo ve cause = if (ve &&& 1 != 0) = true ∧ (cause &&& 2147483648 != 0) = true then ((ve &&& 4294967292) + 4 * cause) % 4294967296 else ve &&& 4294967292) := hide rfl
  show Calls Tryd.prog 50 #[.agg #[.int .u32 st, .int .u32 en, .int .u32 ve, .int .u32 sc, .int .u32 ep, .int .u32 ca, .int .u32 va, .int .u64 ct], .int .u32 cause, .int .u32 value, .int .u32 pc] w _
  generalize (st &&& 8 != 0) = b0 at *
  generalize (ve &&& 1 != 0) = b1 at *
  generalize (cause &&& 2147483648 != 0) = b2 at *
  cases b1
  · have HT2 : Hid (trapTo ve cause = ve &&& 4294967292) := by show _ = _; rw [HT.out, if_neg (by simp)]
    clear HT
    go_enter Tryd.func50, Tryd.ntmps50
    go_wp2_with (first | (go_at_call 84; refine (HG.out _ _).mono ?_; rintro e w' ⟨rfl, rfl⟩))
    refine bodyPost_ret (results_cell_tmp_row Tryd.results50 _ _ (w.heap.size + 1) _ _ _ _ rfl (two_new w _ _ _) Tryd.underlying29 rfl size_state) rfl ?_
    exact ⟨ret_two (by rw [HX.out, HE.out]; rfl) (by rw [HT2.out]; exact HV.out), _, _, rfl⟩
  cases b2
  · have HT2 : Hid (trapTo ve cause = ve &&& 4294967292) := by show _ = _; rw [HT.out, if_neg (by simp)]
    clear HT
    go_enter Tryd.func50, Tryd.ntmps50
    go_wp2_with (first | (go_at_call 84; refine (HG.out _ _).mono ?_; rintro e w' ⟨rfl, rfl⟩))
    refine bodyPost_ret (results_cell_tmp_row Tryd.results50 _ _ (w.heap.size + 1) _ _ _ _ rfl (two_new w _ _ _) Tryd.underlying29 rfl size_state) rfl ?_
    exact ⟨ret_two (by rw [HX.out, HE.out]; rfl) (by rw [HT2.out]; exact HV.out), _, _, rfl⟩
  · have HT2 : Hid ((bits .andNot .u32 (ve : Int) 3 + 4 * (cause : Int) % 4294967296) % 4294967296 = ((trapTo ve cause : Nat) : Int)) := by
      show _ = _
      rw [HT.out, if_pos (by simp), HV.out]
      omega
    clear HT
    go_enter Tryd.func50, Tryd.ntmps50
    go_wp2_with (first | (go_at_call 84; refine (HG.out _ _).mono ?_; rintro e w' ⟨rfl, rfl⟩))
    refine bodyPost_ret (results_cell_tmp_row Tryd.results50 _ _ (w.heap.size + 1) _ _ _ _ rfl (two_new w _ _ _) Tryd.underlying29 rfl size_state) rfl ?_
    exact ⟨ret_two (by rw [HX.out, HE.out]; rfl) HT2.out, _, _, rfl⟩

end Go.Proofs.YtchjhpeogdkbmaaDoor
