/-
  What csr.Check answers.
-/
import Derived.Test.YtelakpogochifaaDoorHCsProg
namespace Go.Proofs.YtelakpogochifaaDoor
open Go.RowKit
set_option linter.unusedVariables false

def checkV (b : Bool) : Value := if b then .nilIface else .iface 89 (.int .i64 1)

set_option maxHeartbeats 1000000 in
theorem cs_check_any (s : S8) (hs : s.Ok) (w : World) :
    Calls Tryd.prog 42 #[.agg s.cells] w fun e w' => e = .returned (checkV (mayB s)) ∧ ∃ o, w' = w.alloc o := by
  obtain ⟨st, en, ve, sc, ep, ca, va, ct⟩ := s
  obtain ⟨h0, h1, h2, h3, h4, h5, h6, h7⟩ := hs
  dsimp only at h0 h1 h2 h4
  have t0 := but_ne st 136 h0 (by decide)
  have t1 := but_ne en 2184 h1 (by decide)
  have t2 := mask_ne ve 2 h2 (by decide)
  have t3 := mask_ne ep 3 h4 (by decide)
  rw [show ((136 : Nat) : Int) = 136 from rfl, show (4294967295 - 136 : Nat) = 4294967159 from rfl] at t0
  rw [show ((2184 : Nat) : Int) = 2184 from rfl, show (4294967295 - 2184 : Nat) = 4294965111 from rfl] at t1
  rw [show ((2 : Nat) : Int) = 2 from rfl] at t2
  rw [show ((3 : Nat) : Int) = 3 from rfl] at t3
  have hm : mayB ⟨st, en, ve, sc, ep, ca, va, ct⟩ = (!(st &&& 4294967159 != 0) && (!(en &&& 4294965111 != 0) && (!(ve &&& 2 != 0) && !(ep &&& 3 != 0)))) := by
    unfold mayB; simp only [bne, Bool.not_not]
  rw [hm]; clear hm
  show Calls Tryd.prog 42 #[.agg #[.int .u32 st, .int .u32 en, .int .u32 ve, .int .u32 sc, .int .u32 ep, .int .u32 ca, .int .u32 va, .int .u64 ct]] w _
  generalize (st &&& 4294967159 != 0) = b0 at *
  generalize (en &&& 4294965111 != 0) = b1 at *
  generalize (ve &&& 2 != 0) = b2 at *
  generalize (ep &&& 3 != 0) = b3 at *
  cases b0
  · cases b1
    · cases b2
      · cases b3
        · go_enter Tryd.func42, Tryd.ntmps42
          go_wp2
          go_ret
          exact ⟨rfl, _, rfl⟩
        · go_enter Tryd.func42, Tryd.ntmps42
          go_wp2
          go_ret
          exact ⟨rfl, _, rfl⟩
      · go_enter Tryd.func42, Tryd.ntmps42
        go_wp2
        go_ret
        exact ⟨rfl, _, rfl⟩
    · go_enter Tryd.func42, Tryd.ntmps42
      go_wp2
      go_ret
      exact ⟨rfl, _, rfl⟩
  · go_enter Tryd.func42, Tryd.ntmps42
    go_wp2
    go_ret
    exact ⟨rfl, _, rfl⟩
end Go.Proofs.YtelakpogochifaaDoor
