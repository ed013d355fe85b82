/-
  Queues of writes that wait: the law's same, of two queues with the same posts.
-/
import Derived.Test.YtcjfjkkkepjpmaaDoorBuRPop
import Derived.BigQuiet
namespace Go.Proofs.YtcjfjkkkepjpmaaDoor
open Go.RowKit
set_option linter.unusedVariables false

set_option maxHeartbeats 1000000 in
theorem same_eq (a c : Option Addr) (l : List Pst) (hl : l.length ≤ 9223372036854775807) (ca cb : Nat) (hca : l.length ≤ ca) (hcb : l.length ≤ cb) (w : World) (hq : QAt w a l) (hr : RQAt w c l) :
    Calls Tryd.prog 19 #[.agg #[.slice a l.length ca], .agg #[.slice c l.length cb]] w fun e w' => e = .returned (.bool true) ∧ Below w.heap.size w w' := by
  have HQ := hide hq
  have HR := hide hr
  obtain ⟨N, hN⟩ : ∃ N, l.length = N := ⟨_, rfl⟩
  rw [hN] at hl hca hcb ⊢
  have HN := hide hN
  clear hq hr hN
  go_enter Tryd.func19, Tryd.ntmps19
  go_wp2
  obtain ⟨W0, hW0⟩ : ∃ W0, (w.alloc (.cells #[.slice a N ca] 42)).alloc (.cells #[.slice c N cb] 37) = W0 := ⟨_, rfl⟩
  have R0 := hide (hW0 ▸ (RowAt.new w w.heap.size #[.slice a N ca] 42 rfl).al _)
  have R1 := hide (hW0 ▸ RowAt.new (w.alloc (.cells #[.slice a N ca] 42)) (w.heap.size + 1) #[.slice c N cb] 37 (by simp))
  have B0 : Hid (Below w.heap.size w W0) := hide (hW0 ▸ (below_one w _).alloc (below_one w _).size _)
  rw [hW0]
  clear hW0
  go_loopw [5] (fun kv wr => ∃ k : Nat, k ≤ N ∧ kv = .int .i64 (k : Nat) ∧ Below W0.heap.size W0 wr) (fun kv _ => N - (intOf kv).toNat)
  case atStart => exact ⟨0, Nat.zero_le _, rfl, Below.refl _ _⟩
  case round =>
    obtain ⟨k, hk, rfl, hB⟩ := hrel
    have HB := hide hB
    have d0 : wr.cell? ⟨w.heap.size, 0, none⟩ = some (.slice a N ca) := (R0.out.bl HB.out).cell 0
    have d1 : wr.cell? ⟨w.heap.size + 1, 0, none⟩ = some (.slice c N cb) := (R1.out.bl HB.out).cell 0
    clear hB
    by_cases hlt : k < N
    · obtain ⟨p, hp⟩ : ∃ p, l[k]? = some p := ⟨_, List.getElem?_eq_getElem (by rw [HN.out]; exact hlt)⟩
      rcases HQ.out.lies with e | ⟨g, rfl, hps⟩
      · rw [e] at hp; simp at hp
      rcases HR.out.lies with e | ⟨b, off, rfl, hpr⟩
      · rw [e] at hp; simp at hp
      obtain ⟨o0, o1, o2, o3⟩ := ((hps.bl B0.out).bl HB.out) k p hp
      obtain ⟨i0, i1, i2, i3⟩ := ((hpr.bl B0.out).bl HB.out) k p hp
      clear hp hps hpr
      obtain ⟨dev, pa, n, v⟩ := p
      simp only at o0 o1 o2 o3 i0 i1 i2 i3
      go_wp2
      go_quiet (fail)
      go_wp2
      go_roundw
      case rel => exact ⟨k + 1, by omega, by go_num, below_dn HB.out _⟩
      case measure => simp [intOf]; omega
    · obtain rfl : k = N := by omega
      go_wp2
      go_ret
      exact ⟨rfl, below_bl rfl B0.out HB.out⟩
end Go.Proofs.YtcjfjkkkepjpmaaDoor
