/-
  What the document's but answers.
-/
import Derived.Test.YtelakpogochifaaDoorRCsBase
namespace Go.Proofs.YtelakpogochifaaDoor
open Go.RowKit
set_option linter.unusedVariables false

set_option maxHeartbeats 1000000 in
set_option maxRecDepth 100000 in
theorem rbut_any (v : Nat) (hv : v < 4294967296) (l : List Nat) (hn : l.length < 100) (b : Nat) (w : World) (hc : IntsAt w b l) :
    Calls Tryd.prog 79 #[.int .u32 v, .slice (some ⟨b, 0, none⟩) l.length l.length] w fun e w' => e = .returned (.int .u32 (butL v l : Nat)) ∧ Below w.heap.size w w' := by
  have HS := hide rset_zero
  have HC := hide hc
  clear hc
  go_enter Tryd.func79, Tryd.ntmps79
  go_wp2
  go_loopw [0, 5] (fun o i wr => ∃ k : Nat, k ≤ l.length ∧ i = .int .i64 k ∧ o = .int .u32 (butL v (l.take k) : Nat) ∧ Below w.heap.size w wr) (fun _ i _ => l.length - (intOf i).toNat)
  case atStart => exact ⟨0, by omega, rfl, rfl, Below.refl _ _⟩
  case round =>
    obtain ⟨k, hk, rfl, rfl, hB⟩ := hrel
    by_cases hlt : k < l.length
    · have hcell := (HC.out.below HC.out.1 hB).2 k hlt
      have hol := butL_lt v hv l k
      have HT := hide (butL_take v l k hlt)
      obtain ⟨x, hxe⟩ : ∃ x, l[k] = x := ⟨_, rfl⟩
      rw [hxe] at hcell HT
      clear hxe
      generalize butL v (l.take k) = o at *
      go_wp2_with (first | (go_at_call 90; refine (HS.out _ (by assumption) _ _).mono ?_; rintro e w' ⟨rfl, hb2⟩))
      go_roundw
      case rel => exact ⟨k + 1, by omega, by go_num, by rw [HT.out], hB.trans (hb2.mono hB.size)⟩
      case measure => simp [intOf]; omega
    · obtain rfl : k = l.length := by omega
      rw [List.take_length]
      go_wp2
      go_ret
      exact ⟨rfl, hB⟩
end Go.Proofs.YtelakpogochifaaDoor
