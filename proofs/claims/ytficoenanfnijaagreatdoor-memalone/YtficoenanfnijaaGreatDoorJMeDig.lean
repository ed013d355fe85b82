/-
  mem's Digest: it answers some word, and looks alone.
-/
import Derived.Test.YtficoenanfnijaaGreatDoorJMePage
namespace Go.Proofs.YtficoenanfnijaaGreatDoor
open Go.RowKit
set_option linter.unusedVariables false
attribute [local go_sem ↓] Go.wp_at_zero Go.wp_at_succ

set_option maxRecDepth 100000 in
set_option maxHeartbeats 1000000 in
theorem digest_any {w : World} {B b P D : Nat} {m : Mem} (h : RamAt w B b P D m) (hB : B ≤ w.heap.size) (p : Nat) (hp : p < m.n) :
    Calls Tryz.prog 28 #[.pointer (some ⟨b, 0, none⟩), .int .i64 p] w fun e w' => (∃ x : Int, e = .returned (.tuple #[.int .u32 x, .nilIface])) ∧ (∃ m', Looked m m' ∧ RamAt w' B b P D m') ∧ Kept B w w' (m.owns b P D) := by
  have HCk := hide (page_ok b P m.n p hp h.few w h.pagesAt)
  have HLk := hide (look_any h hB hp)
  clear h
  go_enter Tryz.func28, Tryz.ntmps28
  go_wp2_with (first | (go_at_call 39; refine HCk.out.mono ?_; rintro e w1 ⟨rfl, rfl⟩) | (go_at_call 38; refine HLk.out.mono ?_; rintro e w3 ⟨g, m2, rfl, hx1, hx2, hx3, hx4, hx5, hx6⟩; have HL3 := hide hx1; have HM3 := hide hx2; have HG3 := hide hx3; have HK3 := hide hx4; clear hx1 hx2 hx3 hx4 hx5 hx6))
  go_loop [7, 20] (fun sv iv => ∃ (i : Nat) (x : Int), i ≤ 4096 ∧ iv = .int .i64 (i : Nat) ∧ sv = .int .u32 x) (fun _ iv => 4096 - (intOf iv).toNat)
  case atStart => exact ⟨0, _, by omega, rfl, rfl⟩
  case round =>
    obtain ⟨i, x, hi, rfl, rfl⟩ := hrel
    by_cases hlt : i < 4096
    · have c := HG3.out.cell hlt
      go_wp2
      go_round
      case rel => exact ⟨i + 1, _, by omega, by go_num, rfl⟩
      case measure => simp [intOf]; omega
    · obtain rfl : i = 4096 := by omega
      go_wp2
      go_ret2
      exact ⟨⟨_, rfl⟩, ⟨m2, HL3.out, HM3.out⟩, HK3.out⟩
end Go.Proofs.YtficoenanfnijaaGreatDoor
