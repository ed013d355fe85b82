/-
  The laws' sure of stage 7; BusFinds, BusBases, walked.
-/
import Derived.Test.YtcjfjkkkepjpmaaDoorBuRef
import Derived.Test.YtcjfjkkkepjpmaaDoorBuLaid
namespace Go.Proofs.YtcjfjkkkepjpmaaDoor
open Go.RowKit
set_option linter.unusedVariables false

set_option maxHeartbeats 400000 in
theorem sure_any (w : World) (hA : AreasAt w) (hH : HandleAt w) : Calls Tryd.prog 11 #[] w fun e w' => e = .returned (.bool true) ∧ Below w.heap.size w w' := by
  have H1 : Hid (∀ w, AreasAt w → Calls Tryd.prog 8 #[.int .u32 4096, .int .u32 268435461, .int .i64 1] w fun e w' => e = .returned (.tuple #[.int .i64 3, .int .u32 5, .nilIface]) ∧ Below w.heap.size w w') :=
    hide (fun w h => find_any 4096 268435461 1 (by decide) (by decide) w h)
  have H2 : Hid (∀ w, AreasAt w → Calls Tryd.prog 8 #[.int .u32 4096, .int .u32 268435460, .int .i64 4] w fun e w' => e = .returned (.tuple #[.int .i64 0, .int .u32 0, errB 21]) ∧ Below w.heap.size w w') :=
    hide (fun w h => find_any 4096 268435460 4 (by decide) (by decide) w h)
  have HA := hide hA
  have HH := hide hH
  have HN := hide (num_all 21)
  generalize errB 21 = eb at *
  clear hA hH
  go_enter Tryd.func11, Tryd.ntmps11
  go_wp2_with (fail)
  refine (H1.out _ HA.out).mono ?_
  rintro e w1 ⟨rfl, hb1⟩
  have A1 := hide (HA.out.bl hb1)
  have B1 := hide hb1
  clear hb1
  go_wp2_with (fail)
  refine (H2.out _ A1.out).mono ?_
  rintro e w2 ⟨rfl, hb2⟩
  have B2 := hide (below_bl rfl B1.out hb2)
  clear hb2
  go_wp2_with (go_at_call 10; refine (HN.out _ (HH.out.below B2.out)).mono ?_; rintro e w3 ⟨rfl, hb3⟩; have B3 := hide (below_bl rfl B2.out hb3); clear hb3)
  go_ret
  exact ⟨rfl, B3.out⟩

set_option maxHeartbeats 400000 in
theorem finds_walk (s a : Nat) (n : Int) (hs : s < 4294967296) (ha : a < 4294967296) (w : World) (hA : AreasAt w) (hH : HandleAt w) :
    Calls Tryd.prog 3 #[.int .u32 s, .int .u32 a, .int .i64 n] w fun e w' => e = .returned (.bool true) ∧ Below w.heap.size w w' := by
  have HF := hide (find_any s a n hs ha w hA)
  have HR := hide (rfind_any s a n hs ha)
  have HA := hide hA
  have HH := hide hH
  generalize findV s a n = q at *
  obtain ⟨d, x, k⟩ := q
  unfold fndV at HF
  unfold rfndV at HR
  have HN := hide (num_all k)
  generalize errB k = eb at *
  clear hA hH
  go_enter Tryd.func3, Tryd.ntmps3
  go_wp2_with (first | (go_at_call 8; refine HF.out.mono ?_; rintro e w1 ⟨rfl, hb1⟩; have B1 := hide hb1; clear hb1) | (go_at_call 9; refine (HR.out _).mono ?_; rintro e w2 ⟨rfl, rfl⟩) | (go_at_call 10; refine (HN.out _ (HH.out.below B1.out)).mono ?_; rintro e w3 ⟨rfl, hb3⟩; have B3 := hide (below_bl rfl B1.out hb3); clear hb3) | (go_at_call 11; refine (sure_any _ (HA.out.bl B3.out) (HH.out.below B3.out)).mono ?_; rintro e w4 ⟨rfl, hb4⟩; have B4 := hide (below_bl rfl B3.out hb4); clear hb4))
  go_ret
  exact ⟨rfl, B4.out⟩

set_option maxHeartbeats 400000 in
theorem bases_walk (d : Int) (s : Nat) (hs : s < 4294967296) (w : World) (hA : AreasAt w) (hH : HandleAt w) :
    Calls Tryd.prog 4 #[.int .i64 d, .int .u32 s] w fun e w' => e = .returned (.bool true) ∧ Below w.heap.size w w' := by
  have HF := hide (base_any d s hs w hA)
  have HR := hide (rbase_any d s hs)
  obtain ⟨x, y, hxy⟩ : ∃ x y : Nat, baseV d s = .tuple #[.int .u32 (x : Nat), .int .u32 (y : Nat)] := by
    unfold baseV
    split
    · exact ⟨_, _, rfl⟩
    · exact ⟨0, 0, rfl⟩
  rw [show (if 1 ≤ d ∧ d ≤ 7 then Value.tuple #[.int .u32 (firstN d.toNat : Nat), .int .u32 (sizeN d.toNat s : Nat)] else .tuple #[.int .u32 0, .int .u32 0]) = .tuple #[.int .u32 (x : Nat), .int .u32 (y : Nat)] from hxy] at HF
  rw [hxy] at HR
  have HA := hide hA
  have HH := hide hH
  clear hA hH hxy
  go_enter Tryd.func4, Tryd.ntmps4
  go_wp2_with (first | (go_at_call 12; refine HF.out.mono ?_; rintro e w1 ⟨rfl, hb1⟩; have B1 := hide hb1; clear hb1) | (go_at_call 13; refine (HR.out _).mono ?_; rintro e w2 ⟨rfl, rfl⟩) | (go_at_call 11; refine (sure_any _ (HA.out.bl B1.out) (HH.out.below B1.out)).mono ?_; rintro e w4 ⟨rfl, hb4⟩; have B4 := hide (below_bl rfl B1.out hb4); clear hb4))
  go_ret
  exact ⟨rfl, B4.out⟩
end Go.Proofs.YtcjfjkkkepjpmaaDoor
