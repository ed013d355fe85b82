/-
  MemNew, walked.
-/
import Derived.Test.YtijeceibkdcdaaaDoorMeNil
import Derived.Test.YtijeceibkdcdaaaDoorNum
namespace Go.Proofs.YtijeceibkdcdaaaDoor
open Go.RowKit
set_option linter.unusedVariables false

theorem HandleAt.below {w w' : World} (h : HandleAt w) (hb : Below w.heap.size w w') : HandleAt w' := by
  have hl : 0 < w.heap.size := by
    rcases Nat.lt_or_ge 0 w.heap.size with h' | h'
    · exact h'
    · simp [HandleAt, World.cell?, Array.getElem?_eq_none h'] at h
  exact (hb.cell (p := ⟨0, 0, none⟩) hl).trans h

set_option maxHeartbeats 1000000 in
theorem new_low (n : Int) (h : n < 1) (w : World) (hH : HandleAt w) :
    Calls Tryd.prog 3 #[.int .i64 n] w fun e w' => e = .returned (.bool true) ∧ Below w.heap.size w w' := by
  have HNum : Hid (∀ w', Below w.heap.size w w' → Calls Tryd.prog 8 #[.iface 51 (.int .i64 1)] w' fun e w'' => e = .returned (.int .i64 1) ∧ Below w'.heap.size w' w'') := hide (fun w' hb => num_err 1 w' (hH.below hb))
  have HD : Hid (∀ w', Below w.heap.size w w' → ∀ k, Below w.heap.size w (w'.drewN k)) := hide (fun w' h k => ⟨h.os, h.tape, h.output, h.size, h.block⟩)
  have hb0 := Below.refl w.heap.size w
  have HN := hide (new_bad n (.inl h))
  clear hH
  go_enter Tryd.func3, Tryd.ntmps3
  go_wp2_with (first | (go_at_call 4; refine (nil_load _).mono ?_; rintro e wn ⟨rfl, rfl⟩) | (go_at_call 5; refine (nil_read _).mono ?_; rintro e wn ⟨rfl, rfl⟩) | (go_at_call 6; refine (nil_page _).mono ?_; rintro e wn ⟨rfl, rfl⟩) | (go_at_call 7; refine (nil_digest _).mono ?_; rintro e wn ⟨rfl, rfl⟩) | (go_at_call 9; refine (nil_store _).mono ?_; rintro e wn ⟨rfl, rfl⟩) | (go_at_call 10; refine (nil_write _).mono ?_; rintro e wn ⟨rfl, rfl⟩) | (go_at_call 11; refine (nil_setPage _).mono ?_; rintro e wn ⟨rfl, rfl⟩) | (go_at_call 12; refine (nil_pages _).mono ?_; rintro e wn ⟨rfl, rfl⟩) | (go_at_call 13; refine (nil_writes _).mono ?_; rintro e wn ⟨rfl, rfl⟩) | (go_at_call 14; refine (nil_dirty _).mono ?_; rintro e wn ⟨rfl, rfl⟩) | (go_at_call 15; refine (nil_harvest _).mono ?_; rintro e wn ⟨rfl, rfl⟩) | (go_at_call 16; refine (nil_clone _).mono ?_; rintro e wn ⟨rfl, rfl⟩) | (go_at_call 17; refine (nil_same _).mono ?_; rintro e wn ⟨rfl, nn, rfl⟩; replace hb0 := HD.out _ hb0 nn) | (go_at_call 8; refine (HNum.out _ hb0).mono ?_; rintro e wn ⟨rfl, hx⟩; replace hb0 := below_bl rfl hb0 hx; clear hx) | (go_at_call 18; refine (HN.out _).mono ?_; rintro e wn ⟨rfl, rfl⟩) | (go_at_call 19; refine (sure_any _).mono ?_; rintro e wn ⟨rfl, hx⟩; replace hb0 := below_bl rfl hb0 hx; clear hx))
  go_ret
  exact ⟨rfl, hb0⟩

set_option maxHeartbeats 1000000 in
theorem new_high (n : Int) (h1 : ¬ n < 1) (h : 16384 < n) (w : World) (hH : HandleAt w) :
    Calls Tryd.prog 3 #[.int .i64 n] w fun e w' => e = .returned (.bool true) ∧ Below w.heap.size w w' := by
  have HNum : Hid (∀ w', Below w.heap.size w w' → Calls Tryd.prog 8 #[.iface 51 (.int .i64 1)] w' fun e w'' => e = .returned (.int .i64 1) ∧ Below w'.heap.size w' w'') := hide (fun w' hb => num_err 1 w' (hH.below hb))
  have HD : Hid (∀ w', Below w.heap.size w w' → ∀ k, Below w.heap.size w (w'.drewN k)) := hide (fun w' h k => ⟨h.os, h.tape, h.output, h.size, h.block⟩)
  have hb0 := Below.refl w.heap.size w
  have HN := hide (new_bad n (.inr h))
  clear hH
  go_enter Tryd.func3, Tryd.ntmps3
  go_wp2_with (first | (go_at_call 4; refine (nil_load _).mono ?_; rintro e wn ⟨rfl, rfl⟩) | (go_at_call 5; refine (nil_read _).mono ?_; rintro e wn ⟨rfl, rfl⟩) | (go_at_call 6; refine (nil_page _).mono ?_; rintro e wn ⟨rfl, rfl⟩) | (go_at_call 7; refine (nil_digest _).mono ?_; rintro e wn ⟨rfl, rfl⟩) | (go_at_call 9; refine (nil_store _).mono ?_; rintro e wn ⟨rfl, rfl⟩) | (go_at_call 10; refine (nil_write _).mono ?_; rintro e wn ⟨rfl, rfl⟩) | (go_at_call 11; refine (nil_setPage _).mono ?_; rintro e wn ⟨rfl, rfl⟩) | (go_at_call 12; refine (nil_pages _).mono ?_; rintro e wn ⟨rfl, rfl⟩) | (go_at_call 13; refine (nil_writes _).mono ?_; rintro e wn ⟨rfl, rfl⟩) | (go_at_call 14; refine (nil_dirty _).mono ?_; rintro e wn ⟨rfl, rfl⟩) | (go_at_call 15; refine (nil_harvest _).mono ?_; rintro e wn ⟨rfl, rfl⟩) | (go_at_call 16; refine (nil_clone _).mono ?_; rintro e wn ⟨rfl, rfl⟩) | (go_at_call 17; refine (nil_same _).mono ?_; rintro e wn ⟨rfl, nn, rfl⟩; replace hb0 := HD.out _ hb0 nn) | (go_at_call 8; refine (HNum.out _ hb0).mono ?_; rintro e wn ⟨rfl, hx⟩; replace hb0 := below_bl rfl hb0 hx; clear hx) | (go_at_call 18; refine (HN.out _).mono ?_; rintro e wn ⟨rfl, rfl⟩) | (go_at_call 19; refine (sure_any _).mono ?_; rintro e wn ⟨rfl, hx⟩; replace hb0 := below_bl rfl hb0 hx; clear hx))
  go_ret
  exact ⟨rfl, hb0⟩

theorem dirty_fresh {w : World} {B b P D n : Nat} (h : RamAt w B b P D (Mem.fresh n)) :
    Calls Tryd.prog 14 #[.pointer (some ⟨b, 0, none⟩)] w fun e w' => ∃ a c, e = .returned (.slice a 0 c) ∧ Below w.heap.size w w' := by
  refine (dirty_any h).mono ?_
  rintro e w' ⟨v, rfl, hO, hB⟩
  have hd : dirtyTo (Mem.fresh n) (Mem.fresh n).n = [] := by
    show (List.range n).filter (fun _ => false) = []
    simp
  rw [hd] at hO
  obtain ⟨_, ⟨rfl, _⟩ | ⟨g, cap, cur, rfl, _⟩⟩ := hO
  · exact ⟨none, 0, rfl, hB⟩
  · exact ⟨_, _, rfl, hB⟩

set_option maxHeartbeats 1000000 in
theorem new_good (n : Nat) (h1 : 1 ≤ n) (h2 : n ≤ 16384) (w : World) (hH : HandleAt w) :
    Calls Tryd.prog 3 #[.int .i64 n] w fun e w' => e = .returned (.bool true) ∧ Below w.heap.size w w' := by
  have HNum : Hid (∀ w', Below w.heap.size w w' → Calls Tryd.prog 8 #[.iface 51 (.int .i64 1)] w' fun e w'' => e = .returned (.int .i64 1) ∧ Below w'.heap.size w' w'') := hide (fun w' hb => num_err 1 w' (hH.below hb))
  have HD : Hid (∀ w', Below w.heap.size w w' → ∀ k, Below w.heap.size w (w'.drewN k)) := hide (fun w' h k => ⟨h.os, h.tape, h.output, h.size, h.block⟩)
  have hb0 := Below.refl w.heap.size w
  have HN := hide (new_ram n h1 h2)
  have t1 : ¬ (n : Int) < 1 := by omega
  have t2 : ¬ 16384 < (n : Int) := by omega
  clear hH
  go_enter Tryd.func3, Tryd.ntmps3
  go_wp2_with (first | (go_at_call 4; refine (nil_load _).mono ?_; rintro e wn ⟨rfl, rfl⟩) | (go_at_call 5; refine (nil_read _).mono ?_; rintro e wn ⟨rfl, rfl⟩) | (go_at_call 6; refine (nil_page _).mono ?_; rintro e wn ⟨rfl, rfl⟩) | (go_at_call 7; refine (nil_digest _).mono ?_; rintro e wn ⟨rfl, rfl⟩) | (go_at_call 9; refine (nil_store _).mono ?_; rintro e wn ⟨rfl, rfl⟩) | (go_at_call 10; refine (nil_write _).mono ?_; rintro e wn ⟨rfl, rfl⟩) | (go_at_call 11; refine (nil_setPage _).mono ?_; rintro e wn ⟨rfl, rfl⟩) | (go_at_call 12; refine (nil_pages _).mono ?_; rintro e wn ⟨rfl, rfl⟩) | (go_at_call 13; refine (nil_writes _).mono ?_; rintro e wn ⟨rfl, rfl⟩) | (go_at_call 14; refine (nil_dirty _).mono ?_; rintro e wn ⟨rfl, rfl⟩) | (go_at_call 15; refine (nil_harvest _).mono ?_; rintro e wn ⟨rfl, rfl⟩) | (go_at_call 16; refine (nil_clone _).mono ?_; rintro e wn ⟨rfl, rfl⟩) | (go_at_call 17; refine (nil_same _).mono ?_; rintro e wn ⟨rfl, nn, rfl⟩; replace hb0 := HD.out _ hb0 nn) | (go_at_call 8; refine (HNum.out _ hb0).mono ?_; rintro e wn ⟨rfl, hx⟩; replace hb0 := below_bl rfl hb0 hx; clear hx))
  refine (HN.out _).mono ?_
  rintro e wn ⟨rfl, ⟨P, D, hx1⟩, hx2⟩
  have HR := hide hx1
  replace hb0 := below_bl rfl hb0 hx2
  clear hx1 hx2 HN
  go_wp2_with (first | (go_at_call 12; refine (pages_any HR.out).mono ?_; rintro e wn ⟨rfl, rfl⟩) | (go_at_call 13; refine (writes_any HR.out).mono ?_; rintro e wn ⟨rfl, rfl⟩) | (go_at_call 14; refine (dirty_fresh HR.out).mono ?_; rintro e wn ⟨da, dc, rfl, hx⟩; replace HR := hide (HR.out.bl hx); replace hb0 := below_bl rfl hb0 hx; clear hx) | (go_at_call 19; refine (sure_any _).mono ?_; rintro e wn ⟨rfl, hx⟩; replace hb0 := below_bl rfl hb0 hx; clear hx))
  go_ret
  exact ⟨rfl, hb0⟩

theorem new_walk (n : Int) (w : World) (hH : HandleAt w) :
    Calls Tryd.prog 3 #[.int .i64 n] w fun e w' => e = .returned (.bool true) ∧ Below w.heap.size w w' := by
  by_cases h1 : n < 1
  · exact new_low n h1 w hH
  · by_cases h2 : 16384 < n
    · exact new_high n h1 h2 w hH
    · obtain ⟨k, rfl⟩ := Int.eq_ofNat_of_zero_le (show 0 ≤ n by omega)
      exact new_good k (by omega) (by omega) w hH
end Go.Proofs.YtijeceibkdcdaaaDoor
