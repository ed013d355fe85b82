/-
  The law's sure.
-/
import Derived.Test.YtijeceibkdcdaaaDoorMeSureM
namespace Go.Proofs.YtijeceibkdcdaaaDoor
open Go.RowKit
set_option linter.unusedVariables false
attribute [local go_sem ↓] Go.wp_at_zero Go.wp_at_succ

theorem ints_one (g1 g2 c1 : Nat) (h1 : 1 ≤ c1) (w' : World) (k1 : w'.cell? ⟨g1, 0, none⟩ = some (.int .i64 1)) (k2 : w'.cell? ⟨g2, 0, none⟩ = some (.int .i64 1)) :
    Calls Tryd.prog 35 #[.slice (some ⟨g1, 0, none⟩) 1 c1, .slice (some ⟨g2, 0, none⟩) 1 1] w' fun e w'' => e = .returned (.bool true) ∧ Below w'.heap.size w' w'' := by
  have z : ∀ j, j < 1 → j = 0 := fun j hj => by omega
  exact ints_same g1 g2 1 c1 1 (by omega) h1 (by omega) (fun _ => 1) w' (fun j hj => by rw [z j hj]; exact k1) (fun j hj => by rw [z j hj]; exact k2)

set_option maxHeartbeats 600000 in
theorem sure_any (w : World) : Calls Tryd.prog 19 #[] w fun e w' => e = .returned (.bool true) ∧ Below w.heap.size w w' := by
  have HN := hide (new_ram 2 (by omega) (by omega) w)
  have HS : Hid (∀ w1 b P D, w.heap.size ≤ w1.heap.size → RamAt w1 w.heap.size b P D (Mem.fresh 2) → Calls Tryd.prog 9 #[.pointer (some ⟨b, 0, none⟩), .int .u32 4096, .int .i64 4, .int .u32 7] w1 fun e w' => e = .returned .nilIface ∧ ∃ q, Wrote (Mem.fresh 2) q w1.heap.size 4096 (numB 7 4) 4 ∧ RamAt w' w.heap.size b P D { q with wr := q.wr + 1 } ∧ Kept w.heap.size w1 w' ((Mem.fresh 2).owns b P D)) :=
    hide (fun w1 b P D hs h => store_ok h hs 4096 4 (by omega) (by omega) (by omega) (by show 4096 + 4 ≤ 2 * 4096; omega) 7 (by omega) (by show 0 ≤ 1000000; omega))
  have HL : Hid (∀ w2 b P D q S, Wrote (Mem.fresh 2) q S 4096 (numB 7 4) 4 → RamAt w2 w.heap.size b P D { q with wr := q.wr + 1 } → Calls Tryd.prog 4 #[.pointer (some ⟨b, 0, none⟩), .int .u32 4096, .int .i64 4] w2 fun e w' => e = .returned (.tuple #[.int .u32 7, .nilIface]) ∧ Below w2.heap.size w2 w') := by
    refine hide (fun w2 b P D q S hW h => ?_)
    obtain ⟨g, hg⟩ : ∃ g, q.blk (4096 / 4096) = some g := Option.ne_none_iff_exists'.1 (hW.there 4096 (by omega) (by omega))
    have hl := load_there h 4096 4 (by omega) (by omega) (by omega) (by show 4096 + 4 ≤ q.n * 4096; rw [hW.n]; show 4096 + 4 ≤ 2 * 4096; omega) g hg (fun o ho => by
      show q.dat (4096 / 4096) o < 256
      rw [q.dat_at _ o ho]
      exact hW.byte (fun x => by show 0 < 256; omega) (numB_lt 7 4) _)
    have hs := sure_seven hW
    refine hl.mono ?_
    rintro e w' ⟨rfl, hb⟩
    exact ⟨congrArg (fun x : Nat => Ending.returned (.tuple #[.int .u32 (x : Int), .nilIface])) hs, hb⟩
  have HD : Hid (∀ w3 b P D q S, Wrote (Mem.fresh 2) q S 4096 (numB 7 4) 4 → RamAt w3 w.heap.size b P D { q with wr := q.wr + 1 } → Calls Tryd.prog 14 #[.pointer (some ⟨b, 0, none⟩)] w3 fun e w' => ∃ g c, e = .returned (.slice (some ⟨g, 0, none⟩) 1 c) ∧ 1 ≤ c ∧ w'.cell? ⟨g, 0, none⟩ = some (.int .i64 1) ∧ Below w3.heap.size w3 w') := by
    refine hide (fun w3 b P D q S hW h => (dirty_any h).mono ?_)
    rintro e w' ⟨v, rfl, hO, hB⟩
    have hn : ({ q with wr := q.wr + 1 : Mem }).n = 2 := hW.n
    have hd : dirtyTo { q with wr := q.wr + 1 } 2 = [1] := by have := sure_dirty hW; exact this
    have hdn : dirtyTo { q with wr := q.wr + 1 } ({ q with wr := q.wr + 1 : Mem }).n = [1] := (congrArg (dirtyTo { q with wr := q.wr + 1 }) hn).trans hd
    rw [hdn] at hO
    obtain ⟨g, c, rfl, hg, hg2⟩ := own_shape hO (by decide)
    refine ⟨g, c, rfl, ?_, ?_, hB⟩
    · rcases hO.2 with ⟨e, _⟩ | ⟨g', c', cur, e, _, _, h5, _⟩
      · cases e
      · cases e; exact h5
    · have := hO.cellAt 0 (by decide)
      exact this
  have HI := hide ints_one
  go_enter Tryd.func19, Tryd.ntmps19
  go_wp2_with (first | (go_at_call 18; refine HN.out.mono ?_; rintro e w1 ⟨rfl, ⟨P, D, hx1⟩, hx2⟩; have H1 := hide hx1; have H2 := hide hx2; clear hx1 hx2) | (go_at_call 9; refine (HS.out _ _ P D H2.out.size H1.out).mono ?_; rintro e w2 ⟨rfl, q, hx3, hx4, hx5⟩; have H3 := hide hx3; have H4 := hide hx4; have H5 := hide (H2.out.trans hx5.below); clear hx3 hx4 hx5) | (go_at_call 4; refine (HL.out _ _ P D q _ H3.out H4.out).mono ?_; rintro e w3 ⟨rfl, hx6⟩; have H6 := hide (H4.out.bl hx6); have H7 := hide (H5.out.trans (hx6.mono H5.out.size)); clear hx6) | (go_at_call 14; refine (HD.out _ _ P D q _ H3.out H6.out).mono ?_; rintro e w4 ⟨g, c, rfl, hx7, hx8, hx9⟩; have H8 := hide hx7; have H9 := hide hx8; have H10 := hide (H7.out.trans (hx9.mono H7.out.size)); clear hx7 hx8 hx9) | (go_at_call 35; refine (HI.out g _ c H8.out _ (cell_bl (below_one _ _) H9.out) (by simp)).mono ?_; rintro e w5 ⟨rfl, hx10⟩; have H11 := hide hx10; clear hx10))
  go_ret
  exact ⟨rfl, (H10.out.alloc H10.out.size _).trans (H11.out.mono (by have := H10.out.size; simp; omega))⟩
end Go.Proofs.YtijeceibkdcdaaaDoor
