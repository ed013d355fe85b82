/-
  The law's sure.
-/
import Derived.Test.YtficoenanfnijaaGreatDoorJMeHarv
namespace Go.Proofs.YtficoenanfnijaaGreatDoor
open Go.RowKit
set_option linter.unusedVariables false
attribute [local go_sem ↓] Go.wp_at_zero Go.wp_at_succ

set_option maxHeartbeats 600000 in
theorem ints_same (g1 g2 N c1 c2 : Nat) (hN : N ≤ 100000) (h1 : N ≤ c1) (h2 : N ≤ c2) (f : Nat → Nat) (w : World) (k1 : ∀ j, j < N → w.cell? ⟨g1, j, none⟩ = some (.int .i64 (f j : Nat))) (k2 : ∀ j, j < N → w.cell? ⟨g2, j, none⟩ = some (.int .i64 (f j : Nat))) :
    Calls Tryz.prog 17 #[.slice (some ⟨g1, 0, none⟩) N c1, .slice (some ⟨g2, 0, none⟩) N c2] w fun e w' => e = .returned (.bool true) ∧ Below w.heap.size w w' := by
  have K1 := hide k1
  have K2 := hide k2
  have hz : ((N : Int) != (N : Int)) = false := by simp
  clear k1 k2
  go_enter Tryz.func17, Tryz.ntmps17
  go_wp2
  go_loopw [5] (fun kv wr => Below w.heap.size w wr ∧ ∃ k : Nat, k ≤ N ∧ kv = .int .i64 (k : Nat)) (fun kv _ => N - (intOf kv).toNat)
  case atStart => exact ⟨Below.refl _ _, 0, Nat.zero_le _, rfl⟩
  case round =>
    obtain ⟨hB, k, hk, rfl⟩ := hrel
    by_cases hlt : k < N
    · have a1 := cell_bl hB (K1.out k hlt)
      have a2 := cell_bl hB (K2.out k hlt)
      have hz2 : ((f k : Int) != (f k : Int)) = false := by simp
      have HB := hide hB
      clear hB
      go_wp2
      go_region
      all_goals
        go_simp
        go_wp2
        go_roundw
        case rel => exact ⟨HB.out.drew, k + 1, by omega, by go_num⟩
        case measure => simp only [intOf]; omega
    · obtain rfl : k = N := by omega
      go_wp2
      go_ret
      exact ⟨rfl, hB⟩
end Go.Proofs.YtficoenanfnijaaGreatDoor
namespace Go.Proofs.YtficoenanfnijaaGreatDoor
open Go.RowKit
set_option linter.unusedVariables false
attribute [local go_sem ↓] Go.wp_at_zero Go.wp_at_succ

theorem Mem.dat_at (m : Mem) (p o : Nat) (ho : o < 4096) : m.dat p o = m.at (p * 4096 + o) := by
  show _ = m.dat ((p * 4096 + o) / 4096) ((p * 4096 + o) % 4096)
  rw [show (p * 4096 + o) / 4096 = p by omega, show (p * 4096 + o) % 4096 = o by omega]
theorem Wrote.byte {m k : Mem} {S a : Nat} {l : List Nat} {d : Nat} (h : Wrote m k S a l d) (hm : ∀ x, m.at x < 256) (hl : ∀ y, y ∈ l → y < 256) (x : Nat) : k.at x < 256 := by
  rw [h.dat x]
  split
  · cases hx : l[x - a]? with
    | none => decide
    | some y => exact hl y (List.mem_of_getElem? hx)
  · exact hm x
theorem numB_lt (v k : Nat) : ∀ y, y ∈ numB v k → y < 256 := by
  intro y hy
  obtain ⟨j, _, rfl⟩ := List.mem_map.1 hy
  exact Nat.mod_lt _ (by decide)
theorem sure_seven {q : Mem} {S : Nat} (h : Wrote (Mem.fresh 2) q S 4096 (numB 7 4) 4) : getN (fun j => UInt8.ofNat (q.dat (4096 / 4096) j)) (4096 % 4096) 4 = 7 := by
  have e : ∀ j, j < 4 → q.dat 1 j = (numB 7 4)[j]?.getD 0 := fun j hj => by
    rw [q.dat_at 1 j (by omega), h.dat, if_pos (by omega), show 1 * 4096 + j - 4096 = j by omega]
  have e0 : q.dat 1 0 = 7 := (e 0 (by omega)).trans (by decide)
  have e1 : q.dat 1 1 = 0 := (e 1 (by omega)).trans (by decide)
  have e2 : q.dat 1 2 = 0 := (e 2 (by omega)).trans (by decide)
  have e3 : q.dat 1 3 = 0 := (e 3 (by omega)).trans (by decide)
  have f : ∀ g : Nat → UInt8, g 0 = 7 → g 1 = 0 → g 2 = 0 → g 3 = 0 → getN g 0 4 = 7 := fun g g0 g1 g2 g3 => by
    simp [getN, accN, upto, downAt, List.range, List.range.loop, g0, g1, g2, g3]
  refine f _ ?_ ?_ ?_ ?_
  · show UInt8.ofNat (q.dat 1 0) = 7; rw [e0]; rfl
  · show UInt8.ofNat (q.dat 1 1) = 0; rw [e1]; rfl
  · show UInt8.ofNat (q.dat 1 2) = 0; rw [e2]; rfl
  · show UInt8.ofNat (q.dat 1 3) = 0; rw [e3]; rfl
theorem sure_dirty {q : Mem} {S : Nat} (h : Wrote (Mem.fresh 2) q S 4096 (numB 7 4) 4) : dirtyTo q 2 = [1] := by
  have d1 : q.dirty 1 = true := (h.dirty 1).2 (.inr ⟨4096, by omega, by omega, by omega⟩)
  have d0 : q.dirty 0 = false := by
    cases hd : q.dirty 0 with
    | false => rfl
    | true =>
      rcases (h.dirty 0).1 hd with e | ⟨x, h1, h2, h3⟩
      · cases e
      · omega
  rw [dirtyTo_yes d1, dirtyTo_no d0]; rfl
end Go.Proofs.YtficoenanfnijaaGreatDoor
namespace Go.Proofs.YtficoenanfnijaaGreatDoor
open Go.RowKit
set_option linter.unusedVariables false
attribute [local go_sem ↓] Go.wp_at_zero Go.wp_at_succ

theorem ints_one (g1 g2 c1 : Nat) (h1 : 1 ≤ c1) (w' : World) (k1 : w'.cell? ⟨g1, 0, none⟩ = some (.int .i64 1)) (k2 : w'.cell? ⟨g2, 0, none⟩ = some (.int .i64 1)) :
    Calls Tryz.prog 17 #[.slice (some ⟨g1, 0, none⟩) 1 c1, .slice (some ⟨g2, 0, none⟩) 1 1] w' fun e w'' => e = .returned (.bool true) ∧ Below w'.heap.size w' w'' := by
  have z : ∀ j, j < 1 → j = 0 := fun j hj => by omega
  exact ints_same g1 g2 1 c1 1 (by omega) h1 (by omega) (fun _ => 1) w' (fun j hj => by rw [z j hj]; exact k1) (fun j hj => by rw [z j hj]; exact k2)

set_option maxHeartbeats 600000 in
theorem sure_any (w : World) : Calls Tryz.prog 15 #[] w fun e w' => e = .returned (.bool true) ∧ Below w.heap.size w w' := by
  have HN := hide (new_ram 2 (by omega) (by omega) w)
  have HS : Hid (∀ w1 b P D, w.heap.size ≤ w1.heap.size → RamAt w1 w.heap.size b P D (Mem.fresh 2) → Calls Tryz.prog 31 #[.pointer (some ⟨b, 0, none⟩), .int .u32 4096, .int .i64 4, .int .u32 7] w1 fun e w' => e = .returned .nilIface ∧ ∃ q, Wrote (Mem.fresh 2) q w1.heap.size 4096 (numB 7 4) 4 ∧ RamAt w' w.heap.size b P D { q with wr := q.wr + 1 } ∧ Kept w.heap.size w1 w' ((Mem.fresh 2).owns b P D)) :=
    hide (fun w1 b P D hs h => store_ok h hs 4096 4 (by omega) (by omega) (by omega) (by show 4096 + 4 ≤ 2 * 4096; omega) 7 (by omega) (by show 0 ≤ 1000000; omega))
  have HL : Hid (∀ w2 b P D q S, Wrote (Mem.fresh 2) q S 4096 (numB 7 4) 4 → RamAt w2 w.heap.size b P D { q with wr := q.wr + 1 } → Calls Tryz.prog 20 #[.pointer (some ⟨b, 0, none⟩), .int .u32 4096, .int .i64 4] w2 fun e w' => e = .returned (.tuple #[.int .u32 7, .nilIface]) ∧ Below w2.heap.size w2 w') := by
    refine hide (fun w2 b P D q S hW h => ?_)
    obtain ⟨g, hg⟩ : ∃ g, q.blk (4096 / 4096) = some g := Option.ne_none_iff_exists'.1 (hW.there 4096 (by omega) (by omega))
    have hl := load_there h 4096 4 (by omega) (by omega) (by omega) (by show 4096 + 4 ≤ q.n * 4096; rw [hW.n]; show 4096 + 4 ≤ 2 * 4096; omega) g hg (fun o ho => by
      show q.dat (4096 / 4096) o < 256
      rw [q.dat_at _ o ho]
      exact hW.byte (fun x => by show 0 < 256; omega) (numB_lt 7 4) _)
    have hs := sure_seven hW
    refine hl.mono ?_
    rintro e w' ⟨rfl, hb⟩
    exact ⟨congrArg (fun x : Nat => Ending.returned (.tuple #[.int .u32 (x : Int), .nilIface])) hs, hb⟩
  have HD : Hid (∀ w3 b P D q S, Wrote (Mem.fresh 2) q S 4096 (numB 7 4) 4 → RamAt w3 w.heap.size b P D { q with wr := q.wr + 1 } → Calls Tryz.prog 12 #[.pointer (some ⟨b, 0, none⟩)] w3 fun e w' => ∃ g c, e = .returned (.slice (some ⟨g, 0, none⟩) 1 c) ∧ 1 ≤ c ∧ w'.cell? ⟨g, 0, none⟩ = some (.int .i64 1) ∧ Below w3.heap.size w3 w') := by
    refine hide (fun w3 b P D q S hW h => (dirty_any h).mono ?_)
    rintro e w' ⟨v, rfl, hO, hB⟩
    have hn : ({ q with wr := q.wr + 1 : Mem }).n = 2 := hW.n
    have hd : dirtyTo { q with wr := q.wr + 1 } 2 = [1] := by have := sure_dirty hW; exact this
    have hdn : dirtyTo { q with wr := q.wr + 1 } ({ q with wr := q.wr + 1 : Mem }).n = [1] := (congrArg (dirtyTo { q with wr := q.wr + 1 }) hn).trans hd
    rw [hdn] at hO
    obtain ⟨g, c, rfl, hg, hg2⟩ := own_shape hO (by decide)
    refine ⟨g, c, rfl, ?_, ?_, hB⟩
    · rcases hO.2 with ⟨e, _⟩ | ⟨g', c', cur, e, _, _, h5, _⟩
      · cases e
      · cases e; exact h5
    · have := hO.cellAt 0 (by decide)
      exact this
  have HI := hide ints_one
  go_enter Tryz.func15, Tryz.ntmps15
  go_wp2_with (first | (go_at_call 5; refine HN.out.mono ?_; rintro e w1 ⟨rfl, ⟨P, D, hx1⟩, hx2⟩; have H1 := hide hx1; have H2 := hide hx2; clear hx1 hx2) | (go_at_call 31; refine (HS.out _ _ P D H2.out.size H1.out).mono ?_; rintro e w2 ⟨rfl, q, hx3, hx4, hx5⟩; have H3 := hide hx3; have H4 := hide hx4; have H5 := hide (H2.out.trans hx5.below); clear hx3 hx4 hx5) | (go_at_call 20; refine (HL.out _ _ P D q _ H3.out H4.out).mono ?_; rintro e w3 ⟨rfl, hx6⟩; have H6 := hide (H4.out.bl hx6); have H7 := hide (H5.out.trans (hx6.mono H5.out.size)); clear hx6) | (go_at_call 12; refine (HD.out _ _ P D q _ H3.out H6.out).mono ?_; rintro e w4 ⟨g, c, rfl, hx7, hx8, hx9⟩; have H8 := hide hx7; have H9 := hide hx8; have H10 := hide (H7.out.trans (hx9.mono H7.out.size)); clear hx7 hx8 hx9) | (go_at_call 17; refine (HI.out g _ c H8.out _ (cell_bl (below_one _ _) H9.out) (by simp)).mono ?_; rintro e w5 ⟨rfl, hx10⟩; have H11 := hide hx10; clear hx10))
  go_ret
  exact ⟨rfl, (H10.out.alloc H10.out.size _).trans (H11.out.mono (by have := H10.out.size; simp; omega))⟩
end Go.Proofs.YtficoenanfnijaaGreatDoor
