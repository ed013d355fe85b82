/-
  What mem's Dirty answers.
-/
import Derived.Test.YtijeceibkdcdaaaDoorMeStore
import Derived.Deep.AppendSrc
import Derived.OwnWalk
namespace Go.Proofs.YtijeceibkdcdaaaDoor
open Go.RowKit
set_option linter.unusedVariables false
attribute [local go_sem ↓] Go.wp_at_zero Go.wp_at_succ

/-- The dirty pages, of the first k. -/
def dirtyTo (m : Mem) (k : Nat) : List Nat := (List.range k).filter fun p => m.dirty p
def intV (l : List Nat) : List Value := l.map fun x => .int .i64 (x : Nat)
theorem dirtyTo_yes {m : Mem} {k : Nat} (h : m.dirty k = true) : dirtyTo m (k + 1) = dirtyTo m k ++ [k] := by
  simp [dirtyTo, List.range_succ, List.filter_append, h]
theorem dirtyTo_no {m : Mem} {k : Nat} (h : m.dirty k = false) : dirtyTo m (k + 1) = dirtyTo m k := by
  simp [dirtyTo, List.range_succ, List.filter_append, h]
theorem dirtyTo_len (m : Mem) (k : Nat) : (dirtyTo m k).length ≤ k := by
  have := List.length_filter_le (fun p => m.dirty p) (List.range k)
  simpa [dirtyTo] using this

theorem own_block_ge {W : World} {B e sz n : Nat} {v : Value} {xs : List Value} (h : W.ownsRow B e sz v n xs) (j : Nat) (hj : v.ownBlock = some j) : B ≤ j := by
  obtain ⟨h1, ⟨rfl, _⟩ | ⟨g, cap, cur, rfl, e2, _⟩⟩ := h
  · cases hj
  · cases hj; exact e2

set_option maxHeartbeats 1000000 in
set_option maxRecDepth 100000 in
theorem dirty_any {w : World} {B b P D : Nat} {m : Mem} (h : RamAt w B b P D m) :
    Calls Tryd.prog 14 #[.pointer (some ⟨b, 0, none⟩)] w fun e w' => ∃ v, e = .returned v ∧ w'.ownsRow w.heap.size 3 1 v (dirtyTo m m.n).length (intV (dirtyTo m m.n)) ∧ Below w.heap.size w w' := by
  obtain ⟨nn, oo, hr⟩ := h.head
  have c1 : w.cell? ⟨b, 1, none⟩ = some (.slice (some ⟨D, 0, none⟩) m.n m.n) := hr.cell 1
  have hfew := h.few
  have HM := hide h.marks
  obtain ⟨i0, hi, hq0, hq1, hq2⟩ := info_parts (P := Tryd.prog) (e := 3) (z := .int .i64 0) (size := 1) (bytes := 8) (by kernel_rfl)
  clear h hr
  go_enter Tryd.func14, Tryd.ntmps14
  go_wp2
  go_loopw [3, 13] (fun ov kv wr => ∃ k : Nat, k ≤ m.n ∧ kv = .int .i64 (k : Nat) ∧ wr.ownsRow w.heap.size 3 1 ov (dirtyTo m k).length (intV (dirtyTo m k)) ∧ Below w.heap.size w wr) (fun _ kv _ => m.n - (intOf kv).toNat)
  case atStart => exact ⟨0, Nat.zero_le _, rfl, ⟨rfl, .inl ⟨rfl, rfl⟩⟩, Below.refl _ _⟩
  case round =>
    obtain ⟨k, hk, rfl, hO, hB⟩ := hrel
    have HO := hide hO
    have HB := hide hB
    by_cases hlt : k < m.n
    · have hc := (HM.out.bl hB).cell hlt
      have hdl := dirtyTo_len m k
      have HL := hide hdl
      clear hO hB
      cases hd : m.dirty k with
      | true =>
        rw [hd] at hc
        have HY := hide (dirtyTo_yes hd)
        clear hd
        generalize hdl2 : dirtyTo m k = dl at *
        have HD2 := hide hdl2
        clear hdl2
        go_wp2_with (first | (at_builtin; refine wpList_append_own _ rfl _ _ 38 rfl w.heap.size 3 i0 (.int .i64 0) 1 8 Tryd.underlying38 hi hq0 hq1 hq2 rfl (by decide) _ _ _ rfl (HO.out.alloc _) ⟨_, 0, none⟩ 1 1 [.int .i64 (k : Int)] rfl rfl (cell_one_new _ _ _) (by simp [Value.oneCell']) (by unfold maxLen; omega) (by omega) (by have := HB.out.size; simp; omega) ?_; intro v6 w6 hown6 hgrow6 hnil6))
        go_roundw
        case rel =>
          have hX := HO.out.alloc (.cells #[.int .i64 (k : Int)] 3)
          refine ⟨k + 1, by omega, by go_num, ?_, ?_⟩
          · rw [HY.out, intV, List.map_append, List.length_append]; exact hown6
          · exact (HB.out.alloc HB.out.size _).grown hgrow6 (by have := HB.out.size; simp; omega) (fun j hj => own_block_ge hX j hj)
        case measure => simp only [intOf]; omega
      | false =>
        rw [hd] at hc
        have HY := hide (dirtyTo_no hd)
        clear hd
        go_wp2
        go_roundw
        case rel => exact ⟨k + 1, by omega, by go_num, by rw [HY.out]; exact HO.out, HB.out⟩
        case measure => simp only [intOf]; omega
    · obtain rfl : k = m.n := by omega
      go_wp2
      go_ret
      exact ⟨_, rfl, HO.out, HB.out⟩
end Go.Proofs.YtijeceibkdcdaaaDoor
