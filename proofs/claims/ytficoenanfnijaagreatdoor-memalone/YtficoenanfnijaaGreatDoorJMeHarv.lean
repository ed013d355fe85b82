/-
  mem's Harvest.
-/
import Derived.Test.YtficoenanfnijaaGreatDoorJMeStore
import Derived.Deep.AppendSrc
import Derived.OwnWalk
import Derived.Test.YtficoenanfnijaaGreatDoorJMePage
namespace Go.Proofs.YtficoenanfnijaaGreatDoor
open Go.RowKit
set_option linter.unusedVariables false
attribute [local go_sem ↓] Go.wp_at_zero Go.wp_at_succ

/-- The dirty pages, of the first k. -/
def dirtyTo (m : Mem) (k : Nat) : List Nat := (List.range k).filter fun p => m.dirty p
def intV (l : List Nat) : List Value := l.map fun x => .int .i64 (x : Nat)
theorem dirtyTo_yes {m : Mem} {k : Nat} (h : m.dirty k = true) : dirtyTo m (k + 1) = dirtyTo m k ++ [k] := by
  simp [dirtyTo, List.range_succ, List.filter_append, h]
theorem dirtyTo_no {m : Mem} {k : Nat} (h : m.dirty k = false) : dirtyTo m (k + 1) = dirtyTo m k := by
  simp [dirtyTo, List.range_succ, List.filter_append, h]
theorem dirtyTo_len (m : Mem) (k : Nat) : (dirtyTo m k).length ≤ k := by
  have := List.length_filter_le (fun p => m.dirty p) (List.range k)
  simpa [dirtyTo] using this

theorem own_block_ge {W : World} {B e sz n : Nat} {v : Value} {xs : List Value} (h : W.ownsRow B e sz v n xs) (j : Nat) (hj : v.ownBlock = some j) : B ≤ j := by
  obtain ⟨h1, ⟨rfl, _⟩ | ⟨g, cap, cur, rfl, e2, _⟩⟩ := h
  · cases hj
  · cases hj; exact e2

set_option maxHeartbeats 1000000 in
set_option maxRecDepth 100000 in
theorem dirty_any {w : World} {B b P D : Nat} {m : Mem} (h : RamAt w B b P D m) :
    Calls Tryz.prog 12 #[.pointer (some ⟨b, 0, none⟩)] w fun e w' => ∃ v, e = .returned v ∧ w'.ownsRow w.heap.size 3 1 v (dirtyTo m m.n).length (intV (dirtyTo m m.n)) ∧ Below w.heap.size w w' := by
  have hr := h.head
  have c1 : w.cell? ⟨b, 1, none⟩ = some (.slice (some ⟨D, 0, none⟩) m.n m.dc) := hr.cell 1
  have hfew := h.few
  have HM := hide h.marks
  obtain ⟨i0, hi, hq0, hq1, hq2⟩ := info_parts (P := Tryz.prog) (e := 3) (z := .int .i64 0) (size := 1) (bytes := 8) (by kernel_rfl)
  clear h hr
  go_enter Tryz.func12, Tryz.ntmps12
  go_wp2
  go_loopw [3, 13] (fun ov kv wr => ∃ k : Nat, k ≤ m.n ∧ kv = .int .i64 (k : Nat) ∧ wr.ownsRow w.heap.size 3 1 ov (dirtyTo m k).length (intV (dirtyTo m k)) ∧ Below w.heap.size w wr) (fun _ kv _ => m.n - (intOf kv).toNat)
  case atStart => exact ⟨0, Nat.zero_le _, rfl, ⟨rfl, .inl ⟨rfl, rfl⟩⟩, Below.refl _ _⟩
  case round =>
    obtain ⟨k, hk, rfl, hO, hB⟩ := hrel
    have HO := hide hO
    have HB := hide hB
    by_cases hlt : k < m.n
    · have hc := (HM.out.bl hB).cell hlt
      have hdl := dirtyTo_len m k
      have HL := hide hdl
      clear hO hB
      cases hd : m.dirty k with
      | true =>
        rw [hd] at hc
        have HY := hide (dirtyTo_yes hd)
        clear hd
        generalize hdl2 : dirtyTo m k = dl at *
        have HD2 := hide hdl2
        clear hdl2
        go_wp2_with (first | (at_builtin; refine wpList_append_own _ rfl _ _ 40 rfl w.heap.size 3 i0 (.int .i64 0) 1 8 Tryz.underlying40 hi hq0 hq1 hq2 rfl (by decide) _ _ _ rfl (HO.out.alloc _) ⟨_, 0, none⟩ 1 1 [.int .i64 (k : Int)] rfl rfl (cell_one_new _ _ _) (by simp [Value.oneCell']) (by unfold maxLen; omega) (by omega) (by have := HB.out.size; simp; omega) ?_; intro v6 w6 hown6 hgrow6 hnil6))
        go_roundw
        case rel =>
          have hX := HO.out.alloc (.cells #[.int .i64 (k : Int)] 3)
          refine ⟨k + 1, by omega, by go_num, ?_, ?_⟩
          · rw [HY.out, intV, List.map_append, List.length_append]; exact hown6
          · exact (HB.out.alloc HB.out.size _).grown hgrow6 (by have := HB.out.size; simp; omega) (fun j hj => own_block_ge hX j hj)
        case measure => simp only [intOf]; omega
      | false =>
        rw [hd] at hc
        have HY := hide (dirtyTo_no hd)
        clear hd
        go_wp2
        go_roundw
        case rel => exact ⟨k + 1, by omega, by go_num, by rw [HY.out]; exact HO.out, HB.out⟩
        case measure => simp only [intOf]; omega
    · obtain rfl : k = m.n := by omega
      go_wp2
      go_ret
      exact ⟨_, rfl, HO.out, HB.out⟩
end Go.Proofs.YtficoenanfnijaaGreatDoor
namespace Go.Proofs.YtficoenanfnijaaGreatDoor
open Go.RowKit
set_option linter.unusedVariables false
attribute [local go_sem ↓] Go.wp_at_zero Go.wp_at_succ

def noB (n : Nat) : List Value := (Builtin.zeroCells #[.bool false] n).toList
theorem noB_len (n : Nat) : (noB n).length = n := by simp [noB, Builtin.zeroCells]
theorem noB_at {n j : Nat} (h : j < n) : (noB n)[j]? = some (.bool false) := by
  simp [noB, Builtin.zeroCells, h, Nat.mod_one]
theorem run_clear_bools (w : World) (ty : TypeId) (b n c : Nat) (hn : 0 < n) (hc : ∀ j, j < n → (w.cell? ⟨b, j, none⟩).isSome = true) (hf : ∀ j, j < n → w.frozen? ⟨b, j, none⟩ = false) :
    (Builtin.clear_ #[29] ty #[.slice (some ⟨b, 0, none⟩) n c]).run Tryz.prog w = .ok (.tuple #[]) (w.setCells b 0 (noB n)) := by
  have hl : (noB n).length = n := noB_len n
  have hst := run_storeCells_cells (P := Tryz.prog) b 0 (noB n) 0 w (by rw [hl]; simpa using hc) (by rw [hl]; simpa using hf) (by
    intro v hv
    obtain ⟨j, hj, rfl⟩ := List.mem_iff_getElem.1 hv
    have h2 := noB_at (n := n) (j := j) (by rw [hl] at hj; exact hj)
    rw [List.getElem?_eq_getElem hj] at h2
    rw [Option.some.inj h2]
    rfl)
  simp only [Nat.add_zero] at hst
  obtain ⟨m, rfl⟩ : ∃ m, n = m + 1 := ⟨n - 1, by omega⟩
  have hz : ∀ w, (zeroValue 4).run Tryz.prog w = .ok (.bool false) w := Tryz.zeroValue4
  unfold noB at hst ⊢
  simp [Builtin.clear_, run_underlying Tryz.underlying29, hz, Value.cells, hst]
/-- No page is dirty any more. -/
def Mem.clean (m : Mem) : Mem := { m with dirty := fun _ => false }
theorem RamAt.cleaned {w : World} {B b P D : Nat} {m : Mem} (h : RamAt w B b P D m) : RamAt (w.setCells D 0 (noB m.n)) B b P D m.clean := by
  obtain ⟨a1, a2, a3, a4⟩ := h.apart
  have far : ∀ x, x ≠ D → (w.setCells D 0 (noB m.n)).heap[x]? = w.heap[x]? := fun x hx => heap_setCells _ _ _ _ _ hx
  exact { head := (far b a2).trans h.head, zero := fun g hg => (by (obtain ⟨z1, z2, z3, z4, z5, z6⟩ := h.zero g hg; exact ⟨z1.of_heap (far g z5), z2, z3, z4, z5, z6⟩)),
          pages := h.pages.of_heap (far P a3), marks := (h.marks.puts (noB m.n) 0 (by rw [noB_len]; omega)).congr (fun j hj => by
            rw [if_pos (Nat.zero_le _), Nat.sub_zero, noB_at hj]; rfl),
          bytes := fun q g hq hg => (h.bytes q g hq hg).of_heap (far g (a4 q g hq hg).2.2), noughts := h.noughts, low := h.low, apart := h.apart, alone := h.alone, few := h.few, caps := h.caps, room := h.room }
def ClearOk (w : World) (ty : TypeId) (D n dc : Nat) : Prop := (Builtin.clear_ #[29] ty #[.slice (some ⟨D, 0, none⟩) n dc]).run Tryz.prog w = .ok (.tuple #[]) (w.setCells D 0 (noB n))
theorem ClearOk.eq {w : World} {ty : TypeId} {D n dc : Nat} (h : ClearOk w ty D n dc) : (Builtin.clear_ #[29] ty #[.slice (some ⟨D, 0, none⟩) n dc]).run Tryz.prog w = .ok (.tuple #[]) (w.setCells D 0 (noB n)) := h
theorem own_far {W W' : World} {B e sz n : Nat} {v : Value} {xs : List Value} (h : W.ownsRow B e sz v n xs) (hh : ∀ g, B ≤ g → W'.heap[g]? = W.heap[g]?) : W'.ownsRow B e sz v n xs := by
  obtain ⟨h1, h2 | ⟨g, cap, cur, e1, e2, e3, e4⟩⟩ := h
  · exact ⟨h1, Or.inl h2⟩
  · exact ⟨h1, Or.inr ⟨g, cap, cur, e1, e2, (hh g e2).trans e3, e4⟩⟩
set_option maxRecDepth 100000 in
set_option maxHeartbeats 1000000 in
theorem harvest_any {w : World} {B b P D : Nat} {m : Mem} (h : RamAt w B b P D m) (hB : B ≤ w.heap.size) (hn : 0 < m.n) :
    Calls Tryz.prog 9 #[.pointer (some ⟨b, 0, none⟩)] w fun e w' => ∃ v, e = .returned v ∧ w'.ownsRow w.heap.size 3 1 v (dirtyTo m m.n).length (intV (dirtyTo m m.n)) ∧ RamAt w' B b P D m.clean ∧ Kept B w w' (m.owns b P D) := by
  have HD := hide (dirty_any h)
  have HR := hide h
  have hDl := h.marks.lt
  clear h
  go_enter Tryz.func9, Tryz.ntmps9
  go_wp2_with (go_at_call 12; refine HD.out.mono ?_; rintro e w1 ⟨v, rfl, ho, hb⟩; have HO := hide ho; have HB := hide hb; have c1 : w1.cell? ⟨b, 1, none⟩ = some (.slice (some ⟨D, 0, none⟩) m.n m.dc) := (HR.out.bl hb).head.cell 1; have HR1 := hide (HR.out.bl hb); clear ho hb)
  have hcl : ClearOk w1 0 D m.n m.dc := run_clear_bools w1 0 D m.n m.dc hn (fun j hj => by rw [HR1.out.marks.cell hj]; rfl) (fun j hj => HR1.out.marks.thaw j)
  rw [ClearOk.eq hcl]
  clear hcl
  go_simp
  go_wp2
  go_ret
  have k1 : Kept B w w1 (m.owns b P D) := Kept.of HB.out hB
  exact ⟨v, rfl, own_far HO.out (fun g hg => heap_setCells _ _ _ _ _ (by omega)), HR1.out.cleaned, k1.trans (Kept.sets (.inr (.inr (.inl rfl))) HR1.out.low.2.2.1 _ _)⟩
end Go.Proofs.YtficoenanfnijaaGreatDoor
