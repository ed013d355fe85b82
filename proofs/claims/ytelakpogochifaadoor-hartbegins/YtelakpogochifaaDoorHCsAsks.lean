/-
  What csr.Asks answers.
-/
import Derived.Test.YtelakpogochifaaDoorHCsProg
namespace Go.Proofs.YtelakpogochifaaDoor
open Go.RowKit
set_option linter.unusedVariables false

/-- The table of the lines, as the text lays it. -/
def OrderAt (w : World) : Prop := w.cell? ⟨4, 0, none⟩ = some (.int .u32 11) ∧ w.cell? ⟨4, 1, none⟩ = some (.int .u32 3) ∧ w.cell? ⟨4, 2, none⟩ = some (.int .u32 7)

theorem cell_lt {w : World} {g j : Nat} {v : Value} (h : w.cell? ⟨g, j, none⟩ = some v) : g < w.heap.size := by
  rcases Nat.lt_or_ge g w.heap.size with h' | h'
  · exact h'
  · simp [World.cell?, Array.getElem?_eq_none h'] at h
theorem cell_al {w : World} {g j : Nat} {v : Value} (h : w.cell? ⟨g, j, none⟩ = some v) (o : Obj) : (w.alloc o).cell? ⟨g, j, none⟩ = some v := by
  rw [World.cell?_alloc_lt _ _ ⟨g, j, none⟩ (cell_lt h)]; exact h
theorem OrderAt.below {w w' : World} (h : OrderAt w) (hb : Below w.heap.size w w') : OrderAt w' :=
  ⟨(hb.cell (p := ⟨4, 0, none⟩) (cell_lt h.1)).trans h.1, (hb.cell (p := ⟨4, 1, none⟩) (cell_lt h.1)).trans h.2.1, (hb.cell (p := ⟨4, 2, none⟩) (cell_lt h.1)).trans h.2.2⟩

set_option maxHeartbeats 400000 in
theorem asks_off (s : S8) (hs : s.Ok) (h : (s.st &&& 8 == 0) = true) (l : Nat) (w : World) :
    Calls Tryd.prog 38 #[.agg s.cells, .int .u32 l] w fun e w' => e = .returned (.int .u32 0) ∧ ∃ o, w' = w.alloc o := by
  obtain ⟨st, en, ve, sc, ep, ca, va, ct⟩ := s
  have t0 := mask_eq st 8 hs.st (by decide)
  rw [show ((8 : Nat) : Int) = 8 from rfl, h] at t0
  show Calls Tryd.prog 38 #[.agg #[.int .u32 st, .int .u32 en, .int .u32 ve, .int .u32 sc, .int .u32 ep, .int .u32 ca, .int .u32 va, .int .u64 ct], .int .u32 l] w _
  go_enter Tryd.func38, Tryd.ntmps38
  go_wp2
  go_ret
  exact ⟨rfl, _, rfl⟩

theorem order_0 (w : World) : (Instr.index 126 (.agg #[.int .u32 11, .int .u32 3, .int .u32 7]) (.int .i64 0)).run Tryd.prog w = .ok (.int .u32 11) w := by kernel_rfl
theorem order_1 (w : World) : (Instr.index 126 (.agg #[.int .u32 11, .int .u32 3, .int .u32 7]) (.int .i64 1)).run Tryd.prog w = .ok (.int .u32 3) w := by kernel_rfl
theorem order_2 (w : World) : (Instr.index 126 (.agg #[.int .u32 11, .int .u32 3, .int .u32 7]) (.int .i64 2)).run Tryd.prog w = .ok (.int .u32 7) w := by kernel_rfl

set_option maxHeartbeats 1000000 in
set_option maxRecDepth 100000 in
theorem asks_on (s : S8) (hs : s.Ok) (h : (s.st &&& 8 == 0) = false) (l : Nat) (hl : l < 4294967296) (w : World) (hO : OrderAt w) :
    Calls Tryd.prog 38 #[.agg s.cells, .int .u32 l] w fun e w' => e = .returned (.int .u32 (asksN s.st s.en l : Nat)) ∧ ∃ o, w' = w.alloc o := by
  obtain ⟨st, en, ve, sc, ep, ca, va, ct⟩ := s
  have t0 := mask_eq st 8 hs.st (by decide)
  rw [show ((8 : Nat) : Int) = 8 from rfl, h] at t0
  obtain ⟨o0, o1, o2⟩ := hO
  have c0 := cell_al o0
  have c1 := cell_al o1
  have c2 := cell_al o2
  clear o0 o1 o2
  have hL : l &&& en < 4294967296 := and_lt hl
  have ha : bits .and .u32 (l : Int) (en : Int) = ((l &&& en : Nat) : Int) := u32_and_nat l en hl hs.en
  have t11 := mask_ne (l &&& en) 2048 hL (by decide)
  have t3 := mask_ne (l &&& en) 8 hL (by decide)
  have t7 := mask_ne (l &&& en) 128 hL (by decide)
  rw [show ((2048 : Nat) : Int) = 2048 from rfl] at t11
  rw [show ((8 : Nat) : Int) = 8 from rfl] at t3
  rw [show ((128 : Nat) : Int) = 128 from rfl] at t7
  have HA : Hid (asksN st en l = if ((l &&& en) &&& 2048 != 0) = true then 2147483659 else if ((l &&& en) &&& 8 != 0) = true then 2147483651 else if ((l &&& en) &&& 128 != 0) = true then 2147483655 else 0) := by
    show _ = _; unfold asksN; rw [if_neg (by rw [h]; decide)]
  show Calls Tryd.prog 38 #[.agg #[.int .u32 st, .int .u32 en, .int .u32 ve, .int .u32 sc, .int .u32 ep, .int .u32 ca, .int .u32 va, .int .u64 ct], .int .u32 l] w fun e w' => e = .returned (.int .u32 (asksN st en l : Nat)) ∧ _
  generalize asksN st en l = z at *
  generalize ((l &&& en) &&& 2048 != 0) = b0 at *
  generalize ((l &&& en) &&& 8 != 0) = b1 at *
  generalize ((l &&& en) &&& 128 != 0) = b2 at *
  generalize (l &&& en) = a at *
  clear h hL hs hl
  have x0 := order_0
  have x1 := order_1
  have x2 := order_2
  have o11 : bits .or .u32 2147483648 11 = 2147483659 := by decide +kernel
  have o3 : bits .or .u32 2147483648 3 = 2147483651 := by decide +kernel
  have o7 : bits .or .u32 2147483648 7 = 2147483655 := by decide +kernel
  go_enter Tryd.func38, Tryd.ntmps38
  go_wp2
  go_loop [17] (fun i => ∃ k : Nat, k ≤ 3 ∧ i = .int .i64 k ∧ (0 < k → b0 = false) ∧ (1 < k → b1 = false) ∧ (2 < k → b2 = false)) (fun i => 3 - (intOf i).toNat)
  case atStart => exact ⟨0, by omega, rfl, by omega, by omega, by omega⟩
  case round =>
    obtain ⟨k, hk, rfl, f0, f1, f2⟩ := hrel
    have hk' : k = 0 ∨ k = 1 ∨ k = 2 ∨ k = 3 := by omega
    rcases hk' with rfl | rfl | rfl | rfl
    · cases b0
      · go_wp2
        go_round
        case rel => exact ⟨1, by omega, by go_num, by simp, by omega, by omega⟩
        case measure => simp [intOf]
      · go_wp2
        go_ret
        exact ⟨ret_int (by rw [HA.out]; simp), _, rfl⟩
    · obtain rfl := f0 (by omega)
      cases b1
      · go_wp2
        go_round
        case rel => exact ⟨2, by omega, by go_num, by simp, by simp, by omega⟩
        case measure => simp [intOf]
      · go_wp2
        go_ret
        exact ⟨ret_int (by rw [HA.out]; simp), _, rfl⟩
    · obtain rfl := f0 (by omega)
      obtain rfl := f1 (by omega)
      cases b2
      · go_wp2
        go_round
        case rel => exact ⟨3, by omega, by go_num, by simp, by simp, by simp⟩
        case measure => simp [intOf]
      · go_wp2
        go_ret
        exact ⟨ret_int (by rw [HA.out]; simp), _, rfl⟩
    · obtain rfl := f0 (by omega)
      obtain rfl := f1 (by omega)
      obtain rfl := f2 (by omega)
      go_wp2
      go_ret
      exact ⟨ret_int (by rw [HA.out]; simp), _, rfl⟩

theorem cs_asks_any (s : S8) (hs : s.Ok) (l : Nat) (hl : l < 4294967296) (w : World) (hO : OrderAt w) :
    Calls Tryd.prog 38 #[.agg s.cells, .int .u32 l] w fun e w' => e = .returned (.int .u32 (asksN s.st s.en l : Nat)) ∧ ∃ o, w' = w.alloc o := by
  cases h : (s.st &&& 8 == 0) with
  | true =>
    have : asksN s.st s.en l = 0 := by unfold asksN; rw [if_pos h]
    rw [this]
    exact asks_off s hs h l w
  | false => exact asks_on s hs h l hl w hO
end Go.Proofs.YtelakpogochifaaDoor
