/-
  What bits.TrailingZeros32 answers of a word that is not 0, and that bits.OnesCount32 answers some number from 0 to 255.
-/
import Derived.Test.YtcgnkkkeoeoenaaDoorBase
import Derived.Lib.TrailingZeros
import Derived.Lib.BitFns
import Derived.Laws.BitsAllLaws
import Derived.Deep.QuietTactic
import Derived.BigQuiet
import Derived.Below
import Derived.Laws.Rows
namespace Go.Proofs.YtcgnkkkeoeoenaaDoor
open Go.RowKit
set_option linter.unusedVariables false

/-- The table in its variable. -/
def TabAt (w : World) : Prop := ∀ j, j < 32 → w.cell? ⟨1, j, none⟩ = some (.int .u8 (Lib.deBruijn32tab.getD j 0 : Nat))

theorem tz_key (x : Nat) (h0 : x ≠ 0) (h : x < 4294967296) :
    bits .and .u32 (x : Int) ((-(x : Int)) % 4294967296) = ((2 ^ Lib.ctz 32 x : Nat) : Int) := by
  have e : (-(x : Int)) % 4294967296 = ((4294967296 - x : Nat) : Int) := by omega
  rw [e, u32_and_nat x (4294967296 - x) h (by omega)]
  have := (Lib.lowest_bit 32 x h0 h).1
  rw [show (2 : Nat) ^ 32 = 4294967296 from rfl] at this
  rw [this]

set_option maxHeartbeats 1000000 in
theorem tz_core (x k idx : Nat) (w : World) (hx0 : ((x : Int) == 0) = false)
    (key : bits .and .u32 (x : Int) ((-(x : Int)) % 4294967296) * 125613361 % 4294967296 / 134217728 = (idx : Int))
    (hi : idx < 32) (hk : k < 32) (hcell : w.cell? ⟨1, idx, none⟩ = some (.int .u8 k)) :
    Calls Tryd.prog 21 #[.int .u32 x] w fun e w' => e = .returned (.int .i64 k) ∧ w' = w := by
  go_enter Tryd.func21, Tryd.ntmps21
  go_wp2_with (simp only [key])
  go_ret
  exact ⟨rfl, rfl⟩

theorem tz_any (x : Nat) (h0 : x ≠ 0) (h : x < 4294967296) (w : World) (hT : TabAt w) :
    Calls Tryd.prog 21 #[.int .u32 x] w fun e w' => e = .returned (.int .i64 (Lib.ctz 32 x : Nat)) ∧ w' = w := by
  have hk := (Lib.lowest_bit 32 x h0 h).2
  have hd := Lib.deBruijn32_at _ hk
  have hcell := hT _ hd.1
  rw [hd.2] at hcell
  refine tz_core x (Lib.ctz 32 x) _ w (by simp; omega) ?_ hd.1 hk hcell
  rw [tz_key x h0 h]
  simp

theorem and255 (y : Nat) (h : y < 4294967296) : bits .and .u32 (y : Int) 255 = ((y % 256 : Nat) : Int) := by
  have := u32_and_nat y 255 h (by decide)
  have e : y &&& 255 = y % 256 := Nat.and_two_pow_sub_one_eq_mod y 8
  rw [e] at this
  exact this

theorem pop_at (i : Int) (h0 : 0 ≤ i) (h1 : i ≤ 255) : ∃ c : Nat, c ≤ 8 ∧ ∀ w, (Instr.index 9 (.string Lib.pop8tab) (.int .u32 i)).run Tryd.prog w = .ok (.int .u8 c) w := by
  obtain ⟨n, rfl⟩ := Int.eq_ofNat_of_zero_le h0
  refine ⟨Lib.onesCount n, Lib.onesCount_le8 ⟨n, by omega⟩, fun w => ?_⟩
  rw [Lib.run_index_pop8tab w _ _ _ Tryd.underlying9 h0 h1]
  have := Lib.pop8_eq ⟨n, by omega⟩
  simp only at this
  rw [this]

set_option maxHeartbeats 1000000 in
theorem ones_any (x : Nat) (h : x < 4294967296) (w : World) :
    Calls Tryd.prog 20 #[.int .u32 x] w fun e w' => (∃ c : Nat, c ≤ 255 ∧ e = .returned (.int .i64 c)) ∧ ∃ n, w' = w.drewN n := by
  have h1 := and255 (x / 65536) (by omega)
  have h2 := and255 (x / 256) (by omega)
  have h3 := and255 x h
  simp only [Int.natCast_ediv, Int.natCast_emod, Int.cast_ofNat_Int] at h1 h2 h3
  obtain ⟨c1, b1, i1⟩ := pop_at ((x : Int) / 16777216) (by omega) (by omega)
  obtain ⟨c2, b2, i2⟩ := pop_at ((x : Int) / 65536 % 256) (by omega) (by omega)
  obtain ⟨c3, b3, i3⟩ := pop_at ((x : Int) / 256 % 256) (by omega) (by omega)
  obtain ⟨c4, b4, i4⟩ := pop_at ((x : Int) % 256) (by omega) (by omega)
  go_enter Tryd.func20, Tryd.ntmps20
  go_wp2
  generalize ht : ByteArray.mk _ = tab
  have e : tab = Lib.pop8tab := by rw [← ht]; decide +kernel
  subst e
  clear ht
  go_quiet (fail)
  go_wp2
  go_ret
  exact ⟨⟨c1 + c2 + c3 + c4, by omega, ret_int (by omega)⟩, nq, rfl⟩

theorem TabAt.lt {w : World} (h : TabAt w) : 1 < w.heap.size := block_lt_of_cell (h 0 (by decide))
theorem TabAt.below {w w' : World} {B : Nat} (h : TabAt w) (hb : Below B w w') (hB : 1 < B) : TabAt w' := fun j hj => (hb.cell (p := ⟨1, j, none⟩) hB).trans (h j hj)
end Go.Proofs.YtcgnkkkeoeoenaaDoor
