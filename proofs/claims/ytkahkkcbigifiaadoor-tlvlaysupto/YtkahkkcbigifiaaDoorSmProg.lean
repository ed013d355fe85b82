/-
  The sum's program: four bits, one bit, products.
-/
import Derived.Test.YtkahkkcbigifiaaDoorSmTab
import Derived.Test.YtkahkkcbigifiaaDoorSmBy
import Derived.Laws.BitsLemmas
namespace Go.Proofs.YtkahkkcbigifiaaDoor
open Go.RowKit
set_option linter.unusedVariables false

def TabAt (w : World) : Prop := ∀ j, j < 16 → w.cell? ⟨1, j, none⟩ = some (.int .u32 (tabV j : Nat))
theorem TabAt.lt {w : World} (h : TabAt w) : 1 < w.heap.size := block_lt_of_cell (h 0 (by decide))
theorem TabAt.below {w w' : World} (h : TabAt w) (hb : Below w.heap.size w w') : TabAt w' := fun j hj => (hb.cell (p := ⟨1, j, none⟩) h.lt).trans (h j hj)
theorem TabAt.onl {w W : World} {g : Nat} (h : TabAt w) (ho : Only g w W) (hg : 1 ≠ g) : TabAt W := fun j hj => (World.cell?_of_block (a := ⟨1, j, none⟩) (ho.row _ hg)).trans (h j hj)

theorem xor_u32 (a b : Nat) (ha : a < 4294967296) (hb : b < 4294967296) : bits .xor .u32 (a : Nat) (b : Nat) = ((a ^^^ b : Nat) : Int) := by
  have ha' : a % 2 ^ 32 = a := Nat.mod_eq_of_lt ha
  have hb' : b % 2 ^ 32 = b := Nat.mod_eq_of_lt hb
  have := xor_lt32 ha hb
  simp only [bits, show IntKind.u32.bits = 32 from rfl, BitVec.ofInt_natCast, BitVec.toNat_xor, BitVec.toNat_ofNat, ha', hb', IntKind.wrap_u32]
  omega
theorem four_bits {s : Nat} (h : s < 4294967296) : bits .xor .u32 ((s : Int) * 16 % 4294967296) (tabV (s / 268435456) : Nat) = ((zN 4 s : Nat) : Int) := by
  rw [← four_on h, ← xor_u32 _ _ (by omega) (tabV_lt _)]
  congr 1
theorem one_bits {s : Nat} (h : s < 4294967296) : bits .xor .u32 ((s : Int) * 2 % 4294967296) (tabV (s / 2147483648) : Nat) = ((zs s : Nat) : Int) := by
  rw [← one_on h, ← xor_u32 _ _ (by omega) (tabV_lt _)]
  congr 1

theorem fourOn_any (s : Nat) (hs : s < 4294967296) (w : World) (hT : TabAt w) :
    Calls Tryd.prog 64 #[.int .u32 (s : Nat)] w fun e w' => e = .returned (.int .u32 (zN 4 s : Nat)) ∧ w' = w := by
  have hc := hT (s / 268435456) (by omega)
  have HB := hide (four_bits hs)
  go_enter Tryd.func64, Tryd.ntmps64
  go_wp2
  go_ret
  exact ⟨ret_int HB.out, rfl⟩
end Go.Proofs.YtkahkkcbigifiaaDoor
