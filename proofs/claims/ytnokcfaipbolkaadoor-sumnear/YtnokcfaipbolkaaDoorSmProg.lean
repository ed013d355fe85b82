/-
  The sum's program: four bits, one bit, products.
-/
import Derived.Test.YtnokcfaipbolkaaDoorSmTab
import Derived.Test.YtnokcfaipbolkaaDoorSmBy
import Derived.Laws.BitsLemmas
namespace Go.Proofs.YtnokcfaipbolkaaDoor
open Go.RowKit
set_option linter.unusedVariables false

def TabAt (w : World) : Prop := ∀ j, j < 16 → w.cell? ⟨0, j, none⟩ = some (.int .u32 (tabV j : Nat))
theorem TabAt.lt {w : World} (h : TabAt w) : 0 < w.heap.size := block_lt_of_cell (h 0 (by decide))
theorem TabAt.below {w w' : World} (h : TabAt w) (hb : Below w.heap.size w w') : TabAt w' := fun j hj => (hb.cell (p := ⟨0, j, none⟩) h.lt).trans (h j hj)
theorem TabAt.onl {w W : World} {g : Nat} (h : TabAt w) (ho : Only g w W) (hg : 0 ≠ g) : TabAt W := fun j hj => (World.cell?_of_block (a := ⟨0, j, none⟩) (ho.row _ hg)).trans (h j hj)

theorem xor_u32 (a b : Nat) (ha : a < 4294967296) (hb : b < 4294967296) : bits .xor .u32 (a : Nat) (b : Nat) = ((a ^^^ b : Nat) : Int) := by
  have ha' : a % 2 ^ 32 = a := Nat.mod_eq_of_lt ha
  have hb' : b % 2 ^ 32 = b := Nat.mod_eq_of_lt hb
  have := xor_lt32 ha hb
  simp only [bits, show IntKind.u32.bits = 32 from rfl, BitVec.ofInt_natCast, BitVec.toNat_xor, BitVec.toNat_ofNat, ha', hb', IntKind.wrap_u32]
  omega
theorem four_bits {s : Nat} (h : s < 4294967296) : bits .xor .u32 ((s : Int) * 16 % 4294967296) (tabV (s / 268435456) : Nat) = ((zN 4 s : Nat) : Int) := by
  rw [← four_on h, ← xor_u32 _ _ (by omega) (tabV_lt _)]
  congr 1
theorem one_bits {s : Nat} (h : s < 4294967296) : bits .xor .u32 ((s : Int) * 2 % 4294967296) (tabV (s / 2147483648) : Nat) = ((zs s : Nat) : Int) := by
  rw [← one_on h, ← xor_u32 _ _ (by omega) (tabV_lt _)]
  congr 1

theorem fourOn_any (s : Nat) (hs : s < 4294967296) (w : World) (hT : TabAt w) :
    Calls Tryd.prog 21 #[.int .u32 (s : Nat)] w fun e w' => e = .returned (.int .u32 (zN 4 s : Nat)) ∧ w' = w := by
  have hc := hT (s / 268435456) (by omega)
  have HB := hide (four_bits hs)
  go_enter Tryd.func21, Tryd.ntmps21
  go_wp2
  go_ret
  exact ⟨ret_int HB.out, rfl⟩
theorem oneOn_any (s : Nat) (hs : s < 4294967296) (w : World) (hT : TabAt w) :
    Calls Tryd.prog 30 #[.int .u32 (s : Nat)] w fun e w' => e = .returned (.int .u32 (zs s : Nat)) ∧ w' = w := by
  have hc := hT (s / 2147483648) (by omega)
  have HB := hide (one_bits hs)
  go_enter Tryd.func30, Tryd.ntmps30
  go_wp2
  go_ret
  exact ⟨ret_int HB.out, rfl⟩

set_option maxHeartbeats 1000000 in
theorem times_any (a b : Nat) (ha : a < 4294967296) (hb : b < 4294967296) (w : World) (hT : TabAt w) :
    Calls Tryd.prog 25 #[.int .u32 (a : Nat), .int .u32 (b : Nat)] w fun e w' => e = .returned (.int .u32 (timesN a b : Nat)) ∧ w' = w := by
  have HT := hide hT
  clear hT
  go_enter Tryd.func25, Tryd.ntmps25
  go_wp2
  go_loop [0, 1, 5] (fun x y z => ∃ k : Nat, k ≤ 32 ∧ x = .int .u32 (a / 2 ^ k : Nat) ∧ y = .int .u32 (zN k b : Nat) ∧ z = .int .u32 (xorN (fun i => zN i b) a.testBit k : Nat)) (fun x _ _ => (intOf x).toNat)
  case atStart => exact ⟨0, by decide, by simp, rfl, rfl⟩
  case round =>
    obtain ⟨k, hk, rfl, rfl, rfl⟩ := hrel
    have hy : zN k b < 4294967296 := zN_lt k hb
    have hz : xorN (fun i => zN i b) a.testBit k < 4294967296 := xorN_lt k fun i _ => zN_lt i hb
    have hd : a / 2 ^ k ≤ a := Nat.div_le_self _ _
    have hs : a / 2 ^ k / 2 = a / 2 ^ (k + 1) := by rw [Nat.div_div_eq_div_mul, ← Nat.pow_succ]
    have HS := hide (show zs (zN k b) = zN (k + 1) b from by rw [zN_add]; rfl)
    have HT1 := hide (times_step a b k)
    have HE := hide (fun h => times_end a b k h hk)
    have HK := hide (fun (h : a / 2 ^ k ≠ 0) => show k < 32 by
      rcases Nat.lt_or_ge k 32 with h' | h'
      · exact h'
      · exact absurd (show a / 2 ^ k = 0 by rw [show k = 32 by omega]; omega) h)
    have HA := hide hs
    clear hs
    generalize zN k b = y at *
    generalize xorN (fun i => zN i b) a.testBit k = z at *
    generalize a / 2 ^ k = q at *
    by_cases h0 : q = 0
    · subst h0
      have he := hide (HE.out rfl)
      clear HE HK HT1 HA HS
      go_wp2
      go_ret
      exact ⟨ret_int (by rw [he.out]), rfl⟩
    · have hk2 := HK.out h0
      clear HE HK
      by_cases h1 : q % 2 = 1
      · have HZ := hide (HT1.out.trans (if_pos h1))
        have HX := hide (xor_u32 z y hz hy)
        clear HT1
        go_wp2_with (go_at_call 30; (with_reducible refine (oneOn_any _ hy _ HT.out).mono ?_); rintro e w' ⟨rfl, rfl⟩)
        go_round
        case rel => exact ⟨k + 1, hk2, by rw [← HA.out]; go_num, by rw [HS.out], by rw [HZ.out, HX.out]⟩
        case measure => simp [intOf]; omega
      · have HZ := hide (HT1.out.trans (if_neg h1))
        clear HT1
        go_wp2_with (go_at_call 30; (with_reducible refine (oneOn_any _ hy _ HT.out).mono ?_); rintro e w' ⟨rfl, rfl⟩)
        go_round
        case rel => exact ⟨k + 1, hk2, by rw [← HA.out]; go_num, by rw [HS.out], by rw [HZ.out]⟩
        case measure => simp [intOf]; omega
end Go.Proofs.YtnokcfaipbolkaaDoor
