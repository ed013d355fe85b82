/-
  What the document's Encode answers, the forms whose number stands in one piece, or that have none.
-/
import Derived.Test.YtoekcfbjdcibpaaGreatDoorBase
import Derived.OwnWalk
import Derived.WalkSmall
import Derived.Maps.AppendAt
import Derived.Below
import Derived.Test.YtoekcfbjdcibpaaGreatDoorJD
import Derived.Test.YtoekcfbjdcibpaaGreatDoorInEnc
import Derived.Test.YtoekcfbjdcibpaaGreatDoorInForm
import Derived.Test.YtoekcfbjdcibpaaGreatDoorJC
import Derived.Deep.RegionHeld3
namespace Go.Proofs.YtoekcfbjdcibpaaGreatDoor
open Go.RowKit
set_option linter.unusedVariables false

theorem div_step (v k : Nat) : v / 2 ^ k / 2 = v / 2 ^ (k + 1) := by rw [Nat.div_div_eq_div_mul, ← Nat.pow_succ]

set_option maxHeartbeats 400000 in
theorem bit_any (v : Nat) (hv : v < 4294967296) (a : Int) (w : World) :
    Calls Tryz.prog 82 #[.int .u32 v, .int .i64 a] w fun e w' => e = .returned (.int .i64 (bitN v a)) ∧ w' = w := by
  by_cases h : 0 ≤ a ∧ a ≤ 31
  · obtain ⟨h1, h2⟩ := h
    obtain ⟨n, rfl⟩ := Int.eq_ofNat_of_zero_le h1
    have hn : n ≤ 31 := by omega
    have hb : bitN v n = v / 2 ^ n % 2 := by unfold bitN; rw [if_pos (by omega)]; simp
    rw [hb]
    clear hb
    go_enter Tryz.func82, Tryz.ntmps82
    go_wp2
    go_loop [0, 5] (fun x i => ∃ k : Nat, k ≤ n ∧ i = .int .i64 k ∧ x = .int .u32 (v / 2 ^ k : Nat)) (fun _ i => n - (intOf i).toNat)
    case atStart => exact ⟨0, Nat.zero_le _, rfl, by simp⟩
    case round =>
      obtain ⟨k, hk, rfl, rfl⟩ := hrel
      have hd : v / 2 ^ k ≤ v := Nat.div_le_self _ _
      by_cases hlt : k < n
      · have hs := div_step v k
        have HS : Hid (v / 2 ^ k / 2 = v / 2 ^ (k + 1)) := hs
        clear hs
        generalize v / 2 ^ k = q at *
        go_wp2
        go_round
        case rel => exact ⟨k + 1, by omega, by go_num, by rw [← HS.out]; go_num⟩
        case measure => simp [intOf]; omega
      · obtain rfl : k = n := by omega
        generalize hq : v / 2 ^ k = q at *
        have HR : Hid ((q : Int) = (v : Int) / 2 ^ k) := by show _ = _; rw [← hq]; simp
        clear hq
        go_wp2
        go_ret
        exact ⟨ret_int (by rw [HR.out]), rfl⟩
  · have hb : bitN v a = 0 := by unfold bitN; rw [if_neg h]
    rw [hb]
    clear hb
    by_cases h0 : a < 0
    · go_enter Tryz.func82, Tryz.ntmps82
      go_wp2
      go_ret
      exact ⟨rfl, rfl⟩
    · have h31 : 31 < a := by omega
      go_enter Tryz.func82, Tryz.ntmps82
      go_wp2
      go_ret
      exact ⟨rfl, rfl⟩

end Go.Proofs.YtoekcfbjdcibpaaGreatDoor
namespace Go.Proofs.YtoekcfbjdcibpaaGreatDoor
open Go.RowKit
set_option linter.unusedVariables false

theorem infoInt : (Tryz.prog.info? 3).map (fun i => (i.zero, i.size, i.bytes)) = some (some (.int .i64 0), 1, 8) := by kernel_rfl

def intsOf (l : List Nat) : List Value := l.map fun (x : Nat) => Value.int .i64 (x : Int)
theorem intsOf_snoc (l : List Nat) (x : Nat) : intsOf (l ++ [x]) = intsOf l ++ [.int .i64 (x : Int)] := by simp [intsOf]
theorem intsOf_length (l : List Nat) : (intsOf l).length = l.length := by simp [intsOf]

theorem own_ge {w : World} {base : Nat} {e : TypeId} {size n : Nat} {v : Value} {xs : List Value} (h : w.ownsRow base e size v n xs) : ∀ k, v.ownBlock = some k → base ≤ k := by
  intro k hk
  rcases h.2 with ⟨rfl, _⟩ | ⟨g, cap, cur, rfl, hg, _⟩
  · simp [Value.ownBlock] at hk
  · simp [Value.ownBlock] at hk; omega

/-- The first places from one on downwards. -/
def downK (a k : Nat) : List Nat := (List.range k).map fun j => a - j
theorem downK_succ (a k : Nat) : downK a (k + 1) = downK a k ++ [a - k] := by simp [downK, List.range_succ]
theorem downK_length (a k : Nat) : (downK a k).length = k := by simp [downK]

/-- A slice of the call's own that holds these numbers. -/
def Own (base : Nat) (W : World) (v : Value) (l : List Nat) : Prop := W.ownsRow base 3 1 v l.length (intsOf l)

theorem Own.nil (base : Nat) (W : World) : Own base W (.slice none 0 0) [] := World.ownsRow_nil _ _ _ _

set_option maxHeartbeats 2000000 in
set_option maxRecDepth 100000 in
theorem down_any (base : Nat) (l : Value) (xs : List Nat) (a b : Nat) (hab : b ≤ a + 1) (ha : a ≤ 100) (hl : xs.length ≤ 100) (w : World) (hown : Own base w l xs) (hbase : base ≤ w.heap.size) :
    Calls Tryz.prog 80 #[l, .int .i64 a, .int .i64 b] w fun e w' => ∃ v, e = .returned v ∧ Own base w' v (xs ++ downK a (a + 1 - b)) ∧ Below base w w' := by
  obtain ⟨i0, hi, hz0, hz1, hz2⟩ := info_parts infoInt
  have HO := hide hown
  have HG := hide hbase
  clear hown
  go_enter Tryz.func80, Tryz.ntmps80
  go_wp2
  go_loopw [0, 7] (fun lv iv wr => ∃ k : Nat, k ≤ a + 1 - b ∧ iv = .int .i64 ((a : Int) - k) ∧ Own base wr lv (xs ++ downK a k) ∧ Below base w wr) (fun _ iv _ => (intOf iv + 1).toNat)
  case atStart => exact ⟨0, by omega, by simp, by simpa [downK] using HO.out, Below.refl _ _⟩
  case round =>
    obtain ⟨k, hk, rfl, hrow, hB⟩ := hrel
    by_cases hlt : k < a + 1 - b
    · obtain ⟨m, hm⟩ : ∃ m : Nat, (a : Int) - k = m := ⟨a - k, by omega⟩
      have HS : Hid (xs ++ downK a (k + 1) = (xs ++ downK a k) ++ [m]) := by show _ = _; rw [downK_succ, show a - k = m by omega, List.append_assoc]
      have hll : (xs ++ downK a k).length ≤ 300 := by rw [List.length_append, downK_length]; omega
      generalize xs ++ downK a k = ys at *
      have HGE := hide (own_ge hrow)
      have hsz : base ≤ wr.heap.size := Nat.le_trans HG.out hB.size
      unfold Own at hrow
      have hmb : (b : Int) ≤ m := by omega
      have HM := hide hm
      rw [hm]
      have ha2 : m ≤ 100 := by omega
      clear hm
      go_wp2_with (first | (at_builtin; refine wpList_append_own _ rfl _ _ 47 rfl base 3 i0 (.int .i64 0) 1 8 Tryz.underlying47 hi hz0 hz1 hz2 rfl (by decide) _ _ _ rfl (hrow.alloc _) ⟨_, 0, none⟩ 1 1 [.int .i64 (m : Int)] rfl rfl (cell_one_new _ _ _) (by simp [Value.oneCell']) (by unfold maxLen; omega) (by omega) (by simp; omega) ?_; intro v' w4 hown' hgrow' _))
      go_roundw
      case rel => exact ⟨k + 1, by omega, by have := HM.out; congr 1; omega, by unfold Own; rw [HS.out, intsOf_snoc, List.length_append]; exact hown', (hB.alloc hsz _).grown hgrow' (by simp; omega) HGE.out⟩
      case measure => simp [intOf]
    · obtain rfl : k = a + 1 - b := by omega
      have hlt2 : (a : Int) - ((a + 1 - b : Nat) : Int) < b := by omega
      generalize (a : Int) - ((a + 1 - b : Nat) : Int) = z at *
      go_wp2
      go_ret
      exact ⟨_, rfl, hrow, hB⟩

theorem Own.cells {base : Nat} {W : World} {v : Value} {l : List Nat} (h : Own base W v l) (h0 : l ≠ []) : ∃ g cap, v = .slice (some ⟨g, 0, none⟩) l.length cap ∧ l.length ≤ cap ∧ cap ≤ maxLen ∧ ∀ j, j < l.length → W.cell? ⟨g, j, none⟩ = some (.int .i64 (l.getD j 0 : Nat)) := by
  obtain ⟨_, hh⟩ := h
  rcases hh with ⟨rfl, hl⟩ | ⟨g, cap, cur, rfl, hg, hcur, hcap, hmax, hsz, htake⟩
  · exact absurd (List.eq_nil_of_length_eq_zero hl) h0
  · refine ⟨g, cap, rfl, hcap, hmax, ?_⟩
    intro j hj
    rw [cell_of_row _ _ _ _ _ (0, 0) hcur]
    have e : cur[j]? = (cur.toList.take (l.length * 1))[j]? := by
      rw [List.getElem?_take_of_lt (by omega)]; simp
    rw [e, htake, intsOf, List.getElem?_map, List.getElem?_eq_getElem hj, List.getD_eq_getElem?_getD, List.getElem?_eq_getElem hj]
    rfl

/-- The number of the bits at some places, the highest first and with its sign, as far as they have come. -/
def bitsF (v : Nat) (ps : List Nat) : Nat → Int
  | 0 => 0
  | 1 => -((bitN v (ps.getD 0 0 : Nat) : Nat) : Int)
  | k + 2 => 2 * bitsF v ps (k + 1) + ((bitN v (ps.getD (k + 1) 0 : Nat) : Nat) : Int)

theorem bitsF_bound (v : Nat) (ps : List Nat) : ∀ k, -(2 ^ k : Nat) ≤ bitsF v ps k ∧ bitsF v ps k < (2 ^ k : Nat)
  | 0 => by simp [bitsF]
  | 1 => by
    have := bitN_le v (ps.getD 0 0 : Nat)
    simp only [bitsF]; omega
  | k + 2 => by
    have h := bitsF_bound v ps (k + 1)
    have hb := bitN_le v (ps.getD (k + 1) 0 : Nat)
    have hp : 0 < 2 ^ (k + 1) := Nat.pow_pos (by decide)
    rw [Nat.pow_succ 2 (k + 1)]
    simp only [bitsF]
    omega
end Go.Proofs.YtoekcfbjdcibpaaGreatDoor
namespace Go.Proofs.YtoekcfbjdcibpaaGreatDoor
open Go.RowKit
set_option linter.unusedVariables false

/-- The cells of thirty-two numbers, of which the first k are f's, the others 0. -/
def rowOf (f : Nat → Nat) (k : Nat) : Array Value := ((List.range 32).map fun j => Value.int .i64 ((if j < k then f j else 0 : Nat) : Int)).toArray

theorem rowOf_size (f : Nat → Nat) (k : Nat) : (rowOf f k).size = 32 := by simp [rowOf]

theorem rowOf_at (f : Nat → Nat) (k j : Nat) (h : j < 32) : (rowOf f k)[j]? = some (.int .i64 ((if j < k then f j else 0 : Nat) : Int)) := by
  simp [rowOf, h]

theorem rowOf_set (f : Nat → Nat) (k : Nat) (h : k < 32) : (rowOf f k).setIfInBounds k (.int .i64 (f k)) = rowOf f (k + 1) := by
  apply Array.ext
  · simp [rowOf]
  · intro i h1 h2
    by_cases e : i = k
    · subst e; simp [rowOf]
    · have h1' : i < 32 := by simpa [rowOf] using h1
      rw [Array.getElem_setIfInBounds_ne (by simpa [rowOf] using h1) (fun x => e x.symm)]
      simp only [rowOf, List.getElem_toArray, List.getElem_map, List.getElem_range]
      by_cases hk : i < k
      · simp [hk, show i < k + 1 by omega]
      · simp [hk, show ¬ i < k + 1 by omega]

theorem rowOf_zero (f : Nat → Nat) : rowOf f 0 = (List.replicate 32 (Value.int .i64 0)).toArray := by
  simp [rowOf, List.range_succ]

/-- One block more, or two, and nothing else. -/
def Own1 (w w' : World) : Prop := ∃ o, w' = w.alloc o
def Own2 (w w' : World) : Prop := ∃ o o', w' = (w.alloc o).alloc o'
theorem Own1.bel {w w' : World} (h : Own1 w w') : Below w.heap.size w w' := by
  obtain ⟨o, rfl⟩ := h
  exact (Below.refl _ w).alloc (Nat.le_refl _) _
theorem Own2.bel {w w' : World} (h : Own2 w w') : Below w.heap.size w w' := by
  obtain ⟨o, o', rfl⟩ := h
  exact ((Below.refl _ w).alloc (Nat.le_refl _) _).alloc (by simp) _
theorem Own1.setCell {w wr : World} (h : Own1 w wr) {p : Addr} (hp : p.block = w.heap.size) (u : Value) : Own1 w (wr.setCell p u) := by
  obtain ⟨o, rfl⟩ := h
  refine ⟨((fun | .cells c elem frozen => .cells (if p.spot.isSome then c else c.setIfInBounds p.off u) elem frozen | o => o) : Obj → Obj) o, ?_⟩
  unfold World.setCell World.alloc
  congr 1
  apply Array.ext_getElem?
  intro k
  rw [Array.getElem?_modify, hp]
  by_cases hk : w.heap.size = k
  · subst hk
    simp
    cases o <;> rfl
  · have hk' : k ≠ w.heap.size := fun e => hk e.symm
    simp [hk, hk', Array.getElem?_push]
theorem Own1.two {w a b : World} (h : Own1 w a) (k : Own1 a b) : Own2 w b := by
  obtain ⟨o, rfl⟩ := h
  obtain ⟨p, rfl⟩ := k
  exact ⟨o, p, rfl⟩

set_option maxHeartbeats 1000000 in
set_option maxRecDepth 100000 in
theorem from_ex (f : Nat → Nat) (hf : ∀ j, f j ≤ 1) (w : World) :
    Calls Tryz.prog 112 #[.agg (rowOf f 32)] w fun e w' => e = .returned (.int .u32 (num f 32 : Nat)) ∧ Own1 w w' := by
  generalize hW : w.alloc (.cells (rowOf f 32) 176) = W
  have hcell : ∀ j, j < 32 → W.cell? ⟨w.heap.size, j, none⟩ = some (.int .i64 (f j : Nat)) := by
    intro j hj
    rw [← hW, cell_of_row _ _ _ _ _ (0, 0) (heap_alloc_new w _), rowOf_at f 32 j hj]
    simp [hj]
  have hbel : Own1 w W := ⟨_, hW.symm⟩
  go_enter Tryz.func112, Tryz.ntmps112
  generalize hr : rowOf f 32 = cs at *
  go_wp2
  go_loop [3, 4] (fun x i => ∃ k : Nat, k ≤ 32 ∧ i = .int .i64 ((k : Int) - 1) ∧ x = .int .u32 (num (fun j => f (j + k)) (32 - k) : Nat)) (fun _ i => (intOf i + 1).toNat)
  case atStart => exact ⟨32, Nat.le_refl _, by rfl, by rfl⟩
  case round =>
    obtain ⟨k, hk, rfl, rfl⟩ := hrel
    cases k with
    | zero =>
      go_wp2
      go_ret
      exact ⟨rfl, hbel⟩
    | succ k =>
      have hx := hf k
      have hc := hcell k (by omega)
      have hnum := num_low (fun j => f (j + k)) (32 - (k + 1))
      have hlt := num_lt (fun j => f (j + (k + 1))) (fun j => hf _) (32 - (k + 1))
      have hle : 2 ^ (32 - (k + 1)) ≤ 2 ^ 31 := Nat.pow_le_pow_right (by decide) (by omega)
      have e1 : 32 - (k + 1) + 1 = 32 - k := by omega
      have e2 : (fun j => f (j + 1 + k)) = fun j => f (j + (k + 1)) := by funext j; congr 1; omega
      simp only [Nat.zero_add, e1, e2] at hnum
      have HN : Hid (num (fun j => f (j + k)) (32 - k) = f k + 2 * num (fun j => f (j + (k + 1))) (32 - (k + 1))) := hnum
      have hb : num (fun j => f (j + (k + 1))) (32 - (k + 1)) ≤ 2147483647 := by omega
      clear hnum hlt hle e1 e2 hf hcell
      generalize num (fun j => f (j + (k + 1))) (32 - (k + 1)) = q at *
      generalize f k = x at *
      go_wp2
      go_round
      case rel => exact ⟨k, by omega, by go_num, by rw [HN.out]; go_num⟩
      case measure => simp [intOf]
theorem from_any (f : Nat → Nat) (hf : ∀ j, f j ≤ 1) (w : World) :
    Calls Tryz.prog 112 #[.agg (rowOf f 32)] w fun e w' => e = .returned (.int .u32 (num f 32 : Nat)) ∧ Below w.heap.size w w' :=
  (from_ex f hf w).mono fun _ _ ⟨he, h⟩ => ⟨he, h.bel⟩
end Go.Proofs.YtoekcfbjdcibpaaGreatDoor
namespace Go.Proofs.YtoekcfbjdcibpaaGreatDoor
open Go.RowKit

/-- Block b holds the row of f as far as k. -/
def Holds32 (W : World) (b : Nat) (f : Nat → Nat) (k : Nat) : Prop := W.heap[b]? = some (.cells (rowOf f k) 176 (0, 0))

theorem Holds32.cell {W : World} {b : Nat} {f : Nat → Nat} {k : Nat} (h : Holds32 W b f k) (j : Nat) (hj : j < 32) :
    W.cell? ⟨b, j, none⟩ = some (.int .i64 ((if j < k then f j else 0 : Nat) : Int)) := by
  rw [cell_of_row _ _ _ _ _ (0, 0) h, rowOf_at f k j hj]

theorem Holds32.here {W : World} {b : Nat} {f : Nat → Nat} {k : Nat} (h : Holds32 W b f k) (hk : k < 32) :
    W.cell? ⟨b, k, none⟩ = some (.int .i64 0) := by
  rw [h.cell k hk]; simp

theorem Holds32.thaw {W : World} {b : Nat} {f : Nat → Nat} {k : Nat} (h : Holds32 W b f k) (j : Nat) : W.frozen? ⟨b, j, none⟩ = false :=
  frozen_of_row W b j _ _ h

theorem Holds32.put {W : World} {b : Nat} {f : Nat → Nat} {k : Nat} (h : Holds32 W b f k) (hk : k < 32) :
    Holds32 (W.setCell ⟨b, k, none⟩ (.int .i64 (f k : Nat))) b f (k + 1) := by
  unfold Holds32
  rw [heap_setCell_same W b k _ _ _ h, rowOf_set f k hk]

theorem Holds32.new (w : World) (f : Nat → Nat) : Holds32 (w.alloc (.cells (List.replicate 32 (Value.int .i64 0)).toArray 176)) w.heap.size f 0 := by
  unfold Holds32
  rw [rowOf_zero, heap_alloc_new]

theorem Holds32.put2 {W : World} {b : Nat} {f : Nat → Nat} {k : Nat} (h : Holds32 W b f k) (hk : k < 32) (u : Value) :
    Holds32 ((W.setCell ⟨b, k, none⟩ u).setCell ⟨b, k, none⟩ (.int .i64 (f k : Nat))) b f (k + 1) := by
  unfold Holds32
  rw [heap_setCell_same _ b k _ _ _ (heap_setCell_same W b k _ _ _ h), Array.setIfInBounds_setIfInBounds, rowOf_set f k hk]

set_option maxHeartbeats 1000000 in
set_option maxRecDepth 100000 in
theorem refset_ex (v : Nat) (hv : v < 4294967296) (lo n : Int) (hlo : -9223372036854775808 ≤ lo) (hn : n ≤ 9223372036854775807) (x : Nat) (hx : x < 4294967296) (w : World) :
    Calls Tryz.prog 81 #[.int .u32 v, .int .i64 lo, .int .i64 n, .int .u32 x] w fun e w' => e = .returned (.int .u32 (num (setBit v lo n x) 32 : Nat)) ∧ Own2 w w' := by
  have hnew := Holds32.new w (setBit v lo n x)
  have hz : (List.replicate 32 (Value.int .i64 0)).toArray = #[Value.int .i64 0, .int .i64 0, .int .i64 0, .int .i64 0, .int .i64 0, .int .i64 0, .int .i64 0, .int .i64 0, .int .i64 0, .int .i64 0, .int .i64 0, .int .i64 0, .int .i64 0, .int .i64 0, .int .i64 0, .int .i64 0, .int .i64 0, .int .i64 0, .int .i64 0, .int .i64 0, .int .i64 0, .int .i64 0, .int .i64 0, .int .i64 0, .int .i64 0, .int .i64 0, .int .i64 0, .int .i64 0, .int .i64 0, .int .i64 0, .int .i64 0, .int .i64 0] := by rfl
  rw [hz] at hnew
  clear hz
  have hbel : Own1 w (w.alloc (.cells #[Value.int .i64 0, .int .i64 0, .int .i64 0, .int .i64 0, .int .i64 0, .int .i64 0, .int .i64 0, .int .i64 0, .int .i64 0, .int .i64 0, .int .i64 0, .int .i64 0, .int .i64 0, .int .i64 0, .int .i64 0, .int .i64 0, .int .i64 0, .int .i64 0, .int .i64 0, .int .i64 0, .int .i64 0, .int .i64 0, .int .i64 0, .int .i64 0, .int .i64 0, .int .i64 0, .int .i64 0, .int .i64 0, .int .i64 0, .int .i64 0, .int .i64 0, .int .i64 0] 176)) := ⟨_, rfl⟩
  go_enter Tryz.func81, Tryz.ntmps81
  go_wp2
  go_loopw [10] (fun i wr => ∃ k : Nat, k ≤ 32 ∧ i = .int .i64 k ∧ Holds32 wr w.heap.size (setBit v lo n x) k ∧ Own1 w wr) (fun i _ => 32 - (intOf i).toNat)
  case atStart => exact ⟨0, Nat.zero_le _, rfl, hnew, hbel⟩
  case round =>
    obtain ⟨k, hk, rfl, hH, hB⟩ := hrel
    clear hnew hbel
    by_cases hlt : k < 32
    · have hc := hH.here hlt
      have hf := hH.thaw k
      have hone : setBit v lo n x k = bitN v (k : Int) → Holds32 (wr.setCell ⟨w.heap.size, k, none⟩ (.int .i64 (bitN v (k : Int) : Nat))) w.heap.size (setBit v lo n x) (k + 1) := fun h => by rw [← h]; exact hH.put hlt
      have htwo : ∀ (y : Nat), setBit v lo n x k = y → ∀ u, Holds32 ((wr.setCell ⟨w.heap.size, k, none⟩ u).setCell ⟨w.heap.size, k, none⟩ (.int .i64 (y : Nat))) w.heap.size (setBit v lo n x) (k + 1) := fun y h u => by rw [← h]; exact hH.put2 hlt u
      have H1 : Hid (_) := hone
      have H2 : Hid (_) := htwo
      clear hone htwo
      by_cases c1 : lo ≤ (k : Int)
      · by_cases c2 : -1000 < lo
        · by_cases c3 : (k : Int) - lo < n
          · have hs : setBit v lo n x k = bitN x ((k : Int) - lo) := by unfold setBit; rw [if_neg (by omega), if_pos (by omega)]
            have H3 : Hid (_) := H2.out _ hs
            clear hs H1 H2
            by_cases c4 : 0 ≤ lo
            · go_wp2_with (go_at_call 82; refine (bit_any _ (by assumption) _ _).mono ?_; rintro e w' ⟨rfl, rfl⟩)
              go_roundw
              case rel => exact ⟨k + 1, by omega, by go_num, H3.out _, (hB.setCell (p := ⟨w.heap.size, k, none⟩) rfl _).setCell (p := ⟨w.heap.size, k, none⟩) rfl _⟩
              case measure => simp [intOf]; omega
            · go_wp2_with (go_at_call 82; refine (bit_any _ (by assumption) _ _).mono ?_; rintro e w' ⟨rfl, rfl⟩)
              go_roundw
              case rel => exact ⟨k + 1, by omega, by go_num, H3.out _, (hB.setCell (p := ⟨w.heap.size, k, none⟩) rfl _).setCell (p := ⟨w.heap.size, k, none⟩) rfl _⟩
              case measure => simp [intOf]; omega
          · have hs : setBit v lo n x k = bitN v (k : Int) := by unfold setBit; rw [if_neg (by omega), if_neg (by omega)]
            have H3 : Hid (_) := H1.out hs
            clear hs H1 H2
            by_cases c4 : 0 ≤ lo
            · go_wp2_with (go_at_call 82; refine (bit_any _ (by assumption) _ _).mono ?_; rintro e w' ⟨rfl, rfl⟩)
              go_roundw
              case rel => exact ⟨k + 1, by omega, by go_num, H3.out, hB.setCell (p := ⟨w.heap.size, k, none⟩) rfl _⟩
              case measure => simp [intOf]; omega
            · go_wp2_with (go_at_call 82; refine (bit_any _ (by assumption) _ _).mono ?_; rintro e w' ⟨rfl, rfl⟩)
              go_roundw
              case rel => exact ⟨k + 1, by omega, by go_num, H3.out, hB.setCell (p := ⟨w.heap.size, k, none⟩) rfl _⟩
              case measure => simp [intOf]; omega
        · have c2' : lo ≤ -1000 := by omega
          clear c2
          by_cases c3 : 0 < n
          · by_cases c4 : (k : Int) < n + lo
            · have hs : setBit v lo n x k = 0 := by unfold setBit; rw [if_pos (by omega)]
              have H3 : Hid (_) := H2.out _ hs
              clear hs H1 H2
              go_wp2_with (go_at_call 82; refine (bit_any _ (by assumption) _ _).mono ?_; rintro e w' ⟨rfl, rfl⟩)
              go_roundw
              case rel => exact ⟨k + 1, by omega, by go_num, H3.out _, (hB.setCell (p := ⟨w.heap.size, k, none⟩) rfl _).setCell (p := ⟨w.heap.size, k, none⟩) rfl _⟩
              case measure => simp [intOf]; omega
            · have hs : setBit v lo n x k = bitN v (k : Int) := by unfold setBit; rw [if_neg (by omega), if_neg (by omega)]
              have H3 : Hid (_) := H1.out hs
              clear hs H1 H2
              go_wp2_with (go_at_call 82; refine (bit_any _ (by assumption) _ _).mono ?_; rintro e w' ⟨rfl, rfl⟩)
              go_roundw
              case rel => exact ⟨k + 1, by omega, by go_num, H3.out, hB.setCell (p := ⟨w.heap.size, k, none⟩) rfl _⟩
              case measure => simp [intOf]; omega
          · have hs : setBit v lo n x k = bitN v (k : Int) := by unfold setBit; rw [if_neg (by omega), if_neg (by omega)]
            have H3 : Hid (_) := H1.out hs
            clear hs H1 H2
            go_wp2_with (go_at_call 82; refine (bit_any _ (by assumption) _ _).mono ?_; rintro e w' ⟨rfl, rfl⟩)
            go_roundw
            case rel => exact ⟨k + 1, by omega, by go_num, H3.out, hB.setCell (p := ⟨w.heap.size, k, none⟩) rfl _⟩
            case measure => simp [intOf]; omega
      · have hs : setBit v lo n x k = bitN v (k : Int) := by unfold setBit; rw [if_neg (by omega), if_neg (by omega)]
        have H3 : Hid (_) := H1.out hs
        clear hs H1 H2
        go_wp2_with (go_at_call 82; refine (bit_any _ (by assumption) _ _).mono ?_; rintro e w' ⟨rfl, rfl⟩)
        go_roundw
        case rel => exact ⟨k + 1, by omega, by go_num, H3.out, hB.setCell (p := ⟨w.heap.size, k, none⟩) rfl _⟩
        case measure => simp [intOf]; omega
    · obtain rfl : k = 32 := by omega
      have hrow : wr.heap[w.heap.size]? = some (.cells (rowOf (setBit v lo n x) 32) 176 (0, 0)) := hH
      clear hH
      go_wp2_with (first | (refine wpList_load_row rfl 176 _ rfl w.heap.size rfl 176 (rowOf (setBit v lo n x) 32) (0, 0) _ hrow Tryz.underlying176 rfl (by rw [rowOf_size]; kernel_rfl) ?_) | (go_at_call 112; refine (from_ex (setBit v lo n x) (setBit_le v lo n x) _).mono ?_; rintro e w' ⟨rfl, hb2⟩))
      go_ret
      exact ⟨rfl, hB.two hb2⟩
theorem refset_any (v : Nat) (hv : v < 4294967296) (lo n : Int) (hlo : -9223372036854775808 ≤ lo) (hn : n ≤ 9223372036854775807) (x : Nat) (hx : x < 4294967296) (w : World) :
    Calls Tryz.prog 81 #[.int .u32 v, .int .i64 lo, .int .i64 n, .int .u32 x] w fun e w' => e = .returned (.int .u32 (num (setBit v lo n x) 32 : Nat)) ∧ Below w.heap.size w w' :=
  (refset_ex v hv lo n hlo hn x hx w).mono fun _ _ ⟨he, h⟩ => ⟨he, h.bel⟩
end Go.Proofs.YtoekcfbjdcibpaaGreatDoor
namespace Go.Proofs.YtoekcfbjdcibpaaGreatDoor
open Go.RowKit
set_option linter.unusedVariables false

/-- A literal's slice is the call's own. -/
theorem Own.new1 (w : World) (a : Nat) : Own w.heap.size (w.alloc (.cells #[.int .i64 a] 3)) (.slice (some ⟨w.heap.size, 0, none⟩) 1 1) [a] :=
  ⟨rfl, .inr ⟨w.heap.size, 1, _, rfl, Nat.le_refl _, heap_alloc_new w _, Nat.le_refl _, by unfold maxLen; decide, rfl, rfl⟩⟩
theorem Own.new2 (w : World) (a b : Nat) : Own w.heap.size (w.alloc (.cells #[.int .i64 a, .int .i64 b] 3)) (.slice (some ⟨w.heap.size, 0, none⟩) 2 2) [a, b] :=
  ⟨rfl, .inr ⟨w.heap.size, 2, _, rfl, Nat.le_refl _, heap_alloc_new w _, Nat.le_refl _, by unfold maxLen; decide, rfl, rfl⟩⟩

def placesJ : List Nat := (([31] ++ downK 19 8) ++ [20] ++ downK 30 6) ++ downK 24 4
def placesB : List Nat := ([31, 7] ++ downK 30 6) ++ downK 11 4
def placesS : List Nat := downK 31 7 ++ downK 11 5

end Go.Proofs.YtoekcfbjdcibpaaGreatDoor
namespace Go.Proofs.YtoekcfbjdcibpaaGreatDoor
open Go.RowKit
set_option linter.unusedVariables false

/-- Nothing that lay in a world of n blocks is turned. -/
def Off (w0 : World) (n : Nat) (w : World) : Prop := Below n w0 w ∧ w0.heap.size = n
theorem Off.step {w0 a b : World} {n : Nat} (h : Off w0 n a) (k : Below a.heap.size a b) : Off w0 n b := ⟨h.1.trans (k.mono (by rw [← h.2]; exact h.1.size)), h.2⟩
theorem Off.drew {w0 a : World} {n : Nat} (h : Off w0 n a) : Off w0 n a.drew := ⟨h.1.drew, h.2⟩
theorem Off.cell {w0 a b : World} {n g j : Nat} {c : Value} (h : Off w0 n a) (k : Below a.heap.size a b) (hg : g < n) (hc : a.cell? ⟨g, j, none⟩ = some c) : b.cell? ⟨g, j, none⟩ = some c :=
  (k.cell (p := ⟨g, j, none⟩) (Nat.lt_of_lt_of_le hg (by rw [← h.2]; exact h.1.size))).trans hc

theorem Calls.six {P : Program} {f : Nat} {args : Array Value} {g n : Nat} {w0 w1 : World} {c0 c1 c2 c3 c4 c5 r : Value} (hg : g < n)
    (hs : w1.cell? ⟨g, 0, none⟩ = some c0 ∧ w1.cell? ⟨g, 1, none⟩ = some c1 ∧ w1.cell? ⟨g, 2, none⟩ = some c2 ∧ w1.cell? ⟨g, 3, none⟩ = some c3 ∧ w1.cell? ⟨g, 4, none⟩ = some c4 ∧ w1.cell? ⟨g, 5, none⟩ = some c5 ∧ Off w0 n w1)
    (h : Calls P f args w1 fun e w2 => e = .returned r ∧ Below w1.heap.size w1 w2) :
    Calls P f args w1 fun e w2 => e = .returned r ∧ w2.cell? ⟨g, 0, none⟩ = some c0 ∧ w2.cell? ⟨g, 1, none⟩ = some c1 ∧ w2.cell? ⟨g, 2, none⟩ = some c2 ∧ w2.cell? ⟨g, 3, none⟩ = some c3 ∧ w2.cell? ⟨g, 4, none⟩ = some c4 ∧ w2.cell? ⟨g, 5, none⟩ = some c5 ∧ Off w0 n w2 :=
  h.mono fun e w2 ⟨he, hb⟩ => ⟨he, hs.2.2.2.2.2.2.cell hb hg hs.1, hs.2.2.2.2.2.2.cell hb hg hs.2.1, hs.2.2.2.2.2.2.cell hb hg hs.2.2.1, hs.2.2.2.2.2.2.cell hb hg hs.2.2.2.1, hs.2.2.2.2.2.2.cell hb hg hs.2.2.2.2.1, hs.2.2.2.2.2.2.cell hb hg hs.2.2.2.2.2.1, hs.2.2.2.2.2.2.step hb⟩


theorem ret_enc {a b : Int} (h : a = b) : Ending.returned (.tuple #[.int .u32 a, .int .i64 0]) = .returned (.tuple #[.int .u32 b, .int .i64 0]) := by rw [h]

/-- The first of an instruction's word: all but the number. -/
theorem base_word (W rd rs1 rs2 csr : Nat) (hW : W < 4294967296) (h1 : rd < 32) (h2 : rs1 < 32) (h3 : rs2 < 32) (h4 : csr < 4096) (h : W + rd * 128 + rs1 * 32768 + rs2 * 1048576 + csr * 1048576 < 4294967296) :
    IntKind.u32.wrap (IntKind.u32.wrap (IntKind.u32.wrap (IntKind.u32.wrap ((W : Int) + IntKind.u32.wrap (IntKind.u32.wrap (rd : Int) * 128)) + IntKind.u32.wrap (IntKind.u32.wrap (rs1 : Int) * 32768)) + IntKind.u32.wrap (IntKind.u32.wrap (rs2 : Int) * 1048576)) + IntKind.u32.wrap (IntKind.u32.wrap (csr : Int) * 1048576)) = ((W + rd * 128 + rs1 * 32768 + rs2 * 1048576 + csr * 1048576 : Nat) : Int) := by
  simp only [IntKind.wrap_u32']
  omega
end Go.Proofs.YtoekcfbjdcibpaaGreatDoor
namespace Go.Proofs.YtoekcfbjdcibpaaGreatDoor
open Go.RowKit
set_option linter.unusedVariables false

theorem Own.lt {base : Nat} {w : World} {v : Value} {l : List Nat} (h : Own base w v l) : ∀ k, v.ownBlock = some k → k < w.heap.size := by
  intro k hk
  rcases h.2 with ⟨rfl, _⟩ | ⟨g, cap, cur, rfl, hg, hcur, _⟩
  · simp [Value.ownBlock] at hk
  · simp [Value.ownBlock] at hk
    subst hk
    exact (Array.getElem?_eq_some_iff.1 hcur).1
theorem Own.keep {base B : Nat} {w w' : World} {v : Value} {l : List Nat} (h : Own base w v l) (hb : Below B w w') (hB : w.heap.size ≤ B) : Own base w' v l := by
  have hlt := h.lt
  refine ⟨h.1, ?_⟩
  rcases h.2 with ⟨rfl, h0⟩ | ⟨g, cap, cur, rfl, hg, hcur, h1, h2, h3, h4⟩
  · exact .inl ⟨rfl, h0⟩
  · exact .inr ⟨g, cap, cur, rfl, hg, (hb.block g (Nat.lt_of_lt_of_le (hlt g rfl) hB)).trans hcur, h1, h2, h3, h4⟩
theorem Own.news {base : Nat} {w : World} {v : Value} {l : List Nat} (h : Own base w v l) (h0 : l ≠ []) : ∃ g cap, v = .slice (some ⟨g, 0, none⟩) l.length cap ∧ ∀ j u, (intsOf l)[j]? = some u → w.cell? ((⟨g, 0, none⟩ : Addr).add j) = some u := by
  obtain ⟨g, cap, rfl, _, _, hc⟩ := h.cells h0
  refine ⟨g, cap, rfl, ?_⟩
  intro j u hu
  have hj : j < l.length := by
    rcases Nat.lt_or_ge j l.length with h | h
    · exact h
    · rw [List.getElem?_eq_none (by rw [intsOf_length]; exact h)] at hu; cases hu
  have ha : (⟨g, 0, none⟩ : Addr).add j = ⟨g, j, none⟩ := by unfold Addr.add; split <;> simp_all
  rw [ha, hc j hj, ← hu, intsOf, List.getElem?_map, List.getElem?_eq_getElem hj, List.getD_eq_getElem?_getD, List.getElem?_eq_getElem hj]
  rfl
theorem Own.cellsN {base : Nat} {w : World} {v : Value} {l : List Nat} (h : Own base w v l) (m : Nat) (hm : l.length = m) (h0 : m ≠ 0) : ∃ g cap, v = .slice (some ⟨g, 0, none⟩) m cap ∧ m ≤ cap ∧ ∀ j, j < m → w.cell? ⟨g, j, none⟩ = some (.int .i64 (l.getD j 0 : Nat)) := by
  subst hm
  obtain ⟨g, cap, rfl, h1, _, hc⟩ := h.cells (fun e => h0 (by rw [e]; rfl))
  exact ⟨g, cap, rfl, h1, hc⟩
theorem ints_one (l : List Nat) : ∀ u ∈ intsOf l, u.oneCell' = true := by
  intro u hu
  obtain ⟨x, _, rfl⟩ := List.mem_map.1 hu
  simp [Value.oneCell']
theorem intsOf_append (a b : List Nat) : intsOf (a ++ b) = intsOf a ++ intsOf b := by simp [intsOf]

/-- A word into which bits of a number are laid, one by one. -/
def layF (n : Nat) (fs ts : List Nat) (b : Nat) : Nat → Nat
  | 0 => b
  | k + 1 => setW (layF n fs ts b k) (ts.getD k 0 : Nat) (1 : Nat) (bitN n (fs.getD k 0 : Nat))
theorem layF_lt (n : Nat) (fs ts : List Nat) (b : Nat) (hb : b < 4294967296) : ∀ k, layF n fs ts b k < 4294967296
  | 0 => hb
  | k + 1 => setW_lt _ (layF_lt n fs ts b hb k) _ _ _

theorem Calls.two {P : Program} {f : Nat} {args : Array Value} {g g' j n : Nat} {w0 w1 : World} {c c' r : Value} (hg : g < n) (hg' : g' < n)
    (hs : w1.cell? ⟨g, j, none⟩ = some c ∧ w1.cell? ⟨g', j, none⟩ = some c' ∧ Off w0 n w1)
    (h : Calls P f args w1 fun e w2 => e = .returned r ∧ Below w1.heap.size w1 w2) :
    Calls P f args w1 fun e w2 => e = .returned r ∧ w2.cell? ⟨g, j, none⟩ = some c ∧ w2.cell? ⟨g', j, none⟩ = some c' ∧ Off w0 n w2 :=
  h.mono fun e w2 ⟨he, hb⟩ => ⟨he, hs.2.2.cell hb hg hs.1, hs.2.2.cell hb hg' hs.2.1, hs.2.2.step hb⟩

theorem rset_bit (v : Nat) (hv : v < 4294967296) (p : Nat) (x : Nat) (hx : x < 4294967296) (w : World) :
    Calls Tryz.prog 81 #[.int .u32 v, .int .i64 p, .int .i64 1, .int .u32 x] w fun e w' => e = .returned (.int .u32 (setW v (p : Nat) (1 : Nat) x : Nat)) ∧ Below w.heap.size w w' := by
  have h := refset_any v hv (p : Nat) (1 : Nat) (by omega) (by omega) x hx w
  rw [← set_num v hv (p : Nat) (1 : Nat) x hx] at h
  exact h
end Go.Proofs.YtoekcfbjdcibpaaGreatDoor
namespace Go.Proofs.YtoekcfbjdcibpaaGreatDoor
set_option linter.unusedVariables false

theorem setW_bit (v : Nat) (hv : v < 4294967296) (lo n : Nat) (h : lo + n ≤ 32) (x : Nat) (hx : x < 4294967296) (i : Nat) :
    (setW v lo n x).testBit i = if lo ≤ i ∧ i < lo + n then x.testBit (i - lo) else v.testBit i := by
  have e : v % 2 ^ lo + x % 2 ^ n * 2 ^ lo + v / 2 ^ (lo + n) * 2 ^ (lo + n) = 2 ^ (lo + n) * (v / 2 ^ (lo + n)) + (2 ^ lo * (x % 2 ^ n) + v % 2 ^ lo) := by
    rw [Nat.mul_comm (x % 2 ^ n), Nat.mul_comm (v / 2 ^ (lo + n))]; omega
  have hl : v % 2 ^ lo < 2 ^ lo := Nat.mod_lt _ (Nat.pow_pos (by decide))
  have hx2 : x % 2 ^ n < 2 ^ n := Nat.mod_lt _ (Nat.pow_pos (by decide))
  have hlt : 2 ^ lo * (x % 2 ^ n) + v % 2 ^ lo < 2 ^ (lo + n) := by
    rw [Nat.pow_add]
    calc 2 ^ lo * (x % 2 ^ n) + v % 2 ^ lo < 2 ^ lo * (x % 2 ^ n) + 2 ^ lo := by omega
      _ = 2 ^ lo * (x % 2 ^ n + 1) := by rw [Nat.mul_add, Nat.mul_one]
      _ ≤ 2 ^ lo * 2 ^ n := Nat.mul_le_mul_left _ hx2
  rw [setW_arith v hv lo n h x hx, e, Nat.testBit_two_pow_mul_add _ hlt, Nat.testBit_two_pow_mul_add _ hl, Nat.testBit_mod_two_pow, Nat.testBit_mod_two_pow, Nat.testBit_div_two_pow]
  by_cases h1 : i < lo
  · simp [h1, show i < lo + n by omega, show ¬ lo ≤ i by omega]
  · by_cases h2 : i < lo + n
    · simp [h1, h2, show lo ≤ i by omega, show i - lo < n by omega]
    · simp [h2, show i - (lo + n) + (lo + n) = i by omega]

theorem bit_zero (n p : Nat) (h : p ≤ 31) : (bitN n (p : Nat)).testBit 0 = n.testBit p := by
  have := bitN_one n (p : Nat)
  rw [Nat.testBit_zero]
  have hb := bitN_le n (p : Nat)
  have e : decide (bitN n (p : Nat) % 2 = 1) = decide (bitN n (p : Nat) = 1) := by
    rw [decide_eq_decide]; omega
  rw [e, this]
  simp; omega

/-- Bits laid, by a list of where they come from and where they go. -/
def layL (n : Nat) (b : Nat) (ps : List (Nat × Nat)) : Nat := ps.foldl (fun v p => setW v (p.2 : Nat) (1 : Nat) (bitN n (p.1 : Nat))) b
theorem layL_append (n b : Nat) (a c : List (Nat × Nat)) : layL n b (a ++ c) = layL n (layL n b a) c := by simp [layL, List.foldl_append]
theorem layL_lt (n : Nat) (b : Nat) (hb : b < 4294967296) (ps : List (Nat × Nat)) : layL n b ps < 4294967296 := by
  induction ps generalizing b with
  | nil => exact hb
  | cons p l ih => exact ih _ (setW_lt _ hb _ _ _)
theorem layF_L (n : Nat) (fs ts : List Nat) (b : Nat) (ps : List (Nat × Nat)) (h1 : ps.map (·.1) = fs) (h2 : ps.map (·.2) = ts) : ∀ k, k ≤ ps.length → layF n fs ts b k = layL n b (ps.take k)
  | 0, _ => rfl
  | k + 1, h => by
    have ih := layF_L n fs ts b ps h1 h2 k (by omega)
    have hk : k < ps.length := by omega
    have e1 : fs.getD k 0 = ps[k].1 := by rw [← h1, List.getD_eq_getElem?_getD, List.getElem?_map, List.getElem?_eq_getElem hk]; rfl
    have e2 : ts.getD k 0 = ps[k].2 := by rw [← h2, List.getD_eq_getElem?_getD, List.getElem?_map, List.getElem?_eq_getElem hk]; rfl
    rw [layF, ih, e1, e2, List.take_add_one, List.getElem?_eq_getElem hk, layL_append]
    rfl

def runP (fh hi m : Nat) : List (Nat × Nat) := (List.range m).map fun j => (fh - j, hi - j)
theorem runP_succ (fh hi m : Nat) : runP fh hi (m + 1) = runP fh hi m ++ [(fh - m, hi - m)] := by simp [runP, List.range_succ]

theorem lay_run (n b : Nat) (hb : b < 4294967296) (fh hi : Nat) (h1 : fh ≤ 31) (h2 : hi ≤ 31) : ∀ m, m ≤ hi + 1 → m ≤ fh + 1 → layL n b (runP fh hi m) = setW b (hi + 1 - m : Nat) (m : Nat) (n / 2 ^ (fh + 1 - m) % 2 ^ m)
  | 0, _, _ => by
    apply Nat.eq_of_testBit_eq
    intro i
    rw [setW_bit b hb _ _ (by omega) _ (by simp [Nat.mod_one])]
    rw [if_neg (by omega)]
    rfl
  | m + 1, g1, g2 => by
    have ih := lay_run n b hb fh hi h1 h2 m (by omega) (by omega)
    have q1 : n / 2 ^ (fh + 1 - m) % 2 ^ m < 4294967296 := Nat.lt_of_lt_of_le (Nat.mod_lt _ (Nat.pow_pos (by decide))) (show 2 ^ m ≤ 2 ^ 32 from Nat.pow_le_pow_right (by decide) (by omega))
    have q2 : n / 2 ^ (fh + 1 - (m + 1)) % 2 ^ (m + 1) < 4294967296 := Nat.lt_of_lt_of_le (Nat.mod_lt _ (Nat.pow_pos (by decide))) (show 2 ^ (m + 1) ≤ 2 ^ 32 from Nat.pow_le_pow_right (by decide) (by omega))
    have q3 : bitN n ((fh - m : Nat) : Int) < 4294967296 := Nat.lt_of_le_of_lt (bitN_le _ _) (by decide)
    rw [runP_succ, layL_append, ih]
    show setW (setW b (hi + 1 - m : Nat) (m : Nat) (n / 2 ^ (fh + 1 - m) % 2 ^ m)) ((hi - m : Nat) : Int) ((1 : Nat) : Int) (bitN n ((fh - m : Nat) : Int)) = _
    apply Nat.eq_of_testBit_eq
    intro i
    rw [setW_bit _ (setW_lt b hb _ _ _) _ _ (by omega) _ q3, setW_bit b hb _ _ (by omega) _ q1, setW_bit b hb _ _ (by omega) _ q2]
    rw [Nat.testBit_mod_two_pow, Nat.testBit_mod_two_pow, Nat.testBit_div_two_pow, Nat.testBit_div_two_pow]
    by_cases c1 : i = hi - m
    · subst c1
      rw [if_pos (by omega), if_pos (by omega), Nat.sub_self, bit_zero n _ (by omega), show hi - m - (hi + 1 - (m + 1)) + (fh + 1 - (m + 1)) = fh - m by omega]
      simp
    · rw [if_neg (by omega)]
      by_cases c2 : hi + 1 - m ≤ i ∧ i < hi + 1
      · rw [if_pos (by omega), if_pos (by omega), show i - (hi + 1 - m) + (fh + 1 - m) = i - (hi + 1 - (m + 1)) + (fh + 1 - (m + 1)) by omega]
        simp [show i - (hi + 1 - m) < m by omega]; intros; omega
      · rw [if_neg (by omega), if_neg (by omega)]

theorem lay_S (W : Nat) (hW : W = W % 128 + W / 4096 % 8 * 4096) (op : Int) (rs1 rs2 : Nat) (imm : Int) (h1 : rs1 < 32) (h2 : rs2 < 32) (himm : -2048 ≤ imm ∧ imm ≤ 2047) :
    layF (u32N imm) (downK 11 12) (downK 31 7 ++ downK 11 5) (W + rs1 * 32768 + rs2 * 1048576) 12 = laidK 83 W ⟨op, 0, rs1, rs2, imm, 0⟩ := by
  rw [laid_S W hW op rs1 rs2 imm h1 h2]
  have hu := u32N_lt imm
  generalize u32N imm = u at *
  have hb : W + rs1 * 32768 + rs2 * 1048576 < 4294967296 := by omega
  rw [layF_L u (downK 11 12) (downK 31 7 ++ downK 11 5) _ (runP 11 31 7 ++ runP 4 11 5) (by decide) (by decide) 12 (by decide), show (runP 11 31 7 ++ runP 4 11 5).take 12 = runP 11 31 7 ++ runP 4 11 5 by decide, layL_append]
  rw [lay_run u _ hb 11 31 (by decide) (by decide) 7 (by decide) (by decide)]
  have p0 : u / 2 ^ (11 + 1 - 7) % 2 ^ 7 < 2 ^ 7 := Nat.mod_lt _ (by decide)
  have p1 : u / 2 ^ (4 + 1 - 5) % 2 ^ 5 < 2 ^ 5 := Nat.mod_lt _ (by decide)
  have e0 : setW (W + rs1 * 32768 + rs2 * 1048576) ((31 + 1 - 7 : Nat) : Int) ((7 : Nat) : Int) (u / 2 ^ (11 + 1 - 7) % 2 ^ 7) = W + rs1 * 32768 + rs2 * 1048576 + (u / 2 ^ 5 % 2 ^ 7) * 2 ^ 25 := setW_top _ 25 7 _ (by decide) (by omega) p0
  rw [e0, lay_run u _ (by omega) 4 11 (by decide) (by decide) 5 (by decide) (by decide)]
  rw [setW_arith _ (by omega) (11 + 1 - 5) 5 (by decide) _ (by omega)]
  generalize u / 2 ^ 5 % 2 ^ 7 = a at *
  rw [show u / 2 ^ (4 + 1 - 5) % 2 ^ 5 = u / 2 ^ 0 % 2 ^ 5 from rfl] at p1 ⊢
  generalize u / 2 ^ 0 % 2 ^ 5 = c at *
  omega

theorem setW_zero (v : Nat) (hv : v < 4294967296) (lo n x : Nat) (h : lo + n ≤ 32) (hz : v / 2 ^ lo % 2 ^ n = 0) (hx : x < 2 ^ n) : setW v lo n x = v + x * 2 ^ lo := by
  have p2 : 2 ^ n ≤ 2 ^ 32 := Nat.pow_le_pow_right (by decide) (by omega)
  rw [setW_arith v hv lo n h x (Nat.lt_of_lt_of_le hx p2), Nat.mod_eq_of_lt hx]
  have q1 := Nat.div_add_mod v (2 ^ lo)
  have q2 := Nat.div_add_mod (v / 2 ^ lo) (2 ^ n)
  rw [hz, Nat.add_zero, Nat.div_div_eq_div_mul, ← Nat.pow_add] at q2
  rw [← q2, ← Nat.mul_assoc, ← Nat.pow_add] at q1
  rw [Nat.mul_comm (v / 2 ^ (lo + n))]
  omega

theorem lay_step (n b : Nat) (hb : b < 4294967296) (fh hi m lo q : Nat) (h1 : fh ≤ 31) (h2 : hi ≤ 31) (hm : m ≤ hi + 1) (hf : m ≤ fh + 1) (el : hi + 1 - m = lo) (eq : fh + 1 - m = q) (hz : b / 2 ^ lo % 2 ^ m = 0) :
    layL n b (runP fh hi m) = b + n / 2 ^ q % 2 ^ m * 2 ^ lo := by
  rw [lay_run n b hb fh hi h1 h2 m hm hf, el, eq]
  exact setW_zero b hb lo m _ (by omega) hz (Nat.mod_lt _ (Nat.pow_pos (by decide)))

theorem lay_B (W : Nat) (hW : W = W % 128 + W / 4096 % 8 * 4096) (op : Int) (rs1 rs2 : Nat) (imm : Int) (h1 : rs1 < 32) (h2 : rs2 < 32) (himm : -4096 ≤ imm ∧ imm ≤ 4095 ∧ imm % 2 = 0) :
    layF (u32N imm) (downK 12 12) (([31, 7] ++ downK 30 6) ++ downK 11 4) (W + rs1 * 32768 + rs2 * 1048576) 12 = laidK 66 W ⟨op, 0, rs1, rs2, imm, 0⟩ := by
  rw [laid_B W hW op rs1 rs2 imm h1 h2]
  have hu := u32N_lt imm
  generalize u32N imm = u at *
  clear himm
  rw [layF_L u (downK 12 12) (([31, 7] ++ downK 30 6) ++ downK 11 4) _ (((runP 12 31 1 ++ runP 11 7 1) ++ runP 10 30 6) ++ runP 4 11 4) (by decide) (by decide) 12 (by decide), show (((runP 12 31 1 ++ runP 11 7 1) ++ runP 10 30 6) ++ runP 4 11 4).take 12 = ((runP 12 31 1 ++ runP 11 7 1) ++ runP 10 30 6) ++ runP 4 11 4 by decide, layL_append, layL_append, layL_append]
  rw [lay_step u _ (by omega) 12 31 1 31 12 (by decide) (by decide) (by decide) (by decide) rfl rfl (by omega)]
  have p3 : u / 2 ^ 12 % 2 ^ 1 < 2 ^ 1 := Nat.mod_lt _ (by decide)
  generalize u / 2 ^ 12 % 2 ^ 1 = a3 at *
  rw [lay_step u _ (by omega) 11 7 1 7 11 (by decide) (by decide) (by decide) (by decide) rfl rfl (by omega)]
  have p2 : u / 2 ^ 11 % 2 ^ 1 < 2 ^ 1 := Nat.mod_lt _ (by decide)
  generalize u / 2 ^ 11 % 2 ^ 1 = a2 at *
  rw [lay_step u _ (by omega) 10 30 6 25 5 (by decide) (by decide) (by decide) (by decide) rfl rfl (by omega)]
  have p1 : u / 2 ^ 5 % 2 ^ 6 < 2 ^ 6 := Nat.mod_lt _ (by decide)
  generalize u / 2 ^ 5 % 2 ^ 6 = a1 at *
  rw [lay_step u _ (by omega) 4 11 4 8 1 (by decide) (by decide) (by decide) (by decide) rfl rfl (by omega)]
  omega

theorem lay_J (W : Nat) (hW : W < 128) (op : Int) (rd : Nat) (imm : Int) (h1 : rd < 32) (himm : -1048576 ≤ imm ∧ imm ≤ 1048575 ∧ imm % 2 = 0) :
    layF (u32N imm) (downK 20 20) (((([31] ++ downK 19 8) ++ [20]) ++ downK 30 6) ++ downK 24 4) (W + rd * 128) 20 = laidK 74 W ⟨op, rd, 0, 0, imm, 0⟩ := by
  rw [laid_J W hW op rd imm h1]
  have hu := u32N_lt imm
  generalize u32N imm = u at *
  clear himm
  rw [layF_L u (downK 20 20) (((([31] ++ downK 19 8) ++ [20]) ++ downK 30 6) ++ downK 24 4) _ ((((runP 20 31 1 ++ runP 19 19 8) ++ runP 11 20 1) ++ runP 10 30 6) ++ runP 4 24 4) (by decide) (by decide) 20 (by decide), show ((((runP 20 31 1 ++ runP 19 19 8) ++ runP 11 20 1) ++ runP 10 30 6) ++ runP 4 24 4).take 20 = (((runP 20 31 1 ++ runP 19 19 8) ++ runP 11 20 1) ++ runP 10 30 6) ++ runP 4 24 4 by decide, layL_append, layL_append, layL_append, layL_append]
  have e10 : u / 2 ^ 1 % 2 ^ 10 = u / 2 ^ 5 % 2 ^ 6 * 16 + u / 2 ^ 1 % 2 ^ 4 := by omega
  rw [e10]
  clear e10
  rw [lay_step u _ (by omega) 20 31 1 31 20 (by decide) (by decide) (by decide) (by decide) rfl rfl (by omega)]
  have p3 : u / 2 ^ 20 % 2 ^ 1 < 2 ^ 1 := Nat.mod_lt _ (by decide)
  generalize u / 2 ^ 20 % 2 ^ 1 = a3 at *
  rw [lay_step u _ (by omega) 19 19 8 12 12 (by decide) (by decide) (by decide) (by decide) rfl rfl (by omega)]
  have p2 : u / 2 ^ 12 % 2 ^ 8 < 2 ^ 8 := Nat.mod_lt _ (by decide)
  generalize u / 2 ^ 12 % 2 ^ 8 = a2 at *
  rw [lay_step u _ (by omega) 11 20 1 20 11 (by decide) (by decide) (by decide) (by decide) rfl rfl (by omega)]
  have p1 : u / 2 ^ 11 % 2 ^ 1 < 2 ^ 1 := Nat.mod_lt _ (by decide)
  generalize u / 2 ^ 11 % 2 ^ 1 = a1 at *
  rw [lay_step u _ (by omega) 10 30 6 25 5 (by decide) (by decide) (by decide) (by decide) rfl rfl (by omega)]
  have p0 : u / 2 ^ 5 % 2 ^ 6 < 2 ^ 6 := Nat.mod_lt _ (by decide)
  generalize u / 2 ^ 5 % 2 ^ 6 = a0 at *
  rw [lay_step u _ (by omega) 4 24 4 21 1 (by decide) (by decide) (by decide) (by decide) rfl rfl (by omega)]
  omega
end Go.Proofs.YtoekcfbjdcibpaaGreatDoor
namespace Go.Proofs.YtoekcfbjdcibpaaGreatDoor
open Go.RowKit
set_option linter.unusedVariables false

set_option maxHeartbeats 4000000 in
set_option maxRecDepth 100000 in
theorem renc_U (op : Nat) (hop : op < 57) (W : Nat) (hWe : wordN op = W) (hW : W < 128) (rd : Nat) (imm : Int) (hrd : rd < 32) (himm : -2147483648 ≤ imm ∧ imm ≤ 2147483647 ∧ imm % 4096 = 0) (hk : kindN op = 85) (w : World) :
    Calls Tryz.prog 51 #[.agg #[.int .i64 op, .int .i64 ((rd : Nat) : Int), .int .i64 0, .int .i64 0, .int .i64 imm, .int .i64 0]] w fun e w' => e = .returned (.tuple #[.int .u32 (laidK 85 W ⟨op, ((rd : Nat) : Int), 0, 0, imm, 0⟩ : Nat), .int .i64 0]) ∧ Below w.heap.size w w' := by
  have HK := hide (rkind_yes op hop)
  rw [hk] at HK
  have HC : Hid (∀ w, Calls Tryz.prog 27 #[.agg #[.int .i64 op, .int .i64 ((rd : Nat) : Int), .int .i64 0, .int .i64 0, .int .i64 imm, .int .i64 0]] w fun e w' => e = .returned (.int .i64 0) ∧ Below w.heap.size w w') := fun w => by
    refine (rcheck_U op hop ((rd : Nat) : Int) 0 0 imm 0 hk w).mono ?_
    rintro e w' ⟨⟨r, rfl, hr⟩, hb⟩
    rcases hr with ⟨rfl, _⟩ | ⟨_, hn⟩
    · exact ⟨rfl, hb⟩
    · exact absurd (by simp [ValidK] <;> omega) hn
  clear hk
  have HP := hide (rplain_any op hop)
  rw [hWe] at HP
  have HW := hide hW
  have HL := hide (laid_U W hW op rd imm hrd)
  clear hWe hW
  go_enter Tryz.func51, Tryz.ntmps51
  go_wp2_with (fail)
  obtain ⟨w0, hw0⟩ : ∃ w0, w.alloc (.cells #[.int .i64 op, .int .i64 ((rd : Nat) : Int), .int .i64 0, .int .i64 0, .int .i64 imm, .int .i64 0] 23) = w0 := ⟨_, rfl⟩
  have HN0 : Hid (SixAt w0 w.heap.size ⟨op, ((rd : Nat) : Int), 0, 0, imm, 0⟩ ∧ Below w.heap.size w w0 ∧ w0.heap.size = w.heap.size + 1) := by
    rw [← hw0]; exact ⟨SixAt.new w ⟨op, ((rd : Nat) : Int), 0, 0, imm, 0⟩ _, (Below.refl _ w).alloc (Nat.le_refl _) _, by simp⟩
  rw [hw0]
  clear hw0
  refine (HC.out _).mono ?_
  rintro e w2 ⟨rfl, hb2⟩
  replace hb2 : Below (w.heap.size + 1) w0 w2 := by rw [← HN0.out.2.2]; exact hb2
  obtain ⟨c0, c1, c2, c3, c4, c5⟩ := HN0.out.1.below hb2 (by omega)
  simp only at c0 c1 c2 c3 c4 c5
  go_wp2_with (first | (go_at_call 29; refine (HK.out _).mono ?_; rintro e w3 ⟨rfl, rfl⟩))
  have hof : Off w0 (w.heap.size + 1) w3 := ⟨hb2, HN0.out.2.2⟩
  have hofd := hof.drew
  go_region_held3 (fun w' => w'.cell? ⟨w.heap.size, 0, none⟩ = some (.int .i64 op) ∧ w'.cell? ⟨w.heap.size, 1, none⟩ = some (.int .i64 ((rd : Nat) : Int)) ∧ w'.cell? ⟨w.heap.size, 2, none⟩ = some (.int .i64 0) ∧ w'.cell? ⟨w.heap.size, 3, none⟩ = some (.int .i64 0) ∧ w'.cell? ⟨w.heap.size, 4, none⟩ = some (.int .i64 imm) ∧ w'.cell? ⟨w.heap.size, 5, none⟩ = some (.int .i64 0) ∧ Off w0 (w.heap.size + 1) w') (go_keep)
    (first | (go_at_call 79; refine (Calls.six (g := w.heap.size) (n := w.heap.size + 1) (w0 := w0) (c0 := .int .i64 op) (c1 := .int .i64 ((rd : Nat) : Int)) (c2 := .int .i64 0) (c3 := .int .i64 0) (c4 := .int .i64 imm) (c5 := .int .i64 0) (by omega) ?_ (HP.out _)).mono ?_; (simp [*]); rintro e w' ⟨rfl, e0, e1, e2, e3, e4, e5, hoff⟩))
  go_wp2
  go_ret2
  refine ⟨ret_enc ?_, HN0.out.2.1.trans (hoff.1.mono (by omega))⟩
  have hL := HL.out
  have hW := HW.out
  rw [hL]
  clear hL HL HW c0 c1 c2 c3 c4 c5 e0 e1 e2 e3 e4 e5
  have hu : u32N imm = (imm % 4294967296).toNat := rfl
  generalize u32N imm = u at *
  first | omega | (simp only [IntKind.wrap_u32']; omega)

set_option maxHeartbeats 4000000 in
set_option maxRecDepth 100000 in
theorem renc_I (op : Nat) (hop : op < 57) (W : Nat) (hWe : wordN op = W) (hW : W = W % 128 + W / 4096 % 8 * 4096) (rd rs1 : Nat) (imm : Int) (hrd : rd < 32) (hrs1 : rs1 < 32) (himm : -2048 ≤ imm ∧ imm ≤ 2047) (hk : kindN op = 73) (w : World) :
    Calls Tryz.prog 51 #[.agg #[.int .i64 op, .int .i64 ((rd : Nat) : Int), .int .i64 ((rs1 : Nat) : Int), .int .i64 0, .int .i64 imm, .int .i64 0]] w fun e w' => e = .returned (.tuple #[.int .u32 (laidK 73 W ⟨op, ((rd : Nat) : Int), ((rs1 : Nat) : Int), 0, imm, 0⟩ : Nat), .int .i64 0]) ∧ Below w.heap.size w w' := by
  have HK := hide (rkind_yes op hop)
  rw [hk] at HK
  have HC : Hid (∀ w, Calls Tryz.prog 27 #[.agg #[.int .i64 op, .int .i64 ((rd : Nat) : Int), .int .i64 ((rs1 : Nat) : Int), .int .i64 0, .int .i64 imm, .int .i64 0]] w fun e w' => e = .returned (.int .i64 0) ∧ Below w.heap.size w w') := fun w => by
    refine (rcheck_I op hop ((rd : Nat) : Int) ((rs1 : Nat) : Int) 0 imm 0 hk w).mono ?_
    rintro e w' ⟨⟨r, rfl, hr⟩, hb⟩
    rcases hr with ⟨rfl, _⟩ | ⟨_, hn⟩
    · exact ⟨rfl, hb⟩
    · exact absurd (by simp [ValidK] <;> omega) hn
  clear hk
  have HP := hide (rplain_any op hop)
  rw [hWe] at HP
  have HW := hide hW
  have HL := hide (laid_I 73 (by decide) W hW op rd rs1 imm hrd hrs1)
  clear hWe hW
  go_enter Tryz.func51, Tryz.ntmps51
  go_wp2_with (fail)
  obtain ⟨w0, hw0⟩ : ∃ w0, w.alloc (.cells #[.int .i64 op, .int .i64 ((rd : Nat) : Int), .int .i64 ((rs1 : Nat) : Int), .int .i64 0, .int .i64 imm, .int .i64 0] 23) = w0 := ⟨_, rfl⟩
  have HN0 : Hid (SixAt w0 w.heap.size ⟨op, ((rd : Nat) : Int), ((rs1 : Nat) : Int), 0, imm, 0⟩ ∧ Below w.heap.size w w0 ∧ w0.heap.size = w.heap.size + 1) := by
    rw [← hw0]; exact ⟨SixAt.new w ⟨op, ((rd : Nat) : Int), ((rs1 : Nat) : Int), 0, imm, 0⟩ _, (Below.refl _ w).alloc (Nat.le_refl _) _, by simp⟩
  rw [hw0]
  clear hw0
  refine (HC.out _).mono ?_
  rintro e w2 ⟨rfl, hb2⟩
  replace hb2 : Below (w.heap.size + 1) w0 w2 := by rw [← HN0.out.2.2]; exact hb2
  obtain ⟨c0, c1, c2, c3, c4, c5⟩ := HN0.out.1.below hb2 (by omega)
  simp only at c0 c1 c2 c3 c4 c5
  go_wp2_with (first | (go_at_call 29; refine (HK.out _).mono ?_; rintro e w3 ⟨rfl, rfl⟩))
  have hof : Off w0 (w.heap.size + 1) w3 := ⟨hb2, HN0.out.2.2⟩
  have hofd := hof.drew
  go_region_held3 (fun w' => w'.cell? ⟨w.heap.size, 0, none⟩ = some (.int .i64 op) ∧ w'.cell? ⟨w.heap.size, 1, none⟩ = some (.int .i64 ((rd : Nat) : Int)) ∧ w'.cell? ⟨w.heap.size, 2, none⟩ = some (.int .i64 ((rs1 : Nat) : Int)) ∧ w'.cell? ⟨w.heap.size, 3, none⟩ = some (.int .i64 0) ∧ w'.cell? ⟨w.heap.size, 4, none⟩ = some (.int .i64 imm) ∧ w'.cell? ⟨w.heap.size, 5, none⟩ = some (.int .i64 0) ∧ Off w0 (w.heap.size + 1) w') (go_keep)
    (first | (go_at_call 79; refine (Calls.six (g := w.heap.size) (n := w.heap.size + 1) (w0 := w0) (c0 := .int .i64 op) (c1 := .int .i64 ((rd : Nat) : Int)) (c2 := .int .i64 ((rs1 : Nat) : Int)) (c3 := .int .i64 0) (c4 := .int .i64 imm) (c5 := .int .i64 0) (by omega) ?_ (HP.out _)).mono ?_; (simp [*]); rintro e w' ⟨rfl, e0, e1, e2, e3, e4, e5, hoff⟩))
  go_wp2
  go_ret2
  refine ⟨ret_enc ?_, HN0.out.2.1.trans (hoff.1.mono (by omega))⟩
  have hL := HL.out
  have hW := HW.out
  rw [hL]
  clear hL HL HW c0 c1 c2 c3 c4 c5 e0 e1 e2 e3 e4 e5
  have hu : u32N imm = (imm % 4294967296).toNat := rfl
  generalize u32N imm = u at *
  first | omega | (simp only [IntKind.wrap_u32']; omega)

set_option maxHeartbeats 4000000 in
set_option maxRecDepth 100000 in
theorem renc_L (op : Nat) (hop : op < 57) (W : Nat) (hWe : wordN op = W) (hW : W = W % 128 + W / 4096 % 8 * 4096) (rd rs1 : Nat) (imm : Int) (hrd : rd < 32) (hrs1 : rs1 < 32) (himm : -2048 ≤ imm ∧ imm ≤ 2047) (hk : kindN op = 76) (w : World) :
    Calls Tryz.prog 51 #[.agg #[.int .i64 op, .int .i64 ((rd : Nat) : Int), .int .i64 ((rs1 : Nat) : Int), .int .i64 0, .int .i64 imm, .int .i64 0]] w fun e w' => e = .returned (.tuple #[.int .u32 (laidK 76 W ⟨op, ((rd : Nat) : Int), ((rs1 : Nat) : Int), 0, imm, 0⟩ : Nat), .int .i64 0]) ∧ Below w.heap.size w w' := by
  have HK := hide (rkind_yes op hop)
  rw [hk] at HK
  have HC : Hid (∀ w, Calls Tryz.prog 27 #[.agg #[.int .i64 op, .int .i64 ((rd : Nat) : Int), .int .i64 ((rs1 : Nat) : Int), .int .i64 0, .int .i64 imm, .int .i64 0]] w fun e w' => e = .returned (.int .i64 0) ∧ Below w.heap.size w w') := fun w => by
    refine (rcheck_L op hop ((rd : Nat) : Int) ((rs1 : Nat) : Int) 0 imm 0 hk w).mono ?_
    rintro e w' ⟨⟨r, rfl, hr⟩, hb⟩
    rcases hr with ⟨rfl, _⟩ | ⟨_, hn⟩
    · exact ⟨rfl, hb⟩
    · exact absurd (by simp [ValidK] <;> omega) hn
  clear hk
  have HP := hide (rplain_any op hop)
  rw [hWe] at HP
  have HW := hide hW
  have HL := hide (laid_I 76 (by decide) W hW op rd rs1 imm hrd hrs1)
  clear hWe hW
  go_enter Tryz.func51, Tryz.ntmps51
  go_wp2_with (fail)
  obtain ⟨w0, hw0⟩ : ∃ w0, w.alloc (.cells #[.int .i64 op, .int .i64 ((rd : Nat) : Int), .int .i64 ((rs1 : Nat) : Int), .int .i64 0, .int .i64 imm, .int .i64 0] 23) = w0 := ⟨_, rfl⟩
  have HN0 : Hid (SixAt w0 w.heap.size ⟨op, ((rd : Nat) : Int), ((rs1 : Nat) : Int), 0, imm, 0⟩ ∧ Below w.heap.size w w0 ∧ w0.heap.size = w.heap.size + 1) := by
    rw [← hw0]; exact ⟨SixAt.new w ⟨op, ((rd : Nat) : Int), ((rs1 : Nat) : Int), 0, imm, 0⟩ _, (Below.refl _ w).alloc (Nat.le_refl _) _, by simp⟩
  rw [hw0]
  clear hw0
  refine (HC.out _).mono ?_
  rintro e w2 ⟨rfl, hb2⟩
  replace hb2 : Below (w.heap.size + 1) w0 w2 := by rw [← HN0.out.2.2]; exact hb2
  obtain ⟨c0, c1, c2, c3, c4, c5⟩ := HN0.out.1.below hb2 (by omega)
  simp only at c0 c1 c2 c3 c4 c5
  go_wp2_with (first | (go_at_call 29; refine (HK.out _).mono ?_; rintro e w3 ⟨rfl, rfl⟩))
  have hof : Off w0 (w.heap.size + 1) w3 := ⟨hb2, HN0.out.2.2⟩
  have hofd := hof.drew
  go_region_held3 (fun w' => w'.cell? ⟨w.heap.size, 0, none⟩ = some (.int .i64 op) ∧ w'.cell? ⟨w.heap.size, 1, none⟩ = some (.int .i64 ((rd : Nat) : Int)) ∧ w'.cell? ⟨w.heap.size, 2, none⟩ = some (.int .i64 ((rs1 : Nat) : Int)) ∧ w'.cell? ⟨w.heap.size, 3, none⟩ = some (.int .i64 0) ∧ w'.cell? ⟨w.heap.size, 4, none⟩ = some (.int .i64 imm) ∧ w'.cell? ⟨w.heap.size, 5, none⟩ = some (.int .i64 0) ∧ Off w0 (w.heap.size + 1) w') (go_keep)
    (first | (go_at_call 79; refine (Calls.six (g := w.heap.size) (n := w.heap.size + 1) (w0 := w0) (c0 := .int .i64 op) (c1 := .int .i64 ((rd : Nat) : Int)) (c2 := .int .i64 ((rs1 : Nat) : Int)) (c3 := .int .i64 0) (c4 := .int .i64 imm) (c5 := .int .i64 0) (by omega) ?_ (HP.out _)).mono ?_; (simp [*]); rintro e w' ⟨rfl, e0, e1, e2, e3, e4, e5, hoff⟩))
  go_wp2
  go_ret2
  refine ⟨ret_enc ?_, HN0.out.2.1.trans (hoff.1.mono (by omega))⟩
  have hL := HL.out
  have hW := HW.out
  rw [hL]
  clear hL HL HW c0 c1 c2 c3 c4 c5 e0 e1 e2 e3 e4 e5
  have hu : u32N imm = (imm % 4294967296).toNat := rfl
  generalize u32N imm = u at *
  first | omega | (simp only [IntKind.wrap_u32']; omega)

set_option maxHeartbeats 4000000 in
set_option maxRecDepth 100000 in
theorem renc_F (op : Nat) (hop : op < 57) (W : Nat) (hWe : wordN op = W) (hW : W = W % 128 + W / 4096 % 8 * 4096) (rd rs1 : Nat) (imm : Int) (hrd : rd < 32) (hrs1 : rs1 < 32) (himm : -2048 ≤ imm ∧ imm ≤ 2047) (hk : kindN op = 70) (w : World) :
    Calls Tryz.prog 51 #[.agg #[.int .i64 op, .int .i64 ((rd : Nat) : Int), .int .i64 ((rs1 : Nat) : Int), .int .i64 0, .int .i64 imm, .int .i64 0]] w fun e w' => e = .returned (.tuple #[.int .u32 (laidK 70 W ⟨op, ((rd : Nat) : Int), ((rs1 : Nat) : Int), 0, imm, 0⟩ : Nat), .int .i64 0]) ∧ Below w.heap.size w w' := by
  have HK := hide (rkind_yes op hop)
  rw [hk] at HK
  have HC : Hid (∀ w, Calls Tryz.prog 27 #[.agg #[.int .i64 op, .int .i64 ((rd : Nat) : Int), .int .i64 ((rs1 : Nat) : Int), .int .i64 0, .int .i64 imm, .int .i64 0]] w fun e w' => e = .returned (.int .i64 0) ∧ Below w.heap.size w w') := fun w => by
    refine (rcheck_F op hop ((rd : Nat) : Int) ((rs1 : Nat) : Int) 0 imm 0 hk w).mono ?_
    rintro e w' ⟨⟨r, rfl, hr⟩, hb⟩
    rcases hr with ⟨rfl, _⟩ | ⟨_, hn⟩
    · exact ⟨rfl, hb⟩
    · exact absurd (by simp [ValidK] <;> omega) hn
  clear hk
  have HP := hide (rplain_any op hop)
  rw [hWe] at HP
  have HW := hide hW
  have HL := hide (laid_I 70 (by decide) W hW op rd rs1 imm hrd hrs1)
  clear hWe hW
  go_enter Tryz.func51, Tryz.ntmps51
  go_wp2_with (fail)
  obtain ⟨w0, hw0⟩ : ∃ w0, w.alloc (.cells #[.int .i64 op, .int .i64 ((rd : Nat) : Int), .int .i64 ((rs1 : Nat) : Int), .int .i64 0, .int .i64 imm, .int .i64 0] 23) = w0 := ⟨_, rfl⟩
  have HN0 : Hid (SixAt w0 w.heap.size ⟨op, ((rd : Nat) : Int), ((rs1 : Nat) : Int), 0, imm, 0⟩ ∧ Below w.heap.size w w0 ∧ w0.heap.size = w.heap.size + 1) := by
    rw [← hw0]; exact ⟨SixAt.new w ⟨op, ((rd : Nat) : Int), ((rs1 : Nat) : Int), 0, imm, 0⟩ _, (Below.refl _ w).alloc (Nat.le_refl _) _, by simp⟩
  rw [hw0]
  clear hw0
  refine (HC.out _).mono ?_
  rintro e w2 ⟨rfl, hb2⟩
  replace hb2 : Below (w.heap.size + 1) w0 w2 := by rw [← HN0.out.2.2]; exact hb2
  obtain ⟨c0, c1, c2, c3, c4, c5⟩ := HN0.out.1.below hb2 (by omega)
  simp only at c0 c1 c2 c3 c4 c5
  go_wp2_with (first | (go_at_call 29; refine (HK.out _).mono ?_; rintro e w3 ⟨rfl, rfl⟩))
  have hof : Off w0 (w.heap.size + 1) w3 := ⟨hb2, HN0.out.2.2⟩
  have hofd := hof.drew
  go_region_held3 (fun w' => w'.cell? ⟨w.heap.size, 0, none⟩ = some (.int .i64 op) ∧ w'.cell? ⟨w.heap.size, 1, none⟩ = some (.int .i64 ((rd : Nat) : Int)) ∧ w'.cell? ⟨w.heap.size, 2, none⟩ = some (.int .i64 ((rs1 : Nat) : Int)) ∧ w'.cell? ⟨w.heap.size, 3, none⟩ = some (.int .i64 0) ∧ w'.cell? ⟨w.heap.size, 4, none⟩ = some (.int .i64 imm) ∧ w'.cell? ⟨w.heap.size, 5, none⟩ = some (.int .i64 0) ∧ Off w0 (w.heap.size + 1) w') (go_keep)
    (first | (go_at_call 79; refine (Calls.six (g := w.heap.size) (n := w.heap.size + 1) (w0 := w0) (c0 := .int .i64 op) (c1 := .int .i64 ((rd : Nat) : Int)) (c2 := .int .i64 ((rs1 : Nat) : Int)) (c3 := .int .i64 0) (c4 := .int .i64 imm) (c5 := .int .i64 0) (by omega) ?_ (HP.out _)).mono ?_; (simp [*]); rintro e w' ⟨rfl, e0, e1, e2, e3, e4, e5, hoff⟩))
  go_wp2
  go_ret2
  refine ⟨ret_enc ?_, HN0.out.2.1.trans (hoff.1.mono (by omega))⟩
  have hL := HL.out
  have hW := HW.out
  rw [hL]
  clear hL HL HW c0 c1 c2 c3 c4 c5 e0 e1 e2 e3 e4 e5
  have hu : u32N imm = (imm % 4294967296).toNat := rfl
  generalize u32N imm = u at *
  first | omega | (simp only [IntKind.wrap_u32']; omega)
end Go.Proofs.YtoekcfbjdcibpaaGreatDoor
namespace Go.Proofs.YtoekcfbjdcibpaaGreatDoor
open Go.RowKit
set_option linter.unusedVariables false

set_option maxHeartbeats 4000000 in
set_option maxRecDepth 100000 in
theorem renc_H (op : Nat) (hop : op < 57) (W : Nat) (hWe : wordN op = W) (hW : W = W % 128 + W / 4096 % 8 * 4096 + W / 33554432 * 33554432 ∧ W < 4294967296) (rd rs1 : Nat) (imm : Int) (hrd : rd < 32) (hrs1 : rs1 < 32) (himm : 0 ≤ imm ∧ imm ≤ 31) (hk : kindN op = 72) (w : World) :
    Calls Tryz.prog 51 #[.agg #[.int .i64 op, .int .i64 ((rd : Nat) : Int), .int .i64 ((rs1 : Nat) : Int), .int .i64 0, .int .i64 imm, .int .i64 0]] w fun e w' => e = .returned (.tuple #[.int .u32 (laidK 72 W ⟨op, ((rd : Nat) : Int), ((rs1 : Nat) : Int), 0, imm, 0⟩ : Nat), .int .i64 0]) ∧ Below w.heap.size w w' := by
  have HK := hide (rkind_yes op hop)
  rw [hk] at HK
  have HC : Hid (∀ w, Calls Tryz.prog 27 #[.agg #[.int .i64 op, .int .i64 ((rd : Nat) : Int), .int .i64 ((rs1 : Nat) : Int), .int .i64 0, .int .i64 imm, .int .i64 0]] w fun e w' => e = .returned (.int .i64 0) ∧ Below w.heap.size w w') := fun w => by
    refine (rcheck_H op hop ((rd : Nat) : Int) ((rs1 : Nat) : Int) 0 imm 0 hk w).mono ?_
    rintro e w' ⟨⟨r, rfl, hr⟩, hb⟩
    rcases hr with ⟨rfl, _⟩ | ⟨_, hn⟩
    · exact ⟨rfl, hb⟩
    · exact absurd (by simp [ValidK] <;> omega) hn
  clear hk
  have HP := hide (rplain_any op hop)
  rw [hWe] at HP
  have HW := hide hW
  have HL := hide (laid_H W hW op rd rs1 imm hrd hrs1)
  have HLT : Hid (W + rd * 128 + rs1 * 32768 + 32505856 < 4294967296) := by show _ < _; omega
  clear hWe hW
  go_enter Tryz.func51, Tryz.ntmps51
  go_wp2_with (fail)
  obtain ⟨w0, hw0⟩ : ∃ w0, w.alloc (.cells #[.int .i64 op, .int .i64 ((rd : Nat) : Int), .int .i64 ((rs1 : Nat) : Int), .int .i64 0, .int .i64 imm, .int .i64 0] 23) = w0 := ⟨_, rfl⟩
  have HN0 : Hid (SixAt w0 w.heap.size ⟨op, ((rd : Nat) : Int), ((rs1 : Nat) : Int), 0, imm, 0⟩ ∧ Below w.heap.size w w0 ∧ w0.heap.size = w.heap.size + 1) := by
    rw [← hw0]; exact ⟨SixAt.new w ⟨op, ((rd : Nat) : Int), ((rs1 : Nat) : Int), 0, imm, 0⟩ _, (Below.refl _ w).alloc (Nat.le_refl _) _, by simp⟩
  rw [hw0]
  clear hw0
  refine (HC.out _).mono ?_
  rintro e w2 ⟨rfl, hb2⟩
  replace hb2 : Below (w.heap.size + 1) w0 w2 := by rw [← HN0.out.2.2]; exact hb2
  obtain ⟨c0, c1, c2, c3, c4, c5⟩ := HN0.out.1.below hb2 (by omega)
  simp only at c0 c1 c2 c3 c4 c5
  go_wp2_with (first | (go_at_call 29; refine (HK.out _).mono ?_; rintro e w3 ⟨rfl, rfl⟩))
  have hof : Off w0 (w.heap.size + 1) w3 := ⟨hb2, HN0.out.2.2⟩
  have hofd := hof.drew
  go_region_held3 (fun w' => w'.cell? ⟨w.heap.size, 0, none⟩ = some (.int .i64 op) ∧ w'.cell? ⟨w.heap.size, 1, none⟩ = some (.int .i64 ((rd : Nat) : Int)) ∧ w'.cell? ⟨w.heap.size, 2, none⟩ = some (.int .i64 ((rs1 : Nat) : Int)) ∧ w'.cell? ⟨w.heap.size, 3, none⟩ = some (.int .i64 0) ∧ w'.cell? ⟨w.heap.size, 4, none⟩ = some (.int .i64 imm) ∧ w'.cell? ⟨w.heap.size, 5, none⟩ = some (.int .i64 0) ∧ Off w0 (w.heap.size + 1) w') (go_keep)
    (first | (go_at_call 79; refine (Calls.six (g := w.heap.size) (n := w.heap.size + 1) (w0 := w0) (c0 := .int .i64 op) (c1 := .int .i64 ((rd : Nat) : Int)) (c2 := .int .i64 ((rs1 : Nat) : Int)) (c3 := .int .i64 0) (c4 := .int .i64 imm) (c5 := .int .i64 0) (by omega) ?_ (HP.out _)).mono ?_; (simp [*]); rintro e w' ⟨rfl, e0, e1, e2, e3, e4, e5, hoff⟩))
  go_wp2
  go_ret2
  refine ⟨ret_enc ?_, HN0.out.2.1.trans (hoff.1.mono (by omega))⟩
  have hL := HL.out
  have hW := HW.out
  rw [hL]
  clear hL HL HW c0 c1 c2 c3 c4 c5 e0 e1 e2 e3 e4 e5
  have hu : u32N imm = (imm % 4294967296).toNat := rfl
  generalize u32N imm = u at *
  obtain ⟨m, rfl⟩ := Int.eq_ofNat_of_zero_le himm.1
  obtain rfl : u = m := by omega
  have hlt := HLT.out
  have h5 : u / 2 ^ 0 % 2 ^ 5 = u := by omega
  rw [h5]
  first | omega | (simp only [IntKind.wrap_u32']; omega)

set_option maxHeartbeats 4000000 in
set_option maxRecDepth 100000 in
theorem renc_C (op : Nat) (hop : op < 57) (W : Nat) (hWe : wordN op = W) (hW : W = W % 128 + W / 4096 % 8 * 4096) (rd rs1 csr : Nat) (hrd : rd < 32) (hrs1 : rs1 < 32) (hcsr : csr < 4096) (hk : kindN op = 67) (w : World) :
    Calls Tryz.prog 51 #[.agg #[.int .i64 op, .int .i64 ((rd : Nat) : Int), .int .i64 ((rs1 : Nat) : Int), .int .i64 0, .int .i64 0, .int .i64 ((csr : Nat) : Int)]] w fun e w' => e = .returned (.tuple #[.int .u32 (laidK 67 W ⟨op, ((rd : Nat) : Int), ((rs1 : Nat) : Int), 0, 0, ((csr : Nat) : Int)⟩ : Nat), .int .i64 0]) ∧ Below w.heap.size w w' := by
  have HK := hide (rkind_yes op hop)
  rw [hk] at HK
  have HC : Hid (∀ w, Calls Tryz.prog 27 #[.agg #[.int .i64 op, .int .i64 ((rd : Nat) : Int), .int .i64 ((rs1 : Nat) : Int), .int .i64 0, .int .i64 0, .int .i64 ((csr : Nat) : Int)]] w fun e w' => e = .returned (.int .i64 0) ∧ Below w.heap.size w w') := fun w => by
    refine (rcheck_C op hop ((rd : Nat) : Int) ((rs1 : Nat) : Int) 0 0 ((csr : Nat) : Int) hk w).mono ?_
    rintro e w' ⟨⟨r, rfl, hr⟩, hb⟩
    rcases hr with ⟨rfl, _⟩ | ⟨_, hn⟩
    · exact ⟨rfl, hb⟩
    · exact absurd (by simp [ValidK] <;> omega) hn
  clear hk
  have HP := hide (rplain_any op hop)
  rw [hWe] at HP
  have HW := hide hW
  have HL := hide (laid_C W hW op rd rs1 csr hrd hrs1 hcsr)
  clear hWe hW
  go_enter Tryz.func51, Tryz.ntmps51
  go_wp2_with (fail)
  obtain ⟨w0, hw0⟩ : ∃ w0, w.alloc (.cells #[.int .i64 op, .int .i64 ((rd : Nat) : Int), .int .i64 ((rs1 : Nat) : Int), .int .i64 0, .int .i64 0, .int .i64 ((csr : Nat) : Int)] 23) = w0 := ⟨_, rfl⟩
  have HN0 : Hid (SixAt w0 w.heap.size ⟨op, ((rd : Nat) : Int), ((rs1 : Nat) : Int), 0, 0, ((csr : Nat) : Int)⟩ ∧ Below w.heap.size w w0 ∧ w0.heap.size = w.heap.size + 1) := by
    rw [← hw0]; exact ⟨SixAt.new w ⟨op, ((rd : Nat) : Int), ((rs1 : Nat) : Int), 0, 0, ((csr : Nat) : Int)⟩ _, (Below.refl _ w).alloc (Nat.le_refl _) _, by simp⟩
  rw [hw0]
  clear hw0
  refine (HC.out _).mono ?_
  rintro e w2 ⟨rfl, hb2⟩
  replace hb2 : Below (w.heap.size + 1) w0 w2 := by rw [← HN0.out.2.2]; exact hb2
  obtain ⟨c0, c1, c2, c3, c4, c5⟩ := HN0.out.1.below hb2 (by omega)
  simp only at c0 c1 c2 c3 c4 c5
  go_wp2_with (first | (go_at_call 29; refine (HK.out _).mono ?_; rintro e w3 ⟨rfl, rfl⟩))
  have hof : Off w0 (w.heap.size + 1) w3 := ⟨hb2, HN0.out.2.2⟩
  have hofd := hof.drew
  go_region_held3 (fun w' => w'.cell? ⟨w.heap.size, 0, none⟩ = some (.int .i64 op) ∧ w'.cell? ⟨w.heap.size, 1, none⟩ = some (.int .i64 ((rd : Nat) : Int)) ∧ w'.cell? ⟨w.heap.size, 2, none⟩ = some (.int .i64 ((rs1 : Nat) : Int)) ∧ w'.cell? ⟨w.heap.size, 3, none⟩ = some (.int .i64 0) ∧ w'.cell? ⟨w.heap.size, 4, none⟩ = some (.int .i64 0) ∧ w'.cell? ⟨w.heap.size, 5, none⟩ = some (.int .i64 ((csr : Nat) : Int)) ∧ Off w0 (w.heap.size + 1) w') (go_keep)
    (first | (go_at_call 79; refine (Calls.six (g := w.heap.size) (n := w.heap.size + 1) (w0 := w0) (c0 := .int .i64 op) (c1 := .int .i64 ((rd : Nat) : Int)) (c2 := .int .i64 ((rs1 : Nat) : Int)) (c3 := .int .i64 0) (c4 := .int .i64 0) (c5 := .int .i64 ((csr : Nat) : Int)) (by omega) ?_ (HP.out _)).mono ?_; (simp [*]); rintro e w' ⟨rfl, e0, e1, e2, e3, e4, e5, hoff⟩))
  go_wp2
  go_loop [5, 9] (fun vv iv => iv = .int .i64 0 ∧ vv = .int .u32 (laidK 67 W ⟨op, ((rd : Nat) : Int), ((rs1 : Nat) : Int), 0, 0, ((csr : Nat) : Int)⟩ : Nat)) (fun _ _ => 0)
  case atStart =>
    refine ⟨rfl, congrArg (Value.int .u32) ?_⟩
    have hL := HL.out
    have hW := HW.out
    rw [hL]
    clear hL HL HW c0 c1 c2 c3 c4 c5 e0 e1 e2 e3 e4 e5
    first | omega | (simp only [IntKind.wrap_u32']; omega)
  case round =>
    obtain ⟨rfl, rfl⟩ := hrel
    go_wp2
    go_ret2
    exact ⟨rfl, HN0.out.2.1.trans (hoff.1.mono (by omega))⟩

set_option maxHeartbeats 4000000 in
set_option maxRecDepth 100000 in
theorem renc_R (op : Nat) (hop : op < 57) (W : Nat) (hWe : wordN op = W) (hW : W = W % 128 + W / 4096 % 8 * 4096 + W / 33554432 * 33554432 ∧ W < 4294967296) (rd rs1 rs2 : Nat) (hrd : rd < 32) (hrs1 : rs1 < 32) (hrs2 : rs2 < 32) (hk : kindN op = 82) (w : World) :
    Calls Tryz.prog 51 #[.agg #[.int .i64 op, .int .i64 ((rd : Nat) : Int), .int .i64 ((rs1 : Nat) : Int), .int .i64 ((rs2 : Nat) : Int), .int .i64 0, .int .i64 0]] w fun e w' => e = .returned (.tuple #[.int .u32 (laidK 82 W ⟨op, ((rd : Nat) : Int), ((rs1 : Nat) : Int), ((rs2 : Nat) : Int), 0, 0⟩ : Nat), .int .i64 0]) ∧ Below w.heap.size w w' := by
  have HK := hide (rkind_yes op hop)
  rw [hk] at HK
  have HC : Hid (∀ w, Calls Tryz.prog 27 #[.agg #[.int .i64 op, .int .i64 ((rd : Nat) : Int), .int .i64 ((rs1 : Nat) : Int), .int .i64 ((rs2 : Nat) : Int), .int .i64 0, .int .i64 0]] w fun e w' => e = .returned (.int .i64 0) ∧ Below w.heap.size w w') := fun w => by
    refine (rcheck_R op hop ((rd : Nat) : Int) ((rs1 : Nat) : Int) ((rs2 : Nat) : Int) 0 0 hk w).mono ?_
    rintro e w' ⟨⟨r, rfl, hr⟩, hb⟩
    rcases hr with ⟨rfl, _⟩ | ⟨_, hn⟩
    · exact ⟨rfl, hb⟩
    · exact absurd (by simp [ValidK] <;> omega) hn
  clear hk
  have HP := hide (rplain_any op hop)
  rw [hWe] at HP
  have HW := hide hW
  have HL := hide (laid_R W hW op rd rs1 rs2 hrd hrs1 hrs2)
  clear hWe hW
  go_enter Tryz.func51, Tryz.ntmps51
  go_wp2_with (fail)
  obtain ⟨w0, hw0⟩ : ∃ w0, w.alloc (.cells #[.int .i64 op, .int .i64 ((rd : Nat) : Int), .int .i64 ((rs1 : Nat) : Int), .int .i64 ((rs2 : Nat) : Int), .int .i64 0, .int .i64 0] 23) = w0 := ⟨_, rfl⟩
  have HN0 : Hid (SixAt w0 w.heap.size ⟨op, ((rd : Nat) : Int), ((rs1 : Nat) : Int), ((rs2 : Nat) : Int), 0, 0⟩ ∧ Below w.heap.size w w0 ∧ w0.heap.size = w.heap.size + 1) := by
    rw [← hw0]; exact ⟨SixAt.new w ⟨op, ((rd : Nat) : Int), ((rs1 : Nat) : Int), ((rs2 : Nat) : Int), 0, 0⟩ _, (Below.refl _ w).alloc (Nat.le_refl _) _, by simp⟩
  rw [hw0]
  clear hw0
  refine (HC.out _).mono ?_
  rintro e w2 ⟨rfl, hb2⟩
  replace hb2 : Below (w.heap.size + 1) w0 w2 := by rw [← HN0.out.2.2]; exact hb2
  obtain ⟨c0, c1, c2, c3, c4, c5⟩ := HN0.out.1.below hb2 (by omega)
  simp only at c0 c1 c2 c3 c4 c5
  go_wp2_with (first | (go_at_call 29; refine (HK.out _).mono ?_; rintro e w3 ⟨rfl, rfl⟩))
  have hof : Off w0 (w.heap.size + 1) w3 := ⟨hb2, HN0.out.2.2⟩
  have hofd := hof.drew
  go_region_held3 (fun w' => w'.cell? ⟨w.heap.size, 0, none⟩ = some (.int .i64 op) ∧ w'.cell? ⟨w.heap.size, 1, none⟩ = some (.int .i64 ((rd : Nat) : Int)) ∧ w'.cell? ⟨w.heap.size, 2, none⟩ = some (.int .i64 ((rs1 : Nat) : Int)) ∧ w'.cell? ⟨w.heap.size, 3, none⟩ = some (.int .i64 ((rs2 : Nat) : Int)) ∧ w'.cell? ⟨w.heap.size, 4, none⟩ = some (.int .i64 0) ∧ w'.cell? ⟨w.heap.size, 5, none⟩ = some (.int .i64 0) ∧ Off w0 (w.heap.size + 1) w') (go_keep)
    (first | (go_at_call 79; refine (Calls.six (g := w.heap.size) (n := w.heap.size + 1) (w0 := w0) (c0 := .int .i64 op) (c1 := .int .i64 ((rd : Nat) : Int)) (c2 := .int .i64 ((rs1 : Nat) : Int)) (c3 := .int .i64 ((rs2 : Nat) : Int)) (c4 := .int .i64 0) (c5 := .int .i64 0) (by omega) ?_ (HP.out _)).mono ?_; (simp [*]); rintro e w' ⟨rfl, e0, e1, e2, e3, e4, e5, hoff⟩))
  go_wp2
  go_loop [5, 9] (fun vv iv => iv = .int .i64 0 ∧ vv = .int .u32 (laidK 82 W ⟨op, ((rd : Nat) : Int), ((rs1 : Nat) : Int), ((rs2 : Nat) : Int), 0, 0⟩ : Nat)) (fun _ _ => 0)
  case atStart =>
    refine ⟨rfl, congrArg (Value.int .u32) ?_⟩
    have hL := HL.out
    have hW := HW.out
    rw [hL]
    clear hL HL HW c0 c1 c2 c3 c4 c5 e0 e1 e2 e3 e4 e5
    first | omega | (simp only [IntKind.wrap_u32']; omega)
  case round =>
    obtain ⟨rfl, rfl⟩ := hrel
    go_wp2
    go_ret2
    exact ⟨rfl, HN0.out.2.1.trans (hoff.1.mono (by omega))⟩

set_option maxHeartbeats 4000000 in
set_option maxRecDepth 100000 in
theorem renc_N (op : Nat) (hop : op < 57) (W : Nat) (hWe : wordN op = W) (hW : W < 4294967296)  (hk : kindN op = 78) (w : World) :
    Calls Tryz.prog 51 #[.agg #[.int .i64 op, .int .i64 0, .int .i64 0, .int .i64 0, .int .i64 0, .int .i64 0]] w fun e w' => e = .returned (.tuple #[.int .u32 (laidK 78 W ⟨op, 0, 0, 0, 0, 0⟩ : Nat), .int .i64 0]) ∧ Below w.heap.size w w' := by
  have HK := hide (rkind_yes op hop)
  rw [hk] at HK
  have HC : Hid (∀ w, Calls Tryz.prog 27 #[.agg #[.int .i64 op, .int .i64 0, .int .i64 0, .int .i64 0, .int .i64 0, .int .i64 0]] w fun e w' => e = .returned (.int .i64 0) ∧ Below w.heap.size w w') := fun w => by
    refine (rcheck_N op hop 0 0 0 0 0 hk w).mono ?_
    rintro e w' ⟨⟨r, rfl, hr⟩, hb⟩
    rcases hr with ⟨rfl, _⟩ | ⟨_, hn⟩
    · exact ⟨rfl, hb⟩
    · exact absurd (by simp [ValidK] <;> omega) hn
  clear hk
  have HP := hide (rplain_any op hop)
  rw [hWe] at HP
  have HW := hide hW
  have HL := hide (laid_N W hW op)
  clear hWe hW
  go_enter Tryz.func51, Tryz.ntmps51
  go_wp2_with (fail)
  obtain ⟨w0, hw0⟩ : ∃ w0, w.alloc (.cells #[.int .i64 op, .int .i64 0, .int .i64 0, .int .i64 0, .int .i64 0, .int .i64 0] 23) = w0 := ⟨_, rfl⟩
  have HN0 : Hid (SixAt w0 w.heap.size ⟨op, 0, 0, 0, 0, 0⟩ ∧ Below w.heap.size w w0 ∧ w0.heap.size = w.heap.size + 1) := by
    rw [← hw0]; exact ⟨SixAt.new w ⟨op, 0, 0, 0, 0, 0⟩ _, (Below.refl _ w).alloc (Nat.le_refl _) _, by simp⟩
  rw [hw0]
  clear hw0
  refine (HC.out _).mono ?_
  rintro e w2 ⟨rfl, hb2⟩
  replace hb2 : Below (w.heap.size + 1) w0 w2 := by rw [← HN0.out.2.2]; exact hb2
  obtain ⟨c0, c1, c2, c3, c4, c5⟩ := HN0.out.1.below hb2 (by omega)
  simp only at c0 c1 c2 c3 c4 c5
  go_wp2_with (first | (go_at_call 29; refine (HK.out _).mono ?_; rintro e w3 ⟨rfl, rfl⟩))
  have hof : Off w0 (w.heap.size + 1) w3 := ⟨hb2, HN0.out.2.2⟩
  have hofd := hof.drew
  go_region_held3 (fun w' => w'.cell? ⟨w.heap.size, 0, none⟩ = some (.int .i64 op) ∧ w'.cell? ⟨w.heap.size, 1, none⟩ = some (.int .i64 0) ∧ w'.cell? ⟨w.heap.size, 2, none⟩ = some (.int .i64 0) ∧ w'.cell? ⟨w.heap.size, 3, none⟩ = some (.int .i64 0) ∧ w'.cell? ⟨w.heap.size, 4, none⟩ = some (.int .i64 0) ∧ w'.cell? ⟨w.heap.size, 5, none⟩ = some (.int .i64 0) ∧ Off w0 (w.heap.size + 1) w') (go_keep)
    (first | (go_at_call 79; refine (Calls.six (g := w.heap.size) (n := w.heap.size + 1) (w0 := w0) (c0 := .int .i64 op) (c1 := .int .i64 0) (c2 := .int .i64 0) (c3 := .int .i64 0) (c4 := .int .i64 0) (c5 := .int .i64 0) (by omega) ?_ (HP.out _)).mono ?_; (simp [*]); rintro e w' ⟨rfl, e0, e1, e2, e3, e4, e5, hoff⟩))
  go_wp2
  go_loop [5, 9] (fun vv iv => iv = .int .i64 0 ∧ vv = .int .u32 (laidK 78 W ⟨op, 0, 0, 0, 0, 0⟩ : Nat)) (fun _ _ => 0)
  case atStart =>
    refine ⟨rfl, congrArg (Value.int .u32) ?_⟩
    have hL := HL.out
    have hW := HW.out
    rw [hL]
    clear hL HL HW c0 c1 c2 c3 c4 c5 e0 e1 e2 e3 e4 e5
    first | omega | (simp only [IntKind.wrap_u32']; omega)
  case round =>
    obtain ⟨rfl, rfl⟩ := hrel
    go_wp2
    go_ret2
    exact ⟨rfl, HN0.out.2.1.trans (hoff.1.mono (by omega))⟩
end Go.Proofs.YtoekcfbjdcibpaaGreatDoor
