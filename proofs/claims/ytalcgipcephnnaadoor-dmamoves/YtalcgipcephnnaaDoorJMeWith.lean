/-
  What word.With answers where the place may be: the bytes with the number's at the place, in new memory.
-/
import Derived.Test.YtalcgipcephnnaaDoorJMeCheck
import Derived.Test.YtalcgipcephnnaaDoorJBase
import Derived.OwnWalk
import Derived.WalkSmall
import Derived.Laws.CopyOwn
import Derived.Deep.AppendSrc
namespace Go.Proofs.YtalcgipcephnnaaDoor
open Go.RowKit
set_option linter.unusedVariables false

theorem infoByte : (Tryd.prog.info? 5).map (fun i => (i.zero, i.size, i.bytes)) = some (some (.int .u8 0), 1, 1) := by kernel_rfl
theorem sizeByte : (Tryd.prog.info? 5).map (·.size) = some 1 := by kernel_rfl

def cellsB (l : List UInt8) : List Value := l.map fun b => Value.int .u8 (b.toNat : Int)
theorem cellsB_length (l : List UInt8) : (cellsB l).length = l.length := by simp [cellsB]
theorem cellsB_one (l : List UInt8) : ∀ u ∈ cellsB l, u.oneCell' = true := by
  intro u hu
  obtain ⟨b, _, rfl⟩ := List.mem_map.1 hu
  rfl
theorem cellsB_set (l : List UInt8) (j : Nat) (b : UInt8) : cellsB (l.set j b) = (cellsB l).set j (.int .u8 (b.toNat : Int)) := by simp [cellsB, List.map_set]

/-- The bytes behind k stores of a number's lowest bytes. -/
def withTo (l : List UInt8) (at_ v : Nat) : Nat → List UInt8
  | 0 => l
  | k + 1 => (withTo l at_ v k).set (at_ + k) (UInt8.ofNat (v / 256 ^ k % 256))
theorem withTo_length (l : List UInt8) (at_ v k : Nat) : (withTo l at_ v k).length = l.length := by
  induction k with
  | zero => rfl
  | succ k ih => simp [withTo, ih]

theorem row_of {w : World} {base : Nat} {e : TypeId} {g N : Nat} {xs : List Value} (h : w.ownsRow base e 1 (.slice (some ⟨g, 0, none⟩) N N) N xs) :
    ∃ cur : List Value, w.heap[g]? = some (.cells cur.toArray e (0, 0)) ∧ cur.length = N ∧ base ≤ g := by
  rcases h.2 with ⟨h', _⟩ | ⟨g', cap', cur, h', hb, hg, _, _, hsz, _⟩
  · simp at h'
  · simp only [Value.slice.injEq, Option.some.injEq, Addr.mk.injEq, and_true, true_and] at h'
    obtain ⟨rfl, rfl⟩ := h'
    exact ⟨cur.toList, by simpa using hg, by simpa using hsz, hb⟩

theorem own_of_row {w : World} {base : Nat} {e : TypeId} {g N : Nat} {cur : List Value} (hg : w.heap[g]? = some (.cells cur.toArray e (0, 0))) (hl : cur.length = N) (hb : base ≤ g) (hN : N ≤ maxLen) :
    w.ownsRow base e 1 (.slice (some ⟨g, 0, none⟩) N N) N cur :=
  ⟨by omega, .inr ⟨g, N, cur.toArray, rfl, hb, hg, Nat.le_refl _, hN, by simp; omega, by simp [← hl]⟩⟩

theorem own_shape {w : World} {base : Nat} {e : TypeId} {N : Nat} {v : Value} {xs : List Value} (h : w.ownsRow base e 1 v N xs) (hN : 0 < N) : ∃ g c, v = .slice (some ⟨g, 0, none⟩) N c ∧ base ≤ g ∧ g < w.heap.size := by
  rcases h.2 with ⟨_, h0⟩ | ⟨g, cap, cur, rfl, hb, hg, _⟩
  · omega
  · exact ⟨g, cap, rfl, hb, (Array.getElem?_eq_some_iff.1 hg).1⟩

theorem splice_all {α : Type} (L cs : List α) (h : L.length = cs.length) : splice L 0 cs = cs := by
  simp [splice, ← h]

theorem byte_of (v k : Nat) : ((UInt8.ofNat (v / 256 ^ k % 256)).toNat : Int) = (v : Int) / 256 ^ k % 256 := by
  rw [UInt8.toNat_ofNat']
  simp

theorem pow_256 (k : Nat) : (2 : Int) ^ (8 * k) = 256 ^ k := by
  have h : (2 : Nat) ^ (8 * k) = 256 ^ k := by rw [Nat.pow_mul]
  have h2 : ((2 ^ (8 * k) : Nat) : Int) = ((256 ^ k : Nat) : Int) := by rw [h]
  simpa using h2

set_option maxHeartbeats 2000000 in
set_option maxRecDepth 100000 in
theorem with_ok (b off cap : Nat) (l : List UInt8) (at_ n : Nat) (hn : n = 1 ∨ n = 2 ∨ n = 4) (hal : at_ % n = 0) (hfit : at_ + n ≤ l.length) (hmax : l.length ≤ 140737488351232) (v : Nat) (hv : v < 4294967296) (w : World)
    (hsrc : ∀ j u, (cellsB l)[j]? = some u → w.cell? ⟨b, off + j, none⟩ = some u) (hb : b < w.heap.size) :
    Calls Tryd.prog 50 #[.slice (some ⟨b, off, none⟩) l.length cap, .int .i64 at_, .int .i64 n, .int .u32 v] w fun e w' => ∃ g, e = .returned (.tuple #[.slice (some ⟨g, 0, none⟩) l.length l.length, .nilIface]) ∧
      w'.ownsRow w.heap.size 5 1 (.slice (some ⟨g, 0, none⟩) l.length l.length) l.length (cellsB (withTo l at_ v n)) ∧ Below w.heap.size w w' := by
  obtain ⟨i0, hi, hz0, hz1, hz2⟩ := info_parts infoByte
  have HK := hide (check_ok (l.length : Int) (at_ : Int) (n : Int) (by omega) (by omega) (by omega) (by omega) (by omega) (by omega))
  have hn4 : n ≤ 4 := by omega
  have hn1 : 1 ≤ n := by omega
  have hcl := cellsB_length l
  have HC := hide hcl
  clear hal hn hcl
  generalize hN : l.length = N at *
  have HN := hide hN
  clear hN
  go_enter Tryd.func50, Tryd.ntmps50
  go_wp2_with (first | (go_at_call 69; refine (HK.out _).mono ?_; rintro e w1 ⟨rfl, rfl⟩) | (at_make; refine wpList_make_full _ rfl _ _ 43 rfl w1.heap.size 5 i0 (.int .u8 0) 1 Tryd.underlying43 hi hz0 hz1 .i64 .i64 _ _ N rfl rfl rfl rfl (by rw [hz2]; omega) (by unfold maxLen; omega) (Nat.le_refl _) ?_; intro w2 hown2 hgrow2; obtain ⟨cur, hcur, hcl2, hbg⟩ := row_of hown2; have hb2 := (Below.refl w1.heap.size w1).grown hgrow2 (Nat.le_refl _) (fun k e => by cases e); clear hown2 hgrow2) | (refine wpList_copy_splice rfl _ _ 43 43 rfl 5 Tryd.underlying43 sizeByte _ _ _ _ _ _ rfl rfl w1.heap.size 0 cur 5 hcur (cellsB l) (by rw [HC.out]; simp) (fun _ => ⟨rfl, ⟨b, off, none⟩, rfl, fun j u hj => by rw [Addr.add_lit]; exact (hb2.cell (p := ⟨b, off + j, none⟩) hb).trans (hsrc j u hj)⟩) (by rw [HC.out]; omega) (cellsB_one l) w1.heap.size w1 hb2 (Nat.le_refl _) ?_; intro w3 hg3 hb3))
  have hown3 : w3.ownsRow w1.heap.size 5 1 (.slice (some ⟨w1.heap.size, 0, none⟩) N N) N (cellsB (withTo l at_ v 0)) := by
    have h := hg3.out
    rw [splice_all cur (cellsB l) (by rw [HC.out]; exact hcl2)] at h
    exact own_of_row h HC.out (Nat.le_refl _) (by unfold maxLen; omega)
  clear hcur hcl2 hb2 hg3 hsrc hbg
  go_loopw [28] (fun iv wr => ∃ k : Nat, k ≤ n ∧ iv = .int .i64 k ∧ wr.ownsRow w1.heap.size 5 1 (.slice (some ⟨w1.heap.size, 0, none⟩) N N) N (cellsB (withTo l at_ v k)) ∧ Below w1.heap.size w1 wr) (fun iv _ => n - (intOf iv).toNat)
  case atStart => exact ⟨0, Nat.zero_le _, rfl, hown3, hb3⟩
  case round =>
    obtain ⟨k, hk, rfl, hrow, hB⟩ := hrel
    clear hown3 hb3
    by_cases hlt : k < n
    · have hc := hrow.cellAt (at_ + k) (by omega)
      have hf := hrow.frozenAt (at_ + k)
      have hst := (hrow.stored (at_ + k) (.int .u8 ((v : Int) / 256 ^ k % 256))).1
      have HS := hide (show (cellsB (withTo l at_ v k)).set (at_ + k) (.int .u8 ((v : Int) / 256 ^ k % 256)) = cellsB (withTo l at_ v (k + 1)) by rw [withTo, cellsB_set, byte_of])
      rw [HS.out] at hst
      have hlen : at_ + k < (cellsB (withTo l at_ v k)).length := by rw [cellsB_length, withTo_length, HN.out]; omega
      rw [List.getElem?_eq_getElem hlen] at hc
      generalize (cellsB (withTo l at_ v k))[at_ + k] = old at *
      have HT := hide hst
      clear hst
      have HP := hide (pow_256 k)
      go_wp2
      rw [HP.out]
      go_roundw
      case rel => exact ⟨k + 1, by omega, by go_num, HT.out, hB.setCell (p := ⟨w1.heap.size, at_ + k, none⟩) (Nat.le_refl _) _⟩
      case measure => simp [intOf]; omega
    · obtain rfl : k = n := by omega
      go_wp2
      go_ret2
      exact ⟨_, rfl, hrow, hB⟩
end Go.Proofs.YtalcgipcephnnaaDoor
