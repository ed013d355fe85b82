/-
  What the document's Decode answers of a word of none, and whatever word comes.
-/
import Derived.Test.YtchjhpeogdkbmaaDoorInCalls
import Derived.Great.BuildSlice
import Derived.WalkSmall
import Derived.Deep.RegionWith
import Derived.Test.YtchjhpeogdkbmaaDoorJA
import Derived.OwnWalk
import Derived.Maps.AppendAt
import Derived.Below
import Derived.Deep.QuietTactic
import Derived.BigQuiet
import Derived.Test.YtchjhpeogdkbmaaDoorInTold
import Derived.Test.YtchjhpeogdkbmaaDoorHInDec
namespace Go.Proofs.YtchjhpeogdkbmaaDoor
open Go.RowKit
set_option linter.unusedVariables false

def namesV : Array Value := (nameL.map fun x => Value.string ⟨x.toArray⟩).toArray
def wordsV : Array Value := (wordL.map fun x : Nat => Value.int .u32 (x : Int)).toArray
theorem namesV_at (op : Nat) (h : op < 57) : namesV[op]? = some (.string (nameN op)) := by
  have h' : op < nameL.length := h
  unfold namesV nameN
  rw [List.getElem?_toArray, List.getElem?_map, List.getElem?_eq_getElem h', List.getD_eq_getElem?_getD, List.getElem?_eq_getElem h']
  rfl
theorem wordsV_at (op : Nat) (h : op < 57) : wordsV[op]? = some (.int .u32 (wordN op : Nat)) := by
  have h' : op < wordL.length := h
  unfold wordsV wordN
  rw [List.getElem?_toArray, List.getElem?_map, List.getElem?_eq_getElem h', List.getD_eq_getElem?_getD, List.getElem?_eq_getElem h']
  rfl

theorem infoStr : (Tryd.prog.info? 9).map (fun i => (i.zero, i.size)) = some (some (.string ⟨#[]⟩), 1) := by kernel_rfl
theorem infoU32 : (Tryd.prog.info? 22).map (fun i => (i.zero, i.size)) = some (some (.int .u32 0), 1) := by kernel_rfl
theorem info2 {P : Program} {t : TypeId} {z : Value} {n : Nat} (h : (P.info? t).map (fun i => (i.zero, i.size)) = some (some z, n)) : ∃ i, P.info? t = some i ∧ i.zero = some z ∧ i.size = n := by
  cases hi : P.info? t with
  | none => rw [hi] at h; cases h
  | some i => rw [hi] at h; simp at h; exact ⟨i, rfl, h.1, h.2⟩

set_option maxHeartbeats 1000000 in
set_option maxRecDepth 100000 in
theorem rname_yes (op : Nat) (hop : op < 57) (w : World) :
    Calls Tryd.prog 30 #[.int .i64 op] w fun e w' => e = .returned (.string (nameN op)) ∧ Below w.heap.size w w' := by
  obtain ⟨ie, hie, hz, hs⟩ := info2 infoStr
  have hc : (w.alloc (.cells namesV 9)).cell? ⟨w.heap.size, op, none⟩ = some (.string (nameN op)) := (cell_of_row _ _ _ _ _ (0, 0) (heap_alloc_new w _)).trans (namesV_at op hop)
  have HZ := hide hz
  have HS := hide hs
  have HI := hide hie
  clear hz hs hie
  generalize nameN op = s at *
  go_enter Tryd.func30, Tryd.ntmps30
  go_wp2_with (first | (refine wpList_buildSlice rfl 75 9 57 _ rfl namesV ie (.string ⟨#[]⟩) Tryd.underlying75 HI.out HZ.out (by rw [HS.out]; decide) (by rw [HS.out]; decide) (by rw [HS.out]; kernel_rfl) ?_))
  go_ret
  exact ⟨rfl, (Below.refl _ w).alloc (Nat.le_refl _) _⟩

set_option maxHeartbeats 1000000 in
theorem rname_no (c : Int) (h : c < 0 ∨ 56 < c) (w : World) :
    Calls Tryd.prog 30 #[.int .i64 c] w fun e w' => e = .returned (.string ⟨#[]⟩) ∧ w' = w := by
  rcases h with h | h
  all_goals
    go_enter Tryd.func30, Tryd.ntmps30
    go_wp2
    go_ret
    exact ⟨rfl, rfl⟩

def kindB : ByteArray := ⟨#[85, 85, 74, 73, 66, 66, 66, 66, 66, 66, 76, 76, 76, 76, 76, 83, 83, 83, 73, 73, 73, 73, 73, 73, 72, 72, 72, 82, 82, 82, 82, 82, 82, 82, 82, 82, 82, 82, 82, 82, 82, 82, 82, 82, 82, 70, 70, 78, 78, 78, 78, 67, 67, 67, 67, 67, 67]⟩
theorem kindB_tab : ∀ op, op < 57 → (kindB.data.toList.getD op 0).toNat = kindN op := by decide +kernel
theorem kindB_at (op : Nat) (h : op < 57) (w : World) : (Instr.index 9 (.string kindB) (.int .i64 op)).run Tryd.prog w = .ok (.int .u8 (kindN op : Nat)) w := by
  rw [run_index_string (h := Tryd.underlying9)]
  have hs : kindB.size = 57 := rfl
  rw [dif_pos (by rw [hs]; omega)]
  congr 2
  have := kindB_tab op h
  have e : (kindB[(op : Int).toNat]'(by rw [hs]; omega)) = kindB.data.toList.getD op 0 := by
    have h' : op < kindB.data.toList.length := h
    rw [List.getD_eq_getElem?_getD, List.getElem?_eq_getElem h']
    rfl
  rw [e, this]

set_option maxHeartbeats 1000000 in
theorem rkind_yes (op : Nat) (hop : op < 57) (w : World) :
    Calls Tryd.prog 60 #[.int .i64 op] w fun e w' => e = .returned (.int .u8 (kindN op : Nat)) ∧ w' = w := by
  have hk := kindB_at op hop
  unfold kindB at hk
  go_enter Tryd.func60, Tryd.ntmps60
  go_wp2
  go_ret
  exact ⟨rfl, rfl⟩

set_option maxHeartbeats 1000000 in
theorem rkind_no (c : Int) (h : c < 0 ∨ 56 < c) (w : World) :
    Calls Tryd.prog 60 #[.int .i64 c] w fun e w' => e = .returned (.int .u8 0) ∧ w' = w := by
  rcases h with h | h
  all_goals
    go_enter Tryd.func60, Tryd.ntmps60
    go_wp2
    go_ret
    exact ⟨rfl, rfl⟩

set_option maxHeartbeats 1000000 in
set_option maxRecDepth 100000 in
theorem rplain_any (op : Nat) (hop : op < 57) (w : World) :
    Calls Tryd.prog 62 #[.int .i64 op] w fun e w' => e = .returned (.int .u32 (wordN op : Nat)) ∧ Below w.heap.size w w' := by
  obtain ⟨ie, hie, hz, hs⟩ := info2 infoU32
  have hc : (w.alloc (.cells wordsV 22)).cell? ⟨w.heap.size, op, none⟩ = some (.int .u32 (wordN op : Nat)) := (cell_of_row _ _ _ _ _ (0, 0) (heap_alloc_new w _)).trans (wordsV_at op hop)
  have HZ := hide hz
  have HS := hide hs
  have HI := hide hie
  clear hz hs hie
  generalize wordN op = s at *
  go_enter Tryd.func62, Tryd.ntmps62
  go_wp2_with (first | (refine wpList_buildSlice rfl 53 22 57 _ rfl wordsV ie (.int .u32 0) Tryd.underlying53 HI.out HZ.out (by rw [HS.out]; decide) (by rw [HS.out]; decide) (by rw [HS.out]; kernel_rfl) ?_))
  go_ret
  exact ⟨rfl, (Below.refl _ w).alloc (Nat.le_refl _) _⟩

end Go.Proofs.YtchjhpeogdkbmaaDoor
namespace Go.Proofs.YtchjhpeogdkbmaaDoor
open Go.RowKit
set_option linter.unusedVariables false

theorem str_ne8 {a b : ByteArray} (h : a ≠ b) : (a.toList == b.toList) = false := by
  rw [beq_eq_false_iff_ne]
  intro e
  rw [ByteArray.toList_eq, ByteArray.toList_eq] at e
  apply h
  obtain ⟨a⟩ := a
  obtain ⟨b⟩ := b
  congr 1
  exact Array.toList_inj.1 e

set_option maxHeartbeats 1000000 in
theorem rplace_hit (l : Nat → ByteArray) (n k b : Nat) (s : ByteArray) (hn : n < 100) (hk : k < n) (hm : l k = s) (hno : ∀ j, j < k → l j ≠ s) (w : World) (hc : ∀ j, j < n → w.cell? ⟨b, j, none⟩ = some (.string (l j))) :
    Calls Tryd.prog 31 #[.slice (some ⟨b, 0, none⟩) n n, .string s] w fun e w' => e = .returned (.int .i64 (k : Nat)) ∧ w' = w := by
  have HNO := hide hno
  have HC := hide hc
  clear hno hc
  go_enter Tryd.func31, Tryd.ntmps31
  go_wp2
  go_loopw [5] (fun iv wr => ∃ j : Nat, j ≤ k ∧ iv = .int .i64 j ∧ wr = w) (fun iv _ => k - (intOf iv).toNat)
  case atStart => exact ⟨0, by omega, rfl, rfl⟩
  case round =>
    obtain ⟨j, hj, rfl, hwr⟩ := hrel
    replace hwr := hide hwr
    have e1 : (j : Int) < n := by omega
    have e2 : (0 : Int) ≤ j := by omega
    by_cases hlt : j < k
    · have ht := str_ne8 (HNO.out j hlt)
      have hcj := HC.out j (by omega)
      rw [← hwr.out] at hcj
      clear hm
      generalize l j = z at *
      go_wp2
      go_roundw
      case rel => exact ⟨j + 1, by omega, by go_num, hwr.out⟩
      case measure => simp [intOf]; omega
    · obtain rfl : j = k := by omega
      have hcj := HC.out j (by omega)
      rw [← hwr.out] at hcj
      rw [hm] at hcj
      have ht : (s.toList == s.toList) = true := beq_self_eq_true _
      go_wp2
      go_ret
      exact ⟨rfl, hwr.out⟩
set_option maxHeartbeats 1000000 in
theorem rplace_miss (l : Nat → ByteArray) (n b : Nat) (s : ByteArray) (hn : n < 100) (hno : ∀ j, j < n → l j ≠ s) (w : World) (hc : ∀ j, j < n → w.cell? ⟨b, j, none⟩ = some (.string (l j))) :
    Calls Tryd.prog 31 #[.slice (some ⟨b, 0, none⟩) n n, .string s] w fun e w' => e = .returned (.int .i64 (-1)) ∧ w' = w := by
  have HNO := hide hno
  have HC := hide hc
  clear hno hc
  go_enter Tryd.func31, Tryd.ntmps31
  go_wp2
  go_loopw [5] (fun iv wr => ∃ j : Nat, j ≤ n ∧ iv = .int .i64 j ∧ wr = w) (fun iv _ => n - (intOf iv).toNat)
  case atStart => exact ⟨0, by omega, rfl, rfl⟩
  case round =>
    obtain ⟨j, hj, rfl, hwr⟩ := hrel
    replace hwr := hide hwr
    have e2 : (0 : Int) ≤ j := by omega
    by_cases hlt : j < n
    · have e1 : (j : Int) < n := by omega
      have ht := str_ne8 (HNO.out j hlt)
      have hcj := HC.out j (by omega)
      rw [← hwr.out] at hcj
      generalize l j = z at *
      go_wp2
      go_roundw
      case rel => exact ⟨j + 1, by omega, by go_num, hwr.out⟩
      case measure => simp [intOf]; omega
    · have e1 : ¬ (j : Int) < n := by omega
      go_wp2
      go_ret
      exact ⟨rfl, hwr.out⟩
end Go.Proofs.YtchjhpeogdkbmaaDoor
namespace Go.Proofs.YtchjhpeogdkbmaaDoor
open Go.RowKit
set_option linter.unusedVariables false

theorem infoInt : (Tryd.prog.info? 3).map (fun i => (i.zero, i.size, i.bytes)) = some (some (.int .i64 0), 1, 8) := by kernel_rfl

def intsOf (l : List Nat) : List Value := l.map fun (x : Nat) => Value.int .i64 (x : Int)
theorem intsOf_snoc (l : List Nat) (x : Nat) : intsOf (l ++ [x]) = intsOf l ++ [.int .i64 (x : Int)] := by simp [intsOf]
theorem intsOf_length (l : List Nat) : (intsOf l).length = l.length := by simp [intsOf]

theorem own_ge {w : World} {base : Nat} {e : TypeId} {size n : Nat} {v : Value} {xs : List Value} (h : w.ownsRow base e size v n xs) : ∀ k, v.ownBlock = some k → base ≤ k := by
  intro k hk
  rcases h.2 with ⟨rfl, _⟩ | ⟨g, cap, cur, rfl, hg, _⟩
  · simp [Value.ownBlock] at hk
  · simp [Value.ownBlock] at hk; omega

/-- The first places from one on downwards. -/
def downK (a k : Nat) : List Nat := (List.range k).map fun j => a - j
theorem downK_succ (a k : Nat) : downK a (k + 1) = downK a k ++ [a - k] := by simp [downK, List.range_succ]
theorem downK_length (a k : Nat) : (downK a k).length = k := by simp [downK]

/-- A slice of the call's own that holds these numbers. -/
def Own (base : Nat) (W : World) (v : Value) (l : List Nat) : Prop := W.ownsRow base 3 1 v l.length (intsOf l)

theorem Own.nil (base : Nat) (W : World) : Own base W (.slice none 0 0) [] := World.ownsRow_nil _ _ _ _

set_option maxHeartbeats 2000000 in
set_option maxRecDepth 100000 in
theorem down_any (base : Nat) (l : Value) (xs : List Nat) (a b : Nat) (hab : b ≤ a + 1) (ha : a ≤ 100) (hl : xs.length ≤ 100) (w : World) (hown : Own base w l xs) (hbase : base ≤ w.heap.size) :
    Calls Tryd.prog 89 #[l, .int .i64 a, .int .i64 b] w fun e w' => ∃ v, e = .returned v ∧ Own base w' v (xs ++ downK a (a + 1 - b)) ∧ Below base w w' := by
  obtain ⟨i0, hi, hz0, hz1, hz2⟩ := info_parts infoInt
  have HO := hide hown
  have HG := hide hbase
  clear hown
  go_enter Tryd.func89, Tryd.ntmps89
  go_wp2
  go_loopw [0, 7] (fun lv iv wr => ∃ k : Nat, k ≤ a + 1 - b ∧ iv = .int .i64 ((a : Int) - k) ∧ Own base wr lv (xs ++ downK a k) ∧ Below base w wr) (fun _ iv _ => (intOf iv + 1).toNat)
  case atStart => exact ⟨0, by omega, by simp, by simpa [downK] using HO.out, Below.refl _ _⟩
  case round =>
    obtain ⟨k, hk, rfl, hrow, hB⟩ := hrel
    by_cases hlt : k < a + 1 - b
    · obtain ⟨m, hm⟩ : ∃ m : Nat, (a : Int) - k = m := ⟨a - k, by omega⟩
      have HS : Hid (xs ++ downK a (k + 1) = (xs ++ downK a k) ++ [m]) := by show _ = _; rw [downK_succ, show a - k = m by omega, List.append_assoc]
      have hll : (xs ++ downK a k).length ≤ 300 := by rw [List.length_append, downK_length]; omega
      generalize xs ++ downK a k = ys at *
      have HGE := hide (own_ge hrow)
      have hsz : base ≤ wr.heap.size := Nat.le_trans HG.out hB.size
      unfold Own at hrow
      have hmb : (b : Int) ≤ m := by omega
      have HM := hide hm
      rw [hm]
      have ha2 : m ≤ 100 := by omega
      clear hm
      go_wp2_with (first | (at_builtin; refine wpList_append_own _ rfl _ _ 82 rfl base 3 i0 (.int .i64 0) 1 8 Tryd.underlying82 hi hz0 hz1 hz2 rfl (by decide) _ _ _ rfl (hrow.alloc _) ⟨_, 0, none⟩ 1 1 [.int .i64 (m : Int)] rfl rfl (cell_one_new _ _ _) (by simp [Value.oneCell']) (by unfold maxLen; omega) (by omega) (by simp; omega) ?_; intro v' w4 hown' hgrow' _))
      go_roundw
      case rel => exact ⟨k + 1, by omega, by have := HM.out; congr 1; omega, by unfold Own; rw [HS.out, intsOf_snoc, List.length_append]; exact hown', (hB.alloc hsz _).grown hgrow' (by simp; omega) HGE.out⟩
      case measure => simp [intOf]
    · obtain rfl : k = a + 1 - b := by omega
      have hlt2 : (a : Int) - ((a + 1 - b : Nat) : Int) < b := by omega
      generalize (a : Int) - ((a + 1 - b : Nat) : Int) = z at *
      go_wp2
      go_ret
      exact ⟨_, rfl, hrow, hB⟩

theorem Own.cells {base : Nat} {W : World} {v : Value} {l : List Nat} (h : Own base W v l) (h0 : l ≠ []) : ∃ g cap, v = .slice (some ⟨g, 0, none⟩) l.length cap ∧ l.length ≤ cap ∧ cap ≤ maxLen ∧ ∀ j, j < l.length → W.cell? ⟨g, j, none⟩ = some (.int .i64 (l.getD j 0 : Nat)) := by
  obtain ⟨_, hh⟩ := h
  rcases hh with ⟨rfl, hl⟩ | ⟨g, cap, cur, rfl, hg, hcur, hcap, hmax, hsz, htake⟩
  · exact absurd (List.eq_nil_of_length_eq_zero hl) h0
  · refine ⟨g, cap, rfl, hcap, hmax, ?_⟩
    intro j hj
    rw [cell_of_row _ _ _ _ _ (0, 0) hcur]
    have e : cur[j]? = (cur.toList.take (l.length * 1))[j]? := by
      rw [List.getElem?_take_of_lt (by omega)]; simp
    rw [e, htake, intsOf, List.getElem?_map, List.getElem?_eq_getElem hj, List.getD_eq_getElem?_getD, List.getElem?_eq_getElem hj]
    rfl

/-- The number of the bits at some places, the highest first and with its sign, as far as they have come. -/
def bitsF (v : Nat) (ps : List Nat) : Nat → Int
  | 0 => 0
  | 1 => -((bitN v (ps.getD 0 0 : Nat) : Nat) : Int)
  | k + 2 => 2 * bitsF v ps (k + 1) + ((bitN v (ps.getD (k + 1) 0 : Nat) : Nat) : Int)

theorem bitsF_bound (v : Nat) (ps : List Nat) : ∀ k, -(2 ^ k : Nat) ≤ bitsF v ps k ∧ bitsF v ps k < (2 ^ k : Nat)
  | 0 => by simp [bitsF]
  | 1 => by
    have := bitN_le v (ps.getD 0 0 : Nat)
    simp only [bitsF]; omega
  | k + 2 => by
    have h := bitsF_bound v ps (k + 1)
    have hb := bitN_le v (ps.getD (k + 1) 0 : Nat)
    have hp : 0 < 2 ^ (k + 1) := Nat.pow_pos (by decide)
    rw [Nat.pow_succ 2 (k + 1)]
    simp only [bitsF]
    omega
end Go.Proofs.YtchjhpeogdkbmaaDoor
namespace Go.Proofs.YtchjhpeogdkbmaaDoor
open Go.RowKit
set_option linter.unusedVariables false

theorem bitsF_in (v : Nat) (ps : List Nat) (k : Nat) (h : k ≤ 20) : -1048576 ≤ bitsF v ps k ∧ bitsF v ps k ≤ 1048576 := by
  have := bitsF_bound v ps k
  have hp : 2 ^ k ≤ 2 ^ 20 := Nat.pow_le_pow_right (by decide) h
  omega

theorem pow_in (z : Int) (k : Nat) (hz : -1048576 ≤ z ∧ z ≤ 1048576) (h : k ≤ 12) : -4294967296 ≤ z * 2 ^ k ∧ z * 2 ^ k ≤ 4294967296 := by
  have h1 : (2 : Int) ^ k ≤ 4096 := by
    have : (2 : Nat) ^ k ≤ 2 ^ 12 := Nat.pow_le_pow_right (by decide) h
    have e : ((2 ^ k : Nat) : Int) = (2 : Int) ^ k := by simp
    omega
  have h0 : (0 : Int) < 2 ^ k := Int.pow_pos (by decide)
  generalize (2 : Int) ^ k = q at *
  constructor
  · have := Int.mul_le_mul_of_nonneg_right hz.1 (Int.le_of_lt h0)
    have := Int.mul_le_mul_of_nonneg_left h1 (show (0 : Int) ≤ 1048576 by decide)
    omega
  · have := Int.mul_le_mul_of_nonneg_right hz.2 (Int.le_of_lt h0)
    have := Int.mul_le_mul_of_nonneg_left h1 (show (0 : Int) ≤ 1048576 by decide)
    omega

set_option maxHeartbeats 2000000 in
set_option maxRecDepth 100000 in
theorem bits_any (v : Nat) (hv : v < 4294967296) (ps : List Nat) (hps : ps ≠ []) (hl : ps.length ≤ 20) (c : Nat) (hc : c ≤ 12) (base : Nat) (p : Value) (w : World) (hown : Own base w p ps) :
    Calls Tryd.prog 88 #[.int .u32 v, p, .int .i64 c] w fun e w' => e = .returned (.int .i64 (bitsF v ps ps.length * 2 ^ c)) ∧ Below w.heap.size w w' := by
  obtain ⟨g, cap, rfl, hcap, hmax, hcell⟩ := hown.cells hps
  have HC := hide hcell
  have HB := hide (bit_any v hv)
  have HFB := hide (bitsF_in v ps)
  clear hcell hown hmax
  go_enter Tryd.func88, Tryd.ntmps88
  go_wp2
  go_loop [7, 8] (fun nv iv => ∃ k : Nat, k ≤ ps.length ∧ iv = .int .i64 k ∧ nv = .int .i64 (bitsF v ps k)) (fun _ iv => ps.length - (intOf iv).toNat)
  case atStart => exact ⟨0, by omega, rfl, rfl⟩
  case round =>
    obtain ⟨k, hk, rfl, rfl⟩ := hrel
    have hF := HFB.out k (by omega)
    by_cases hlt : k < ps.length
    · have hcl := HC.out k hlt
      have hbl := bitN_le v (ps.getD k 0 : Nat)
      have hF1 : Hid (bitsF v ps (k + 1) = if k = 0 then -(2 * bitsF v ps k + ((bitN v (ps.getD k 0 : Nat) : Nat) : Int)) else 2 * bitsF v ps k + ((bitN v (ps.getD k 0 : Nat) : Nat) : Int)) := by
        show _ = _
        cases k with
        | zero => simp [bitsF]
        | succ m => rfl
      by_cases h0 : k = 0
      · subst h0
        have hF2 : Hid (bitsF v ps (0 + 1) = -(2 * bitsF v ps 0 + ((bitN v (ps.getD 0 0 : Nat) : Nat) : Int))) := hF1.out.trans (if_pos rfl)
        clear hF1
        generalize bitsF v ps 0 = z at *
        generalize ps.getD 0 0 = q at *
        go_wp2_with (first | (go_at_call 39; refine (HB.out _ _).mono ?_; rintro e w3 ⟨rfl, rfl⟩))
        go_round
        case rel => exact ⟨0 + 1, by omega, by go_num, by rw [hF2.out]⟩
        case measure => simp [intOf]; omega
      · have hF2 : Hid (bitsF v ps (k + 1) = 2 * bitsF v ps k + ((bitN v (ps.getD k 0 : Nat) : Nat) : Int)) := hF1.out.trans (if_neg h0)
        clear hF1
        generalize bitsF v ps k = z at *
        generalize ps.getD k 0 = q at *
        go_wp2_with (first | (go_at_call 39; refine (HB.out _ _).mono ?_; rintro e w3 ⟨rfl, rfl⟩))
        go_round
        case rel => exact ⟨k + 1, by omega, by go_num, by rw [hF2.out]⟩
        case measure => simp [intOf]; omega
    · obtain rfl : k = ps.length := by omega
      generalize hz : bitsF v ps ps.length = z at *
      have HZ := hide hz
      clear hz
      have HP := hide (fun k (h : k ≤ 12) => pow_in z k hF h)
      go_wp2
      go_loop [7, 9] (fun nv iv => ∃ k : Nat, k ≤ c ∧ iv = .int .i64 k ∧ nv = .int .i64 (z * 2 ^ k)) (fun _ iv => c - (intOf iv).toNat)
      case atStart => exact ⟨0, by omega, rfl, by simp⟩
      case round =>
        obtain ⟨k, hk2, rfl, rfl⟩ := hrel
        have hq := HP.out k (by omega)
        by_cases hlt2 : k < c
        · have hq2 : Hid (z * 2 ^ (k + 1) = 2 * (z * 2 ^ k)) := by show _ = _; rw [Int.pow_succ, ← Int.mul_assoc, Int.mul_comm]
          generalize z * 2 ^ k = y at *
          go_wp2
          go_round
          case rel => exact ⟨k + 1, by omega, by go_num, by rw [hq2.out]⟩
          case measure => simp [intOf]; omega
        · obtain rfl : k = c := by omega
          generalize hy : z * 2 ^ k = y at *
          have HY := hide hy
          clear hy
          go_wp2
          go_ret
          exact ⟨ret_int (by rw [← HY.out, ← HZ.out]), Below.refl _ _⟩
end Go.Proofs.YtchjhpeogdkbmaaDoor
namespace Go.Proofs.YtchjhpeogdkbmaaDoor
open Go.RowKit
set_option linter.unusedVariables false

/-- A literal's slice is the call's own. -/
theorem Own.new1 (w : World) (a : Nat) : Own w.heap.size (w.alloc (.cells #[.int .i64 a] 3)) (.slice (some ⟨w.heap.size, 0, none⟩) 1 1) [a] :=
  ⟨rfl, .inr ⟨w.heap.size, 1, _, rfl, Nat.le_refl _, heap_alloc_new w _, Nat.le_refl _, by unfold maxLen; decide, rfl, rfl⟩⟩
theorem Own.new2 (w : World) (a b : Nat) : Own w.heap.size (w.alloc (.cells #[.int .i64 a, .int .i64 b] 3)) (.slice (some ⟨w.heap.size, 0, none⟩) 2 2) [a, b] :=
  ⟨rfl, .inr ⟨w.heap.size, 2, _, rfl, Nat.le_refl _, heap_alloc_new w _, Nat.le_refl _, by unfold maxLen; decide, rfl, rfl⟩⟩

def placesJ : List Nat := (([31] ++ downK 19 8) ++ [20] ++ downK 30 6) ++ downK 24 4
def placesB : List Nat := ([31, 7] ++ downK 30 6) ++ downK 11 4
def placesS : List Nat := downK 31 7 ++ downK 11 5

end Go.Proofs.YtchjhpeogdkbmaaDoor
namespace Go.Proofs.YtchjhpeogdkbmaaDoor
open Go.RowKit
set_option linter.unusedVariables false

set_option maxHeartbeats 2000000 in
set_option maxRecDepth 100000 in
theorem rnumber_U (v : Nat) (hv : v < 4294967296) (w : World) :
    Calls Tryd.prog 63 #[.int .u8 85, .int .u32 v] w fun e w' => e = .returned (.int .i64 (bitsF v (downK 31 20) 20 * 2 ^ 12)) ∧ Below w.heap.size w w' := by
  have HD := hide (down_any w.heap.size (.slice none 0 0) [] 31 12 (by decide) (by decide) (by decide) w (Own.nil _ _) (Nat.le_refl _))
  have HB := hide (bits_any v hv (downK 31 20) (by decide) (by decide) 12 (by decide))
  go_enter Tryd.func63, Tryd.ntmps63
  go_wp2_with (first | (go_at_call 89; refine HD.out.mono ?_; rintro e w2 ⟨l2, rfl, ho2, hb2⟩) | (go_at_call 88; refine (HB.out _ _ _ ho2).mono ?_; rintro e w3 ⟨rfl, hb3⟩))
  go_ret
  exact ⟨rfl, hb2.trans (hb3.mono hb2.size)⟩

set_option maxHeartbeats 2000000 in
set_option maxRecDepth 100000 in
theorem rnumber_I (k : Nat) (hk : k = 73 ∨ k = 76 ∨ k = 70) (v : Nat) (hv : v < 4294967296) (w : World) :
    Calls Tryd.prog 63 #[.int .u8 k, .int .u32 v] w fun e w' => e = .returned (.int .i64 (bitsF v (downK 31 12) 12)) ∧ Below w.heap.size w w' := by
  have HD := hide (down_any w.heap.size (.slice none 0 0) [] 31 20 (by decide) (by decide) (by decide) w (Own.nil _ _) (Nat.le_refl _))
  have HB := hide (bits_any v hv (downK 31 12) (by decide) (by decide) 0 (by decide))
  rcases hk with rfl | rfl | rfl
  all_goals
    go_enter Tryd.func63, Tryd.ntmps63
    go_wp2_with (first | (go_at_call 89; refine HD.out.mono ?_; rintro e w2 ⟨l2, rfl, ho2, hb2⟩) | (go_at_call 88; refine (HB.out _ _ _ ho2).mono ?_; rintro e w3 ⟨rfl, hb3⟩))
    go_ret
    exact ⟨rfl, hb2.trans (hb3.mono hb2.size)⟩

set_option maxHeartbeats 2000000 in
set_option maxRecDepth 100000 in
theorem rnumber_S (v : Nat) (hv : v < 4294967296) (w : World) :
    Calls Tryd.prog 63 #[.int .u8 83, .int .u32 v] w fun e w' => e = .returned (.int .i64 (bitsF v placesS 12)) ∧ Below w.heap.size w w' := by
  have HD := hide (down_any w.heap.size (.slice none 0 0) [] 31 25 (by decide) (by decide) (by decide) w (Own.nil _ _) (Nat.le_refl _))
  have HD2 := hide (fun l W (ho : Own w.heap.size W l (downK 31 7)) (hb : Below w.heap.size w W) => down_any w.heap.size l (downK 31 7) 11 7 (by decide) (by decide) (by decide) W ho hb.size)
  have HB := hide (bits_any v hv placesS (by decide) (by decide) 0 (by decide))
  go_enter Tryd.func63, Tryd.ntmps63
  go_wp2_with (fail)
  refine HD.out.mono ?_; rintro e w2 ⟨l2, rfl, ho2, hb2⟩
  go_wp2_with (fail)
  refine (HD2.out _ _ ho2 hb2).mono ?_; rintro e w3 ⟨l3, rfl, ho3, hb3⟩
  replace hb3 := hb2.trans hb3
  go_wp2_with (first | (go_at_call 88; refine (HB.out _ _ _ ho3).mono ?_; rintro e w4 ⟨rfl, hb4⟩))
  go_ret
  exact ⟨rfl, hb3.trans (hb4.mono hb3.size)⟩

set_option maxHeartbeats 2000000 in
set_option maxRecDepth 100000 in
theorem rnumber_B (v : Nat) (hv : v < 4294967296) (w : World) :
    Calls Tryd.prog 63 #[.int .u8 66, .int .u32 v] w fun e w' => e = .returned (.int .i64 (bitsF v placesB 12 * 2 ^ 1)) ∧ Below w.heap.size w w' := by
  have HN := hide (Own.new2 w 31 7)
  have HD := hide (fun W l (hb : Below w.heap.size w W) (ho : Own w.heap.size W l [31, 7]) => down_any w.heap.size l [31, 7] 30 25 (by decide) (by decide) (by decide) W ho hb.size)
  have HD2 := hide (fun l W (ho : Own w.heap.size W l ([31, 7] ++ downK 30 6)) (hb : Below w.heap.size w W) => down_any w.heap.size l ([31, 7] ++ downK 30 6) 11 8 (by decide) (by decide) (by decide) W ho hb.size)
  have HB := hide (bits_any v hv placesB (by decide) (by decide) 1 (by decide))
  go_enter Tryd.func63, Tryd.ntmps63
  go_wp2_with (fail)
  refine (HD.out _ _ ((Below.refl _ w).alloc (Nat.le_refl _) _) HN.out).mono ?_; rintro e w2 ⟨l2, rfl, ho2, hb2⟩
  replace hb2 := ((Below.refl _ w).alloc (Nat.le_refl _) _).trans hb2
  go_wp2_with (fail)
  refine (HD2.out _ _ ho2 hb2).mono ?_; rintro e w3 ⟨l3, rfl, ho3, hb3⟩
  replace hb3 := hb2.trans hb3
  go_wp2_with (first | (go_at_call 88; refine (HB.out _ _ _ ho3).mono ?_; rintro e w4 ⟨rfl, hb4⟩))
  go_ret
  exact ⟨rfl, hb3.trans (hb4.mono hb3.size)⟩

set_option maxHeartbeats 2000000 in
set_option maxRecDepth 100000 in
theorem rnumber_J (v : Nat) (hv : v < 4294967296) (w : World) :
    Calls Tryd.prog 63 #[.int .u8 74, .int .u32 v] w fun e w' => e = .returned (.int .i64 (bitsF v placesJ 20 * 2 ^ 1)) ∧ Below w.heap.size w w' := by
  obtain ⟨i0, hi, hz0, hz1, hz2⟩ := info_parts infoInt
  have HN := hide (Own.new1 w 31)
  have HD := hide (fun W l (hb : Below w.heap.size w W) (ho : Own w.heap.size W l [31]) => down_any w.heap.size l [31] 19 12 (by decide) (by decide) (by decide) W ho hb.size)
  have HD2 := hide (fun l W (ho : Own w.heap.size W l (([31] ++ downK 19 8) ++ [20])) (hb : Below w.heap.size w W) => down_any w.heap.size l (([31] ++ downK 19 8) ++ [20]) 30 25 (by decide) (by decide) (by decide) W ho hb.size)
  have HD3 := hide (fun l W (ho : Own w.heap.size W l (([31] ++ downK 19 8) ++ [20] ++ downK 30 6)) (hb : Below w.heap.size w W) => down_any w.heap.size l (([31] ++ downK 19 8) ++ [20] ++ downK 30 6) 24 21 (by decide) (by decide) (by decide) W ho hb.size)
  have HB := hide (bits_any v hv placesJ (by decide) (by decide) 1 (by decide))
  go_enter Tryd.func63, Tryd.ntmps63
  go_wp2_with (fail)
  refine (HD.out _ _ ((Below.refl _ w).alloc (Nat.le_refl _) _) HN.out).mono ?_; rintro e w2 ⟨l2, rfl, ho2, hb2⟩
  replace hb2 := ((Below.refl _ w).alloc (Nat.le_refl _) _).trans hb2
  have hrow : w2.ownsRow w.heap.size 3 1 l2 9 (intsOf ([31] ++ downK 19 8)) := ho2
  have HGE := hide (own_ge hrow)
  have hsz := hb2.size
  go_wp2_with (first | (at_builtin; refine wpList_append_own _ rfl _ _ 82 rfl w.heap.size 3 i0 (.int .i64 0) 1 8 Tryd.underlying82 hi hz0 hz1 hz2 rfl (by decide) _ _ _ rfl (hrow.alloc _) ⟨_, 0, none⟩ 1 1 [.int .i64 20] rfl rfl (cell_one_new _ _ _) (by simp [Value.oneCell']) (by unfold maxLen; omega) (by omega) (by simp; omega) ?_; intro v' w4 hown' hgrow' _))
  have ho4 : Own w.heap.size w4 v' (([31] ++ downK 19 8) ++ [20]) := hown'
  have hb4 := (hb2.alloc hsz _).grown hgrow' (by simp; omega) HGE.out
  clear hrow hown' hgrow' ho2 hb2 hsz
  go_wp2_with (fail)
  refine (HD2.out _ _ ho4 hb4).mono ?_; rintro e w5 ⟨l5, rfl, ho5, hb5⟩
  replace hb5 := hb4.trans hb5
  go_wp2_with (fail)
  refine (HD3.out _ _ ho5 hb5).mono ?_; rintro e w6 ⟨l6, rfl, ho6, hb6⟩
  replace hb6 := hb5.trans hb6
  go_wp2_with (first | (go_at_call 88; refine (HB.out _ _ _ ho6).mono ?_; rintro e w7 ⟨rfl, hb7⟩))
  go_ret
  exact ⟨rfl, hb6.trans (hb7.mono hb6.size)⟩

set_option maxHeartbeats 2000000 in
theorem rnumber_H (v : Nat) (hv : v < 4294967296) (w : World) :
    Calls Tryd.prog 63 #[.int .u8 72, .int .u32 v] w fun e w' => e = .returned (.int .i64 (v / 1048576 % 32 : Nat)) ∧ Below w.heap.size w w' := by
  go_enter Tryd.func63, Tryd.ntmps63
  go_wp2
  go_ret
  exact ⟨ret_int (by simp), Below.refl _ _⟩

set_option maxHeartbeats 2000000 in
theorem rnumber_0 (k : Nat) (hk : k = 67 ∨ k = 82 ∨ k = 78) (v : Nat) (w : World) :
    Calls Tryd.prog 63 #[.int .u8 k, .int .u32 v] w fun e w' => e = .returned (.int .i64 0) ∧ Below w.heap.size w w' := by
  rcases hk with rfl | rfl | rfl
  all_goals
    go_enter Tryd.func63, Tryd.ntmps63
    go_wp2
    go_ret
    exact ⟨rfl, Below.refl _ _⟩
end Go.Proofs.YtchjhpeogdkbmaaDoor
namespace Go.Proofs.YtchjhpeogdkbmaaDoor
open Go.RowKit
set_option linter.unusedVariables false

/-- The word of an Int, as 32 bits. -/
def u32N (c : Int) : Nat := (c % 4294967296).toNat
theorem u32N_lt (c : Int) : u32N c < 4294967296 := by unfold u32N; omega
theorem u32N_cast (c : Int) : ((u32N c : Nat) : Int) = c % 4294967296 := by unfold u32N; omega

/-- A word with a number's pieces added. -/
def spread (n : Nat) : List (Nat × Nat × Nat) → Nat → Nat
  | [], acc => acc
  | p :: l, acc => spread n l (acc ||| setW 0 p.1 p.2.2 (fieldW n p.2.1 p.2.2))
theorem spread_lt (n : Nat) : ∀ (l : List (Nat × Nat × Nat)) (acc : Nat), acc < 4294967296 → spread n l acc < 4294967296
  | [], _, h => h
  | p :: l, acc, h => spread_lt n l _ (Nat.or_lt_two_pow (n := 32) h (setW_lt _ (by decide) _ _ _))

def startN (op : Nat) (i : I6) : Nat := (((wordN op ||| setW 0 7 5 (u32N i.rd)) ||| setW 0 15 5 (u32N i.rs1)) ||| setW 0 20 5 (u32N i.rs2)) ||| setW 0 20 12 (u32N i.csr)
def laidN (op : Nat) (i : I6) : Nat := spread (u32N i.imm) (piecesN (kindN op)) (startN op i)

theorem in_or_lt32 {a b : Nat} (h : a < 4294967296) (k : b < 4294967296) : a ||| b < 4294967296 := Nat.or_lt_two_pow (n := 32) h k
theorem startN_lt (op : Nat) (i : I6) : startN op i < 4294967296 :=
  in_or_lt32 (in_or_lt32 (in_or_lt32 (in_or_lt32 (wordN_lt op) (setW_lt _ (by decide) _ _ _)) (setW_lt _ (by decide) _ _ _)) (setW_lt _ (by decide) _ _ _)) (setW_lt _ (by decide) _ _ _)
end Go.Proofs.YtchjhpeogdkbmaaDoor
namespace Go.Proofs.YtchjhpeogdkbmaaDoor
set_option linter.unusedVariables false

theorem fieldW_arith (v : Nat) (hv : v < 4294967296) (lo n : Nat) (h : lo + n ≤ 32) : fieldW v lo n = v / 2 ^ lo % 2 ^ n := by
  apply Nat.eq_of_testBit_eq
  intro i
  by_cases hi : i < 32
  · unfold fieldW
    rw [Nat.testBit_and, raiseN_bit v hv _ i hi, placesN_bit, Nat.testBit_mod_two_pow, Nat.testBit_div_two_pow]
    have e : ((i : Int) - -(lo : Int)).toNat = i + lo := by omega
    rw [e]
    by_cases h1 : i < n
    · have a1 : (0 : Int) ≤ (i : Int) - -(lo : Int) := by omega
      have a2 : (0 : Int) ≤ (i : Int) := by omega
      simp [h1, hi]; intros; omega
    · simp [h1]
  · rw [high_bit _ (fieldW_lt v lo n) i (by omega), Nat.testBit_mod_two_pow]
    simp; omega

theorem setW_arith (v : Nat) (hv : v < 4294967296) (lo n : Nat) (h : lo + n ≤ 32) (x : Nat) (hx : x < 4294967296) :
    setW v lo n x = v % 2 ^ lo + x % 2 ^ n * 2 ^ lo + v / 2 ^ (lo + n) * 2 ^ (lo + n) := by
  have e : v % 2 ^ lo + x % 2 ^ n * 2 ^ lo + v / 2 ^ (lo + n) * 2 ^ (lo + n) = 2 ^ (lo + n) * (v / 2 ^ (lo + n)) + (2 ^ lo * (x % 2 ^ n) + v % 2 ^ lo) := by
    rw [Nat.mul_comm (x % 2 ^ n), Nat.mul_comm (v / 2 ^ (lo + n))]; omega
  have hl : v % 2 ^ lo < 2 ^ lo := Nat.mod_lt _ (Nat.pow_pos (by decide))
  have hx2 : x % 2 ^ n < 2 ^ n := Nat.mod_lt _ (Nat.pow_pos (by decide))
  have hlt : 2 ^ lo * (x % 2 ^ n) + v % 2 ^ lo < 2 ^ (lo + n) := by
    rw [Nat.pow_add]
    calc 2 ^ lo * (x % 2 ^ n) + v % 2 ^ lo < 2 ^ lo * (x % 2 ^ n) + 2 ^ lo := by omega
      _ = 2 ^ lo * (x % 2 ^ n + 1) := by rw [Nat.mul_add, Nat.mul_one]
      _ ≤ 2 ^ lo * 2 ^ n := Nat.mul_le_mul_left _ hx2
  rw [e]
  apply Nat.eq_of_testBit_eq
  intro i
  rw [Nat.testBit_two_pow_mul_add _ hlt, Nat.testBit_two_pow_mul_add _ hl, Nat.testBit_mod_two_pow, Nat.testBit_mod_two_pow, Nat.testBit_div_two_pow]
  have hset := set_num v hv lo n x hx
  by_cases hi : i < 32
  · have hc : (4294967295 - placesN lo n).testBit i = !(placesN lo n).testBit i := by
      have := Nat.testBit_two_pow_sub_succ (placesN_lt lo n) i
      have e : 4294967295 - placesN lo n = 2 ^ 32 - (placesN lo n + 1) := by have := placesN_lt lo n; omega
      rw [e, this]; simp [hi]
    unfold setW
    rw [Nat.testBit_or, Nat.testBit_and, Nat.testBit_and, hc, raiseN_bit x hx _ i hi, placesN_bit]
    have e2 : ((i : Int) - (lo : Int)).toNat = i - lo := by omega
    rw [e2]
    by_cases h1 : i < lo
    · have a1 : ¬ ((lo : Int) ≤ (i : Int)) := by omega
      simp [h1, show i < lo + n by omega, a1]
    · by_cases h2 : i < lo + n
      · have a1 : ((lo : Int) ≤ (i : Int)) := by omega
        have a2 : ((i : Int) - (lo : Int) < (n : Int)) := by omega
        simp [h1, h2, a1, a2, hi, show i - lo < n by omega]
      · have a2 : ¬ ((i : Int) - (lo : Int) < (n : Int)) := by omega
        simp [h2, a2, show i - (lo + n) + (lo + n) = i by omega]
  · rw [high_bit _ (setW_lt v hv lo n x) i (by omega)]
    have h3 : ¬ i < lo + n := by omega
    rw [if_neg h3, show i - (lo + n) + (lo + n) = i by omega, high_bit v hv i (by omega)]

theorem or_field (a b k n : Nat) (hb : b < 2 ^ n) (ha : a / 2 ^ k % 2 ^ n = 0) : a ||| b * 2 ^ k = a + b * 2 ^ k := by
  have h1 : a = 2 ^ (k + n) * (a / 2 ^ (k + n)) + a % 2 ^ k := by
    have q1 := Nat.div_add_mod a (2 ^ k)
    have q2 := Nat.div_add_mod (a / 2 ^ k) (2 ^ n)
    rw [ha, Nat.add_zero, Nat.div_div_eq_div_mul, ← Nat.pow_add] at q2
    rw [← q2, ← Nat.mul_assoc, ← Nat.pow_add] at q1
    exact q1.symm
  have hl : a % 2 ^ k < 2 ^ k := Nat.mod_lt _ (Nat.pow_pos (by decide))
  have hlt : 2 ^ k * b + a % 2 ^ k < 2 ^ (k + n) := by
    rw [Nat.pow_add]
    calc 2 ^ k * b + a % 2 ^ k < 2 ^ k * b + 2 ^ k := by omega
      _ = 2 ^ k * (b + 1) := by rw [Nat.mul_add, Nat.mul_one]
      _ ≤ 2 ^ k * 2 ^ n := Nat.mul_le_mul_left _ hb
  have hlt2 : a % 2 ^ k < 2 ^ (k + n) := Nat.lt_of_lt_of_le hl (Nat.pow_le_pow_right (by decide) (by omega))
  have e : a + b * 2 ^ k = 2 ^ (k + n) * (a / 2 ^ (k + n)) + (2 ^ k * b + a % 2 ^ k) := by
    rw [Nat.mul_comm b]; omega
  rw [e]
  generalize a / 2 ^ (k + n) = q at *
  generalize a % 2 ^ k = r at *
  subst h1
  apply Nat.eq_of_testBit_eq
  intro i
  rw [Nat.testBit_or, Nat.testBit_two_pow_mul_add _ hlt, Nat.testBit_two_pow_mul_add _ hl, Nat.testBit_two_pow_mul_add _ hlt2, Nat.testBit_mul_two_pow]
  by_cases h1 : i < k
  · simp [h1, show i < k + n by omega, show ¬ k ≤ i by omega]
  · have hr : r.testBit i = false := Nat.testBit_lt_two_pow (Nat.lt_of_lt_of_le hl (Nat.pow_le_pow_right (by decide) (by omega)))
    by_cases h2 : i < k + n
    · simp [h1, h2, hr, show k ≤ i by omega]
    · have hb' : b.testBit (i - k) = false := Nat.testBit_lt_two_pow (Nat.lt_of_lt_of_le hb (Nat.pow_le_pow_right (by decide) (by omega)))
      simp [h2, hb', show k ≤ i by omega]

theorem signW_arith (x n : Nat) (h1 : 1 ≤ n) (h2 : n ≤ 31) : signW x (n : Nat) = x % 2 ^ n + (x / 2 ^ (n - 1) % 2) * (2 ^ 32 - 2 ^ n) := by
  unfold signW
  rw [if_neg (by omega), if_neg (by omega)]
  rfl

theorem setW_top (a : Nat) (lo n x : Nat) (h : lo + n ≤ 32) (ha : a < 2 ^ lo) (hx : x < 2 ^ n) : setW a lo n x = a + x * 2 ^ lo := by
  have p1 : 2 ^ lo ≤ 2 ^ 32 := Nat.pow_le_pow_right (by decide) (by omega)
  have p2 : 2 ^ n ≤ 2 ^ 32 := Nat.pow_le_pow_right (by decide) (by omega)
  have p3 : 2 ^ lo ≤ 2 ^ (lo + n) := Nat.pow_le_pow_right (by decide) (by omega)
  rw [setW_arith a (Nat.lt_of_lt_of_le ha p1) lo n h x (Nat.lt_of_lt_of_le hx p2), Nat.mod_eq_of_lt ha, Nat.mod_eq_of_lt hx, Nat.div_eq_of_lt (Nat.lt_of_lt_of_le ha p3)]
  omega
theorem setW_none (a : Nat) (ha : a < 4294967296) (v : Nat) (hv : v < 4294967296) : setW a (0 : Nat) (0 : Nat) (fieldW v (0 : Nat) (0 : Nat)) = a := by
  rw [fieldW_arith v hv 0 0 (by decide), setW_arith a ha 0 0 (by decide) _ (by simp [Nat.mod_one])]
  simp [Nat.mod_one]
theorem sgn12 (a t : Nat) (ha : a < 2048) (ht : t < 2) : asInt (signW (a + t * 2048) (12 : Nat)) = (a : Int) - (t * 2048 : Nat) := by
  rw [signW_arith _ 12 (by decide) (by decide)]
  have g4 : (a + t * 2048) % 2 ^ 12 = a + t * 2048 := by omega
  have g5 : (a + t * 2048) / 2 ^ (12 - 1) % 2 = t := by omega
  rw [g4, g5]
  unfold asInt
  split <;> omega
theorem sgn13 (a t : Nat) (ha : a < 4096) (ht : t < 2) : asInt (signW (a + t * 4096) (13 : Nat)) = (a : Int) - (t * 4096 : Nat) := by
  rw [signW_arith _ 13 (by decide) (by decide)]
  have g4 : (a + t * 4096) % 2 ^ 13 = a + t * 4096 := by omega
  have g5 : (a + t * 4096) / 2 ^ (13 - 1) % 2 = t := by omega
  rw [g4, g5]
  unfold asInt
  split <;> omega
theorem sgn21 (a t : Nat) (ha : a < 1048576) (ht : t < 2) : asInt (signW (a + t * 1048576) (21 : Nat)) = (a : Int) - (t * 1048576 : Nat) := by
  rw [signW_arith _ 21 (by decide) (by decide)]
  have g4 : (a + t * 1048576) % 2 ^ 21 = a + t * 1048576 := by omega
  have g5 : (a + t * 1048576) / 2 ^ (21 - 1) % 2 = t := by omega
  rw [g4, g5]
  unfold asInt
  split <;> omega
theorem number_U (v : Nat) (hv : v < 4294967296) : numberN 85 v = (v / 4096 % 524288 * 4096 : Nat) - (v / 2147483648 * 2147483648 : Nat) := by
  unfold numberN
  have e1 : piecesN 85 = [(12, 12, 20), (0, 0, 0), (0, 0, 0), (0, 0, 0)] := rfl
  have e2 : sizeN 85 = 32 := rfl
  rw [e1, e2]
  simp only [gather]
  rw [fieldW_arith v hv 12 20 (by decide)]
  have hp0 : v / 2 ^ 12 % 2 ^ 20 < 2 ^ 20 := Nat.mod_lt _ (by decide)
  generalize hqp0 : v / 2 ^ 12 % 2 ^ 20 = p0 at *
  have s0 : setW (0) (12 : Nat) (20 : Nat) p0 = 0 + p0 * 2 ^ 12 := setW_top _ 12 20 p0 (by decide) (by omega) hp0
  rw [s0]
  rw [setW_none (0 + p0 * 2 ^ 12) (by omega) v hv]
  rw [setW_none (0 + p0 * 2 ^ 12) (by omega) v hv]
  rw [setW_none (0 + p0 * 2 ^ 12) (by omega) v hv]
  have hs : signW (0 + p0 * 2 ^ 12) (32 : Nat) = 0 + p0 * 2 ^ 12 := by unfold signW; rw [if_neg (by omega), if_pos (by omega)]
  rw [hs]
  unfold asInt
  split <;> omega
theorem number_I (k : Nat) (hk : k = 73 ∨ k = 76 ∨ k = 70) (v : Nat) (hv : v < 4294967296) : numberN k v = (v / 1048576 % 2048 : Nat) - (v / 2147483648 * 2048 : Nat) := by
  unfold numberN
  have e1 : piecesN k = [(20, 0, 12), (0, 0, 0), (0, 0, 0), (0, 0, 0)] := by rcases hk with rfl | rfl | rfl <;> rfl
  have e2 : sizeN k = 12 := by rcases hk with rfl | rfl | rfl <;> rfl
  rw [e1, e2]
  simp only [gather]
  rw [fieldW_arith v hv 20 12 (by decide)]
  have hp0 : v / 2 ^ 20 % 2 ^ 12 < 2 ^ 12 := Nat.mod_lt _ (by decide)
  generalize hqp0 : v / 2 ^ 20 % 2 ^ 12 = p0 at *
  have s0 : setW (0) (0 : Nat) (12 : Nat) p0 = 0 + p0 * 2 ^ 0 := setW_top _ 0 12 p0 (by decide) (by omega) hp0
  rw [s0]
  rw [setW_none (0 + p0 * 2 ^ 0) (by omega) v hv]
  rw [setW_none (0 + p0 * 2 ^ 0) (by omega) v hv]
  rw [setW_none (0 + p0 * 2 ^ 0) (by omega) v hv]
  have g : 0 + p0 * 2 ^ 0 = p0 % 2048 + p0 / 2048 * 2048 := by omega
  rw [g, sgn12 _ _ (by omega) (by omega)]
  have g1 : v / 1048576 = p0 := by omega
  have g2 : v / 2147483648 = p0 / 2048 := by omega
  try rw [g1]
  try rw [g2]
theorem number_H (v : Nat) (hv : v < 4294967296) : numberN 72 v = (v / 1048576 % 32 : Nat) := by
  unfold numberN
  have e1 : piecesN 72 = [(20, 0, 5), (0, 0, 0), (0, 0, 0), (0, 0, 0)] := rfl
  have e2 : sizeN 72 = 6 := rfl
  rw [e1, e2]
  simp only [gather]
  rw [fieldW_arith v hv 20 5 (by decide)]
  have hp0 : v / 2 ^ 20 % 2 ^ 5 < 2 ^ 5 := Nat.mod_lt _ (by decide)
  generalize hqp0 : v / 2 ^ 20 % 2 ^ 5 = p0 at *
  have s0 : setW (0) (0 : Nat) (5 : Nat) p0 = 0 + p0 * 2 ^ 0 := setW_top _ 0 5 p0 (by decide) (by omega) hp0
  rw [s0]
  rw [setW_none (0 + p0 * 2 ^ 0) (by omega) v hv]
  rw [setW_none (0 + p0 * 2 ^ 0) (by omega) v hv]
  rw [setW_none (0 + p0 * 2 ^ 0) (by omega) v hv]
  have g : 0 + p0 * 2 ^ 0 = p0 := by omega
  rw [g, signW_arith p0 6 (by decide) (by decide)]
  have g1 : v / 1048576 % 32 = p0 := by omega
  try rw [g1]
  unfold asInt
  split <;> omega
theorem number_S (v : Nat) (hv : v < 4294967296) : numberN 83 v = (v / 128 % 32 + v / 33554432 % 64 * 32 : Nat) - (v / 2147483648 * 2048 : Nat) := by
  unfold numberN
  have e1 : piecesN 83 = [(7, 0, 5), (25, 5, 7), (0, 0, 0), (0, 0, 0)] := rfl
  have e2 : sizeN 83 = 12 := rfl
  rw [e1, e2]
  simp only [gather]
  rw [fieldW_arith v hv 7 5 (by decide)]
  have hp0 : v / 2 ^ 7 % 2 ^ 5 < 2 ^ 5 := Nat.mod_lt _ (by decide)
  generalize hqp0 : v / 2 ^ 7 % 2 ^ 5 = p0 at *
  rw [fieldW_arith v hv 25 7 (by decide)]
  have hp1 : v / 2 ^ 25 % 2 ^ 7 < 2 ^ 7 := Nat.mod_lt _ (by decide)
  generalize hqp1 : v / 2 ^ 25 % 2 ^ 7 = p1 at *
  have s0 : setW (0) (0 : Nat) (5 : Nat) p0 = 0 + p0 * 2 ^ 0 := setW_top _ 0 5 p0 (by decide) (by omega) hp0
  rw [s0]
  have s1 : setW (0 + p0 * 2 ^ 0) (5 : Nat) (7 : Nat) p1 = 0 + p0 * 2 ^ 0 + p1 * 2 ^ 5 := setW_top _ 5 7 p1 (by decide) (by omega) hp1
  rw [s1]
  rw [setW_none (0 + p0 * 2 ^ 0 + p1 * 2 ^ 5) (by omega) v hv]
  rw [setW_none (0 + p0 * 2 ^ 0 + p1 * 2 ^ 5) (by omega) v hv]
  have g : 0 + p0 * 2 ^ 0 + p1 * 2 ^ 5 = (p0 + p1 % 64 * 32) + p1 / 64 * 2048 := by omega
  rw [g, sgn12 _ _ (by omega) (by omega)]
  have g1 : v / 33554432 = p1 := by omega
  have g2 : v / 2147483648 = p1 / 64 := by omega
  have g3 : v / 128 % 32 = p0 := hqp0
  try rw [g1]
  try rw [g2]
  try rw [g3]
theorem number_B (v : Nat) (hv : v < 4294967296) : numberN 66 v = (v / 256 % 16 * 2 + v / 33554432 % 64 * 32 + v / 128 % 2 * 2048 : Nat) - (v / 2147483648 * 4096 : Nat) := by
  unfold numberN
  have e1 : piecesN 66 = [(8, 1, 4), (25, 5, 6), (7, 11, 1), (31, 12, 1)] := rfl
  have e2 : sizeN 66 = 13 := rfl
  rw [e1, e2]
  simp only [gather]
  rw [fieldW_arith v hv 8 4 (by decide)]
  have hp0 : v / 2 ^ 8 % 2 ^ 4 < 2 ^ 4 := Nat.mod_lt _ (by decide)
  generalize hqp0 : v / 2 ^ 8 % 2 ^ 4 = p0 at *
  rw [fieldW_arith v hv 25 6 (by decide)]
  have hp1 : v / 2 ^ 25 % 2 ^ 6 < 2 ^ 6 := Nat.mod_lt _ (by decide)
  generalize hqp1 : v / 2 ^ 25 % 2 ^ 6 = p1 at *
  rw [fieldW_arith v hv 7 1 (by decide)]
  have hp2 : v / 2 ^ 7 % 2 ^ 1 < 2 ^ 1 := Nat.mod_lt _ (by decide)
  generalize hqp2 : v / 2 ^ 7 % 2 ^ 1 = p2 at *
  rw [fieldW_arith v hv 31 1 (by decide)]
  have hp3 : v / 2 ^ 31 % 2 ^ 1 < 2 ^ 1 := Nat.mod_lt _ (by decide)
  generalize hqp3 : v / 2 ^ 31 % 2 ^ 1 = p3 at *
  have s0 : setW (0) (1 : Nat) (4 : Nat) p0 = 0 + p0 * 2 ^ 1 := setW_top _ 1 4 p0 (by decide) (by omega) hp0
  rw [s0]
  have s1 : setW (0 + p0 * 2 ^ 1) (5 : Nat) (6 : Nat) p1 = 0 + p0 * 2 ^ 1 + p1 * 2 ^ 5 := setW_top _ 5 6 p1 (by decide) (by omega) hp1
  rw [s1]
  have s2 : setW (0 + p0 * 2 ^ 1 + p1 * 2 ^ 5) (11 : Nat) (1 : Nat) p2 = 0 + p0 * 2 ^ 1 + p1 * 2 ^ 5 + p2 * 2 ^ 11 := setW_top _ 11 1 p2 (by decide) (by omega) hp2
  rw [s2]
  have s3 : setW (0 + p0 * 2 ^ 1 + p1 * 2 ^ 5 + p2 * 2 ^ 11) (12 : Nat) (1 : Nat) p3 = 0 + p0 * 2 ^ 1 + p1 * 2 ^ 5 + p2 * 2 ^ 11 + p3 * 2 ^ 12 := setW_top _ 12 1 p3 (by decide) (by omega) hp3
  rw [s3]
  have g : 0 + p0 * 2 ^ 1 + p1 * 2 ^ 5 + p2 * 2 ^ 11 + p3 * 2 ^ 12 = (p0 * 2 + p1 * 32 + p2 * 2048) + p3 * 4096 := by omega
  have g1 : v / 33554432 % 64 = p1 := hqp1
  have g2 : v / 2147483648 = p3 := by omega
  have g3 : v / 256 % 16 = p0 := hqp0
  have g4 : v / 128 % 2 = p2 := hqp2
  rw [g, sgn13 _ _ (by omega) (by omega)]
  try rw [g1]
  try rw [g2]
  try rw [g3]
  try rw [g4]
theorem number_J (v : Nat) (hv : v < 4294967296) : numberN 74 v = (v / 2097152 % 1024 * 2 + v / 1048576 % 2 * 2048 + v / 4096 % 256 * 4096 : Nat) - (v / 2147483648 * 1048576 : Nat) := by
  unfold numberN
  have e1 : piecesN 74 = [(21, 1, 10), (20, 11, 1), (12, 12, 8), (31, 20, 1)] := rfl
  have e2 : sizeN 74 = 21 := rfl
  rw [e1, e2]
  simp only [gather]
  rw [fieldW_arith v hv 21 10 (by decide)]
  have hp0 : v / 2 ^ 21 % 2 ^ 10 < 2 ^ 10 := Nat.mod_lt _ (by decide)
  generalize hqp0 : v / 2 ^ 21 % 2 ^ 10 = p0 at *
  rw [fieldW_arith v hv 20 1 (by decide)]
  have hp1 : v / 2 ^ 20 % 2 ^ 1 < 2 ^ 1 := Nat.mod_lt _ (by decide)
  generalize hqp1 : v / 2 ^ 20 % 2 ^ 1 = p1 at *
  rw [fieldW_arith v hv 12 8 (by decide)]
  have hp2 : v / 2 ^ 12 % 2 ^ 8 < 2 ^ 8 := Nat.mod_lt _ (by decide)
  generalize hqp2 : v / 2 ^ 12 % 2 ^ 8 = p2 at *
  rw [fieldW_arith v hv 31 1 (by decide)]
  have hp3 : v / 2 ^ 31 % 2 ^ 1 < 2 ^ 1 := Nat.mod_lt _ (by decide)
  generalize hqp3 : v / 2 ^ 31 % 2 ^ 1 = p3 at *
  have s0 : setW (0) (1 : Nat) (10 : Nat) p0 = 0 + p0 * 2 ^ 1 := setW_top _ 1 10 p0 (by decide) (by omega) hp0
  rw [s0]
  have s1 : setW (0 + p0 * 2 ^ 1) (11 : Nat) (1 : Nat) p1 = 0 + p0 * 2 ^ 1 + p1 * 2 ^ 11 := setW_top _ 11 1 p1 (by decide) (by omega) hp1
  rw [s1]
  have s2 : setW (0 + p0 * 2 ^ 1 + p1 * 2 ^ 11) (12 : Nat) (8 : Nat) p2 = 0 + p0 * 2 ^ 1 + p1 * 2 ^ 11 + p2 * 2 ^ 12 := setW_top _ 12 8 p2 (by decide) (by omega) hp2
  rw [s2]
  have s3 : setW (0 + p0 * 2 ^ 1 + p1 * 2 ^ 11 + p2 * 2 ^ 12) (20 : Nat) (1 : Nat) p3 = 0 + p0 * 2 ^ 1 + p1 * 2 ^ 11 + p2 * 2 ^ 12 + p3 * 2 ^ 20 := setW_top _ 20 1 p3 (by decide) (by omega) hp3
  rw [s3]
  have g : 0 + p0 * 2 ^ 1 + p1 * 2 ^ 11 + p2 * 2 ^ 12 + p3 * 2 ^ 20 = (p0 * 2 + p1 * 2048 + p2 * 4096) + p3 * 1048576 := by omega
  have g1 : v / 1048576 % 2 = p1 := hqp1
  have g2 : v / 2147483648 = p3 := by omega
  have g3 : v / 2097152 % 1024 = p0 := hqp0
  have g4 : v / 4096 % 256 = p2 := hqp2
  rw [g, sgn21 _ _ (by omega) (by omega)]
  try rw [g1]
  try rw [g2]
  try rw [g3]
  try rw [g4]

/-- What an operation's word has beside the form's fields. -/
def restK (k v : Nat) : Nat :=
  if k = 85 ∨ k = 74 then v % 128
  else if k = 72 ∨ k = 82 then v % 128 + v / 4096 % 8 * 4096 + v / 33554432 * 33554432
  else if k = 78 then v
  else v % 128 + v / 4096 % 8 * 4096

theorem and_field (v k n : Nat) : v &&& ((2 ^ n - 1) * 2 ^ k) = v / 2 ^ k % 2 ^ n * 2 ^ k := by
  apply Nat.eq_of_testBit_eq
  intro i
  rw [Nat.testBit_and, Nat.testBit_mul_two_pow, Nat.testBit_mul_two_pow, Nat.testBit_mod_two_pow, Nat.testBit_div_two_pow, Nat.testBit_two_pow_sub_one]
  by_cases h : k ≤ i
  · rw [show i - k + k = i by omega]
    simp [h, Bool.and_comm]
  · simp [h]

theorem and_low (v n : Nat) : v &&& (2 ^ n - 1) = v % 2 ^ n := Nat.and_two_pow_sub_one_eq_mod v n

theorem rest_and (k : Nat) (hk : IsKind k) (v : Nat) (hv : v < 4294967296) : v &&& (4294967295 - takenN k) = restK k v := by
  have h2 : v &&& 28799 = v % 128 + v / 4096 % 8 * 4096 := by
    have e : (28799 : Nat) = (2 ^ 7 - 1) ||| ((2 ^ 3 - 1) * 2 ^ 12) := by decide
    rw [e, Nat.and_or_distrib_left, and_low, and_field, or_field _ _ 12 3 (Nat.mod_lt _ (by decide)) (by omega)]
  have h3 : v &&& 4261441663 = v % 128 + v / 4096 % 8 * 4096 + v / 33554432 * 33554432 := by
    have e : (4261441663 : Nat) = 28799 ||| ((2 ^ 7 - 1) * 2 ^ 25) := by decide
    rw [e, Nat.and_or_distrib_left, h2, and_field, or_field _ _ 25 7 (Nat.mod_lt _ (by decide)) (by omega)]
    omega
  have h1 : v &&& 127 = v % 128 := and_low v 7
  have h4 : v &&& 4294967295 = v := (and_low v 32).trans (Nat.mod_eq_of_lt hv)
  rcases hk with rfl | rfl | rfl | rfl | rfl | rfl | rfl | rfl | rfl | rfl | rfl
  · exact h1
  · exact h1
  · exact h2
  · exact h2
  · exact h2
  · exact h2
  · exact h2
  · exact h2
  · exact h3
  · exact h3
  · exact h4

/-- An instruction that can be, by its form. -/
def ValidK (k : Nat) (i : I6) : Prop :=
  (if k = 66 ∨ k = 83 ∨ k = 78 then i.rd = 0 else 0 ≤ i.rd ∧ i.rd ≤ 31) ∧
  (if k = 85 ∨ k = 74 ∨ k = 78 then i.rs1 = 0 else 0 ≤ i.rs1 ∧ i.rs1 ≤ 31) ∧
  (if k = 66 ∨ k = 83 ∨ k = 82 then 0 ≤ i.rs2 ∧ i.rs2 ≤ 31 else i.rs2 = 0) ∧
  (if k = 67 then 0 ≤ i.csr ∧ i.csr ≤ 4095 else i.csr = 0) ∧
  (if k = 85 then -2147483648 ≤ i.imm ∧ i.imm ≤ 2147483647 ∧ i.imm % 4096 = 0
   else if k = 74 then -1048576 ≤ i.imm ∧ i.imm ≤ 1048575 ∧ i.imm % 2 = 0
   else if k = 73 ∨ k = 76 ∨ k = 70 ∨ k = 83 then -2048 ≤ i.imm ∧ i.imm ≤ 2047
   else if k = 66 then -4096 ≤ i.imm ∧ i.imm ≤ 4095 ∧ i.imm % 2 = 0
   else if k = 72 then 0 ≤ i.imm ∧ i.imm ≤ 31
   else i.imm = 0)

theorem fd7 (v : Nat) (hv : v < 4294967296) : fieldW v 7 5 = v / 128 % 32 := fieldW_arith v hv 7 5 (by decide)
theorem fd15 (v : Nat) (hv : v < 4294967296) : fieldW v 15 5 = v / 32768 % 32 := fieldW_arith v hv 15 5 (by decide)
theorem fd20 (v : Nat) (hv : v < 4294967296) : fieldW v 20 5 = v / 1048576 % 32 := fieldW_arith v hv 20 5 (by decide)
theorem fd20c (v : Nat) (hv : v < 4294967296) : fieldW v 20 12 = v / 1048576 % 4096 := fieldW_arith v hv 20 12 (by decide)

/-- What a word tells, as plain numbers. -/
theorem told_U (op v : Nat) (hv : v < 4294967296) : toldK 85 op v = ⟨op, (v / 128 % 32 : Nat), 0, 0, (v / 4096 % 524288 * 4096 : Nat) - (v / 2147483648 * 2147483648 : Nat), 0⟩ := by
  rw [← number_U v hv, ← fd7 v hv]; rfl
theorem told_J (op v : Nat) (hv : v < 4294967296) : toldK 74 op v = ⟨op, (v / 128 % 32 : Nat), 0, 0, (v / 2097152 % 1024 * 2 + v / 1048576 % 2 * 2048 + v / 4096 % 256 * 4096 : Nat) - (v / 2147483648 * 1048576 : Nat), 0⟩ := by
  rw [← number_J v hv, ← fd7 v hv]; rfl
theorem told_I (k : Nat) (hk : k = 73 ∨ k = 76 ∨ k = 70) (op v : Nat) (hv : v < 4294967296) : toldK k op v = ⟨op, (v / 128 % 32 : Nat), (v / 32768 % 32 : Nat), 0, (v / 1048576 % 2048 : Nat) - (v / 2147483648 * 2048 : Nat), 0⟩ := by
  rw [← number_I k hk v hv, ← fd7 v hv, ← fd15 v hv]; rcases hk with rfl | rfl | rfl <;> rfl
theorem told_H (op v : Nat) (hv : v < 4294967296) : toldK 72 op v = ⟨op, (v / 128 % 32 : Nat), (v / 32768 % 32 : Nat), 0, (v / 1048576 % 32 : Nat), 0⟩ := by
  rw [← number_H v hv, ← fd7 v hv, ← fd15 v hv]; rfl
theorem told_B (op v : Nat) (hv : v < 4294967296) : toldK 66 op v = ⟨op, 0, (v / 32768 % 32 : Nat), (v / 1048576 % 32 : Nat), (v / 256 % 16 * 2 + v / 33554432 % 64 * 32 + v / 128 % 2 * 2048 : Nat) - (v / 2147483648 * 4096 : Nat), 0⟩ := by
  rw [← number_B v hv, ← fd15 v hv, ← fd20 v hv]; rfl
theorem told_S (op v : Nat) (hv : v < 4294967296) : toldK 83 op v = ⟨op, 0, (v / 32768 % 32 : Nat), (v / 1048576 % 32 : Nat), (v / 128 % 32 + v / 33554432 % 64 * 32 : Nat) - (v / 2147483648 * 2048 : Nat), 0⟩ := by
  rw [← number_S v hv, ← fd15 v hv, ← fd20 v hv]; rfl
theorem told_R (op v : Nat) (hv : v < 4294967296) : toldK 82 op v = ⟨op, (v / 128 % 32 : Nat), (v / 32768 % 32 : Nat), (v / 1048576 % 32 : Nat), 0, 0⟩ := by
  rw [← fd7 v hv, ← fd15 v hv, ← fd20 v hv]; rfl
theorem told_C (op v : Nat) (hv : v < 4294967296) : toldK 67 op v = ⟨op, (v / 128 % 32 : Nat), (v / 32768 % 32 : Nat), 0, 0, (v / 1048576 % 4096 : Nat)⟩ := by
  rw [← fd7 v hv, ← fd15 v hv, ← fd20c v hv]; rfl
theorem told_N (op v : Nat) : toldK 78 op v = ⟨op, 0, 0, 0, 0, 0⟩ := rfl

theorem told_valid (k : Nat) (hk : IsKind k) (op v : Nat) (hv : v < 4294967296) : ValidK k (toldK k op v) := by
  rcases hk with rfl | rfl | rfl | rfl | rfl | rfl | rfl | rfl | rfl | rfl | rfl
  · rw [told_U op v hv]; simp [ValidK]; omega
  · rw [told_J op v hv]; simp [ValidK]; omega
  · rw [told_I 73 (by decide) op v hv]; simp [ValidK]; omega
  · rw [told_I 76 (by decide) op v hv]; simp [ValidK]; omega
  · rw [told_I 70 (by decide) op v hv]; simp [ValidK]; omega
  · rw [told_C op v hv]; simp [ValidK]; omega
  · rw [told_B op v hv]; simp [ValidK]; omega
  · rw [told_S op v hv]; simp [ValidK]; omega
  · rw [told_H op v hv]; simp [ValidK]; omega
  · rw [told_R op v hv]; simp [ValidK]; omega
  · rw [told_N op v]; simp [ValidK]
end Go.Proofs.YtchjhpeogdkbmaaDoor
namespace Go.Proofs.YtchjhpeogdkbmaaDoor
open Go.RowKit
set_option linter.unusedVariables false

def bitsL (v : Nat) (acc : Int) (ps : List Nat) : Int := ps.foldl (fun n p => 2 * n + ((bitN v (p : Nat) : Nat) : Int)) acc
theorem bitsL_append (v : Nat) (acc : Int) (a b : List Nat) : bitsL v acc (a ++ b) = bitsL v (bitsL v acc a) b := by simp [bitsL, List.foldl_append]
theorem bitsL_one (v : Nat) (acc : Int) (p : Nat) : bitsL v acc [p] = 2 * acc + ((bitN v (p : Nat) : Nat) : Int) := rfl

theorem bitsF_L (v p : Nat) (ps : List Nat) : ∀ k, k ≤ ps.length → bitsF v (p :: ps) (k + 1) = bitsL v (-((bitN v (p : Nat) : Nat) : Int)) (ps.take k)
  | 0, _ => rfl
  | k + 1, h => by
    have ih := bitsF_L v p ps k (by omega)
    have hk : k < ps.length := by omega
    rw [show bitsF v (p :: ps) (k + 1 + 1) = 2 * bitsF v (p :: ps) (k + 1) + ((bitN v ((p :: ps).getD (k + 1) 0 : Nat) : Nat) : Int) from rfl, ih, List.take_add_one, List.getElem?_eq_getElem hk, bitsL_append]
    have e : (p :: ps).getD (k + 1) 0 = ps[k] := by simp [List.getD_eq_getElem?_getD, List.getElem?_eq_getElem hk]
    rw [e]
    rfl
theorem bitsF_all (v p : Nat) (ps : List Nat) : bitsF v (p :: ps) (ps.length + 1) = bitsL v (-((bitN v (p : Nat) : Nat) : Int)) ps := by
  rw [bitsF_L v p ps ps.length (Nat.le_refl _), List.take_length]

theorem bit_at (v p : Nat) (h : p ≤ 31) : bitN v (p : Nat) = v / 2 ^ p % 2 := by
  unfold bitN; rw [if_pos (by omega)]; simp

theorem bitsL_down (v : Nat) (acc : Int) (hi : Nat) (h31 : hi ≤ 31) : ∀ n, n ≤ hi + 1 → bitsL v acc (downK hi n) = acc * (2 ^ n : Nat) + ((v / 2 ^ (hi + 1 - n) % 2 ^ n : Nat) : Int)
  | 0, _ => by simp [downK, bitsL, Nat.mod_one]
  | n + 1, h => by
    have ih := bitsL_down v acc hi h31 n (by omega)
    rw [downK_succ, bitsL_append, bitsL_one, ih, bit_at v (hi - n) (by omega)]
    have e1 : hi + 1 - n = (hi - n) + 1 := by omega
    have e2 : hi + 1 - (n + 1) = hi - n := by omega
    rw [e1, e2, Nat.pow_succ 2 (hi - n), ← Nat.div_div_eq_div_mul, Nat.pow_succ 2 n, Nat.mul_comm (2 ^ n) 2, Nat.mod_mul]
    generalize v / 2 ^ (hi - n) = q
    generalize 2 ^ n = P
    have e3 : (acc * ((2 * P : Nat) : Int)) = 2 * (acc * (P : Int)) := by rw [Int.natCast_mul, ← Int.mul_assoc, Int.mul_comm acc, Int.mul_assoc]; rfl
    rw [e3]
    omega

theorem b31 (v : Nat) (hv : v < 4294967296) : bitN v (31 : Nat) = v / 2147483648 := by rw [bit_at v 31 (by decide)]; omega

theorem rnum_U (v : Nat) (hv : v < 4294967296) : bitsF v (downK 31 20) 20 * 2 ^ 12 = numberN 85 v := by
  rw [number_U v hv, show downK 31 20 = 31 :: downK 30 19 by decide, show bitsF v (31 :: downK 30 19) 20 = _ from bitsF_all v 31 (downK 30 19), bitsL_down v _ 30 (by decide) 19 (by decide), b31 v hv]
  omega
theorem rnum_I (k : Nat) (hk : k = 73 ∨ k = 76 ∨ k = 70) (v : Nat) (hv : v < 4294967296) : bitsF v (downK 31 12) 12 = numberN k v := by
  rw [number_I k hk v hv, show downK 31 12 = 31 :: downK 30 11 by decide, show bitsF v (31 :: downK 30 11) 12 = _ from bitsF_all v 31 (downK 30 11), bitsL_down v _ 30 (by decide) 11 (by decide), b31 v hv]
  omega
theorem rnum_S (v : Nat) (hv : v < 4294967296) : bitsF v placesS 12 = numberN 83 v := by
  rw [number_S v hv, show placesS = 31 :: (downK 30 6 ++ downK 11 5) by decide, show bitsF v (31 :: (downK 30 6 ++ downK 11 5)) 12 = _ from bitsF_all v 31 (downK 30 6 ++ downK 11 5), bitsL_append, bitsL_down v _ 30 (by decide) 6 (by decide), bitsL_down v _ 11 (by decide) 5 (by decide), b31 v hv]
  omega
theorem rnum_B (v : Nat) (hv : v < 4294967296) : bitsF v placesB 12 * 2 ^ 1 = numberN 66 v := by
  rw [number_B v hv, show placesB = 31 :: ([7] ++ downK 30 6 ++ downK 11 4) by decide, show bitsF v (31 :: ([7] ++ downK 30 6 ++ downK 11 4)) 12 = _ from bitsF_all v 31 ([7] ++ downK 30 6 ++ downK 11 4), bitsL_append, bitsL_append, bitsL_one, bitsL_down v _ 30 (by decide) 6 (by decide), bitsL_down v _ 11 (by decide) 4 (by decide), b31 v hv, bit_at v 7 (by decide)]
  omega
theorem rnum_J (v : Nat) (hv : v < 4294967296) : bitsF v placesJ 20 * 2 ^ 1 = numberN 74 v := by
  rw [number_J v hv, show placesJ = 31 :: (downK 19 8 ++ [20] ++ downK 30 6 ++ downK 24 4) by decide, show bitsF v (31 :: (downK 19 8 ++ [20] ++ downK 30 6 ++ downK 24 4)) 20 = _ from bitsF_all v 31 (downK 19 8 ++ [20] ++ downK 30 6 ++ downK 24 4), bitsL_append, bitsL_append, bitsL_append, bitsL_one, bitsL_down v _ 19 (by decide) 8 (by decide), bitsL_down v _ 30 (by decide) 6 (by decide), bitsL_down v _ 24 (by decide) 4 (by decide), b31 v hv, bit_at v 20 (by decide)]
  omega
theorem rnum_0 (k : Nat) (hk : k = 67 ∨ k = 82 ∨ k = 78) (v : Nat) : numberN k v = 0 := by
  rcases hk with rfl | rfl | rfl <;> rfl

theorem rnumber_all (k : Nat) (hk : IsKind k) (v : Nat) (hv : v < 4294967296) (w : World) :
    Calls Tryd.prog 63 #[.int .u8 k, .int .u32 v] w fun e w' => e = .returned (.int .i64 (numberN k v)) ∧ Below w.heap.size w w' := by
  rcases hk with rfl | rfl | rfl | rfl | rfl | rfl | rfl | rfl | rfl | rfl | rfl
  · rw [← rnum_U v hv]; exact rnumber_U v hv w
  · rw [← rnum_J v hv]; exact rnumber_J v hv w
  · rw [← rnum_I 73 (by decide) v hv]; exact rnumber_I 73 (by decide) v hv w
  · rw [← rnum_I 76 (by decide) v hv]; exact rnumber_I 76 (by decide) v hv w
  · rw [← rnum_I 70 (by decide) v hv]; exact rnumber_I 70 (by decide) v hv w
  · rw [rnum_0 67 (by decide) v]; exact rnumber_0 67 (by decide) v w
  · rw [← rnum_B v hv]; exact rnumber_B v hv w
  · rw [← rnum_S v hv]; exact rnumber_S v hv w
  · rw [number_H v hv]; exact rnumber_H v hv w
  · rw [rnum_0 82 (by decide) v]; exact rnumber_0 82 (by decide) v w
  · rw [rnum_0 78 (by decide) v]; exact rnumber_0 78 (by decide) v w
end Go.Proofs.YtchjhpeogdkbmaaDoor
namespace Go.Proofs.YtchjhpeogdkbmaaDoor
open Go.RowKit
set_option linter.unusedVariables false

set_option maxHeartbeats 1000000 in
theorem rspans_any (k : Nat) (hk : IsKind k) (w : World) :
    Calls Tryd.prog 61 #[.int .u8 k] w fun e w' => e = .returned (.int .u32 (takenN k : Nat)) ∧ w' = w := by
  rcases hk with rfl | rfl | rfl | rfl | rfl | rfl | rfl | rfl | rfl | rfl | rfl
  all_goals
    go_enter Tryd.func61, Tryd.ntmps61
    go_wp2
    go_ret
    exact ⟨ret_int (by decide), rfl⟩
end Go.Proofs.YtchjhpeogdkbmaaDoor
namespace Go.Proofs.YtchjhpeogdkbmaaDoor
open Go.RowKit
set_option linter.unusedVariables false

theorem below_step {N : Nat} {w0 a b : World} (hz : w0.heap.size = N) (h : Below N w0 a) (k : Below a.heap.size a b) : Below N w0 b :=
  h.trans (k.mono (by rw [← hz]; exact h.size))
theorem size_rinst : (Tryd.prog.info? 69).map (·.size) = some 6 := by kernel_rfl

theorem match_ne (j v : Nat) (hv : v < 4294967296) : (bits .andNot .u32 (v : Int) ((takenN (kindN j) : Nat) : Int) != ((wordN j : Nat) : Int)) = !matchN j v := by
  rw [← match_test j v hv]; rfl

/-- One that is looked at, and is the word's: what the document makes of it, by its form. -/
def Zero6 (w0 : World) (b : Nat) : Prop := w0.heap[b]? = some (.cells #[.int .i64 0, .int .i64 0, .int .i64 0, .int .i64 0, .int .i64 0, .int .i64 0] 69 (0, 0))

set_option maxHeartbeats 4000000 in
set_option maxRecDepth 100000 in
theorem rdecode_hit (v : Nat) (hv : v < 4294967296) (op : Nat) (hop : op < 57) (hm : matchN op v = true) (hno : ∀ j, j < op → matchN j v = false) (w : World) :
    Calls Tryd.prog 28 #[.int .u32 v] w fun e w' => e = .returned (.tuple #[.agg (toldN op v).cells, .int .i64 0]) ∧ Below w.heap.size w w' := by
  have HNO := hide hno
  have HK := hide rkind_yes
  have HSP := hide rspans_any
  have HPL := hide rplain_any
  have HNU := hide (fun k (hk : IsKind k) => rnumber_all k hk v hv)
  have HHIT := hide (match_ne op v hv)
  rw [hm] at HHIT
  have F7 := hide (fd7 v hv)
  have F15 := hide (fd15 v hv)
  have F20 := hide (fd20 v hv)
  have F20c : Hid (fieldW v 20 12 = v / 1048576) := by show _ = _; rw [fd20c v hv]; omega
  clear hno hm
  go_enter Tryd.func28, Tryd.ntmps28
  go_wp2
  obtain ⟨w0, hw0⟩ : ∃ w0, w.alloc (.cells #[.int .i64 0, .int .i64 0, .int .i64 0, .int .i64 0, .int .i64 0, .int .i64 0] 69) = w0 := ⟨_, rfl⟩
  have HB0 : Hid (Below w.heap.size w w0) := by rw [← hw0]; exact (Below.refl _ w).alloc (Nat.le_refl _) _
  have HZ : Hid (w0.heap.size = w.heap.size + 1) := by rw [← hw0]; show _ = _; simp
  have HR : Hid (Zero6 w0 w.heap.size) := by rw [← hw0]; exact heap_alloc_new w _
  rw [hw0]
  clear hw0
  go_loopw [4] (fun iv wr => ∃ j : Nat, j ≤ op ∧ iv = .int .i64 j ∧ Below (w.heap.size + 1) w0 wr) (fun iv _ => op - (intOf iv).toNat)
  case atStart => exact ⟨0, by omega, rfl, Below.refl _ _⟩
  case round =>
    obtain ⟨j, hj, rfl, hB⟩ := hrel
    have HSZ : Hid (w.heap.size + 1 ≤ wr.heap.size) := by have := hB.size; have := HZ.out; show _ ≤ _; omega
    by_cases hlt : j < op
    · have HKj := hide (kindN_is j (by omega))
      have HKc := hide (HK.out j (by omega))
      have HPc := hide (HPL.out j (by omega))
      have ht := match_ne j v hv
      rw [HNO.out j hlt] at ht
      clear HNU HHIT
      generalize kindN j = k at HKj HKc ht
      generalize wordN j = z at HPc ht
      go_wp2_with (first | (go_at_call 60; refine (HKc.out _).mono ?_; rintro e w2 ⟨rfl, rfl⟩) | (go_at_call 61; refine (HSP.out _ HKj.out _).mono ?_; rintro e w2 ⟨rfl, rfl⟩) | (go_at_call 62; refine (HPc.out _).mono ?_; rintro e w4 ⟨rfl, hb4⟩))
      go_roundw
      case rel => exact ⟨j + 1, by omega, by go_num, hB.trans (hb4.mono HSZ.out)⟩
      case measure => simp [intOf]; omega
    · obtain rfl : j = op := by omega
      have HKj := hide (kindN_is j (by omega))
      have HKc := hide (HK.out j (by omega))
      have HPc := hide (HPL.out j (by omega))
      have ht := HHIT.out
      have HTN : Hid (toldN j v = toldK (kindN j) j v) := rfl
      clear HHIT
      generalize kindN j = k at HKj HKc ht HTN
      generalize wordN j = z at HPc ht
      have hkk := HKj.out
      rcases hkk with rfl | rfl | rfl | rfl | rfl | rfl | rfl | rfl | rfl | rfl | rfl
      all_goals
        go_wp2_with (first | (go_at_call 60; refine (HKc.out _).mono ?_; rintro e w2 ⟨rfl, rfl⟩) | (go_at_call 61; refine (HSP.out _ HKj.out _).mono ?_; rintro e w2 ⟨rfl, rfl⟩) | (go_at_call 62; refine (HPc.out _).mono ?_; rintro e w4 ⟨rfl, hb4⟩; replace hb4 := hB.trans (hb4.mono HSZ.out)) | (go_at_call 63; refine (HNU.out _ HKj.out _).mono ?_; rintro e w5 ⟨rfl, hb5⟩; replace hb5 := below_step HZ.out hb4 hb5; have HRr := hide (show ∀ o, Zero6 (w5.alloc o) w.heap.size from fun o => (Below.heap_alloc w5 o w.heap.size (by have := hb5.size; have := HZ.out; omega)).trans ((hb5.block w.heap.size (by omega)).trans HR.out))) | (refine wpList_store_row rfl 69 _ _ rfl w.heap.size _ rfl rfl _ _ (HRr.out _) size_rinst rfl (six_one _ _ _ _ _ _) ?_))
        refine bodyPost_ret (results_cell_tmp_row Tryd.results28 _ _ w.heap.size _ _ _ _ rfl (setRow_heap _ _ _ _ _ _ (HRr.out _)) Tryd.underlying69 rfl size_rinst) rfl ?_
        refine ⟨?_, below_setRow ((HB0.out.trans (hb5.mono (by omega))).alloc (by have := hb5.size; have := HZ.out; omega) _) (Nat.le_refl _) _⟩
        rw [HTN.out]
        simp [toldK, I6.cells, F7.out, F15.out, F20.out, F20c.out, rnum_0]
end Go.Proofs.YtchjhpeogdkbmaaDoor
namespace Go.Proofs.YtchjhpeogdkbmaaDoor
open Go.RowKit
set_option linter.unusedVariables false

set_option maxHeartbeats 4000000 in
set_option maxRecDepth 100000 in
theorem rdecode_none (v : Nat) (hv : v < 4294967296) (hno : ∀ j, j < 57 → matchN j v = false) (w : World) :
    Calls Tryd.prog 28 #[.int .u32 v] w fun e w' => e = .returned (.tuple #[.agg #[.int .i64 0, .int .i64 0, .int .i64 0, .int .i64 0, .int .i64 0, .int .i64 0], .int .i64 3]) ∧ Below w.heap.size w w' := by
  have HNO := hide hno
  have HK := hide rkind_yes
  have HSP := hide rspans_any
  have HPL := hide rplain_any
  clear hno
  go_enter Tryd.func28, Tryd.ntmps28
  go_wp2
  obtain ⟨w0, hw0⟩ : ∃ w0, w.alloc (.cells #[.int .i64 0, .int .i64 0, .int .i64 0, .int .i64 0, .int .i64 0, .int .i64 0] 69) = w0 := ⟨_, rfl⟩
  have HB0 : Hid (Below w.heap.size w w0) := by rw [← hw0]; exact (Below.refl _ w).alloc (Nat.le_refl _) _
  have HZ : Hid (w0.heap.size = w.heap.size + 1) := by rw [← hw0]; show _ = _; simp
  have HR : Hid (Zero6 w0 w.heap.size) := by rw [← hw0]; exact heap_alloc_new w _
  rw [hw0]
  clear hw0
  go_loopw [4] (fun iv wr => ∃ j : Nat, j ≤ 57 ∧ iv = .int .i64 j ∧ Below (w.heap.size + 1) w0 wr) (fun iv _ => 57 - (intOf iv).toNat)
  case atStart => exact ⟨0, by omega, rfl, Below.refl _ _⟩
  case round =>
    obtain ⟨j, hj, rfl, hB⟩ := hrel
    have HSZ : Hid (w.heap.size + 1 ≤ wr.heap.size) := by have := hB.size; have := HZ.out; show _ ≤ _; omega
    by_cases hlt : j < 57
    · have HKj := hide (kindN_is j (by omega))
      have HKc := hide (HK.out j (by omega))
      have HPc := hide (HPL.out j (by omega))
      have ht := match_ne j v hv
      rw [HNO.out j hlt] at ht
      generalize kindN j = k at HKj HKc ht
      generalize wordN j = z at HPc ht
      go_wp2_with (first | (go_at_call 60; refine (HKc.out _).mono ?_; rintro e w2 ⟨rfl, rfl⟩) | (go_at_call 61; refine (HSP.out _ HKj.out _).mono ?_; rintro e w2 ⟨rfl, rfl⟩) | (go_at_call 62; refine (HPc.out _).mono ?_; rintro e w4 ⟨rfl, hb4⟩))
      go_roundw
      case rel => exact ⟨j + 1, by omega, by go_num, hB.trans (hb4.mono HSZ.out)⟩
      case measure => simp [intOf]; omega
    · obtain rfl : j = 57 := by omega
      have HRr := hide ((hB.block w.heap.size (by omega)).trans HR.out)
      go_wp2_with (first | (refine wpList_store_row rfl 69 _ _ rfl w.heap.size _ rfl rfl _ _ HRr.out size_rinst rfl (six_one _ _ _ _ _ _) ?_))
      refine bodyPost_ret (results_cell_tmp_row Tryd.results28 _ _ w.heap.size _ _ _ _ rfl (setRow_heap _ _ _ _ _ _ HRr.out) Tryd.underlying69 rfl size_rinst) rfl ?_
      exact ⟨rfl, below_setRow (HB0.out.trans (hB.mono (by omega))) (Nat.le_refl _) _⟩
end Go.Proofs.YtchjhpeogdkbmaaDoor
