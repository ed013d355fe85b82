/-
  What word.Bits answers: the places of the bits that are set, ascending, in new memory.
-/
import Derived.Test.YtcgnkkkeoeoenaaDoorZeros
import Derived.Test.YtcgnkkkeoeoenaaDoorBitsMath
import Derived.Test.YtcgnkkkeoeoenaaDoorBit
import Derived.OwnWalk
import Derived.WalkSmall
import Derived.Maps.AppendAt
namespace Go.Proofs.YtcgnkkkeoeoenaaDoor
open Go.RowKit
set_option linter.unusedVariables false

theorem infoInt : (Tryd.prog.info? 3).map (fun i => (i.zero, i.size, i.bytes)) = some (some (.int .i64 0), 1, 8) := by kernel_rfl

def intsOf (l : List Nat) : List Value := l.map fun (x : Nat) => Value.int .i64 (x : Int)
theorem intsOf_snoc (l : List Nat) (x : Nat) : intsOf (l ++ [x]) = intsOf l ++ [.int .i64 (x : Int)] := by simp [intsOf]
theorem intsOf_length (l : List Nat) : (intsOf l).length = l.length := by simp [intsOf]

theorem and_pred (x : Nat) (h0 : x ≠ 0) (h : x < 4294967296) : bits .and .u32 (x : Int) ((x : Int) - 1) = ((x &&& (x - 1) : Nat) : Int) := by
  have e : ((x : Int) - 1) = ((x - 1 : Nat) : Int) := by omega
  rw [e, u32_and_nat x (x - 1) h (by omega)]

theorem places_le (x : Nat) : (places32 x).length ≤ 32 := by
  unfold places32
  exact Nat.le_trans (List.length_filter_le _ _) (by simp)

theorem own_ge {w : World} {base : Nat} {e : TypeId} {size n : Nat} {v : Value} {xs : List Value} (h : w.ownsRow base e size v n xs) : ∀ k, v.ownBlock = some k → base ≤ k := by
  intro k hk
  rcases h.2 with ⟨rfl, _⟩ | ⟨g, cap, cur, rfl, hg, _⟩
  · simp [Value.ownBlock] at hk
  · simp [Value.ownBlock] at hk; omega

set_option maxHeartbeats 2000000 in
set_option maxRecDepth 100000 in
theorem bits_any (x0 : Nat) (h : x0 < 4294967296) (w : World) (hT : TabAt w) :
    Calls Tryd.prog 13 #[.int .u32 x0] w fun e w' => ∃ v, e = .returned v ∧ w'.ownsRow w.heap.size 3 1 v (places32 x0).length (intsOf (places32 x0)) ∧ Below w.heap.size w w' := by
  obtain ⟨i0, hi, hz0, hz1, hz2⟩ := info_parts infoInt
  have hlt := hT.lt
  go_enter Tryd.func13, Tryd.ntmps13
  go_wp2_with (first | (go_at_call 20; refine (ones_any x0 h _).mono ?_; rintro e w1 ⟨⟨c, hc, rfl⟩, nq, rfl⟩) | (at_make; refine wpList_make_own _ rfl _ _ 40 rfl w.heap.size 3 i0 (.int .i64 0) 1 Tryd.underlying40 hi hz0 hz1 .i64 .i64 _ c rfl rfl rfl (by rw [hz2]; omega) (by unfold maxLen; omega) (by simp) ?_; intro w2 hown2 hgrow2))
  have hB2 : Below w.heap.size w w2 := (below_drewN (Below.refl _ w) nq).grown hgrow2 (by simp) (fun k e => by cases e)
  clear hgrow2
  go_loopw [0, 3] (fun xv ov wr => ∃ (x : Nat) (l : List Nat), x < 4294967296 ∧ xv = .int .u32 x ∧ wr.ownsRow w.heap.size 3 1 ov l.length (intsOf l) ∧ l ++ places32 x = places32 x0 ∧ Below w.heap.size w wr) (fun xv _ _ => (intOf xv).toNat)
  case atStart => exact ⟨x0, [], h, rfl, hown2, rfl, hB2⟩
  case round =>
    obtain ⟨x, l, hx, rfl, hrow, hl, hB⟩ := hrel
    clear hown2 hB2
    have hl32 : l.length ≤ 32 := by
      have := places_le x0
      rw [← hl, List.length_append] at this
      omega
    by_cases hx0 : x = 0
    · subst hx0
      rw [places_zero, List.append_nil] at hl
      subst hl
      go_wp2
      go_ret
      exact ⟨_, rfl, hrow, hB⟩
    · have hb0 : ((x : Int) != 0) = true := by rw [bne_iff_ne]; omega
      have hstep := places_step x hx0 hx
      have hy := and_pred x hx0 hx
      have hylt := without_lt x hx0
      have HT := hide (tz_any x hx0 hx wr (hT.below hB hlt))
      have HL := hide (show (l ++ [Lib.ctz 32 x]) ++ places32 (x &&& (x - 1)) = places32 x0 by rw [← hl, hstep]; simp)
      have hge := own_ge hrow
      have HG := hide hge
      clear hstep hl hT hge
      generalize Lib.ctz 32 x = k at *
      generalize x &&& (x - 1) = y at *
      have hx1 : 1 ≤ x := by omega
      clear hx0
      go_wp2_with (first | (go_at_call 21; refine HT.out.mono ?_; rintro e w3 ⟨rfl, rfl⟩) | (at_builtin; refine wpList_append_own _ rfl _ _ 40 rfl w.heap.size 3 i0 (.int .i64 0) 1 8 Tryd.underlying40 hi hz0 hz1 hz2 rfl (by decide) _ _ _ rfl (hrow.alloc _) ⟨_, 0, none⟩ 1 1 [.int .i64 (k : Int)] rfl rfl (cell_one_new _ _ _) (by simp [Value.oneCell']) (by unfold maxLen; omega) (by omega) (by have := hB.size; simp; omega) ?_; intro v' w4 hown' hgrow' _))
      go_roundw
      case rel => exact ⟨y, l ++ [k], by omega, rfl, by rw [intsOf_snoc, List.length_append]; exact hown', HL.out, (hB.alloc hB.size _).grown hgrow' (by have := hB.size; simp; omega) HG.out⟩
      case measure => simp [intOf]; omega

theorem bit_test (x k : Nat) (h : k < 32) : (((bitN x k : Nat) : Int) == 1) = x.testBit k := by
  have := bitN_one x k
  have e : decide (0 ≤ (k : Int) ∧ (k : Int) ≤ 31) = true := by simp; omega
  rw [e] at this
  simp at this
  rw [Bool.eq_iff_iff]
  simp only [beq_iff_eq]
  rw [Bool.eq_iff_iff] at this
  simp only [decide_eq_true_eq] at this
  rw [← this]
  omega

set_option maxHeartbeats 2000000 in
set_option maxRecDepth 100000 in
theorem refbits_any (x : Nat) (h : x < 4294967296) (w : World) :
    Calls Tryd.prog 14 #[.int .u32 x] w fun e w' => ∃ v, e = .returned v ∧ w'.ownsRow w.heap.size 3 1 v (places32 x).length (intsOf (places32 x)) ∧ Below w.heap.size w w' := by
  obtain ⟨i0, hi, hz0, hz1, hz2⟩ := info_parts infoInt
  go_enter Tryd.func14, Tryd.ntmps14
  go_wp2
  go_loopw [3, 4] (fun ov iv wr => ∃ k : Nat, k ≤ 32 ∧ iv = .int .i64 k ∧ wr.ownsRow w.heap.size 3 1 ov ((List.range k).filter (x.testBit ·)).length (intsOf ((List.range k).filter (x.testBit ·))) ∧ Below w.heap.size w wr) (fun _ iv _ => 32 - (intOf iv).toNat)
  case atStart => exact ⟨0, Nat.zero_le _, rfl, World.ownsRow_nil _ _ _ _, Below.refl _ _⟩
  case round =>
    obtain ⟨k, hk, rfl, hrow, hB⟩ := hrel
    by_cases hlt : k < 32
    · have hsn := range_snoc_filter (x.testBit ·) k
      have hll : ((List.range k).filter (x.testBit ·)).length ≤ k := Nat.le_trans (List.length_filter_le _ _) (by simp)
      have hbt := bit_test x k hlt
      have HS := hide hsn
      clear hsn
      generalize hL : (List.range k).filter (x.testBit ·) = l at *
      have HL := hide hL
      clear hL
      have HG := hide (own_ge hrow)
      by_cases hb : x.testBit k = true
      · rw [hb] at hbt
        have HT := hide (show (List.range (k + 1)).filter (x.testBit ·) = l ++ [k] by rw [HS.out, if_pos hb])
        clear hb
        go_wp2_with (first | (go_at_call 22; refine (bit_any x h _ _).mono ?_; rintro e w3 ⟨rfl, rfl⟩) | (at_builtin; refine wpList_append_own _ rfl _ _ 40 rfl w.heap.size 3 i0 (.int .i64 0) 1 8 Tryd.underlying40 hi hz0 hz1 hz2 rfl (by decide) _ _ _ rfl (hrow.alloc _) ⟨_, 0, none⟩ 1 1 [.int .i64 (k : Int)] rfl rfl (cell_one_new _ _ _) (by simp [Value.oneCell']) (by unfold maxLen; omega) (by omega) (by have := hB.size; simp; omega) ?_; intro v' w4 hown' hgrow' _))
        go_roundw
        case rel => exact ⟨k + 1, by omega, by go_num, by rw [HT.out, intsOf_snoc, List.length_append]; exact hown', (hB.alloc hB.size _).grown hgrow' (by have := hB.size; simp; omega) HG.out⟩
        case measure => simp [intOf]; omega
      · have hbf : x.testBit k = false := by simpa using hb
        rw [hbf] at hbt
        have HT := hide (show (List.range (k + 1)).filter (x.testBit ·) = l by rw [HS.out, if_neg hb]; simp)
        clear hb
        go_wp2_with (first | (go_at_call 22; refine (bit_any x h _ _).mono ?_; rintro e w3 ⟨rfl, rfl⟩))
        go_roundw
        case rel => exact ⟨k + 1, by omega, by go_num, by rw [HT.out]; exact hrow, hB⟩
        case measure => simp [intOf]; omega
    · obtain rfl : k = 32 := by omega
      go_wp2
      go_ret
      exact ⟨_, rfl, hrow, hB⟩

/-- A slice that holds these numbers. -/
def IntsAt (W : World) (v : Value) (l : List Nat) : Prop :=
  ∃ a cap, v = .slice a l.length cap ∧ (l = [] ∨ ∃ g, a = some ⟨g, 0, none⟩ ∧ g < W.heap.size ∧ ∀ j, j < l.length → W.cell? ⟨g, j, none⟩ = some (.int .i64 ((l[j]?.getD 0 : Nat) : Int)))

theorem intsAt_of_own {W : World} {base : Nat} {v : Value} {l : List Nat} (h : W.ownsRow base 3 1 v l.length (intsOf l)) : IntsAt W v l := by
  obtain ⟨_, hh⟩ := h
  rcases hh with ⟨rfl, h0⟩ | ⟨g, cap, cur, rfl, hg, hcur, hcap, _, hsz, htake⟩
  · have : l = [] := List.eq_nil_of_length_eq_zero h0
    subst this
    exact ⟨none, 0, rfl, .inl rfl⟩
  · refine ⟨_, cap, rfl, .inr ⟨g, rfl, ?_, ?_⟩⟩
    · rcases Nat.lt_or_ge g W.heap.size with h | h
      · exact h
      · rw [Array.getElem?_eq_none h] at hcur; cases hcur
    · intro j hj
      rw [cell_of_row _ _ _ _ _ (0, 0) hcur]
      have e : cur[j]? = (cur.toList.take (l.length * 1))[j]? := by
        rw [List.getElem?_take_of_lt (by omega)]; simp
      rw [e, htake]
      simp [intsOf, hj]

theorem IntsAt.below {W W' : World} {v : Value} {l : List Nat} (h : IntsAt W v l) (hb : Below W.heap.size W W') : IntsAt W' v l := by
  obtain ⟨a, cap, e, h0 | ⟨g, e2, hg, hc⟩⟩ := h
  · exact ⟨a, cap, e, .inl h0⟩
  · exact ⟨a, cap, e, .inr ⟨g, e2, Nat.lt_of_lt_of_le hg hb.size, fun j hj => (hb.cell (p := ⟨g, j, none⟩) hg).trans (hc j hj)⟩⟩

set_option maxHeartbeats 1000000 in
theorem ints_zero (a1 a2 : Option Addr) (c1 c2 : Nat) (w : World) :
    Calls Tryd.prog 12 #[.slice a1 0 c1, .slice a2 0 c2] w fun e w' => e = .returned (.bool true) ∧ Below w.heap.size w w' := by
  go_enter Tryd.func12, Tryd.ntmps12
  go_wp2
  go_loop [5] (fun i => i = .int .i64 0) (fun _ => 0)
  case atStart => rfl
  case round =>
    subst hrel
    go_wp2
    go_ret
    exact ⟨rfl, Below.refl _ _⟩

set_option maxHeartbeats 2000000 in
theorem ints_pos (g1 g2 c1 c2 : Nat) (l : List Nat) (hl : l.length ≤ 32) (w : World) (h1 : ∀ j, j < l.length → w.cell? ⟨g1, j, none⟩ = some (.int .i64 ((l[j]?.getD 0 : Nat) : Int))) (h2 : ∀ j, j < l.length → w.cell? ⟨g2, j, none⟩ = some (.int .i64 ((l[j]?.getD 0 : Nat) : Int))) :
    Calls Tryd.prog 12 #[.slice (some ⟨g1, 0, none⟩) l.length c1, .slice (some ⟨g2, 0, none⟩) l.length c2] w fun e w' => e = .returned (.bool true) ∧ Below w.heap.size w w' := by
  generalize hn : l.length = n at *
  clear hn
  go_enter Tryd.func12, Tryd.ntmps12
  go_wp2
  go_loopw [5] (fun i wr => ∃ k m : Nat, k ≤ n ∧ i = .int .i64 k ∧ wr = w.drewN m) (fun i _ => n - (intOf i).toNat)
  case atStart => exact ⟨0, 0, Nat.zero_le _, rfl, rfl⟩
  case round =>
    obtain ⟨k, m, hk, rfl, rfl⟩ := hrel
    by_cases hlt : k < n
    · have e1 := h1 k hlt
      have e2 := h2 k hlt
      generalize l[k]?.getD 0 = z at *
      clear h1 h2
      have hlt' : (k : Int) < (n : Int) := by omega
      go_wp2
      go_quiet (fail)
      go_wp2
      go_roundw
      case rel => exact ⟨k + 1, m + nq, by omega, by go_num, rfl⟩
      case measure => simp [intOf]; omega
    · obtain rfl : k = n := by omega
      go_wp2
      go_ret
      exact ⟨rfl, below_drewN (Below.refl _ _) m⟩

theorem ints_any (v1 v2 : Value) (l : List Nat) (hl : l.length ≤ 32) (w : World) (h1 : IntsAt w v1 l) (h2 : IntsAt w v2 l) :
    Calls Tryd.prog 12 #[v1, v2] w fun e w' => e = .returned (.bool true) ∧ Below w.heap.size w w' := by
  obtain ⟨a1, c1, rfl, h1⟩ := h1
  obtain ⟨a2, c2, rfl, h2⟩ := h2
  by_cases h0 : l = []
  · subst h0
    exact ints_zero a1 a2 c1 c2 w
  · rcases h1 with h | ⟨g1, rfl, _, hc1⟩
    · exact absurd h h0
    · rcases h2 with h | ⟨g2, rfl, _, hc2⟩
      · exact absurd h h0
      · exact ints_pos g1 g2 c1 c2 l hl w hc1 hc2
end Go.Proofs.YtcgnkkkeoeoenaaDoor
