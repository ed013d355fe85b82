/-
  What the document's Level answers.
-/
import Derived.Test.YtadgdgjmadchjaaPlRow
import Derived.Test.YtadgdgjmadchjaaRSet
namespace Go.Proofs.Ytadgdgjmadchjaa
open Go.RowKit
set_option linter.unusedVariables false

/-- The document's bits and words. -/
theorem bitN_tb (v n : Nat) (hn : n ≤ 31) : bitN v (n : Int) = (v.testBit n).toNat := by
  unfold bitN
  rw [if_pos (by omega), Int.toNat_natCast, Nat.toNat_testBit]
theorem set_tb (v n x : Nat) (hv : v < 4294967296) (hn : n ≤ 31) (i : Nat) : (num (setBit v (n : Int) 1 x) 32).testBit i = if i = n then x.testBit 0 else v.testBit i := by
  rw [num_bit _ (setBit_le v _ _ x)]
  by_cases hi : i < 32
  · rw [decide_eq_true hi, Bool.true_and]
    unfold setBit
    rw [if_neg (by omega)]
    by_cases e : i = n
    · subst e
      rw [if_pos (by omega), if_pos rfl, show ((i : Int) - (i : Int)) = ((0 : Nat) : Int) by omega, bitN_tb _ _ (by omega)]
      cases x.testBit 0 <;> simp
    · rw [if_neg (by omega), if_neg e, bitN_tb _ _ (by omega)]
      cases v.testBit i <;> simp
  · rw [decide_eq_false hi, Bool.false_and, if_neg (by omega)]
    exact (Nat.testBit_lt_two_pow (Nat.lt_of_lt_of_le hv (Nat.pow_le_pow_right (n := 2) (i := 32) (by decide) (by omega)))).symm
theorem num32_lt (f : Nat → Nat) (hf : ∀ j, f j ≤ 1) : num f 32 < 4294967296 := num_lt f hf 32
theorem tb_254 (i : Nat) : (254 : Nat).testBit i = (decide (1 ≤ i) && decide (i ≤ 7)) := by
  by_cases h : i < 8
  · revert i; decide
  · rw [Nat.testBit_lt_two_pow (Nat.lt_of_lt_of_le (by decide : 254 < 2 ^ 8) (Nat.pow_le_pow_right (by decide) (by omega))), decide_eq_false (show ¬ i ≤ 7 by omega), Bool.and_false]
theorem tb_not (b i : Nat) (hb : b < 4294967296) : (4294967295 - b).testBit i = (decide (i < 32) && !b.testBit i) := by
  have := Nat.testBit_two_pow_sub_succ (n := 32) (x := b) hb i
  rw [show 2 ^ 32 - (b + 1) = 4294967295 - b by omega] at this
  exact this
/-- Pending behind the sources below n. -/
def lvK (s : P5) (l : Nat) : Nat → Nat
  | 0 => s.pe
  | n + 1 => if n ≠ 0 ∧ l.testBit n = true ∧ s.bu.testBit n = false then num (setBit (lvK s l n) (n : Int) 1 1) 32 else lvK s l n
theorem lvK_lt (s : P5) (hs : s.Ok) (l : Nat) : ∀ n, lvK s l n < 4294967296
  | 0 => hs.pe
  | n + 1 => by
    unfold lvK
    split
    · exact num32_lt _ (setBit_le _ _ _ _)
    · exact lvK_lt s hs l n
theorem lvK_tb (s : P5) (hs : s.Ok) (l : Nat) (i : Nat) : ∀ n, n ≤ 32 → (lvK s l n).testBit i = (s.pe.testBit i || (decide (i < n) && (decide (i ≠ 0) && (l.testBit i && !s.bu.testBit i))))
  | 0, _ => by simp [lvK]
  | n + 1, h => by
    have ih := lvK_tb s hs l i n (by omega)
    unfold lvK
    by_cases c : n ≠ 0 ∧ l.testBit n = true ∧ s.bu.testBit n = false
    · rw [if_pos c, set_tb _ _ _ (lvK_lt s hs l n) (by omega), ih]
      by_cases e : i = n
      · subst e; simp [c.1, c.2.1, c.2.2]
      · have : (decide (i < n + 1)) = decide (i < n) := by
          by_cases h : i < n
          · rw [decide_eq_true h, decide_eq_true (by omega)]
          · rw [decide_eq_false h, decide_eq_false (by omega)]
        rw [if_neg e, this]
    · rw [if_neg c, ih]
      by_cases e : i = n
      · subst e
        by_cases h0 : i = 0
        · simp [h0]
        · simp [h0] at c ⊢
          cases hl : l.testBit i <;> cases hbu : s.bu.testBit i <;> simp [hl, hbu] at c ⊢
      · have : (decide (i < n + 1)) = decide (i < n) := by
          by_cases h : i < n
          · rw [decide_eq_true h, decide_eq_true (by omega)]
          · rw [decide_eq_false h, decide_eq_false (by omega)]
        rw [this]
theorem lvK_end (s : P5) (hs : s.Ok) (l : Nat) : (⟨s.pr, s.en, s.th, lvK s l 8, s.bu⟩ : P5) = levelV s l := by
  unfold levelV
  have : lvK s l 8 = s.pe ||| ((l &&& 254) &&& (4294967295 - s.bu)) := by
    apply Nat.eq_of_testBit_eq
    intro i
    rw [lvK_tb s hs l i 8 (by omega), Nat.testBit_or, Nat.testBit_and, Nat.testBit_and, tb_254, tb_not _ _ hs.bu]
    congr 1
    by_cases h : i < 8
    · by_cases h0 : i = 0
      · simp [h0]
      · rw [decide_eq_true h, decide_eq_true h0, decide_eq_true (show 1 ≤ i by omega), decide_eq_true (show i ≤ 7 by omega), decide_eq_true (show i < 32 by omega)]; simp
    · rw [decide_eq_false h, decide_eq_false (show ¬ i ≤ 7 by omega)]; simp
  rw [this]
variable {ops : Array Oper} {rest : List Oper} {dst : Option Tmp} {ty : TypeId} {pos : String} {after : Array Edge} {a : Act} {w : World} {Q : Exit → Act → World → Prop} {x : Operand} {gd : Option (Nat × Bool)}
theorem g_ldw (b j : Nat) (cs : Array Value) (t' : TypeId) (v : Nat) (hr : RowAt w b cs t') (hv : cs[j]? = some (.int .u32 (v : Nat))) (hx : a.eval x = .pointer (some ⟨b, j, none⟩)) (hw : Region.wanted ⟨dst, .load 22 x, ty, pos, after, gd⟩ (yielded ops a.tmps) = true)
    (k : wpList Try.prog ops Q rest (a.put dst (.int .u32 (v : Nat))) w) : wpList Try.prog ops Q (⟨dst, .load 22 x, ty, pos, after, gd⟩ :: rest) a w :=
  BigFrame.wpList_want hw fun K hK => by
    have hcell : w.cell? ⟨b, j, none⟩ = some (.int .u32 (v : Nat)) := (hr.cell j).trans hv
    have hrun : (loadVar 22 ⟨b, j, none⟩).run Try.prog w = .ok (.int .u32 (v : Nat)) w := by
      have hagg : (isAgg 22).run Try.prog w = .ok false w := by
        unfold isAgg
        rw [Sem.run_bind, run_underlying Try.underlying22 w]
        rfl
      simp [loadVar, Sem.run_bind, hagg, hcell]
    unfold Oper.wp execOp
    simp only [hx, Instr.loadAt, Instr.sureAddr, Sem.run_bind, Sem.run_pure, Result.andThen_ok, hrun]
    exact hK _ _ k
set_option maxRecDepth 100000 in
set_option maxHeartbeats 2000000 in
theorem rlevel_any (s : P5) (hs : s.Ok) (l : Nat) (hl : l < 4294967296) (w : World) :
    Calls Try.prog 7 #[.agg s.cells, .int .u32 l] w fun e w' => e = .returned (.agg (levelV s l).cells) ∧ Below w.heap.size w w' := by
  go_enter Try.func7, Try.ntmps7
  go_wp2_with (first | ((with_reducible refine bx_r w.heap.size s ?_ ?_ ?_); exact rfl; exact rfl; intro W hr hb hz) | ((with_reducible refine al_r (w.heap.size + 1) ?_ ?_); exact hz.out; intro W hq hb' hz'; replace hr := hr.bl (hz.out ▸ hb'); replace hb := hb.trans (hb'.mono (by omega)); replace hz := hz'))
  go_loopw [5] (fun nv wr => ∃ n : Nat, 1 ≤ n ∧ n ≤ 8 ∧ nv = .int .i64 n ∧ RowAt wr w.heap.size (P5.cells ⟨s.pr, s.en, s.th, lvK s l n, s.bu⟩) 25 ∧ RowAt wr (w.heap.size + 1) zeroP.cells 25 ∧ Below w.heap.size w wr) (fun nv _ => 8 - (intOf nv).toNat)
  case atStart => exact ⟨1, by omega, by omega, rfl, hr, hq, hb⟩
  case round =>
    clear hr hq hb hz
    obtain ⟨n, hn1, hn8, rfl, hr, hq, hb⟩ := hrel
    by_cases hlt : n < 8
    · have HB := hide (fun v h a w => bit_any v h a w)
      have HS := hide (fun w => refset_any (lvK s l n) (lvK_lt s hs l n) (n : Int) 1 (by omega) (by omega) 1 (by decide) w)
      have hbu := hs.bu
      have hN : lvK s l (n + 1) = if n ≠ 0 ∧ l.testBit n = true ∧ s.bu.testBit n = false then num (setBit (lvK s l n) (n : Int) 1 1) 32 else lvK s l n := rfl
      rw [show (((1 : Nat) : Int)) = 1 from rfl] at HS
      generalize num (setBit (lvK s l n) (n : Int) 1 1) 32 = z at *
      cases c1 : l.testBit n with
      | false =>
        have HN : Hid (lvK s l (n + 1) = lvK s l n) := hide (by rw [hN, if_neg (by simp [c1])])
        have t1 : (((bitN l (n : Int) : Nat) : Int) == 1) = false := by rw [bitN_tb _ _ (by omega), c1]; rfl
        clear hN c1
        go_wp2_with (first | (go_at_call 13; refine (HB.out _ (by assumption) _ _).mono ?_; rintro e W2 ⟨rfl, rfl⟩))
        go_roundw
        case rel => exact ⟨n + 1, by omega, by omega, by go_num, HN.out ▸ hr, hq, hb⟩
        case measure => simp [intOf]; omega
      | true =>
        have t1 : (((bitN l (n : Int) : Nat) : Int) == 1) = true := by rw [bitN_tb _ _ (by omega), c1]; rfl
        cases c2 : s.bu.testBit n with
        | true =>
          have HN : Hid (lvK s l (n + 1) = lvK s l n) := hide (by rw [hN, if_neg (by simp [c2])])
          have t2 : (((bitN s.bu (n : Int) : Nat) : Int) == 0) = false := by rw [bitN_tb _ _ (by omega), c2]; rfl
          clear hN c1 c2
          go_wp2_with (first | (go_at_call 13; refine (HB.out _ (by assumption) _ _).mono ?_; rintro e W2 ⟨rfl, rfl⟩) | ((with_reducible refine g_ldw w.heap.size 11 _ _ s.bu hr ?_ ?_ ?_ ?_); exact rfl; exact rfl; exact rfl))
          go_roundw
          case rel => exact ⟨n + 1, by omega, by omega, by go_num, HN.out ▸ hr, hq, hb⟩
          case measure => simp [intOf]; omega
        | false =>
          have HN : Hid (lvK s l (n + 1) = z) := hide (by rw [hN, if_pos ⟨by omega, c1, c2⟩])
          have t2 : (((bitN s.bu (n : Int) : Nat) : Int) == 0) = true := by rw [bitN_tb _ _ (by omega), c2]; rfl
          clear hN c1 c2
          go_wp2_with (first | (go_at_call 13; refine (HB.out _ (by assumption) _ _).mono ?_; rintro e W2 ⟨rfl, rfl⟩) | ((with_reducible refine g_ldw w.heap.size 11 _ _ s.bu hr ?_ ?_ ?_ ?_); exact rfl; exact rfl; exact rfl) | ((with_reducible refine ld_pe w.heap.size _ _ hr ?_ ?_); exact rfl) | (go_at_call 14; refine (HS.out _).mono ?_; rintro e W2 ⟨rfl, hbc⟩; replace hr := hr.bl hbc; replace hq := hq.bl hbc; replace hb := below_bl rfl hb hbc) | ((with_reducible refine st_pe w.heap.size _ z _ hr ?_ ?_ ?_); exact rfl; exact rfl; intro W hnew ho; replace hq := hq.only ho (by omega); replace hr := hnew; replace hb := ho.bel _ _ (by omega) hb))
          go_roundw
          case rel => exact ⟨n + 1, by omega, by omega, by go_num, HN.out ▸ hr, hq, hb⟩
          case measure => simp [intOf]; omega
    · obtain rfl : n = 8 := by omega
      rw [lvK_end s hs l] at hr
      go_wp2_with (first | ((with_reducible refine ld_r w.heap.size _ hr ?_ ?_); exact rfl) | ((with_reducible refine st_r (w.heap.size + 1) _ (levelV s l) hq ?_ ?_ ?_); exact rfl; exact rfl; intro W hnew ho; replace hr := hr.only ho (by omega); replace hq := hnew; replace hb := ho.bel _ _ (by omega) hb))
      refine bodyPost_ret (results_cell_row Try.results7 _ _ (w.heap.size + 1) _ _ _ _ rfl hq Try.underlying25 rfl size_r) rfl ?_
      exact ⟨rfl, hb⟩

end Go.Proofs.Ytadgdgjmadchjaa
