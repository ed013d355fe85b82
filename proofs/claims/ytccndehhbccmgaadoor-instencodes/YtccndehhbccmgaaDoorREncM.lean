/-
  Bits laid one by one are the pieces laid.
-/
import Derived.Test.YtccndehhbccmgaaDoorREncL
namespace Go.Proofs.YtccndehhbccmgaaDoor
set_option linter.unusedVariables false

theorem setW_bit (v : Nat) (hv : v < 4294967296) (lo n : Nat) (h : lo + n ≤ 32) (x : Nat) (hx : x < 4294967296) (i : Nat) :
    (setW v lo n x).testBit i = if lo ≤ i ∧ i < lo + n then x.testBit (i - lo) else v.testBit i := by
  have e : v % 2 ^ lo + x % 2 ^ n * 2 ^ lo + v / 2 ^ (lo + n) * 2 ^ (lo + n) = 2 ^ (lo + n) * (v / 2 ^ (lo + n)) + (2 ^ lo * (x % 2 ^ n) + v % 2 ^ lo) := by
    rw [Nat.mul_comm (x % 2 ^ n), Nat.mul_comm (v / 2 ^ (lo + n))]; omega
  have hl : v % 2 ^ lo < 2 ^ lo := Nat.mod_lt _ (Nat.pow_pos (by decide))
  have hx2 : x % 2 ^ n < 2 ^ n := Nat.mod_lt _ (Nat.pow_pos (by decide))
  have hlt : 2 ^ lo * (x % 2 ^ n) + v % 2 ^ lo < 2 ^ (lo + n) := by
    rw [Nat.pow_add]
    calc 2 ^ lo * (x % 2 ^ n) + v % 2 ^ lo < 2 ^ lo * (x % 2 ^ n) + 2 ^ lo := by omega
      _ = 2 ^ lo * (x % 2 ^ n + 1) := by rw [Nat.mul_add, Nat.mul_one]
      _ ≤ 2 ^ lo * 2 ^ n := Nat.mul_le_mul_left _ hx2
  rw [setW_arith v hv lo n h x hx, e, Nat.testBit_two_pow_mul_add _ hlt, Nat.testBit_two_pow_mul_add _ hl, Nat.testBit_mod_two_pow, Nat.testBit_mod_two_pow, Nat.testBit_div_two_pow]
  by_cases h1 : i < lo
  · simp [h1, show i < lo + n by omega, show ¬ lo ≤ i by omega]
  · by_cases h2 : i < lo + n
    · simp [h1, h2, show lo ≤ i by omega, show i - lo < n by omega]
    · simp [h2, show i - (lo + n) + (lo + n) = i by omega]

theorem bit_zero (n p : Nat) (h : p ≤ 31) : (bitN n (p : Nat)).testBit 0 = n.testBit p := by
  have := bitN_one n (p : Nat)
  rw [Nat.testBit_zero]
  have hb := bitN_le n (p : Nat)
  have e : decide (bitN n (p : Nat) % 2 = 1) = decide (bitN n (p : Nat) = 1) := by
    rw [decide_eq_decide]; omega
  rw [e, this]
  simp; omega

/-- Bits laid, by a list of where they come from and where they go. -/
def layL (n : Nat) (b : Nat) (ps : List (Nat × Nat)) : Nat := ps.foldl (fun v p => setW v (p.2 : Nat) (1 : Nat) (bitN n (p.1 : Nat))) b
theorem layL_append (n b : Nat) (a c : List (Nat × Nat)) : layL n b (a ++ c) = layL n (layL n b a) c := by simp [layL, List.foldl_append]
theorem layL_lt (n : Nat) (b : Nat) (hb : b < 4294967296) (ps : List (Nat × Nat)) : layL n b ps < 4294967296 := by
  induction ps generalizing b with
  | nil => exact hb
  | cons p l ih => exact ih _ (setW_lt _ hb _ _ _)
theorem layF_L (n : Nat) (fs ts : List Nat) (b : Nat) (ps : List (Nat × Nat)) (h1 : ps.map (·.1) = fs) (h2 : ps.map (·.2) = ts) : ∀ k, k ≤ ps.length → layF n fs ts b k = layL n b (ps.take k)
  | 0, _ => rfl
  | k + 1, h => by
    have ih := layF_L n fs ts b ps h1 h2 k (by omega)
    have hk : k < ps.length := by omega
    have e1 : fs.getD k 0 = ps[k].1 := by rw [← h1, List.getD_eq_getElem?_getD, List.getElem?_map, List.getElem?_eq_getElem hk]; rfl
    have e2 : ts.getD k 0 = ps[k].2 := by rw [← h2, List.getD_eq_getElem?_getD, List.getElem?_map, List.getElem?_eq_getElem hk]; rfl
    rw [layF, ih, e1, e2, List.take_add_one, List.getElem?_eq_getElem hk, layL_append]
    rfl

def runP (fh hi m : Nat) : List (Nat × Nat) := (List.range m).map fun j => (fh - j, hi - j)
theorem runP_succ (fh hi m : Nat) : runP fh hi (m + 1) = runP fh hi m ++ [(fh - m, hi - m)] := by simp [runP, List.range_succ]

theorem lay_run (n b : Nat) (hb : b < 4294967296) (fh hi : Nat) (h1 : fh ≤ 31) (h2 : hi ≤ 31) : ∀ m, m ≤ hi + 1 → m ≤ fh + 1 → layL n b (runP fh hi m) = setW b (hi + 1 - m : Nat) (m : Nat) (n / 2 ^ (fh + 1 - m) % 2 ^ m)
  | 0, _, _ => by
    apply Nat.eq_of_testBit_eq
    intro i
    rw [setW_bit b hb _ _ (by omega) _ (by simp [Nat.mod_one])]
    rw [if_neg (by omega)]
    rfl
  | m + 1, g1, g2 => by
    have ih := lay_run n b hb fh hi h1 h2 m (by omega) (by omega)
    have q1 : n / 2 ^ (fh + 1 - m) % 2 ^ m < 4294967296 := Nat.lt_of_lt_of_le (Nat.mod_lt _ (Nat.pow_pos (by decide))) (show 2 ^ m ≤ 2 ^ 32 from Nat.pow_le_pow_right (by decide) (by omega))
    have q2 : n / 2 ^ (fh + 1 - (m + 1)) % 2 ^ (m + 1) < 4294967296 := Nat.lt_of_lt_of_le (Nat.mod_lt _ (Nat.pow_pos (by decide))) (show 2 ^ (m + 1) ≤ 2 ^ 32 from Nat.pow_le_pow_right (by decide) (by omega))
    have q3 : bitN n ((fh - m : Nat) : Int) < 4294967296 := Nat.lt_of_le_of_lt (bitN_le _ _) (by decide)
    rw [runP_succ, layL_append, ih]
    show setW (setW b (hi + 1 - m : Nat) (m : Nat) (n / 2 ^ (fh + 1 - m) % 2 ^ m)) ((hi - m : Nat) : Int) ((1 : Nat) : Int) (bitN n ((fh - m : Nat) : Int)) = _
    apply Nat.eq_of_testBit_eq
    intro i
    rw [setW_bit _ (setW_lt b hb _ _ _) _ _ (by omega) _ q3, setW_bit b hb _ _ (by omega) _ q1, setW_bit b hb _ _ (by omega) _ q2]
    rw [Nat.testBit_mod_two_pow, Nat.testBit_mod_two_pow, Nat.testBit_div_two_pow, Nat.testBit_div_two_pow]
    by_cases c1 : i = hi - m
    · subst c1
      rw [if_pos (by omega), if_pos (by omega), Nat.sub_self, bit_zero n _ (by omega), show hi - m - (hi + 1 - (m + 1)) + (fh + 1 - (m + 1)) = fh - m by omega]
      simp
    · rw [if_neg (by omega)]
      by_cases c2 : hi + 1 - m ≤ i ∧ i < hi + 1
      · rw [if_pos (by omega), if_pos (by omega), show i - (hi + 1 - m) + (fh + 1 - m) = i - (hi + 1 - (m + 1)) + (fh + 1 - (m + 1)) by omega]
        simp [show i - (hi + 1 - m) < m by omega]; intros; omega
      · rw [if_neg (by omega), if_neg (by omega)]

theorem lay_S (W : Nat) (hW : W = W % 128 + W / 4096 % 8 * 4096) (op : Int) (rs1 rs2 : Nat) (imm : Int) (h1 : rs1 < 32) (h2 : rs2 < 32) (himm : -2048 ≤ imm ∧ imm ≤ 2047) :
    layF (u32N imm) (downK 11 12) (downK 31 7 ++ downK 11 5) (W + rs1 * 32768 + rs2 * 1048576) 12 = laidK 83 W ⟨op, 0, rs1, rs2, imm, 0⟩ := by
  rw [laid_S W hW op rs1 rs2 imm h1 h2]
  have hu := u32N_lt imm
  generalize u32N imm = u at *
  have hb : W + rs1 * 32768 + rs2 * 1048576 < 4294967296 := by omega
  rw [layF_L u (downK 11 12) (downK 31 7 ++ downK 11 5) _ (runP 11 31 7 ++ runP 4 11 5) (by decide) (by decide) 12 (by decide), show (runP 11 31 7 ++ runP 4 11 5).take 12 = runP 11 31 7 ++ runP 4 11 5 by decide, layL_append]
  rw [lay_run u _ hb 11 31 (by decide) (by decide) 7 (by decide) (by decide)]
  have p0 : u / 2 ^ (11 + 1 - 7) % 2 ^ 7 < 2 ^ 7 := Nat.mod_lt _ (by decide)
  have p1 : u / 2 ^ (4 + 1 - 5) % 2 ^ 5 < 2 ^ 5 := Nat.mod_lt _ (by decide)
  have e0 : setW (W + rs1 * 32768 + rs2 * 1048576) ((31 + 1 - 7 : Nat) : Int) ((7 : Nat) : Int) (u / 2 ^ (11 + 1 - 7) % 2 ^ 7) = W + rs1 * 32768 + rs2 * 1048576 + (u / 2 ^ 5 % 2 ^ 7) * 2 ^ 25 := setW_top _ 25 7 _ (by decide) (by omega) p0
  rw [e0, lay_run u _ (by omega) 4 11 (by decide) (by decide) 5 (by decide) (by decide)]
  rw [setW_arith _ (by omega) (11 + 1 - 5) 5 (by decide) _ (by omega)]
  generalize u / 2 ^ 5 % 2 ^ 7 = a at *
  rw [show u / 2 ^ (4 + 1 - 5) % 2 ^ 5 = u / 2 ^ 0 % 2 ^ 5 from rfl] at p1 ⊢
  generalize u / 2 ^ 0 % 2 ^ 5 = c at *
  omega

theorem setW_zero (v : Nat) (hv : v < 4294967296) (lo n x : Nat) (h : lo + n ≤ 32) (hz : v / 2 ^ lo % 2 ^ n = 0) (hx : x < 2 ^ n) : setW v lo n x = v + x * 2 ^ lo := by
  have p2 : 2 ^ n ≤ 2 ^ 32 := Nat.pow_le_pow_right (by decide) (by omega)
  rw [setW_arith v hv lo n h x (Nat.lt_of_lt_of_le hx p2), Nat.mod_eq_of_lt hx]
  have q1 := Nat.div_add_mod v (2 ^ lo)
  have q2 := Nat.div_add_mod (v / 2 ^ lo) (2 ^ n)
  rw [hz, Nat.add_zero, Nat.div_div_eq_div_mul, ← Nat.pow_add] at q2
  rw [← q2, ← Nat.mul_assoc, ← Nat.pow_add] at q1
  rw [Nat.mul_comm (v / 2 ^ (lo + n))]
  omega

theorem lay_step (n b : Nat) (hb : b < 4294967296) (fh hi m lo q : Nat) (h1 : fh ≤ 31) (h2 : hi ≤ 31) (hm : m ≤ hi + 1) (hf : m ≤ fh + 1) (el : hi + 1 - m = lo) (eq : fh + 1 - m = q) (hz : b / 2 ^ lo % 2 ^ m = 0) :
    layL n b (runP fh hi m) = b + n / 2 ^ q % 2 ^ m * 2 ^ lo := by
  rw [lay_run n b hb fh hi h1 h2 m hm hf, el, eq]
  exact setW_zero b hb lo m _ (by omega) hz (Nat.mod_lt _ (Nat.pow_pos (by decide)))

theorem lay_B (W : Nat) (hW : W = W % 128 + W / 4096 % 8 * 4096) (op : Int) (rs1 rs2 : Nat) (imm : Int) (h1 : rs1 < 32) (h2 : rs2 < 32) (himm : -4096 ≤ imm ∧ imm ≤ 4095 ∧ imm % 2 = 0) :
    layF (u32N imm) (downK 12 12) (([31, 7] ++ downK 30 6) ++ downK 11 4) (W + rs1 * 32768 + rs2 * 1048576) 12 = laidK 66 W ⟨op, 0, rs1, rs2, imm, 0⟩ := by
  rw [laid_B W hW op rs1 rs2 imm h1 h2]
  have hu := u32N_lt imm
  generalize u32N imm = u at *
  clear himm
  rw [layF_L u (downK 12 12) (([31, 7] ++ downK 30 6) ++ downK 11 4) _ (((runP 12 31 1 ++ runP 11 7 1) ++ runP 10 30 6) ++ runP 4 11 4) (by decide) (by decide) 12 (by decide), show (((runP 12 31 1 ++ runP 11 7 1) ++ runP 10 30 6) ++ runP 4 11 4).take 12 = ((runP 12 31 1 ++ runP 11 7 1) ++ runP 10 30 6) ++ runP 4 11 4 by decide, layL_append, layL_append, layL_append]
  rw [lay_step u _ (by omega) 12 31 1 31 12 (by decide) (by decide) (by decide) (by decide) rfl rfl (by omega)]
  have p3 : u / 2 ^ 12 % 2 ^ 1 < 2 ^ 1 := Nat.mod_lt _ (by decide)
  generalize u / 2 ^ 12 % 2 ^ 1 = a3 at *
  rw [lay_step u _ (by omega) 11 7 1 7 11 (by decide) (by decide) (by decide) (by decide) rfl rfl (by omega)]
  have p2 : u / 2 ^ 11 % 2 ^ 1 < 2 ^ 1 := Nat.mod_lt _ (by decide)
  generalize u / 2 ^ 11 % 2 ^ 1 = a2 at *
  rw [lay_step u _ (by omega) 10 30 6 25 5 (by decide) (by decide) (by decide) (by decide) rfl rfl (by omega)]
  have p1 : u / 2 ^ 5 % 2 ^ 6 < 2 ^ 6 := Nat.mod_lt _ (by decide)
  generalize u / 2 ^ 5 % 2 ^ 6 = a1 at *
  rw [lay_step u _ (by omega) 4 11 4 8 1 (by decide) (by decide) (by decide) (by decide) rfl rfl (by omega)]
  omega

theorem lay_J (W : Nat) (hW : W < 128) (op : Int) (rd : Nat) (imm : Int) (h1 : rd < 32) (himm : -1048576 ≤ imm ∧ imm ≤ 1048575 ∧ imm % 2 = 0) :
    layF (u32N imm) (downK 20 20) (((([31] ++ downK 19 8) ++ [20]) ++ downK 30 6) ++ downK 24 4) (W + rd * 128) 20 = laidK 74 W ⟨op, rd, 0, 0, imm, 0⟩ := by
  rw [laid_J W hW op rd imm h1]
  have hu := u32N_lt imm
  generalize u32N imm = u at *
  clear himm
  rw [layF_L u (downK 20 20) (((([31] ++ downK 19 8) ++ [20]) ++ downK 30 6) ++ downK 24 4) _ ((((runP 20 31 1 ++ runP 19 19 8) ++ runP 11 20 1) ++ runP 10 30 6) ++ runP 4 24 4) (by decide) (by decide) 20 (by decide), show ((((runP 20 31 1 ++ runP 19 19 8) ++ runP 11 20 1) ++ runP 10 30 6) ++ runP 4 24 4).take 20 = (((runP 20 31 1 ++ runP 19 19 8) ++ runP 11 20 1) ++ runP 10 30 6) ++ runP 4 24 4 by decide, layL_append, layL_append, layL_append, layL_append]
  have e10 : u / 2 ^ 1 % 2 ^ 10 = u / 2 ^ 5 % 2 ^ 6 * 16 + u / 2 ^ 1 % 2 ^ 4 := by omega
  rw [e10]
  clear e10
  rw [lay_step u _ (by omega) 20 31 1 31 20 (by decide) (by decide) (by decide) (by decide) rfl rfl (by omega)]
  have p3 : u / 2 ^ 20 % 2 ^ 1 < 2 ^ 1 := Nat.mod_lt _ (by decide)
  generalize u / 2 ^ 20 % 2 ^ 1 = a3 at *
  rw [lay_step u _ (by omega) 19 19 8 12 12 (by decide) (by decide) (by decide) (by decide) rfl rfl (by omega)]
  have p2 : u / 2 ^ 12 % 2 ^ 8 < 2 ^ 8 := Nat.mod_lt _ (by decide)
  generalize u / 2 ^ 12 % 2 ^ 8 = a2 at *
  rw [lay_step u _ (by omega) 11 20 1 20 11 (by decide) (by decide) (by decide) (by decide) rfl rfl (by omega)]
  have p1 : u / 2 ^ 11 % 2 ^ 1 < 2 ^ 1 := Nat.mod_lt _ (by decide)
  generalize u / 2 ^ 11 % 2 ^ 1 = a1 at *
  rw [lay_step u _ (by omega) 10 30 6 25 5 (by decide) (by decide) (by decide) (by decide) rfl rfl (by omega)]
  have p0 : u / 2 ^ 5 % 2 ^ 6 < 2 ^ 6 := Nat.mod_lt _ (by decide)
  generalize u / 2 ^ 5 % 2 ^ 6 = a0 at *
  rw [lay_step u _ (by omega) 4 24 4 21 1 (by decide) (by decide) (by decide) (by decide) rfl rfl (by omega)]
  omega
end Go.Proofs.YtccndehhbccmgaaDoor
