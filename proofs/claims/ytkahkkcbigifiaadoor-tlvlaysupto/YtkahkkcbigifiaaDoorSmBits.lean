/-
  The sum of bytes, plain.
-/
import Derived.Test.YtkahkkcbigifiaaDoorSmMath
namespace Go.Proofs.YtkahkkcbigifiaaDoor
set_option linter.unusedVariables false
set_option linter.unusedSimpArgs false
/-- The k-th bit of bytes, the highest of a byte first. -/
def bitL (l : List Nat) (k : Nat) : Bool := (l.getD (k / 8) 0).testBit (7 - k % 8)
def crcL (l : List Nat) (s : Nat) : Nat := crcF (bitL l) (8 * l.length) s
def sumL (l : List Nat) : Nat := crcL l 4294967295
def tail4 (s : Nat) : List Nat := [s / 16777216, s / 65536 % 256, s / 256 % 256, s % 256]
theorem crcL_lt (l : List Nat) {s : Nat} (h : s < 4294967296) : crcL l s < 4294967296 := crcF_lt _ _ h
theorem sumL_lt (l : List Nat) : sumL l < 4294967296 := crcL_lt l (by decide)
theorem bitL_app (l m : List Nat) (k : Nat) : bitL (l ++ m) (8 * l.length + k) = bitL m k := by
  unfold bitL
  rw [show (8 * l.length + k) / 8 = l.length + k / 8 by omega, show (8 * l.length + k) % 8 = k % 8 by omega]
  simp [List.getD_eq_getElem?_getD, List.getElem?_append_right]
theorem bitL_left (l m : List Nat) {k : Nat} (h : k < 8 * l.length) : bitL (l ++ m) k = bitL l k := by
  unfold bitL
  simp [List.getD_eq_getElem?_getD, List.getElem?_append_left (by omega : k / 8 < l.length)]
theorem crcL_app (l m : List Nat) (s : Nat) : crcL (l ++ m) s = crcL m (crcL l s) := by
  unfold crcL
  rw [List.length_append, Nat.mul_add, crcF_add, crcF_congr (fun k hk => bitL_app l m k), crcF_congr (fun k hk => bitL_left l m hk)]
theorem crcL_cons (c : Nat) (l : List Nat) (s : Nat) : crcL (c :: l) s = crcL l (crcL [c] s) := crcL_app [c] l s
theorem crcL_nil (s : Nat) : crcL [] s = s := rfl
/-- The last four bytes are what is summed. -/
theorem win_tail {s : Nat} (h : s < 4294967296) : winF (bitL (tail4 s)) 32 = s := by
  refine winF_of h fun k hk => ?_
  have e : ∀ (x j : Nat), x.testBit j = decide (x / 2 ^ j % 2 = 1) := fun x j => Nat.testBit_eq_decide_div_mod_eq
  have hd : ∀ (x i j m : Nat), j < m → (x / 2 ^ i % 2 ^ m).testBit j = x.testBit (i + j) := fun x i j m hj => by
    rw [Nat.testBit_mod_two_pow, decide_eq_true hj, Bool.true_and, ← Nat.shiftRight_eq_div_pow, Nat.testBit_shiftRight]
  unfold bitL tail4
  rcases (show k / 8 = 0 ∨ k / 8 = 1 ∨ k / 8 = 2 ∨ k / 8 = 3 by omega) with q | q | q | q <;> rw [q]
  · show (s / 16777216).testBit _ = _
    rw [show s / 16777216 = s / 2 ^ 24 % 2 ^ 8 by rw [show (2 : Nat) ^ 24 = 16777216 by decide, show (2 : Nat) ^ 8 = 256 by decide]; omega, hd _ _ _ _ (by omega)]
    congr 1; omega
  · show (s / 65536 % 256).testBit _ = _
    rw [show s / 65536 % 256 = s / 2 ^ 16 % 2 ^ 8 by rw [show (2 : Nat) ^ 16 = 65536 by decide, show (2 : Nat) ^ 8 = 256 by decide], hd _ _ _ _ (by omega)]
    congr 1; omega
  · show (s / 256 % 256).testBit _ = _
    rw [show s / 256 % 256 = s / 2 ^ 8 % 2 ^ 8 by rw [show (2 : Nat) ^ 8 = 256 by decide], hd _ _ _ _ (by omega)]
    congr 1; omega
  · show (s % 256).testBit _ = _
    rw [show s % 256 = s / 2 ^ 0 % 2 ^ 8 by rw [show (2 : Nat) ^ 8 = 256 by decide, Nat.pow_zero, Nat.div_one], hd _ _ _ _ (by omega)]
    congr 1; omega
theorem tail4_lt {s : Nat} (h : s < 4294967296) : ∀ x ∈ tail4 s, x < 256 := by
  unfold tail4
  intro x hx
  simp only [List.mem_cons, List.not_mem_nil, or_false] at hx
  rcases hx with rfl | rfl | rfl | rfl <;> omega
theorem crc_tail {s t : Nat} (hs : s < 4294967296) (ht : t < 4294967296) : crcL (tail4 t) s = zN 32 (s ^^^ t) := by
  show crcF _ 32 s = _
  rw [crcF_winS _ 32 (Nat.le_refl _) hs, win_tail ht]
theorem xor_nil {a b : Nat} (h : a ^^^ b = 0) : a = b := by
  have := congrArg (· ^^^ b) h
  simp only [Nat.xor_assoc, Nat.xor_self, Nat.xor_zero, Nat.zero_xor] at this
  exact this
/-- Bytes that end with a sum: it is theirs just if all of them together have the sum nought. -/
theorem sum_ends (l : List Nat) {t : Nat} (ht : t < 4294967296) : sumL (l ++ tail4 t) = 0 ↔ t = sumL l := by
  rw [show sumL (l ++ tail4 t) = crcL (tail4 t) (sumL l) from crcL_app _ _ _, crc_tail (sumL_lt l) ht]
  constructor
  · intro h
    exact (xor_nil (zN_nil 32 (xor_lt32 (sumL_lt l) ht) h)).symm
  · intro h
    rw [h, Nat.xor_self, zN_zero]
theorem four_tail (a b c d : Nat) (ha : a < 256) (hb : b < 256) (hc : c < 256) (hd : d < 256) : tail4 (a * 16777216 + b * 65536 + c * 256 + d) = [a, b, c, d] := by
  unfold tail4
  rw [show (a * 16777216 + b * 65536 + c * 256 + d) / 16777216 = a by omega, show (a * 16777216 + b * 65536 + c * 256 + d) / 65536 % 256 = b by omega, show (a * 16777216 + b * 65536 + c * 256 + d) / 256 % 256 = c by omega, show (a * 16777216 + b * 65536 + c * 256 + d) % 256 = d by omega]
theorem tail4_inj {s t : Nat} (h : tail4 s = tail4 t) (hs : s < 4294967296) (ht : t < 4294967296) : s = t := by
  unfold tail4 at h
  injection h with h1 h; injection h with h2 h; injection h with h3 h; injection h with h4 _
  omega
theorem last_four (l : List Nat) (h : ∀ x ∈ l, x < 256) (h4 : 4 ≤ l.length) : ∃ t, t < 4294967296 ∧ l = l.take (l.length - 4) ++ tail4 t := by
  have hd : (l.drop (l.length - 4)).length = 4 := by rw [List.length_drop]; omega
  match hq : l.drop (l.length - 4), hd with
  | [a, b, c, d], _ =>
    have hm : ∀ x ∈ [a, b, c, d], x < 256 := fun x hx => h x (List.mem_of_mem_drop (hq ▸ hx))
    have ha := hm a (by simp); have hb := hm b (by simp); have hc := hm c (by simp); have hd := hm d (by simp)
    refine ⟨a * 16777216 + b * 65536 + c * 256 + d, by omega, ?_⟩
    rw [four_tail a b c d ha hb hc hd, ← hq, List.take_append_drop]
/-- Does it end with its sum? -/
def okL (l : List Nat) : Bool := decide (4 ≤ l.length) && decide (l.drop (l.length - 4) = tail4 (sumL (l.take (l.length - 4))))
theorem ok_iff (l : List Nat) (h : ∀ x ∈ l, x < 256) (h4 : 4 ≤ l.length) : okL l = true ↔ sumL l = 0 := by
  obtain ⟨t, ht, hl⟩ := last_four l h h4
  have hlt : (l.take (l.length - 4)).length = l.length - 4 := by rw [List.length_take]; omega
  have hdr : l.drop (l.length - 4) = tail4 t := by
    have := congrArg (List.drop (l.length - 4)) hl
    rwa [List.drop_append_of_le_length (by omega), show (l.take (l.length - 4)).drop (l.length - 4) = [] by rw [List.drop_eq_nil_iff]; omega, List.nil_append] at this
  have he := sum_ends (l.take (l.length - 4)) ht
  rw [← hl] at he
  unfold okL
  rw [decide_eq_true h4, Bool.true_and, decide_eq_true_eq, hdr, he]
  exact ⟨fun q => tail4_inj q ht (sumL_lt _), fun q => by rw [q]⟩
/-- Texts of one length, xored. -/
theorem crcL_xor (a b : List Nat) (x : List Nat) (ha : a.length = x.length) (hb : b.length = x.length) (hx : ∀ i, i < x.length → x.getD i 0 = a.getD i 0 ^^^ b.getD i 0) {s t : Nat} (hs : s < 4294967296) (ht : t < 4294967296) : crcL x (s ^^^ t) = crcL a s ^^^ crcL b t := by
  unfold crcL
  rw [ha, hb, ← crcF_xor _ _ _ hs ht]
  refine crcF_congr (fun k hk => ?_) _
  unfold bitL
  rw [hx _ (by omega), Nat.testBit_xor]
theorem sum_three (a b c x : List Nat) (ha : a.length = x.length) (hb : b.length = x.length) (hc : c.length = x.length) (hx : ∀ i, i < x.length → x.getD i 0 = a.getD i 0 ^^^ b.getD i 0 ^^^ c.getD i 0) : sumL x = sumL a ^^^ sumL b ^^^ sumL c := by
  unfold sumL
  have hy : ∀ i, i < (List.zipWith (· ^^^ ·) a b).length → (List.zipWith (· ^^^ ·) a b).getD i 0 = a.getD i 0 ^^^ b.getD i 0 := fun i hi => by
    have hl : i < a.length ∧ i < b.length := by rw [List.length_zipWith] at hi; omega
    simp [List.getD_eq_getElem?_getD, List.getElem?_zipWith, List.getElem?_eq_getElem hl.1, List.getElem?_eq_getElem hl.2]
  have hly : (List.zipWith (· ^^^ ·) a b).length = x.length := by rw [List.length_zipWith]; omega
  rw [show (4294967295 : Nat) = (4294967295 ^^^ 4294967295) ^^^ 4294967295 by decide, crcL_xor (List.zipWith (· ^^^ ·) a b) c x hly hc (fun i hi => by rw [hx i hi, hy i (by omega)]) (by decide) (by decide), crcL_xor a b _ (by omega) (by omega) hy (by decide) (by decide)]
  rfl
/-- What is changed within 32 bits is refused. -/
theorem near_seen (x y : List Nat) (hl : y.length = x.length) (hx : ∀ c ∈ x, c < 256) (hy : ∀ c ∈ y, c < 256) (a : Nat) (h : ∀ k, k < 8 * x.length → bitL y k ≠ bitL x k → a ≤ k ∧ k < a + 32) (ex : sumL x = 0) : sumL y = 0 ↔ y = x := by
  constructor
  · intro ey
    have hz := crcF_xor (bitL y) (bitL x) (8 * x.length) (show 4294967295 < 4294967296 by decide) (show 4294967295 < 4294967296 by decide)
    have e1 : crcF (bitL y) (8 * x.length) 4294967295 = 0 := by rw [← hl]; exact ey
    have e2 : crcF (bitL x) (8 * x.length) 4294967295 = 0 := ex
    rw [e1, e2, Nat.xor_self] at hz
    have hn := burst_seen (a := a) (fun k hk e => h k hk (fun q => by rw [q, Bool.xor_self] at e; cases e)) hz
    refine List.ext_getElem? fun i => ?_
    by_cases hi : i < x.length
    · rw [List.getElem?_eq_getElem hi, List.getElem?_eq_getElem (by omega : i < y.length)]
      congr 1
      have c1 := hx x[i] (List.getElem_mem hi)
      have c2 := hy y[i] (List.getElem_mem _)
      refine Nat.eq_of_testBit_eq fun j => ?_
      by_cases hj : j < 8
      · have := hn (8 * i + (7 - j)) (by omega)
        unfold bitL at this
        rw [show (8 * i + (7 - j)) / 8 = i by omega, show 7 - (8 * i + (7 - j)) % 8 = j by omega] at this
        simp only [List.getD_eq_getElem?_getD, List.getElem?_eq_getElem hi, List.getElem?_eq_getElem (by omega : i < y.length), Option.getD_some] at this
        revert this
        cases y[i].testBit j <;> cases x[i].testBit j <;> simp
      · rw [Nat.testBit_lt_two_pow (Nat.lt_of_lt_of_le c1 (Nat.pow_le_pow_right (n := 2) (by decide) (by omega : 8 ≤ j))), Nat.testBit_lt_two_pow (Nat.lt_of_lt_of_le c2 (Nat.pow_le_pow_right (n := 2) (by decide) (by omega : 8 ≤ j)))]
    · rw [List.getElem?_eq_none (by omega), List.getElem?_eq_none (by omega)]
  · rintro rfl; exact ex
/-- The document's bit. -/
theorem ref_bit {s : Nat} (h : s < 4294967296) (one : Bool) : (if (decide (2147483648 ≤ s) != one) = true then (s * 2 % 4294967296) ^^^ 79764919 else s * 2 % 4294967296) = zs (s ^^^ topS one) := by
  rw [zs_xor h (topS_lt one)]
  unfold zs
  have hself : ∀ x : Nat, x = 79764919 ^^^ (79764919 ^^^ x) := fun x => by rw [← Nat.xor_assoc, Nat.xor_self, Nat.zero_xor]
  have hc : ∀ x : Nat, x ^^^ 79764919 ^^^ 79764919 = x := fun x => by rw [Nat.xor_assoc, Nat.xor_self, Nat.xor_zero]
  cases one <;> by_cases e : 2147483648 ≤ s <;> simp [topS, e, hc]
/-- A byte, bit by bit. -/
def byteN (c : Nat) : Nat → Nat → Nat
  | 0, s => s
  | n + 1, s => zs (byteN c n s ^^^ topS (c.testBit (7 - n)))
theorem byte_crc (c s : Nat) : crcL [c] s = byteN c 8 s := by
  show crcF (bitL [c]) 8 s = _
  have : ∀ n, n ≤ 8 → crcF (bitL [c]) n s = byteN c n s := by
    intro n
    induction n with
    | zero => intro _; rfl
    | succ n ih =>
      intro hn
      show zs _ = zs _
      rw [ih (by omega)]
      unfold bitL
      rw [show n / 8 = 0 by omega, show n % 8 = n by omega]
      rfl
  exact this 8 (Nat.le_refl _)
theorem win_byte (c : Nat) (hc : c < 256) : winF (bitL [c]) 8 = c * 16777216 := by
  have h1 : winF (bitL [c]) 8 < 4294967296 := winF_lt _ _
  refine Nat.eq_of_testBit_eq fun i => ?_
  rw [show c * 16777216 = c <<< 24 by rw [Nat.shiftLeft_eq], Nat.testBit_shiftLeft]
  by_cases hi : i < 32
  · have := winF_bit (bitL [c]) 8 (by decide) (31 - i) (by omega)
    rw [show 31 - (31 - i) = i by omega] at this
    rw [this]
    by_cases h8 : 31 - i < 8
    · unfold bitL
      rw [show (31 - i) / 8 = 0 by omega, show 7 - (31 - i) % 8 = i - 24 by omega]
      simp only [decide_eq_true h8, decide_eq_true (show i ≥ 24 by omega)]
      rfl
    · simp only [decide_eq_false h8, decide_eq_false (show ¬ i ≥ 24 by omega), Bool.false_and]
  · rw [Nat.testBit_lt_two_pow (Nat.lt_of_lt_of_le h1 (Nat.pow_le_pow_right (n := 2) (by decide) (by omega : 32 ≤ i))), Nat.testBit_lt_two_pow (Nat.lt_of_lt_of_le hc (Nat.pow_le_pow_right (n := 2) (by decide) (by omega : 8 ≤ i - 24))), Bool.and_false]
theorem crc_byte (c : Nat) (hc : c < 256) {s : Nat} (hs : s < 4294967296) : crcL [c] s = zN 8 (s ^^^ c * 16777216) := by
  show crcF _ 8 s = _
  rw [crcF_winS _ 8 (by decide) hs, win_byte c hc]
/-- Bits that reach no carry are but moved. -/
theorem zN_low : ∀ (n s : Nat), s * 2 ^ n < 4294967296 → zN n s = s * 2 ^ n
  | 0, s, _ => (Nat.mul_one s).symm
  | n + 1, s, h => by
    have h2 : s * 2 ^ (n + 1) = s * 2 ^ n * 2 := by rw [Nat.pow_succ, Nat.mul_assoc]
    rw [h2] at h ⊢
    show zs (zN n s) = _
    rw [zN_low n s (by omega)]
    unfold zs
    rw [if_neg (by omega), Nat.mod_eq_of_lt h]
theorem or_split (v m : Nat) : v = (v / 2 ^ m * 2 ^ m) ^^^ (v % 2 ^ m) := by
  refine Nat.eq_of_testBit_eq fun i => ?_
  rw [Nat.testBit_xor, ← Nat.shiftLeft_eq, Nat.testBit_shiftLeft, Nat.testBit_mod_two_pow, ← Nat.shiftRight_eq_div_pow, Nat.testBit_shiftRight]
  by_cases h : i < m
  · simp [h, show ¬ m ≤ i by omega]
  · simp [h, show m ≤ i by omega, show m + (i - m) = i by omega]
/-- n steps at once, by a table of what the n highest bits make. -/
theorem zN_tab (n : Nat) (hn : n ≤ 32) {v : Nat} (hv : v < 4294967296) : zN n v = (v * 2 ^ n % 4294967296) ^^^ zN n (v / 2 ^ (32 - n) * 2 ^ (32 - n)) := by
  have hp : 2 ^ (32 - n) * 2 ^ n = 4294967296 := by rw [← Nat.pow_add, show 32 - n + n = 32 by omega]
  have h0 : 0 < 2 ^ (32 - n) := Nat.pow_pos (by decide)
  have h1 : v % 2 ^ (32 - n) < 2 ^ (32 - n) := Nat.mod_lt _ h0
  have h2 : v % 2 ^ (32 - n) * 2 ^ n < 4294967296 := by rw [← hp]; exact Nat.mul_lt_mul_of_pos_right h1 (Nat.pow_pos (by decide))
  have h3 : v / 2 ^ (32 - n) * 2 ^ (32 - n) < 4294967296 := Nat.lt_of_le_of_lt (Nat.div_mul_le_self v _) hv
  have h4 : v % 2 ^ (32 - n) < 4294967296 := Nat.lt_of_le_of_lt (Nat.mod_le _ _) hv
  have h5 : v * 2 ^ n % 4294967296 = v % 2 ^ (32 - n) * 2 ^ n := by
    rw [← hp, Nat.mul_mod_mul_right]
  rw [h5, ← zN_low n _ h2, Nat.xor_comm, ← zN_xor n h3 h4, ← or_split]
end Go.Proofs.YtkahkkcbigifiaaDoor
