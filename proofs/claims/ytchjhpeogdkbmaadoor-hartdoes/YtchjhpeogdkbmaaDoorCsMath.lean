/-
  Plain numbers: the control registers as eight numbers, what the calls make of them, and bits. No Go in sight.
-/
import Derived.Test.YtchjhpeogdkbmaaDoorMath
namespace Go.Proofs.YtchjhpeogdkbmaaDoor
set_option linter.unusedVariables false

/-- The registers of a state. -/
structure S8 where
  st : Nat
  en : Nat
  ve : Nat
  sc : Nat
  ep : Nat
  ca : Nat
  va : Nat
  ct : Nat

structure S8.Ok (s : S8) : Prop where
  st : s.st < 4294967296
  en : s.en < 4294967296
  ve : s.ve < 4294967296
  sc : s.sc < 4294967296
  ep : s.ep < 4294967296
  ca : s.ca < 4294967296
  va : s.va < 4294967296
  ct : s.ct < 18446744073709551616

def zeroS : S8 := ⟨0, 0, 0, 0, 0, 0, 0, 0⟩
theorem zeroS_ok : zeroS.Ok := by constructor <;> decide

def S8.same (a b : S8) : Bool := a.st == b.st && (a.en == b.en && (a.ve == b.ve && (a.sc == b.sc && (a.ep == b.ep && (a.ca == b.ca && (a.va == b.va && a.ct == b.ct))))))
theorem S8.same_iff (a b : S8) : a.same b = true ↔ a = b := by
  obtain ⟨a0, a1, a2, a3, a4, a5, a6, a7⟩ := a
  obtain ⟨b0, b1, b2, b3, b4, b5, b6, b7⟩ := b
  simp [S8.same]
theorem S8.same_self (a : S8) : a.same a = true := (S8.same_iff a a).2 rfl

/-- Whether a state may be. -/
def mayB (s : S8) : Bool := (s.st &&& 4294967159 == 0) && ((s.en &&& 4294965111 == 0) && ((s.ve &&& 2 == 0) && (s.ep &&& 3 == 0)))

/-- What a register tells; none: there is no such register. -/
def readN (s : S8) (a : Int) (lines : Nat) : Option Nat :=
  if a = 768 then some (s.st ||| 6144)
  else if a = 769 then some 1073746176
  else if a = 772 then some s.en
  else if a = 773 then some s.ve
  else if a = 832 then some s.sc
  else if a = 833 then some s.ep
  else if a = 834 then some s.ca
  else if a = 835 then some s.va
  else if a = 836 then some (lines &&& 2184)
  else if a = 2816 ∨ a = 2818 then some (s.ct % 4294967296)
  else if a = 2944 ∨ a = 2946 then some (s.ct / 4294967296)
  else if a = 3857 ∨ a = 3858 ∨ a = 3859 ∨ a = 3860 then some 0
  else none

/-- A state with a register written, and 0, or an error's number. -/
def writeN (s : S8) (a : Int) (v : Nat) : S8 × Nat :=
  if a = 768 then (⟨v &&& 136, s.en, s.ve, s.sc, s.ep, s.ca, s.va, s.ct⟩, 0)
  else if a = 769 ∨ a = 836 then (s, 0)
  else if a = 772 then (⟨s.st, v &&& 2184, s.ve, s.sc, s.ep, s.ca, s.va, s.ct⟩, 0)
  else if a = 773 then (⟨s.st, s.en, v &&& 4294967293, s.sc, s.ep, s.ca, s.va, s.ct⟩, 0)
  else if a = 832 then (⟨s.st, s.en, s.ve, v, s.ep, s.ca, s.va, s.ct⟩, 0)
  else if a = 833 then (⟨s.st, s.en, s.ve, s.sc, v &&& 4294967292, s.ca, s.va, s.ct⟩, 0)
  else if a = 834 then (⟨s.st, s.en, s.ve, s.sc, s.ep, v, s.va, s.ct⟩, 0)
  else if a = 835 then (⟨s.st, s.en, s.ve, s.sc, s.ep, s.ca, v, s.ct⟩, 0)
  else if a = 2816 ∨ a = 2818 then (⟨s.st, s.en, s.ve, s.sc, s.ep, s.ca, s.va, s.ct / 4294967296 * 4294967296 + v⟩, 0)
  else if a = 2944 ∨ a = 2946 then (⟨s.st, s.en, s.ve, s.sc, s.ep, s.ca, s.va, v * 4294967296 + s.ct % 4294967296⟩, 0)
  else if a = 3857 ∨ a = 3858 ∨ a = 3859 ∨ a = 3860 then (zeroS, 33)
  else (zeroS, 8)

def givenN (v b : Nat) (set : Bool) : Nat := if set then v ||| b else v &&& (4294967295 - b)
def trapSt (st : Nat) : Nat := givenN st 128 (st &&& 8 != 0) &&& 4294967287
def retSt (st : Nat) : Nat := givenN st 8 (st &&& 128 != 0) ||| 128
def trapTo (ve ca : Nat) : Nat := if (ve &&& 1 != 0) = true ∧ (ca &&& 2147483648 != 0) = true then ((ve &&& 4294967292) + 4 * ca) % 4294967296 else ve &&& 4294967292
def trapN (s : S8) (ca va pc : Nat) : S8 := ⟨trapSt s.st, s.en, s.ve, s.sc, pc &&& 4294967292, ca, va, s.ct⟩
def retN (s : S8) : S8 := ⟨retSt s.st, s.en, s.ve, s.sc, s.ep, s.ca, s.va, s.ct⟩
def asksN (st en lines : Nat) : Nat :=
  if (st &&& 8 == 0) = true then 0
  else if ((lines &&& en) &&& 2048 != 0) = true then 2147483659
  else if ((lines &&& en) &&& 8 != 0) = true then 2147483651
  else if ((lines &&& en) &&& 128 != 0) = true then 2147483655
  else 0

theorem and_lt {a b n : Nat} (h : a < n) : a &&& b < n := Nat.lt_of_le_of_lt Nat.and_le_left h
theorem or_lt32 {a b : Nat} (h : a < 4294967296) (h' : b < 4294967296) : a ||| b < 4294967296 := Nat.or_lt_two_pow (n := 32) h h'
theorem givenN_lt {v b : Nat} (h : v < 4294967296) (h' : b < 4294967296) (set : Bool) : givenN v b set < 4294967296 := by
  unfold givenN; split
  · exact or_lt32 h h'
  · exact and_lt h
theorem trapSt_lt {v : Nat} (h : v < 4294967296) : trapSt v < 4294967296 := and_lt (givenN_lt h (by decide) _)
theorem retSt_lt {v : Nat} (h : v < 4294967296) : retSt v < 4294967296 := or_lt32 (givenN_lt h (by decide) _) (by decide)
theorem trapTo_lt (ve ca : Nat) (h : ve < 4294967296) : trapTo ve ca < 4294967296 := by
  unfold trapTo; split
  · omega
  · exact and_lt h
theorem trapN_ok {s : S8} (h : s.Ok) {ca va pc : Nat} (h1 : ca < 4294967296) (h2 : va < 4294967296) (h3 : pc < 4294967296) : (trapN s ca va pc).Ok :=
  ⟨trapSt_lt h.st, h.en, h.ve, h.sc, and_lt h3, h1, h2, h.ct⟩
theorem retN_ok {s : S8} (h : s.Ok) : (retN s).Ok := ⟨retSt_lt h.st, h.en, h.ve, h.sc, h.ep, h.ca, h.va, h.ct⟩
theorem high_lt {c v : Nat} (h : c < 18446744073709551616) (hv : v < 4294967296) : c / 4294967296 * 4294967296 + v < 18446744073709551616 := by omega
theorem low_lt (c : Nat) {v : Nat} (hv : v < 4294967296) : v * 4294967296 + c % 4294967296 < 18446744073709551616 := by omega
theorem writeN_ok {s : S8} (h : s.Ok) (a : Int) {v : Nat} (hv : v < 4294967296) : (writeN s a v).1.Ok := by
  obtain ⟨h0, h1, h2, h3, h4, h5, h6, h7⟩ := h
  unfold writeN
  by_cases c : a = 768
  · rw [if_pos c]; exact ⟨and_lt hv, h1, h2, h3, h4, h5, h6, h7⟩
  rw [if_neg c]; clear c
  by_cases c : a = 769 ∨ a = 836
  · rw [if_pos c]; exact ⟨h0, h1, h2, h3, h4, h5, h6, h7⟩
  rw [if_neg c]; clear c
  by_cases c : a = 772
  · rw [if_pos c]; exact ⟨h0, and_lt hv, h2, h3, h4, h5, h6, h7⟩
  rw [if_neg c]; clear c
  by_cases c : a = 773
  · rw [if_pos c]; exact ⟨h0, h1, and_lt hv, h3, h4, h5, h6, h7⟩
  rw [if_neg c]; clear c
  by_cases c : a = 832
  · rw [if_pos c]; exact ⟨h0, h1, h2, hv, h4, h5, h6, h7⟩
  rw [if_neg c]; clear c
  by_cases c : a = 833
  · rw [if_pos c]; exact ⟨h0, h1, h2, h3, and_lt hv, h5, h6, h7⟩
  rw [if_neg c]; clear c
  by_cases c : a = 834
  · rw [if_pos c]; exact ⟨h0, h1, h2, h3, h4, hv, h6, h7⟩
  rw [if_neg c]; clear c
  by_cases c : a = 835
  · rw [if_pos c]; exact ⟨h0, h1, h2, h3, h4, h5, hv, h7⟩
  rw [if_neg c]; clear c
  by_cases c : a = 2816 ∨ a = 2818
  · rw [if_pos c]; exact ⟨h0, h1, h2, h3, h4, h5, h6, high_lt h7 hv⟩
  rw [if_neg c]; clear c
  by_cases c : a = 2944 ∨ a = 2946
  · rw [if_pos c]; exact ⟨h0, h1, h2, h3, h4, h5, h6, low_lt _ hv⟩
  rw [if_neg c]; clear c
  by_cases c : a = 3857 ∨ a = 3858 ∨ a = 3859 ∨ a = 3860
  · rw [if_pos c]; exact zeroS_ok
  rw [if_neg c]; clear c
  exact zeroS_ok
theorem readN_lt {s : S8} (h : s.Ok) (a : Int) {l x : Nat} (hl : l < 4294967296) (hx : readN s a l = some x) : x < 4294967296 := by
  obtain ⟨h0, h1, h2, h3, h4, h5, h6, h7⟩ := h
  unfold readN at hx
  by_cases c : a = 768
  · rw [if_pos c] at hx; injection hx with hx; subst hx; exact or_lt32 h0 (by decide)
  rw [if_neg c] at hx; clear c
  by_cases c : a = 769
  · rw [if_pos c] at hx; injection hx with hx; subst hx; exact (by decide)
  rw [if_neg c] at hx; clear c
  by_cases c : a = 772
  · rw [if_pos c] at hx; injection hx with hx; subst hx; exact h1
  rw [if_neg c] at hx; clear c
  by_cases c : a = 773
  · rw [if_pos c] at hx; injection hx with hx; subst hx; exact h2
  rw [if_neg c] at hx; clear c
  by_cases c : a = 832
  · rw [if_pos c] at hx; injection hx with hx; subst hx; exact h3
  rw [if_neg c] at hx; clear c
  by_cases c : a = 833
  · rw [if_pos c] at hx; injection hx with hx; subst hx; exact h4
  rw [if_neg c] at hx; clear c
  by_cases c : a = 834
  · rw [if_pos c] at hx; injection hx with hx; subst hx; exact h5
  rw [if_neg c] at hx; clear c
  by_cases c : a = 835
  · rw [if_pos c] at hx; injection hx with hx; subst hx; exact h6
  rw [if_neg c] at hx; clear c
  by_cases c : a = 836
  · rw [if_pos c] at hx; injection hx with hx; subst hx; exact and_lt hl
  rw [if_neg c] at hx; clear c
  by_cases c : a = 2816 ∨ a = 2818
  · rw [if_pos c] at hx; injection hx with hx; subst hx; exact Nat.mod_lt _ (by decide)
  rw [if_neg c] at hx; clear c
  by_cases c : a = 2944 ∨ a = 2946
  · rw [if_pos c] at hx; injection hx with hx; subst hx; exact Nat.div_lt_of_lt_mul (by omega)
  rw [if_neg c] at hx; clear c
  by_cases c : a = 3857 ∨ a = 3858 ∨ a = 3859 ∨ a = 3860
  · rw [if_pos c] at hx; injection hx with hx; subst hx; exact (by decide)
  rw [if_neg c] at hx; clear c
  cases hx

/-- Bit k, tested. -/
theorem and_pow_ne (v k : Nat) : (v &&& 2 ^ k != 0) = v.testBit k := by
  cases h : v.testBit k with
  | true =>
    have h1 : (v &&& 2 ^ k).testBit k = true := by rw [Nat.testBit_and, h]; simp
    have h2 : v &&& 2 ^ k ≠ 0 := by intro h0; rw [h0] at h1; simp at h1
    simpa using h2
  | false =>
    have h1 : v &&& 2 ^ k = 0 := by
      apply Nat.eq_of_testBit_eq
      intro i
      rw [Nat.testBit_and, Nat.testBit_two_pow]
      by_cases hk : k = i
      · subst hk; rw [h]; simp
      · simp [hk]
    simp [h1]
theorem and_pow_eq (v k : Nat) : (v &&& 2 ^ k == 0) = !v.testBit k := by
  have := and_pow_ne v k
  rw [← this]; simp [bne]

theorem m136 : ∀ i, i < 32 → Nat.testBit 136 i = (decide (i = 3) || decide (i = 7)) := by decide +kernel
theorem m2184 : ∀ i, i < 32 → Nat.testBit 2184 i = (decide (i = 3) || (decide (i = 7) || decide (i = 11))) := by decide +kernel
theorem mNot1 : ∀ i, i < 32 → Nat.testBit 4294967293 i = !decide (i = 1) := by decide +kernel
theorem mNot01 : ∀ i, i < 32 → Nat.testBit 4294967292 i = (!decide (i = 0) && !decide (i = 1)) := by decide +kernel
theorem mNot136 : ∀ i, i < 32 → Nat.testBit 4294967159 i = (!decide (i = 3) && !decide (i = 7)) := by decide +kernel
theorem mNot2184 : ∀ i, i < 32 → Nat.testBit 4294965111 i = (!decide (i = 3) && (!decide (i = 7) && !decide (i = 11))) := by decide +kernel
theorem mNot8 : ∀ i, i < 32 → Nat.testBit 4294967287 i = !decide (i = 3) := by decide +kernel
theorem mNot128 : ∀ i, i < 32 → Nat.testBit 4294967167 i = !decide (i = 7) := by decide +kernel
theorem m8 : ∀ i, i < 32 → Nat.testBit 8 i = decide (i = 3) := by decide +kernel
theorem m128 : ∀ i, i < 32 → Nat.testBit 128 i = decide (i = 7) := by decide +kernel
theorem m2 : ∀ i, i < 32 → Nat.testBit 2 i = decide (i = 1) := by decide +kernel
theorem m3 : ∀ i, i < 32 → Nat.testBit 3 i = (decide (i = 0) || decide (i = 1)) := by decide +kernel

/-- One bit of a word, set or not. -/
def setOne (v lo x : Nat) : Nat := num (setBit v lo 1 x) 32
theorem setOne_lt (v lo x : Nat) : setOne v lo x < 4294967296 := num_lt _ (setBit_le _ _ _ _) 32
theorem setOne_bit (v lo x i : Nat) (hi : i < 32) : (setOne v lo x).testBit i = if i = lo then x.testBit 0 else v.testBit i := by
  unfold setOne
  rw [num_bit _ (setBit_le _ _ _ _)]
  unfold setBit
  by_cases h : i = lo
  · subst h
    rw [if_neg (by omega), if_pos (by omega), if_pos rfl, bitN_one]
    simp [hi]
  · rw [if_neg (by omega), if_neg (by omega), if_neg h, bitN_one]
    have : (0 : Int) ≤ (i : Int) ∧ (i : Int) ≤ 31 := by omega
    simp [hi, this]

/-- One bit of a word, as a number. -/
def fldOne (v lo : Nat) : Nat := num (fun i => if (i : Int) < 1 ∧ -31 ≤ (lo : Int) ∧ (lo : Int) ≤ 31 then bitN v (lo + i) else 0) 32
theorem fldOne_le (v lo : Nat) (j : Nat) : (fun i : Nat => if (i : Int) < 1 ∧ -31 ≤ (lo : Int) ∧ (lo : Int) ≤ 31 then bitN v (lo + i) else 0) j ≤ 1 := by
  dsimp only; split
  · exact bitN_le _ _
  · omega
theorem fldOne_lt (v lo : Nat) : fldOne v lo < 4294967296 := num_lt _ (fldOne_le v lo) 32
theorem fldOne_bit (v lo : Nat) (h : lo < 32) : (fldOne v lo).testBit 0 = v.testBit lo := by
  unfold fldOne
  rw [num_bit _ (fldOne_le v lo)]
  rw [if_pos (by omega), bitN_one]
  have : (0 : Int) ≤ (lo : Int) + ((0 : Nat) : Int) ∧ (lo : Int) + ((0 : Nat) : Int) ≤ 31 := by omega
  rw [decide_eq_true this]
  simp

/-- A word's bits at some places alone, and without them. -/
def onlyL (v : Nat) (l : List Nat) : Nat := l.foldl (fun o j => setOne o j (fldOne v j)) 0
def butL (v : Nat) (l : List Nat) : Nat := l.foldl (fun o j => setOne o j 0) v

theorem only2 (v : Nat) (hv : v < 4294967296) : onlyL v [3, 7] = v &&& 136 := by
  unfold onlyL
  rw [List.foldl_cons, List.foldl_cons, List.foldl_nil]
  apply word_ext
  · exact setOne_lt _ _ _
  · exact (and_lt (n := 4294967296) hv)
  intro i hi
  rw [setOne_bit _ _ _ _ hi, setOne_bit _ _ _ _ hi, fldOne_bit _ _ (by decide), fldOne_bit _ _ (by decide), Nat.testBit_and, m136 i hi]
  by_cases h7 : i = 7
  · subst h7; simp
  · by_cases h3 : i = 3
    · subst h3; simp
    · simp [h7, h3]
theorem only3 (v : Nat) (hv : v < 4294967296) : onlyL v [3, 7, 11] = v &&& 2184 := by
  unfold onlyL
  rw [List.foldl_cons, List.foldl_cons, List.foldl_cons, List.foldl_nil]
  apply word_ext
  · exact setOne_lt _ _ _
  · exact (and_lt (n := 4294967296) hv)
  intro i hi
  rw [setOne_bit _ _ _ _ hi, setOne_bit _ _ _ _ hi, setOne_bit _ _ _ _ hi, fldOne_bit _ _ (by decide), fldOne_bit _ _ (by decide), fldOne_bit _ _ (by decide), Nat.testBit_and, m2184 i hi]
  by_cases h11 : i = 11
  · subst h11; simp
  · by_cases h7 : i = 7
    · subst h7; simp
    · by_cases h3 : i = 3
      · subst h3; simp
      · simp [h7, h3, h11]
theorem but1 (v : Nat) (hv : v < 4294967296) : butL v [1] = v &&& 4294967293 := by
  unfold butL
  rw [List.foldl_cons, List.foldl_nil]
  apply word_ext
  · exact setOne_lt _ _ _
  · exact (and_lt (n := 4294967296) hv)
  intro i hi
  rw [setOne_bit _ _ _ _ hi, Nat.testBit_and, mNot1 i hi]
  by_cases h : i = 1
  · subst h; simp
  · simp [h]
theorem but2 (v : Nat) (hv : v < 4294967296) : butL v [0, 1] = v &&& 4294967292 := by
  unfold butL
  rw [List.foldl_cons, List.foldl_cons, List.foldl_nil]
  apply word_ext
  · exact setOne_lt _ _ _
  · exact (and_lt (n := 4294967296) hv)
  intro i hi
  rw [setOne_bit _ _ _ _ hi, setOne_bit _ _ _ _ hi, Nat.testBit_and, mNot01 i hi]
  by_cases h : i = 1
  · subst h; simp
  · by_cases h0 : i = 0
    · subst h0; simp
    · simp [h, h0]

theorem trap_st (st : Nat) (h : st < 4294967296) : setOne (setOne st 7 (fldOne st 3)) 3 0 = trapSt st := by
  apply word_ext
  · exact setOne_lt _ _ _
  · exact trapSt_lt h
  intro i hi
  unfold trapSt givenN
  rw [show (8 : Nat) = 2 ^ 3 from rfl, and_pow_ne, setOne_bit _ _ _ _ hi, setOne_bit _ _ _ _ hi, fldOne_bit _ _ (by decide), Nat.testBit_and, mNot8 i hi]
  by_cases h3 : i = 3
  · subst h3; simp
  · by_cases h7 : i = 7
    · subst h7
      cases hb : st.testBit 3
      · simp
        intro _; decide
      · simp
        right; decide
    · cases hb : st.testBit 3
      · simp [h3, h7, Nat.testBit_and, mNot128 i hi]
      · simp [h3, h7, Nat.testBit_or, m128 i hi]
theorem ret_st (st : Nat) (h : st < 4294967296) : setOne (setOne st 3 (fldOne st 7)) 7 1 = retSt st := by
  apply word_ext
  · exact setOne_lt _ _ _
  · exact retSt_lt h
  intro i hi
  unfold retSt givenN
  rw [show (128 : Nat) = 2 ^ 7 from rfl, and_pow_ne, setOne_bit _ _ _ _ hi, setOne_bit _ _ _ _ hi, fldOne_bit _ _ (by decide), Nat.testBit_or, show (2 : Nat) ^ 7 = 128 from rfl, m128 i hi]
  by_cases h7 : i = 7
  · subst h7; simp
  · by_cases h3 : i = 3
    · subst h3
      cases hb : st.testBit 7
      · simp
        intro _; decide
      · simp
        right; decide
    · cases hb : st.testBit 7
      · simp [h3, h7, Nat.testBit_and, mNot8 i hi]
      · simp [h3, h7, Nat.testBit_or, m8 i hi]

theorem mod_two (v : Nat) : (v &&& 1 != 0) = decide (v % 2 = 1) := by
  rw [Nat.and_one_is_mod]
  have : v % 2 = 0 ∨ v % 2 = 1 := by omega
  rcases this with h | h <;> simp [h]
theorem top_bit (v : Nat) (h : v < 4294967296) : (v &&& 2147483648 != 0) = decide (2147483648 ≤ v) := by
  rw [show (2147483648 : Nat) = 2 ^ 31 from rfl, and_pow_ne, Nat.testBit_eq_decide_div_mod_eq]
  rw [decide_eq_decide]
  omega
theorem trap_to (ve ca : Nat) (hv : ve < 4294967296) (hc : ca < 4294967296) :
    trapTo ve ca = if ve % 2 = 1 ∧ 2147483648 ≤ ca then ((ve &&& 4294967292) + 4 * (ca - 2147483648)) % 4294967296 else ve &&& 4294967292 := by
  unfold trapTo
  rw [mod_two, top_bit ca hc]
  simp only [decide_eq_true_eq]
  split
  · omega
  · rfl

/-- The halves of a count. -/
theorem high_or (c v : Nat) (hv : v < 4294967296) : (c / 4294967296 * 4294967296) ||| v = c / 4294967296 * 4294967296 + v := by
  have := Nat.two_pow_add_eq_or_of_lt (i := 32) hv (c / 4294967296)
  rw [Nat.mul_comm (c / 4294967296) 4294967296]
  exact this.symm
theorem shl_or (c v : Nat) : (v * 4294967296) ||| (c % 4294967296) = v * 4294967296 + c % 4294967296 := by
  have := Nat.two_pow_add_eq_or_of_lt (i := 32) (show c % 4294967296 < 2 ^ 32 from Nat.mod_lt _ (by decide)) v
  rw [Nat.mul_comm v 4294967296]
  exact this.symm
theorem low_and (c : Nat) : c &&& 4294967295 = c % 4294967296 := Nat.and_two_pow_sub_one_eq_mod c 32
theorem high_and (c : Nat) (h : c < 18446744073709551616) : c &&& 18446744069414584320 = c / 4294967296 * 4294967296 := by
  have e1 : c &&& 18446744073709551615 = c := by
    rw [show (18446744073709551615 : Nat) = 2 ^ 64 - 1 from rfl, Nat.and_two_pow_sub_one_eq_mod]
    exact Nat.mod_eq_of_lt h
  have e2 : (18446744073709551615 : Nat) = 18446744069414584320 ||| 4294967295 := by decide +kernel
  have e3 : (c &&& 18446744069414584320) ||| (c % 4294967296) = c := by
    rw [← low_and, ← Nat.and_or_distrib_left, ← e2, e1]
  have e4 : (c &&& 18446744069414584320) % 4294967296 = 0 := by
    rw [← low_and, Nat.and_assoc, show (18446744069414584320 : Nat) &&& 4294967295 = 0 by decide +kernel]; simp
  have e5 : (c &&& 18446744069414584320) = 4294967296 * ((c &&& 18446744069414584320) / 4294967296) := by omega
  have e6 := Nat.two_pow_add_eq_or_of_lt (i := 32) (show c % 4294967296 < 2 ^ 32 from Nat.mod_lt _ (by decide)) ((c &&& 18446744069414584320) / 4294967296)
  have e7 : 4294967296 * ((c &&& 18446744069414584320) / 4294967296) + c % 4294967296 = c := by
    refine Eq.trans e6 ?_
    show 4294967296 * _ ||| _ = c
    rw [← e5, e3]
  omega

/-- What the document's Asks sees. -/
theorem asks_bits (st en lines : Nat) :
    asksN st en lines = if st.testBit 3 = false then 0 else if (lines.testBit 11 && en.testBit 11) = true then 2147483659 else if (lines.testBit 3 && en.testBit 3) = true then 2147483651 else if (lines.testBit 7 && en.testBit 7) = true then 2147483655 else 0 := by
  unfold asksN
  rw [show (2048 : Nat) = 2 ^ 11 from rfl, show (128 : Nat) = 2 ^ 7 from rfl, show (8 : Nat) = 2 ^ 3 from rfl]
  simp only [and_pow_ne, and_pow_eq, Nat.testBit_and]
  simp
end Go.Proofs.YtchjhpeogdkbmaaDoor
