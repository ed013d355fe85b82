/-
  Plain numbers: a timer, what it asks for, and what the registers make. No Go in sight.
-/
namespace Go.Proofs.Ytjibjginafjpcaa
set_option linter.unusedVariables false

/-- A timer. -/
structure S3 where
  so : Nat
  ti : Nat
  cm : Nat
/-- Its numbers are words. -/
structure S3.Ok (s : S3) : Prop where
  so : s.so < 4294967296
  ti : s.ti < 18446744073709551616
  cm : s.cm < 18446744073709551616
def softN (b : Bool) : Nat := if b = true then 8 else 0
def timeN (b : Bool) : Nat := if b = true then 128 else 0
/-- What is asked for. -/
def linesV (s : S3) : Nat := softN (s.so % 2 == 1) + timeN (decide (s.cm ≤ s.ti))
def nextV (s : S3) : Nat := s.cm - s.ti
def plus1 (n : Nat) : Nat := if n = 18446744073709551615 then 0 else n + 1
def tickV (s : S3) : S3 := ⟨s.so, plus1 s.ti, s.cm⟩
def zeroS : S3 := ⟨0, 0, 0⟩
def lowN (n : Nat) : Nat := n % 4294967296
def highN (n : Nat) : Nat := n / 4294967296
def joinN (h l : Nat) : Nat := h * 4294967296 + l
/-- Read: the word, the error's number. -/
def readV (s : S3) (a : Nat) : Nat × Nat :=
  if a = 0 then (s.so, 0) else if a = 16384 then (lowN s.cm, 0) else if a = 16388 then (highN s.cm, 0) else if a = 49144 then (lowN s.ti, 0) else if a = 49148 then (highN s.ti, 0) else (0, 20)
def writeV (s : S3) (a v : Nat) : S3 × Nat :=
  if a = 0 then (⟨v % 2, s.ti, s.cm⟩, 0) else if a = 16384 then (⟨s.so, s.ti, joinN (highN s.cm) v⟩, 0) else if a = 16388 then (⟨s.so, s.ti, joinN v (lowN s.cm)⟩, 0)
  else if a = 49144 then (⟨s.so, joinN (highN s.ti) v, s.cm⟩, 0) else if a = 49148 then (⟨s.so, joinN v (lowN s.ti), s.cm⟩, 0) else (zeroS, 20)
theorem plus1_ok {n : Nat} (h : n < 18446744073709551616) : plus1 n < 18446744073709551616 := by unfold plus1; split <;> omega
theorem tickV_ok {s : S3} (h : s.Ok) : (tickV s).Ok := ⟨h.so, plus1_ok h.ti, h.cm⟩
theorem lowN_lt (n : Nat) : lowN n < 4294967296 := Nat.mod_lt _ (by decide)
theorem highN_lt {n : Nat} (h : n < 18446744073709551616) : highN n < 4294967296 := by unfold highN; omega
theorem joinN_lt {h l : Nat} (hh : h < 4294967296) (hl : l < 4294967296) : joinN h l < 18446744073709551616 := by unfold joinN; omega
theorem writeV_ok {s : S3} (h : s.Ok) (a v : Nat) (hv : v < 4294967296) : (writeV s a v).1.Ok := by
  unfold writeV
  split
  · exact ⟨by show v % 2 < _; omega, h.ti, h.cm⟩
  split
  · exact ⟨h.so, h.ti, joinN_lt (highN_lt h.cm) hv⟩
  split
  · exact ⟨h.so, h.ti, joinN_lt hv (lowN_lt _)⟩
  split
  · exact ⟨h.so, joinN_lt (highN_lt h.ti) hv, h.cm⟩
  split
  · exact ⟨h.so, joinN_lt hv (lowN_lt _), h.cm⟩
  · exact ⟨by decide, by decide, by decide⟩
theorem linesV_lt (s : S3) : linesV s < 256 := by
  unfold linesV softN timeN
  split <;> split <;> decide
theorem readV_lt {s : S3} (h : s.Ok) (a : Nat) : (readV s a).1 < 4294967296 := by
  unfold readV
  split
  · exact h.so
  split
  · exact lowN_lt _
  split
  · exact highN_lt h.cm
  split
  · exact lowN_lt _
  split
  · exact highN_lt h.ti
  · decide
theorem low_join (h l : Nat) (hl : l < 4294967296) : lowN (joinN h l) = l := by unfold lowN joinN; omega
theorem high_join (h l : Nat) (hl : l < 4294967296) : highN (joinN h l) = h := by unfold highN joinN; omega
end Go.Proofs.Ytjibjginafjpcaa
