/-
  Plain numbers: what is written to a timer is read again, all else stays. No Go in sight.
-/
import Derived.Test.YtjibjginafjpcaaClMath
namespace Go.Proofs.Ytjibjginafjpcaa
set_option linter.unusedVariables false

/-- The registers' places, and what of a word each keeps. -/
def rgN (i : Nat) : Nat := if i = 0 then 16384 else if i = 1 then 16388 else if i = 2 then 49144 else if i = 3 then 49148 else 0
def mkN (i : Nat) : Nat := if i = 4 then 1 else 4294967295
theorem write_at (s : S3) (i v : Nat) (hi : i < 5) : (writeV s (rgN i) v).2 = 0 := by
  have : i = 0 ∨ i = 1 ∨ i = 2 ∨ i = 3 ∨ i = 4 := by omega
  rcases this with rfl | rfl | rfl | rfl | rfl <;> rfl
theorem read_at (s : S3) (i : Nat) (hi : i < 5) : (readV s (rgN i)).2 = 0 := by
  have : i = 0 ∨ i = 1 ∨ i = 2 ∨ i = 3 ∨ i = 4 := by omega
  rcases this with rfl | rfl | rfl | rfl | rfl <;> rfl
theorem keep_and (v : Nat) (hv : v < 4294967296) : v &&& 4294967295 = v := by
  have := Nat.and_two_pow_sub_one_eq_mod v 32
  simp at this
  rw [this]; omega
theorem wr0 (s : S3) (v : Nat) : (writeV s (rgN 0) v).1 = ⟨s.so, s.ti, joinN (highN s.cm) v⟩ := rfl
theorem rd0 (s : S3) : (readV s (rgN 0)).1 = lowN s.cm := rfl
theorem wr1 (s : S3) (v : Nat) : (writeV s (rgN 1) v).1 = ⟨s.so, s.ti, joinN v (lowN s.cm)⟩ := rfl
theorem rd1 (s : S3) : (readV s (rgN 1)).1 = highN s.cm := rfl
theorem wr2 (s : S3) (v : Nat) : (writeV s (rgN 2) v).1 = ⟨s.so, joinN (highN s.ti) v, s.cm⟩ := rfl
theorem rd2 (s : S3) : (readV s (rgN 2)).1 = lowN s.ti := rfl
theorem wr3 (s : S3) (v : Nat) : (writeV s (rgN 3) v).1 = ⟨s.so, joinN v (lowN s.ti), s.cm⟩ := rfl
theorem rd3 (s : S3) : (readV s (rgN 3)).1 = highN s.ti := rfl
theorem wr4 (s : S3) (v : Nat) : (writeV s (rgN 4) v).1 = ⟨v % 2, s.ti, s.cm⟩ := rfl
theorem rd4 (s : S3) : (readV s (rgN 4)).1 = s.so := rfl
theorem back_same (s : S3) (i v : Nat) (hi : i < 5) (hv : v < 4294967296) : (readV (writeV s (rgN i) v).1 (rgN i)).1 = v &&& mkN i := by
  have : i = 0 ∨ i = 1 ∨ i = 2 ∨ i = 3 ∨ i = 4 := by omega
  rcases this with rfl | rfl | rfl | rfl | rfl
  · rw [show mkN 0 = 4294967295 from rfl, keep_and v hv, wr0, rd0]; exact low_join _ _ hv
  · rw [show mkN 1 = 4294967295 from rfl, keep_and v hv, wr1, rd1]; exact high_join _ _ (lowN_lt _)
  · rw [show mkN 2 = 4294967295 from rfl, keep_and v hv, wr2, rd2]; exact low_join _ _ hv
  · rw [show mkN 3 = 4294967295 from rfl, keep_and v hv, wr3, rd3]; exact high_join _ _ (lowN_lt _)
  · rw [show mkN 4 = 1 from rfl, show v &&& 1 = v % 2 from Nat.and_one_is_mod v, wr4, rd4]
theorem back_other (s : S3) (i k v : Nat) (hi : i < 5) (hk : k < 5) (hv : v < 4294967296) (hne : i ≠ k) : (readV (writeV s (rgN i) v).1 (rgN k)).1 = (readV s (rgN k)).1 := by
  have hi2 : i = 0 ∨ i = 1 ∨ i = 2 ∨ i = 3 ∨ i = 4 := by omega
  have hk2 : k = 0 ∨ k = 1 ∨ k = 2 ∨ k = 3 ∨ k = 4 := by omega
  have h1 := high_join (highN s.cm) v hv
  have h2 := low_join v (lowN s.cm) (lowN_lt _)
  have h3 := high_join (highN s.ti) v hv
  have h4 := low_join v (lowN s.ti) (lowN_lt _)
  rcases hi2 with rfl | rfl | rfl | rfl | rfl <;> rcases hk2 with rfl | rfl | rfl | rfl | rfl <;> first | exact absurd rfl hne | (simp only [wr0, wr1, wr2, wr3, wr4, rd0, rd1, rd2, rd3, rd4, h1, h2, h3, h4])
end Go.Proofs.Ytjibjginafjpcaa
