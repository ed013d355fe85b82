/-
  Instructions and their words, for every operation: there and back, and each word is one operation's.
-/
import Derived.Test.YtoekcfbjdcibpaaGreatDoorInForm
import Derived.Test.YtoekcfbjdcibpaaGreatDoorInDec
namespace Go.Proofs.YtoekcfbjdcibpaaGreatDoor
set_option linter.unusedVariables false

theorem rest_lt {k W : Nat} (hk : k = 85 ∨ k = 74) (h : restK k W = W) : W < 128 := by
  rcases hk with rfl | rfl <;> (have : W % 128 = W := h; omega)

theorem fore_any (k : Nat) (hk : IsKind k) (W : Nat) (hW : restK k W = W) (hl : W < 4294967296) (op v : Nat) (hv : v < 4294967296) (hr : restK k v = W) : laidK k W (toldK k op v) = v := by
  rcases hk with rfl | rfl | rfl | rfl | rfl | rfl | rfl | rfl | rfl | rfl | rfl
  · exact fore_U W (rest_lt (by decide) hW) op v hv hr
  · exact fore_J W (rest_lt (by decide) hW) op v hv hr
  · exact fore_I 73 (by decide) W hW.symm op v hv hr
  · exact fore_I 76 (by decide) W hW.symm op v hv hr
  · exact fore_I 70 (by decide) W hW.symm op v hv hr
  · exact fore_C W hW.symm op v hv hr
  · exact fore_B W hW.symm op v hv hr
  · exact fore_S W hW.symm op v hv hr
  · exact fore_H W ⟨hW.symm, hl⟩ op v hv hr
  · exact fore_R W ⟨hW.symm, hl⟩ op v hv hr
  · exact fore_N W hl op v hv hr

theorem nat_of {c : Int} (h : 0 ≤ c ∧ c ≤ 31) : ∃ n : Nat, c = n ∧ n < 32 := ⟨c.toNat, by omega, by omega⟩
theorem nat_of12 {c : Int} (h : 0 ≤ c ∧ c ≤ 4095) : ∃ n : Nat, c = n ∧ n < 4096 := ⟨c.toNat, by omega, by omega⟩

theorem back_any (k : Nat) (hk : IsKind k) (W : Nat) (hW : restK k W = W) (hl : W < 4294967296) (op : Nat) (i : I6) (hi : i.op = op) (hv : ValidK k i) :
    laidK k W i < 4294967296 ∧ toldK k op (laidK k W i) = i ∧ restK k (laidK k W i) = W := by
  obtain ⟨o, rd, rs1, rs2, imm, csr⟩ := i
  simp only at hi
  subst hi
  rcases hk with rfl | rfl | rfl | rfl | rfl | rfl | rfl | rfl | rfl | rfl | rfl
  · obtain ⟨h1, h2, h3, h4, h5⟩ := hv
    replace h1 : 0 ≤ rd ∧ rd ≤ 31 := h1
    replace h2 : rs1 = 0 := h2
    replace h3 : rs2 = 0 := h3
    replace h4 : csr = 0 := h4
    obtain ⟨a, rfl, ha⟩ := nat_of h1
    subst h2 h3 h4
    exact back_U W (rest_lt (by decide) hW) op a imm h5 ha
  · obtain ⟨h1, h2, h3, h4, h5⟩ := hv
    replace h1 : 0 ≤ rd ∧ rd ≤ 31 := h1
    replace h2 : rs1 = 0 := h2
    replace h3 : rs2 = 0 := h3
    replace h4 : csr = 0 := h4
    obtain ⟨a, rfl, ha⟩ := nat_of h1
    subst h2 h3 h4
    exact back_J W (rest_lt (by decide) hW) op a imm h5 ha
  · obtain ⟨h1, h2, h3, h4, h5⟩ := hv
    replace h1 : 0 ≤ rd ∧ rd ≤ 31 := h1
    replace h2 : 0 ≤ rs1 ∧ rs1 ≤ 31 := h2
    replace h3 : rs2 = 0 := h3
    replace h4 : csr = 0 := h4
    obtain ⟨a, rfl, ha⟩ := nat_of h1
    obtain ⟨b, rfl, hb⟩ := nat_of h2
    subst h3 h4
    exact back_I 73 (by decide) W hW.symm op a b imm h5 ha hb
  · obtain ⟨h1, h2, h3, h4, h5⟩ := hv
    replace h1 : 0 ≤ rd ∧ rd ≤ 31 := h1
    replace h2 : 0 ≤ rs1 ∧ rs1 ≤ 31 := h2
    replace h3 : rs2 = 0 := h3
    replace h4 : csr = 0 := h4
    obtain ⟨a, rfl, ha⟩ := nat_of h1
    obtain ⟨b, rfl, hb⟩ := nat_of h2
    subst h3 h4
    exact back_I 76 (by decide) W hW.symm op a b imm h5 ha hb
  · obtain ⟨h1, h2, h3, h4, h5⟩ := hv
    replace h1 : 0 ≤ rd ∧ rd ≤ 31 := h1
    replace h2 : 0 ≤ rs1 ∧ rs1 ≤ 31 := h2
    replace h3 : rs2 = 0 := h3
    replace h4 : csr = 0 := h4
    obtain ⟨a, rfl, ha⟩ := nat_of h1
    obtain ⟨b, rfl, hb⟩ := nat_of h2
    subst h3 h4
    exact back_I 70 (by decide) W hW.symm op a b imm h5 ha hb
  · obtain ⟨h1, h2, h3, h4, h5⟩ := hv
    replace h1 : 0 ≤ rd ∧ rd ≤ 31 := h1
    replace h2 : 0 ≤ rs1 ∧ rs1 ≤ 31 := h2
    replace h3 : rs2 = 0 := h3
    replace h4 : 0 ≤ csr ∧ csr ≤ 4095 := h4
    replace h5 : imm = 0 := h5
    obtain ⟨a, rfl, ha⟩ := nat_of h1
    obtain ⟨b, rfl, hb⟩ := nat_of h2
    obtain ⟨c, rfl, hc⟩ := nat_of12 h4
    subst h3 h5
    exact back_C W hW.symm op a b c ha hb hc
  · obtain ⟨h1, h2, h3, h4, h5⟩ := hv
    replace h1 : rd = 0 := h1
    replace h2 : 0 ≤ rs1 ∧ rs1 ≤ 31 := h2
    replace h3 : 0 ≤ rs2 ∧ rs2 ≤ 31 := h3
    replace h4 : csr = 0 := h4
    obtain ⟨a, rfl, ha⟩ := nat_of h2
    obtain ⟨b, rfl, hb⟩ := nat_of h3
    subst h1 h4
    exact back_B W hW.symm op a b imm h5 ha hb
  · obtain ⟨h1, h2, h3, h4, h5⟩ := hv
    replace h1 : rd = 0 := h1
    replace h2 : 0 ≤ rs1 ∧ rs1 ≤ 31 := h2
    replace h3 : 0 ≤ rs2 ∧ rs2 ≤ 31 := h3
    replace h4 : csr = 0 := h4
    obtain ⟨a, rfl, ha⟩ := nat_of h2
    obtain ⟨b, rfl, hb⟩ := nat_of h3
    subst h1 h4
    exact back_S W hW.symm op a b imm h5 ha hb
  · obtain ⟨h1, h2, h3, h4, h5⟩ := hv
    replace h1 : 0 ≤ rd ∧ rd ≤ 31 := h1
    replace h2 : 0 ≤ rs1 ∧ rs1 ≤ 31 := h2
    replace h3 : rs2 = 0 := h3
    replace h4 : csr = 0 := h4
    obtain ⟨a, rfl, ha⟩ := nat_of h1
    obtain ⟨b, rfl, hb⟩ := nat_of h2
    subst h3 h4
    exact back_H W ⟨hW.symm, hl⟩ op a b imm h5 ha hb
  · obtain ⟨h1, h2, h3, h4, h5⟩ := hv
    replace h1 : 0 ≤ rd ∧ rd ≤ 31 := h1
    replace h2 : 0 ≤ rs1 ∧ rs1 ≤ 31 := h2
    replace h3 : 0 ≤ rs2 ∧ rs2 ≤ 31 := h3
    replace h4 : csr = 0 := h4
    replace h5 : imm = 0 := h5
    obtain ⟨a, rfl, ha⟩ := nat_of h1
    obtain ⟨b, rfl, hb⟩ := nat_of h2
    obtain ⟨c, rfl, hc⟩ := nat_of h3
    subst h4 h5
    exact back_R W ⟨hW.symm, hl⟩ op a b c ha hb hc
  · obtain ⟨h1, h2, h3, h4, h5⟩ := hv
    replace h1 : rd = 0 := h1
    replace h2 : rs1 = 0 := h2
    replace h3 : rs2 = 0 := h3
    replace h4 : csr = 0 := h4
    replace h5 : imm = 0 := h5
    subst h1 h2 h3 h4 h5
    exact back_N W hl op

theorem word_rest : ∀ op, op < 57 → restK (kindN op) (wordN op) = wordN op := by decide +kernel

theorem match_rest (op v : Nat) (hop : op < 57) (hv : v < 4294967296) : matchN op v = true ↔ restK (kindN op) v = wordN op := by
  unfold matchN
  rw [rest_and _ (kindN_is op hop) v hv]
  simp

theorem apart_tab : ∀ a, a < 57 → ∀ b, b < 57 → wordN a &&& (4294967295 - takenN (kindN b)) = wordN b &&& (4294967295 - takenN (kindN a)) → a = b := by decide +kernel

theorem match_one (a b v : Nat) (ha : a < 57) (hb : b < 57) (h1 : matchN a v = true) (h2 : matchN b v = true) : a = b := by
  unfold matchN at h1 h2
  simp only [beq_iff_eq] at h1 h2
  apply apart_tab a ha b hb
  rw [← h1, ← h2, Nat.and_assoc, Nat.and_assoc, Nat.and_comm (4294967295 - takenN (kindN b))]

theorem laid_told (op v : Nat) (hop : op < 57) (hv : v < 4294967296) (h : matchN op v = true) : laidN op (toldN op v) = v := by
  rw [laidN_K]
  exact fore_any _ (kindN_is op hop) _ (word_rest op hop) (wordN_lt op) op v hv ((match_rest op v hop hv).1 h)

theorem told_op (op v : Nat) : (toldN op v).op = op := by
  unfold toldN toldK
  split
  · rfl
  · split
    · rfl
    · split
      · rfl
      · split
        · rfl
        · split <;> rfl

theorem told_ok (op : Nat) (hop : op < 57) (i : I6) (h : toldN op (laidN op i) = i) : ValidK (kindN op) i := by
  have hl : laidN op i < 4294967296 := spread_lt _ _ _ (startN_lt op i)
  have := told_valid (kindN op) (kindN_is op hop) op (laidN op i) hl
  rw [show toldK (kindN op) op (laidN op i) = toldN op (laidN op i) from rfl, h] at this
  exact this

theorem valid_ok (op : Nat) (hop : op < 57) (i : I6) (hi : i.op = op) (h : ValidK (kindN op) i) : toldN op (laidN op i) = i ∧ matchN op (laidN op i) = true := by
  have hb := back_any (kindN op) (kindN_is op hop) (wordN op) (word_rest op hop) (wordN_lt op) op i hi h
  rw [← laidN_K] at hb
  exact ⟨hb.2.1, (match_rest op _ hop hb.1).2 hb.2.2⟩
end Go.Proofs.YtoekcfbjdcibpaaGreatDoor
