/-
  Instructions and their words, form by form: there and back, as plain numbers.
-/
import Derived.Test.YtoekcfbjdcibpaaGreatDoorInMath
namespace Go.Proofs.YtoekcfbjdcibpaaGreatDoor
set_option linter.unusedVariables false

def startK (W : Nat) (i : I6) : Nat := (((W ||| setW 0 7 5 (u32N i.rd)) ||| setW 0 15 5 (u32N i.rs1)) ||| setW 0 20 5 (u32N i.rs2)) ||| setW 0 20 12 (u32N i.csr)
def laidK (k W : Nat) (i : I6) : Nat := spread (u32N i.imm) (piecesN k) (startK W i)
theorem laidN_K (op : Nat) (i : I6) : laidN op i = laidK (kindN op) (wordN op) i := rfl

theorem u32N_nat (n : Nat) (h : n < 4294967296) : u32N (n : Int) = n := by unfold u32N; omega
theorem u32N_zero : u32N 0 = 0 := rfl
theorem set0 (lo n x : Nat) (h : lo + n ≤ 32) (hx : x < 2 ^ n) : setW 0 lo n x = x * 2 ^ lo := by
  rw [setW_top 0 lo n x h (Nat.pow_pos (by decide)) hx, Nat.zero_add]
theorem piece0 (u p q n : Nat) (hu : u < 4294967296) (h1 : p + n ≤ 32) (h2 : q + n ≤ 32) : setW 0 p n (fieldW u q n) = u / 2 ^ q % 2 ^ n * 2 ^ p := by
  rw [fieldW_arith u hu q n h2, set0 p n _ h1 (Nat.mod_lt _ (Nat.pow_pos (by decide)))]
theorem none0 (u : Nat) (hu : u < 4294967296) : setW 0 (0 : Nat) (0 : Nat) (fieldW u (0 : Nat) (0 : Nat)) = 0 := setW_none 0 (by decide) u hu

theorem startK_arith (W : Nat) (rd rs1 rs2 csr : Nat) (op imm : Int) (h1 : rd < 32) (h2 : rs1 < 32) (h3 : rs2 < 32) (h4 : csr < 4096) :
    startK W ⟨op, rd, rs1, rs2, imm, csr⟩ = (((W ||| rd * 2 ^ 7) ||| rs1 * 2 ^ 15) ||| rs2 * 2 ^ 20) ||| csr * 2 ^ 20 := by
  unfold startK
  simp only
  rw [u32N_nat rd (by omega), u32N_nat rs1 (by omega), u32N_nat rs2 (by omega), u32N_nat csr (by omega)]
  rw [show setW 0 7 5 rd = rd * 2 ^ 7 from set0 7 5 rd (by decide) h1, show setW 0 15 5 rs1 = rs1 * 2 ^ 15 from set0 15 5 rs1 (by decide) h2, show setW 0 20 5 rs2 = rs2 * 2 ^ 20 from set0 20 5 rs2 (by decide) h3, show setW 0 20 12 csr = csr * 2 ^ 20 from set0 20 12 csr (by decide) h4]

theorem laid_U (W : Nat) (hW : W < 128) (op : Int) (rd : Nat) (imm : Int) (hrd : rd < 32) : laidK 85 W ⟨op, rd, 0, 0, imm, 0⟩ = W + rd * 2 ^ 7 + u32N imm / 2 ^ 12 % 2 ^ 20 * 2 ^ 12 := by
  unfold laidK
  have e1 : piecesN 85 = [(12, 12, 20), (0, 0, 0), (0, 0, 0), (0, 0, 0)] := rfl
  have e2 : startK W ⟨op, rd, 0, 0, imm, 0⟩ = (((W ||| rd * 2 ^ 7) ||| 0 * 2 ^ 15) ||| 0 * 2 ^ 20) ||| 0 * 2 ^ 20 := startK_arith W rd 0 0 0 op imm hrd (by decide) (by decide) (by decide)
  rw [e1, e2]
  simp only [spread]
  have hu := u32N_lt imm
  generalize u32N imm = u at *
  rw [piece0 u 12 12 20 hu (by decide) (by decide)]
  rw [none0 u hu]
  simp only [Nat.zero_mul, Nat.or_zero]
  have hu0 : u / 2 ^ 12 % 2 ^ 20 < 2 ^ 20 := Nat.mod_lt _ (by decide)
  generalize hg0 : u / 2 ^ 12 % 2 ^ 20 = u0 at *
  clear hg0
  rw [or_field (W) rd 7 5 hrd (by omega)]
  rw [or_field (W + rd * 2 ^ 7) u0 12 20 hu0 (by omega)]

theorem inv_U (imm : Int) (himm : -2147483648 ≤ imm ∧ imm ≤ 2147483647 ∧ imm % 4096 = 0) (u : Nat) (hu : u = u32N imm) : imm = (u / 2 ^ 12 % 2 ^ 20 % 524288 * 4096 : Nat) - (u / 2 ^ 12 % 2 ^ 20 / 524288 * 2147483648 : Nat) := by
  rw [show u32N imm = (imm % 4294967296).toNat from rfl] at hu
  rcases Int.lt_or_le imm 0 with h | h
  · have hu' : (u : Int) = imm + 4294967296 := by omega
    clear hu
    omega
  · have hu' : (u : Int) = imm := by omega
    clear hu
    omega
theorem bits_U (p0 p1 : Nat) (hp0 : p0 < 524288) (hp1 : p1 < 2) (u : Nat) (hu : u = u32N ((p0 * 4096 : Nat) - (p1 * 2147483648 : Nat) : Int)) : u / 2 ^ 12 % 2 ^ 20 = p0 + p1 * 524288 := by
  rw [show u32N ((p0 * 4096 : Nat) - (p1 * 2147483648 : Nat) : Int) = (((p0 * 4096 : Nat) - (p1 * 2147483648 : Nat) : Int) % 4294967296).toNat from rfl] at hu
  obtain rfl | rfl : p1 = 0 ∨ p1 = 1 := by omega
  all_goals omega

theorem back_U (W : Nat) (hW : W < 128) (op : Nat) (rd : Nat) (imm : Int) (himm : -2147483648 ≤ imm ∧ imm ≤ 2147483647 ∧ imm % 4096 = 0) (hrd : rd < 32) : laidK 85 W ⟨op, rd, 0, 0, imm, 0⟩ < 4294967296 ∧ toldK 85 op (laidK 85 W ⟨op, rd, 0, 0, imm, 0⟩) = ⟨op, rd, 0, 0, imm, 0⟩ ∧ restK 85 (laidK 85 W ⟨op, rd, 0, 0, imm, 0⟩) = W := by
  rw [laid_U W hW op rd imm hrd]
  have hi := inv_U imm himm (u32N imm) rfl
  have hul := u32N_lt imm
  generalize u32N imm = u at *
  clear himm
  have hu0 : u / 2 ^ 12 % 2 ^ 20 < 2 ^ 20 := Nat.mod_lt _ (by decide)
  generalize hg0 : u / 2 ^ 12 % 2 ^ 20 = u0 at *
  clear hg0  hul
  have hlt : W + rd * 2 ^ 7 + u0 * 2 ^ 12 < 4294967296 := by omega
  have a0 : (W + rd * 2 ^ 7 + u0 * 2 ^ 12) / 128 % 32 = rd := by omega
  have a1 : (W + rd * 2 ^ 7 + u0 * 2 ^ 12) / 4096 % 524288 = u0 % 524288 := by omega
  have a2 : (W + rd * 2 ^ 7 + u0 * 2 ^ 12) / 2147483648 = u0 / 524288 := by omega
  have ar : (W + rd * 2 ^ 7 + u0 * 2 ^ 12) % 128 = W := by omega
  generalize W + rd * 2 ^ 7 + u0 * 2 ^ 12 = A at *
  refine ⟨hlt, ?_, ?_⟩
  · rw [told_U op _ hlt]
    simp only [I6.mk.injEq, true_and, and_true]
    omega
  · rw [show restK 85 A = (A) % 128 from rfl]
    exact ar

theorem fore_U (W : Nat) (hW : W < 128) (op v : Nat) (hv : v < 4294967296) (hr : restK 85 v = W) : laidK 85 W (toldK 85 op v) = v := by
  rw [show restK 85 v = (v) % 128 from rfl] at hr
  rw [told_U op v hv]
  rw [laid_U W hW op (v / 128 % 32) ((v / 4096 % 524288 * 4096 : Nat) - (v / 2147483648 * 2147483648 : Nat)) (by omega)]
  have hb := bits_U (v / 4096 % 524288) (v / 2147483648) (by omega) (by omega) _ rfl
  generalize u32N ((v / 4096 % 524288 * 4096 : Nat) - (v / 2147483648 * 2147483648 : Nat)) = u at *
  have b0 := hb
  rw [b0]
  clear b0 hb
  have c0 : v = v / 128 * 128 + v % 128 := by omega
  have c7 : v / 128 = v / 4096 * 32 + v / 128 % 32 := by omega
  have c12 : v / 4096 = v / 2147483648 * 524288 + v / 4096 % 524288 := by omega
  omega

theorem laid_J (W : Nat) (hW : W < 128) (op : Int) (rd : Nat) (imm : Int) (hrd : rd < 32) : laidK 74 W ⟨op, rd, 0, 0, imm, 0⟩ = W + rd * 2 ^ 7 + u32N imm / 2 ^ 1 % 2 ^ 10 * 2 ^ 21 + u32N imm / 2 ^ 11 % 2 ^ 1 * 2 ^ 20 + u32N imm / 2 ^ 12 % 2 ^ 8 * 2 ^ 12 + u32N imm / 2 ^ 20 % 2 ^ 1 * 2 ^ 31 := by
  unfold laidK
  have e1 : piecesN 74 = [(21, 1, 10), (20, 11, 1), (12, 12, 8), (31, 20, 1)] := rfl
  have e2 : startK W ⟨op, rd, 0, 0, imm, 0⟩ = (((W ||| rd * 2 ^ 7) ||| 0 * 2 ^ 15) ||| 0 * 2 ^ 20) ||| 0 * 2 ^ 20 := startK_arith W rd 0 0 0 op imm hrd (by decide) (by decide) (by decide)
  rw [e1, e2]
  simp only [spread]
  have hu := u32N_lt imm
  generalize u32N imm = u at *
  rw [piece0 u 21 1 10 hu (by decide) (by decide)]
  rw [piece0 u 20 11 1 hu (by decide) (by decide)]
  rw [piece0 u 12 12 8 hu (by decide) (by decide)]
  rw [piece0 u 31 20 1 hu (by decide) (by decide)]
  simp only [Nat.zero_mul, Nat.or_zero]
  have hu0 : u / 2 ^ 1 % 2 ^ 10 < 2 ^ 10 := Nat.mod_lt _ (by decide)
  generalize hg0 : u / 2 ^ 1 % 2 ^ 10 = u0 at *
  have hu1 : u / 2 ^ 11 % 2 ^ 1 < 2 ^ 1 := Nat.mod_lt _ (by decide)
  generalize hg1 : u / 2 ^ 11 % 2 ^ 1 = u1 at *
  have hu2 : u / 2 ^ 12 % 2 ^ 8 < 2 ^ 8 := Nat.mod_lt _ (by decide)
  generalize hg2 : u / 2 ^ 12 % 2 ^ 8 = u2 at *
  have hu3 : u / 2 ^ 20 % 2 ^ 1 < 2 ^ 1 := Nat.mod_lt _ (by decide)
  generalize hg3 : u / 2 ^ 20 % 2 ^ 1 = u3 at *
  clear hg0 hg1 hg2 hg3
  rw [or_field (W) rd 7 5 hrd (by omega)]
  rw [or_field (W + rd * 2 ^ 7) u0 21 10 hu0 (by omega)]
  rw [or_field (W + rd * 2 ^ 7 + u0 * 2 ^ 21) u1 20 1 hu1 (by omega)]
  rw [or_field (W + rd * 2 ^ 7 + u0 * 2 ^ 21 + u1 * 2 ^ 20) u2 12 8 hu2 (by omega)]
  rw [or_field (W + rd * 2 ^ 7 + u0 * 2 ^ 21 + u1 * 2 ^ 20 + u2 * 2 ^ 12) u3 31 1 hu3 (by omega)]

theorem inv_J (imm : Int) (himm : -1048576 ≤ imm ∧ imm ≤ 1048575 ∧ imm % 2 = 0) (u : Nat) (hu : u = u32N imm) : imm = (u / 2 ^ 1 % 2 ^ 10 * 2 + u / 2 ^ 11 % 2 ^ 1 * 2048 + u / 2 ^ 12 % 2 ^ 8 * 4096 : Nat) - (u / 2 ^ 20 % 2 ^ 1 * 1048576 : Nat) := by
  rw [show u32N imm = (imm % 4294967296).toNat from rfl] at hu
  rcases Int.lt_or_le imm 0 with h | h
  · have hu' : (u : Int) = imm + 4294967296 := by omega
    clear hu
    omega
  · have hu' : (u : Int) = imm := by omega
    clear hu
    omega
theorem bits_J (p0 p1 p2 p3 : Nat) (hp0 : p0 < 1024) (hp1 : p1 < 2) (hp2 : p2 < 256) (hp3 : p3 < 2) (u : Nat) (hu : u = u32N ((p0 * 2 + p1 * 2048 + p2 * 4096 : Nat) - (p3 * 1048576 : Nat) : Int)) : u / 2 ^ 1 % 2 ^ 10 = p0 ∧ u / 2 ^ 11 % 2 ^ 1 = p1 ∧ u / 2 ^ 12 % 2 ^ 8 = p2 ∧ u / 2 ^ 20 % 2 ^ 1 = p3 := by
  rw [show u32N ((p0 * 2 + p1 * 2048 + p2 * 4096 : Nat) - (p3 * 1048576 : Nat) : Int) = (((p0 * 2 + p1 * 2048 + p2 * 4096 : Nat) - (p3 * 1048576 : Nat) : Int) % 4294967296).toNat from rfl] at hu
  obtain rfl | rfl : p3 = 0 ∨ p3 = 1 := by omega
  all_goals omega

theorem back_J (W : Nat) (hW : W < 128) (op : Nat) (rd : Nat) (imm : Int) (himm : -1048576 ≤ imm ∧ imm ≤ 1048575 ∧ imm % 2 = 0) (hrd : rd < 32) : laidK 74 W ⟨op, rd, 0, 0, imm, 0⟩ < 4294967296 ∧ toldK 74 op (laidK 74 W ⟨op, rd, 0, 0, imm, 0⟩) = ⟨op, rd, 0, 0, imm, 0⟩ ∧ restK 74 (laidK 74 W ⟨op, rd, 0, 0, imm, 0⟩) = W := by
  rw [laid_J W hW op rd imm hrd]
  have hi := inv_J imm himm (u32N imm) rfl
  have hul := u32N_lt imm
  generalize u32N imm = u at *
  clear himm
  have hu0 : u / 2 ^ 1 % 2 ^ 10 < 2 ^ 10 := Nat.mod_lt _ (by decide)
  have hu1 : u / 2 ^ 11 % 2 ^ 1 < 2 ^ 1 := Nat.mod_lt _ (by decide)
  have hu2 : u / 2 ^ 12 % 2 ^ 8 < 2 ^ 8 := Nat.mod_lt _ (by decide)
  have hu3 : u / 2 ^ 20 % 2 ^ 1 < 2 ^ 1 := Nat.mod_lt _ (by decide)
  generalize hg0 : u / 2 ^ 1 % 2 ^ 10 = u0 at *
  generalize hg1 : u / 2 ^ 11 % 2 ^ 1 = u1 at *
  generalize hg2 : u / 2 ^ 12 % 2 ^ 8 = u2 at *
  generalize hg3 : u / 2 ^ 20 % 2 ^ 1 = u3 at *
  clear hg0 hg1 hg2 hg3  hul
  have hlt : W + rd * 2 ^ 7 + u0 * 2 ^ 21 + u1 * 2 ^ 20 + u2 * 2 ^ 12 + u3 * 2 ^ 31 < 4294967296 := by omega
  obtain ⟨n1, hn1⟩ : ∃ n, n = u0 + 1024 * u3 := ⟨_, rfl⟩
  obtain ⟨n2, hn2⟩ : ∃ n, n = u1 + 2 * n1 := ⟨_, rfl⟩
  obtain ⟨n3, hn3⟩ : ∃ n, n = u2 + 256 * n2 := ⟨_, rfl⟩
  obtain ⟨n4, hn4⟩ : ∃ n, n = rd + 32 * n3 := ⟨_, rfl⟩
  have eA : W + rd * 2 ^ 7 + u0 * 2 ^ 21 + u1 * 2 ^ 20 + u2 * 2 ^ 12 + u3 * 2 ^ 31 = W + 128 * n4 := by omega
  rw [eA] at hlt ⊢
  clear eA
  generalize hA : W + 128 * n4 = A at *
  have d1 : A / 128 = n4 := by omega
  have ar : A % 128 = W := by omega
  have d2 : A / 4096 = n3 := by omega
  have d3 : A / 1048576 = n2 := by omega
  have d4 : A / 2097152 = n1 := by omega
  have d5 : A / 2147483648 = u3 := by omega
  have a0 : A / 128 % 32 = rd := by rw [d1]; omega
  have a1 : A / 2097152 % 1024 = u0 := by rw [d4]; omega
  have a2 : A / 1048576 % 2 = u1 := by rw [d3]; omega
  have a3 : A / 4096 % 256 = u2 := by rw [d2]; omega
  clear hA d1 d2 d3 d4 hn1 hn2 hn3 hn4
  refine ⟨hlt, ?_, ?_⟩
  · rw [told_J op _ hlt]
    simp only [I6.mk.injEq, true_and, and_true]
    omega
  · rw [show restK 74 A = (A) % 128 from rfl]
    exact ar

theorem fore_J (W : Nat) (hW : W < 128) (op v : Nat) (hv : v < 4294967296) (hr : restK 74 v = W) : laidK 74 W (toldK 74 op v) = v := by
  rw [show restK 74 v = (v) % 128 from rfl] at hr
  rw [told_J op v hv]
  rw [laid_J W hW op (v / 128 % 32) ((v / 2097152 % 1024 * 2 + v / 1048576 % 2 * 2048 + v / 4096 % 256 * 4096 : Nat) - (v / 2147483648 * 1048576 : Nat)) (by omega)]
  have hb := bits_J (v / 2097152 % 1024) (v / 1048576 % 2) (v / 4096 % 256) (v / 2147483648) (by omega) (by omega) (by omega) (by omega) _ rfl
  generalize u32N ((v / 2097152 % 1024 * 2 + v / 1048576 % 2 * 2048 + v / 4096 % 256 * 4096 : Nat) - (v / 2147483648 * 1048576 : Nat)) = u at *
  obtain ⟨b0, b1, b2, b3⟩ := hb
  rw [b0, b1, b2, b3]
  clear b0 b1 b2 b3
  have c0 : v = v / 128 * 128 + v % 128 := by omega
  have c7 : v / 128 = v / 4096 * 32 + v / 128 % 32 := by omega
  have c12 : v / 4096 = v / 1048576 * 256 + v / 4096 % 256 := by omega
  have c20 : v / 1048576 = v / 2097152 * 2 + v / 1048576 % 2 := by omega
  have c21 : v / 2097152 = v / 2147483648 * 1024 + v / 2097152 % 1024 := by omega
  omega

theorem laid_I (k : Nat) (hk : k = 73 ∨ k = 76 ∨ k = 70) (W : Nat) (hW : W = W % 128 + W / 4096 % 8 * 4096) (op : Int) (rd rs1 : Nat) (imm : Int) (hrd : rd < 32) (hrs1 : rs1 < 32) : laidK k W ⟨op, rd, rs1, 0, imm, 0⟩ = W + rd * 2 ^ 7 + rs1 * 2 ^ 15 + u32N imm / 2 ^ 0 % 2 ^ 12 * 2 ^ 20 := by
  unfold laidK
  have e1 : piecesN k = [(20, 0, 12), (0, 0, 0), (0, 0, 0), (0, 0, 0)] := by rcases hk with rfl | rfl | rfl <;> rfl
  have e2 : startK W ⟨op, rd, rs1, 0, imm, 0⟩ = (((W ||| rd * 2 ^ 7) ||| rs1 * 2 ^ 15) ||| 0 * 2 ^ 20) ||| 0 * 2 ^ 20 := startK_arith W rd rs1 0 0 op imm hrd hrs1 (by decide) (by decide)
  rw [e1, e2]
  simp only [spread]
  have hu := u32N_lt imm
  generalize u32N imm = u at *
  rw [piece0 u 20 0 12 hu (by decide) (by decide)]
  rw [none0 u hu]
  simp only [Nat.zero_mul, Nat.or_zero]
  have hu0 : u / 2 ^ 0 % 2 ^ 12 < 2 ^ 12 := Nat.mod_lt _ (by decide)
  generalize hg0 : u / 2 ^ 0 % 2 ^ 12 = u0 at *
  clear hg0
  rw [or_field (W) rd 7 5 hrd (by omega)]
  rw [or_field (W + rd * 2 ^ 7) rs1 15 5 hrs1 (by omega)]
  rw [or_field (W + rd * 2 ^ 7 + rs1 * 2 ^ 15) u0 20 12 hu0 (by omega)]

theorem inv_I (imm : Int) (himm : -2048 ≤ imm ∧ imm ≤ 2047) (u : Nat) (hu : u = u32N imm) : imm = (u / 2 ^ 0 % 2 ^ 12 % 2048 : Nat) - (u / 2 ^ 0 % 2 ^ 12 / 2048 * 2048 : Nat) := by
  rw [show u32N imm = (imm % 4294967296).toNat from rfl] at hu
  rcases Int.lt_or_le imm 0 with h | h
  · have hu' : (u : Int) = imm + 4294967296 := by omega
    clear hu
    omega
  · have hu' : (u : Int) = imm := by omega
    clear hu
    omega
theorem bits_I (p0 p1 : Nat) (hp0 : p0 < 2048) (hp1 : p1 < 2) (u : Nat) (hu : u = u32N ((p0 : Nat) - (p1 * 2048 : Nat) : Int)) : u / 2 ^ 0 % 2 ^ 12 = p0 + p1 * 2048 := by
  rw [show u32N ((p0 : Nat) - (p1 * 2048 : Nat) : Int) = (((p0 : Nat) - (p1 * 2048 : Nat) : Int) % 4294967296).toNat from rfl] at hu
  obtain rfl | rfl : p1 = 0 ∨ p1 = 1 := by omega
  all_goals omega

theorem back_I (k : Nat) (hk : k = 73 ∨ k = 76 ∨ k = 70) (W : Nat) (hW : W = W % 128 + W / 4096 % 8 * 4096) (op : Nat) (rd rs1 : Nat) (imm : Int) (himm : -2048 ≤ imm ∧ imm ≤ 2047) (hrd : rd < 32) (hrs1 : rs1 < 32) : laidK k W ⟨op, rd, rs1, 0, imm, 0⟩ < 4294967296 ∧ toldK k op (laidK k W ⟨op, rd, rs1, 0, imm, 0⟩) = ⟨op, rd, rs1, 0, imm, 0⟩ ∧ restK k (laidK k W ⟨op, rd, rs1, 0, imm, 0⟩) = W := by
  rw [laid_I k hk W hW op rd rs1 imm hrd hrs1]
  have hi := inv_I imm himm (u32N imm) rfl
  have hul := u32N_lt imm
  generalize u32N imm = u at *
  clear himm
  have hu0 : u / 2 ^ 0 % 2 ^ 12 < 2 ^ 12 := Nat.mod_lt _ (by decide)
  generalize hg0 : u / 2 ^ 0 % 2 ^ 12 = u0 at *
  clear hg0  hul
  have hlt : W + rd * 2 ^ 7 + rs1 * 2 ^ 15 + u0 * 2 ^ 20 < 4294967296 := by omega
  have a0 : (W + rd * 2 ^ 7 + rs1 * 2 ^ 15 + u0 * 2 ^ 20) / 128 % 32 = rd := by omega
  have a1 : (W + rd * 2 ^ 7 + rs1 * 2 ^ 15 + u0 * 2 ^ 20) / 32768 % 32 = rs1 := by omega
  have a2 : (W + rd * 2 ^ 7 + rs1 * 2 ^ 15 + u0 * 2 ^ 20) / 1048576 % 2048 = u0 % 2048 := by omega
  have a3 : (W + rd * 2 ^ 7 + rs1 * 2 ^ 15 + u0 * 2 ^ 20) / 2147483648 = u0 / 2048 := by omega
  have ar : (W + rd * 2 ^ 7 + rs1 * 2 ^ 15 + u0 * 2 ^ 20) % 128 + (W + rd * 2 ^ 7 + rs1 * 2 ^ 15 + u0 * 2 ^ 20) / 4096 % 8 * 4096 = W := by omega
  generalize W + rd * 2 ^ 7 + rs1 * 2 ^ 15 + u0 * 2 ^ 20 = A at *
  refine ⟨hlt, ?_, ?_⟩
  · rw [told_I k hk op _ hlt]
    simp only [I6.mk.injEq, true_and, and_true]
    omega
  · rw [show restK k A = (A) % 128 + (A) / 4096 % 8 * 4096 by rcases hk with rfl | rfl | rfl <;> rfl]
    exact ar

theorem fore_I (k : Nat) (hk : k = 73 ∨ k = 76 ∨ k = 70) (W : Nat) (hW : W = W % 128 + W / 4096 % 8 * 4096) (op v : Nat) (hv : v < 4294967296) (hr : restK k v = W) : laidK k W (toldK k op v) = v := by
  rw [show restK k v = (v) % 128 + (v) / 4096 % 8 * 4096 by rcases hk with rfl | rfl | rfl <;> rfl] at hr
  rw [told_I k hk op v hv]
  rw [laid_I k hk W hW op (v / 128 % 32) (v / 32768 % 32) ((v / 1048576 % 2048 : Nat) - (v / 2147483648 * 2048 : Nat)) (by omega) (by omega)]
  have hb := bits_I (v / 1048576 % 2048) (v / 2147483648) (by omega) (by omega) _ rfl
  generalize u32N ((v / 1048576 % 2048 : Nat) - (v / 2147483648 * 2048 : Nat)) = u at *
  have b0 := hb
  rw [b0]
  clear b0 hb
  have c0 : v = v / 128 * 128 + v % 128 := by omega
  have c7 : v / 128 = v / 4096 * 32 + v / 128 % 32 := by omega
  have c12 : v / 4096 = v / 32768 * 8 + v / 4096 % 8 := by omega
  have c15 : v / 32768 = v / 1048576 * 32 + v / 32768 % 32 := by omega
  have c20 : v / 1048576 = v / 2147483648 * 2048 + v / 1048576 % 2048 := by omega
  omega

theorem laid_C (W : Nat) (hW : W = W % 128 + W / 4096 % 8 * 4096) (op : Int) (rd rs1 csr : Nat) (hrd : rd < 32) (hrs1 : rs1 < 32) (hcsr : csr < 4096) : laidK 67 W ⟨op, rd, rs1, 0, 0, csr⟩ = W + rd * 2 ^ 7 + rs1 * 2 ^ 15 + csr * 2 ^ 20 := by
  unfold laidK
  have e1 : piecesN 67 = [(0, 0, 0), (0, 0, 0), (0, 0, 0), (0, 0, 0)] := rfl
  have e2 : startK W ⟨op, rd, rs1, 0, 0, csr⟩ = (((W ||| rd * 2 ^ 7) ||| rs1 * 2 ^ 15) ||| 0 * 2 ^ 20) ||| csr * 2 ^ 20 := startK_arith W rd rs1 0 csr op 0 hrd hrs1 (by decide) hcsr
  rw [e1, e2]
  simp only [spread]
  have hu : u32N 0 < 4294967296 := by decide
  generalize u32N 0 = u at *
  rw [none0 u hu]
  simp only [Nat.zero_mul, Nat.or_zero]
  rw [or_field (W) rd 7 5 hrd (by omega)]
  rw [or_field (W + rd * 2 ^ 7) rs1 15 5 hrs1 (by omega)]
  rw [or_field (W + rd * 2 ^ 7 + rs1 * 2 ^ 15) csr 20 12 hcsr (by omega)]

theorem back_C (W : Nat) (hW : W = W % 128 + W / 4096 % 8 * 4096) (op : Nat) (rd rs1 csr : Nat) (hrd : rd < 32) (hrs1 : rs1 < 32) (hcsr : csr < 4096) : laidK 67 W ⟨op, rd, rs1, 0, 0, csr⟩ < 4294967296 ∧ toldK 67 op (laidK 67 W ⟨op, rd, rs1, 0, 0, csr⟩) = ⟨op, rd, rs1, 0, 0, csr⟩ ∧ restK 67 (laidK 67 W ⟨op, rd, rs1, 0, 0, csr⟩) = W := by
  rw [laid_C W hW op rd rs1 csr hrd hrs1 hcsr]
  have hlt : W + rd * 2 ^ 7 + rs1 * 2 ^ 15 + csr * 2 ^ 20 < 4294967296 := by omega
  have a0 : (W + rd * 2 ^ 7 + rs1 * 2 ^ 15 + csr * 2 ^ 20) / 128 % 32 = rd := by omega
  have a1 : (W + rd * 2 ^ 7 + rs1 * 2 ^ 15 + csr * 2 ^ 20) / 32768 % 32 = rs1 := by omega
  have a2 : (W + rd * 2 ^ 7 + rs1 * 2 ^ 15 + csr * 2 ^ 20) / 1048576 % 4096 = csr := by omega
  have ar : (W + rd * 2 ^ 7 + rs1 * 2 ^ 15 + csr * 2 ^ 20) % 128 + (W + rd * 2 ^ 7 + rs1 * 2 ^ 15 + csr * 2 ^ 20) / 4096 % 8 * 4096 = W := by omega
  generalize W + rd * 2 ^ 7 + rs1 * 2 ^ 15 + csr * 2 ^ 20 = A at *
  refine ⟨hlt, ?_, ?_⟩
  · rw [told_C op _ hlt]
    simp only [I6.mk.injEq, true_and]
    omega
  · rw [show restK 67 A = (A) % 128 + (A) / 4096 % 8 * 4096 from rfl]
    exact ar

theorem fore_C (W : Nat) (hW : W = W % 128 + W / 4096 % 8 * 4096) (op v : Nat) (hv : v < 4294967296) (hr : restK 67 v = W) : laidK 67 W (toldK 67 op v) = v := by
  rw [show restK 67 v = (v) % 128 + (v) / 4096 % 8 * 4096 from rfl] at hr
  rw [told_C op v hv]
  rw [laid_C W hW op (v / 128 % 32) (v / 32768 % 32) (v / 1048576 % 4096) (by omega) (by omega) (by omega)]
  have c0 : v = v / 128 * 128 + v % 128 := by omega
  have c7 : v / 128 = v / 4096 * 32 + v / 128 % 32 := by omega
  have c12 : v / 4096 = v / 32768 * 8 + v / 4096 % 8 := by omega
  have c15 : v / 32768 = v / 1048576 * 32 + v / 32768 % 32 := by omega
  omega

theorem laid_B (W : Nat) (hW : W = W % 128 + W / 4096 % 8 * 4096) (op : Int) (rs1 rs2 : Nat) (imm : Int) (hrs1 : rs1 < 32) (hrs2 : rs2 < 32) : laidK 66 W ⟨op, 0, rs1, rs2, imm, 0⟩ = W + rs1 * 2 ^ 15 + rs2 * 2 ^ 20 + u32N imm / 2 ^ 1 % 2 ^ 4 * 2 ^ 8 + u32N imm / 2 ^ 5 % 2 ^ 6 * 2 ^ 25 + u32N imm / 2 ^ 11 % 2 ^ 1 * 2 ^ 7 + u32N imm / 2 ^ 12 % 2 ^ 1 * 2 ^ 31 := by
  unfold laidK
  have e1 : piecesN 66 = [(8, 1, 4), (25, 5, 6), (7, 11, 1), (31, 12, 1)] := rfl
  have e2 : startK W ⟨op, 0, rs1, rs2, imm, 0⟩ = (((W ||| 0 * 2 ^ 7) ||| rs1 * 2 ^ 15) ||| rs2 * 2 ^ 20) ||| 0 * 2 ^ 20 := startK_arith W 0 rs1 rs2 0 op imm (by decide) hrs1 hrs2 (by decide)
  rw [e1, e2]
  simp only [spread]
  have hu := u32N_lt imm
  generalize u32N imm = u at *
  rw [piece0 u 8 1 4 hu (by decide) (by decide)]
  rw [piece0 u 25 5 6 hu (by decide) (by decide)]
  rw [piece0 u 7 11 1 hu (by decide) (by decide)]
  rw [piece0 u 31 12 1 hu (by decide) (by decide)]
  simp only [Nat.zero_mul, Nat.or_zero]
  have hu0 : u / 2 ^ 1 % 2 ^ 4 < 2 ^ 4 := Nat.mod_lt _ (by decide)
  generalize hg0 : u / 2 ^ 1 % 2 ^ 4 = u0 at *
  have hu1 : u / 2 ^ 5 % 2 ^ 6 < 2 ^ 6 := Nat.mod_lt _ (by decide)
  generalize hg1 : u / 2 ^ 5 % 2 ^ 6 = u1 at *
  have hu2 : u / 2 ^ 11 % 2 ^ 1 < 2 ^ 1 := Nat.mod_lt _ (by decide)
  generalize hg2 : u / 2 ^ 11 % 2 ^ 1 = u2 at *
  have hu3 : u / 2 ^ 12 % 2 ^ 1 < 2 ^ 1 := Nat.mod_lt _ (by decide)
  generalize hg3 : u / 2 ^ 12 % 2 ^ 1 = u3 at *
  clear hg0 hg1 hg2 hg3
  rw [or_field (W) rs1 15 5 hrs1 (by omega)]
  rw [or_field (W + rs1 * 2 ^ 15) rs2 20 5 hrs2 (by omega)]
  rw [or_field (W + rs1 * 2 ^ 15 + rs2 * 2 ^ 20) u0 8 4 hu0 (by omega)]
  rw [or_field (W + rs1 * 2 ^ 15 + rs2 * 2 ^ 20 + u0 * 2 ^ 8) u1 25 6 hu1 (by omega)]
  rw [or_field (W + rs1 * 2 ^ 15 + rs2 * 2 ^ 20 + u0 * 2 ^ 8 + u1 * 2 ^ 25) u2 7 1 hu2 (by omega)]
  rw [or_field (W + rs1 * 2 ^ 15 + rs2 * 2 ^ 20 + u0 * 2 ^ 8 + u1 * 2 ^ 25 + u2 * 2 ^ 7) u3 31 1 hu3 (by omega)]

theorem inv_B (imm : Int) (himm : -4096 ≤ imm ∧ imm ≤ 4095 ∧ imm % 2 = 0) (u : Nat) (hu : u = u32N imm) : imm = (u / 2 ^ 1 % 2 ^ 4 * 2 + u / 2 ^ 5 % 2 ^ 6 * 32 + u / 2 ^ 11 % 2 ^ 1 * 2048 : Nat) - (u / 2 ^ 12 % 2 ^ 1 * 4096 : Nat) := by
  rw [show u32N imm = (imm % 4294967296).toNat from rfl] at hu
  rcases Int.lt_or_le imm 0 with h | h
  · have hu' : (u : Int) = imm + 4294967296 := by omega
    clear hu
    omega
  · have hu' : (u : Int) = imm := by omega
    clear hu
    omega
theorem bits_B (p0 p1 p2 p3 : Nat) (hp0 : p0 < 16) (hp1 : p1 < 64) (hp2 : p2 < 2) (hp3 : p3 < 2) (u : Nat) (hu : u = u32N ((p0 * 2 + p1 * 32 + p2 * 2048 : Nat) - (p3 * 4096 : Nat) : Int)) : u / 2 ^ 1 % 2 ^ 4 = p0 ∧ u / 2 ^ 5 % 2 ^ 6 = p1 ∧ u / 2 ^ 11 % 2 ^ 1 = p2 ∧ u / 2 ^ 12 % 2 ^ 1 = p3 := by
  rw [show u32N ((p0 * 2 + p1 * 32 + p2 * 2048 : Nat) - (p3 * 4096 : Nat) : Int) = (((p0 * 2 + p1 * 32 + p2 * 2048 : Nat) - (p3 * 4096 : Nat) : Int) % 4294967296).toNat from rfl] at hu
  obtain rfl | rfl : p3 = 0 ∨ p3 = 1 := by omega
  all_goals omega

theorem back_B (W : Nat) (hW : W = W % 128 + W / 4096 % 8 * 4096) (op : Nat) (rs1 rs2 : Nat) (imm : Int) (himm : -4096 ≤ imm ∧ imm ≤ 4095 ∧ imm % 2 = 0) (hrs1 : rs1 < 32) (hrs2 : rs2 < 32) : laidK 66 W ⟨op, 0, rs1, rs2, imm, 0⟩ < 4294967296 ∧ toldK 66 op (laidK 66 W ⟨op, 0, rs1, rs2, imm, 0⟩) = ⟨op, 0, rs1, rs2, imm, 0⟩ ∧ restK 66 (laidK 66 W ⟨op, 0, rs1, rs2, imm, 0⟩) = W := by
  rw [laid_B W hW op rs1 rs2 imm hrs1 hrs2]
  have hi := inv_B imm himm (u32N imm) rfl
  have hul := u32N_lt imm
  generalize u32N imm = u at *
  clear himm
  have hu0 : u / 2 ^ 1 % 2 ^ 4 < 2 ^ 4 := Nat.mod_lt _ (by decide)
  have hu1 : u / 2 ^ 5 % 2 ^ 6 < 2 ^ 6 := Nat.mod_lt _ (by decide)
  have hu2 : u / 2 ^ 11 % 2 ^ 1 < 2 ^ 1 := Nat.mod_lt _ (by decide)
  have hu3 : u / 2 ^ 12 % 2 ^ 1 < 2 ^ 1 := Nat.mod_lt _ (by decide)
  generalize hg0 : u / 2 ^ 1 % 2 ^ 4 = u0 at *
  generalize hg1 : u / 2 ^ 5 % 2 ^ 6 = u1 at *
  generalize hg2 : u / 2 ^ 11 % 2 ^ 1 = u2 at *
  generalize hg3 : u / 2 ^ 12 % 2 ^ 1 = u3 at *
  clear hg0 hg1 hg2 hg3  hul
  have hlt : W + rs1 * 2 ^ 15 + rs2 * 2 ^ 20 + u0 * 2 ^ 8 + u1 * 2 ^ 25 + u2 * 2 ^ 7 + u3 * 2 ^ 31 < 4294967296 := by omega
  have a0 : (W + rs1 * 2 ^ 15 + rs2 * 2 ^ 20 + u0 * 2 ^ 8 + u1 * 2 ^ 25 + u2 * 2 ^ 7 + u3 * 2 ^ 31) / 32768 % 32 = rs1 := by omega
  have a1 : (W + rs1 * 2 ^ 15 + rs2 * 2 ^ 20 + u0 * 2 ^ 8 + u1 * 2 ^ 25 + u2 * 2 ^ 7 + u3 * 2 ^ 31) / 1048576 % 32 = rs2 := by omega
  have a2 : (W + rs1 * 2 ^ 15 + rs2 * 2 ^ 20 + u0 * 2 ^ 8 + u1 * 2 ^ 25 + u2 * 2 ^ 7 + u3 * 2 ^ 31) / 256 % 16 = u0 := by omega
  have a3 : (W + rs1 * 2 ^ 15 + rs2 * 2 ^ 20 + u0 * 2 ^ 8 + u1 * 2 ^ 25 + u2 * 2 ^ 7 + u3 * 2 ^ 31) / 33554432 % 64 = u1 := by omega
  have a4 : (W + rs1 * 2 ^ 15 + rs2 * 2 ^ 20 + u0 * 2 ^ 8 + u1 * 2 ^ 25 + u2 * 2 ^ 7 + u3 * 2 ^ 31) / 128 % 2 = u2 := by omega
  have a5 : (W + rs1 * 2 ^ 15 + rs2 * 2 ^ 20 + u0 * 2 ^ 8 + u1 * 2 ^ 25 + u2 * 2 ^ 7 + u3 * 2 ^ 31) / 2147483648 = u3 := by omega
  have ar : (W + rs1 * 2 ^ 15 + rs2 * 2 ^ 20 + u0 * 2 ^ 8 + u1 * 2 ^ 25 + u2 * 2 ^ 7 + u3 * 2 ^ 31) % 128 + (W + rs1 * 2 ^ 15 + rs2 * 2 ^ 20 + u0 * 2 ^ 8 + u1 * 2 ^ 25 + u2 * 2 ^ 7 + u3 * 2 ^ 31) / 4096 % 8 * 4096 = W := by omega
  generalize W + rs1 * 2 ^ 15 + rs2 * 2 ^ 20 + u0 * 2 ^ 8 + u1 * 2 ^ 25 + u2 * 2 ^ 7 + u3 * 2 ^ 31 = A at *
  refine ⟨hlt, ?_, ?_⟩
  · rw [told_B op _ hlt]
    simp only [I6.mk.injEq, true_and, and_true]
    omega
  · rw [show restK 66 A = (A) % 128 + (A) / 4096 % 8 * 4096 from rfl]
    exact ar

theorem fore_B (W : Nat) (hW : W = W % 128 + W / 4096 % 8 * 4096) (op v : Nat) (hv : v < 4294967296) (hr : restK 66 v = W) : laidK 66 W (toldK 66 op v) = v := by
  rw [show restK 66 v = (v) % 128 + (v) / 4096 % 8 * 4096 from rfl] at hr
  rw [told_B op v hv]
  rw [laid_B W hW op (v / 32768 % 32) (v / 1048576 % 32) ((v / 256 % 16 * 2 + v / 33554432 % 64 * 32 + v / 128 % 2 * 2048 : Nat) - (v / 2147483648 * 4096 : Nat)) (by omega) (by omega)]
  have hb := bits_B (v / 256 % 16) (v / 33554432 % 64) (v / 128 % 2) (v / 2147483648) (by omega) (by omega) (by omega) (by omega) _ rfl
  generalize u32N ((v / 256 % 16 * 2 + v / 33554432 % 64 * 32 + v / 128 % 2 * 2048 : Nat) - (v / 2147483648 * 4096 : Nat)) = u at *
  obtain ⟨b0, b1, b2, b3⟩ := hb
  rw [b0, b1, b2, b3]
  clear b0 b1 b2 b3
  have c0 : v = v / 128 * 128 + v % 128 := by omega
  have c7 : v / 128 = v / 256 * 2 + v / 128 % 2 := by omega
  have c8 : v / 256 = v / 4096 * 16 + v / 256 % 16 := by omega
  have c12 : v / 4096 = v / 32768 * 8 + v / 4096 % 8 := by omega
  have c15 : v / 32768 = v / 1048576 * 32 + v / 32768 % 32 := by omega
  have c20 : v / 1048576 = v / 33554432 * 32 + v / 1048576 % 32 := by omega
  have c25 : v / 33554432 = v / 2147483648 * 64 + v / 33554432 % 64 := by omega
  omega

theorem laid_S (W : Nat) (hW : W = W % 128 + W / 4096 % 8 * 4096) (op : Int) (rs1 rs2 : Nat) (imm : Int) (hrs1 : rs1 < 32) (hrs2 : rs2 < 32) : laidK 83 W ⟨op, 0, rs1, rs2, imm, 0⟩ = W + rs1 * 2 ^ 15 + rs2 * 2 ^ 20 + u32N imm / 2 ^ 0 % 2 ^ 5 * 2 ^ 7 + u32N imm / 2 ^ 5 % 2 ^ 7 * 2 ^ 25 := by
  unfold laidK
  have e1 : piecesN 83 = [(7, 0, 5), (25, 5, 7), (0, 0, 0), (0, 0, 0)] := rfl
  have e2 : startK W ⟨op, 0, rs1, rs2, imm, 0⟩ = (((W ||| 0 * 2 ^ 7) ||| rs1 * 2 ^ 15) ||| rs2 * 2 ^ 20) ||| 0 * 2 ^ 20 := startK_arith W 0 rs1 rs2 0 op imm (by decide) hrs1 hrs2 (by decide)
  rw [e1, e2]
  simp only [spread]
  have hu := u32N_lt imm
  generalize u32N imm = u at *
  rw [piece0 u 7 0 5 hu (by decide) (by decide)]
  rw [piece0 u 25 5 7 hu (by decide) (by decide)]
  rw [none0 u hu]
  simp only [Nat.zero_mul, Nat.or_zero]
  have hu0 : u / 2 ^ 0 % 2 ^ 5 < 2 ^ 5 := Nat.mod_lt _ (by decide)
  generalize hg0 : u / 2 ^ 0 % 2 ^ 5 = u0 at *
  have hu1 : u / 2 ^ 5 % 2 ^ 7 < 2 ^ 7 := Nat.mod_lt _ (by decide)
  generalize hg1 : u / 2 ^ 5 % 2 ^ 7 = u1 at *
  clear hg0 hg1
  rw [or_field (W) rs1 15 5 hrs1 (by omega)]
  rw [or_field (W + rs1 * 2 ^ 15) rs2 20 5 hrs2 (by omega)]
  rw [or_field (W + rs1 * 2 ^ 15 + rs2 * 2 ^ 20) u0 7 5 hu0 (by omega)]
  rw [or_field (W + rs1 * 2 ^ 15 + rs2 * 2 ^ 20 + u0 * 2 ^ 7) u1 25 7 hu1 (by omega)]

theorem inv_S (imm : Int) (himm : -2048 ≤ imm ∧ imm ≤ 2047) (u : Nat) (hu : u = u32N imm) : imm = (u / 2 ^ 0 % 2 ^ 5 + u / 2 ^ 5 % 2 ^ 7 % 64 * 32 : Nat) - (u / 2 ^ 5 % 2 ^ 7 / 64 * 2048 : Nat) := by
  rw [show u32N imm = (imm % 4294967296).toNat from rfl] at hu
  rcases Int.lt_or_le imm 0 with h | h
  · have hu' : (u : Int) = imm + 4294967296 := by omega
    clear hu
    omega
  · have hu' : (u : Int) = imm := by omega
    clear hu
    omega
theorem bits_S (p0 p1 p2 : Nat) (hp0 : p0 < 32) (hp1 : p1 < 64) (hp2 : p2 < 2) (u : Nat) (hu : u = u32N ((p0 + p1 * 32 : Nat) - (p2 * 2048 : Nat) : Int)) : u / 2 ^ 0 % 2 ^ 5 = p0 ∧ u / 2 ^ 5 % 2 ^ 7 = p1 + p2 * 64 := by
  rw [show u32N ((p0 + p1 * 32 : Nat) - (p2 * 2048 : Nat) : Int) = (((p0 + p1 * 32 : Nat) - (p2 * 2048 : Nat) : Int) % 4294967296).toNat from rfl] at hu
  obtain rfl | rfl : p2 = 0 ∨ p2 = 1 := by omega
  all_goals omega

theorem back_S (W : Nat) (hW : W = W % 128 + W / 4096 % 8 * 4096) (op : Nat) (rs1 rs2 : Nat) (imm : Int) (himm : -2048 ≤ imm ∧ imm ≤ 2047) (hrs1 : rs1 < 32) (hrs2 : rs2 < 32) : laidK 83 W ⟨op, 0, rs1, rs2, imm, 0⟩ < 4294967296 ∧ toldK 83 op (laidK 83 W ⟨op, 0, rs1, rs2, imm, 0⟩) = ⟨op, 0, rs1, rs2, imm, 0⟩ ∧ restK 83 (laidK 83 W ⟨op, 0, rs1, rs2, imm, 0⟩) = W := by
  rw [laid_S W hW op rs1 rs2 imm hrs1 hrs2]
  have hi := inv_S imm himm (u32N imm) rfl
  have hul := u32N_lt imm
  generalize u32N imm = u at *
  clear himm
  have hu0 : u / 2 ^ 0 % 2 ^ 5 < 2 ^ 5 := Nat.mod_lt _ (by decide)
  have hu1 : u / 2 ^ 5 % 2 ^ 7 < 2 ^ 7 := Nat.mod_lt _ (by decide)
  generalize hg0 : u / 2 ^ 0 % 2 ^ 5 = u0 at *
  generalize hg1 : u / 2 ^ 5 % 2 ^ 7 = u1 at *
  clear hg0 hg1  hul
  have hlt : W + rs1 * 2 ^ 15 + rs2 * 2 ^ 20 + u0 * 2 ^ 7 + u1 * 2 ^ 25 < 4294967296 := by omega
  have a0 : (W + rs1 * 2 ^ 15 + rs2 * 2 ^ 20 + u0 * 2 ^ 7 + u1 * 2 ^ 25) / 32768 % 32 = rs1 := by omega
  have a1 : (W + rs1 * 2 ^ 15 + rs2 * 2 ^ 20 + u0 * 2 ^ 7 + u1 * 2 ^ 25) / 1048576 % 32 = rs2 := by omega
  have a2 : (W + rs1 * 2 ^ 15 + rs2 * 2 ^ 20 + u0 * 2 ^ 7 + u1 * 2 ^ 25) / 128 % 32 = u0 := by omega
  have a3 : (W + rs1 * 2 ^ 15 + rs2 * 2 ^ 20 + u0 * 2 ^ 7 + u1 * 2 ^ 25) / 33554432 % 64 = u1 % 64 := by omega
  have a4 : (W + rs1 * 2 ^ 15 + rs2 * 2 ^ 20 + u0 * 2 ^ 7 + u1 * 2 ^ 25) / 2147483648 = u1 / 64 := by omega
  have ar : (W + rs1 * 2 ^ 15 + rs2 * 2 ^ 20 + u0 * 2 ^ 7 + u1 * 2 ^ 25) % 128 + (W + rs1 * 2 ^ 15 + rs2 * 2 ^ 20 + u0 * 2 ^ 7 + u1 * 2 ^ 25) / 4096 % 8 * 4096 = W := by omega
  generalize W + rs1 * 2 ^ 15 + rs2 * 2 ^ 20 + u0 * 2 ^ 7 + u1 * 2 ^ 25 = A at *
  refine ⟨hlt, ?_, ?_⟩
  · rw [told_S op _ hlt]
    simp only [I6.mk.injEq, true_and, and_true]
    omega
  · rw [show restK 83 A = (A) % 128 + (A) / 4096 % 8 * 4096 from rfl]
    exact ar

theorem fore_S (W : Nat) (hW : W = W % 128 + W / 4096 % 8 * 4096) (op v : Nat) (hv : v < 4294967296) (hr : restK 83 v = W) : laidK 83 W (toldK 83 op v) = v := by
  rw [show restK 83 v = (v) % 128 + (v) / 4096 % 8 * 4096 from rfl] at hr
  rw [told_S op v hv]
  rw [laid_S W hW op (v / 32768 % 32) (v / 1048576 % 32) ((v / 128 % 32 + v / 33554432 % 64 * 32 : Nat) - (v / 2147483648 * 2048 : Nat)) (by omega) (by omega)]
  have hb := bits_S (v / 128 % 32) (v / 33554432 % 64) (v / 2147483648) (by omega) (by omega) (by omega) _ rfl
  generalize u32N ((v / 128 % 32 + v / 33554432 % 64 * 32 : Nat) - (v / 2147483648 * 2048 : Nat)) = u at *
  obtain ⟨b0, b1⟩ := hb
  rw [b0, b1]
  clear b0 b1
  have c0 : v = v / 128 * 128 + v % 128 := by omega
  have c7 : v / 128 = v / 4096 * 32 + v / 128 % 32 := by omega
  have c12 : v / 4096 = v / 32768 * 8 + v / 4096 % 8 := by omega
  have c15 : v / 32768 = v / 1048576 * 32 + v / 32768 % 32 := by omega
  have c20 : v / 1048576 = v / 33554432 * 32 + v / 1048576 % 32 := by omega
  have c25 : v / 33554432 = v / 2147483648 * 64 + v / 33554432 % 64 := by omega
  omega

theorem laid_H (W : Nat) (hW : W = W % 128 + W / 4096 % 8 * 4096 + W / 33554432 * 33554432 ∧ W < 4294967296) (op : Int) (rd rs1 : Nat) (imm : Int) (hrd : rd < 32) (hrs1 : rs1 < 32) : laidK 72 W ⟨op, rd, rs1, 0, imm, 0⟩ = W + rd * 2 ^ 7 + rs1 * 2 ^ 15 + u32N imm / 2 ^ 0 % 2 ^ 5 * 2 ^ 20 := by
  unfold laidK
  have e1 : piecesN 72 = [(20, 0, 5), (0, 0, 0), (0, 0, 0), (0, 0, 0)] := rfl
  have e2 : startK W ⟨op, rd, rs1, 0, imm, 0⟩ = (((W ||| rd * 2 ^ 7) ||| rs1 * 2 ^ 15) ||| 0 * 2 ^ 20) ||| 0 * 2 ^ 20 := startK_arith W rd rs1 0 0 op imm hrd hrs1 (by decide) (by decide)
  rw [e1, e2]
  simp only [spread]
  have hu := u32N_lt imm
  generalize u32N imm = u at *
  rw [piece0 u 20 0 5 hu (by decide) (by decide)]
  rw [none0 u hu]
  simp only [Nat.zero_mul, Nat.or_zero]
  have hu0 : u / 2 ^ 0 % 2 ^ 5 < 2 ^ 5 := Nat.mod_lt _ (by decide)
  generalize hg0 : u / 2 ^ 0 % 2 ^ 5 = u0 at *
  clear hg0
  rw [or_field (W) rd 7 5 hrd (by omega)]
  rw [or_field (W + rd * 2 ^ 7) rs1 15 5 hrs1 (by omega)]
  rw [or_field (W + rd * 2 ^ 7 + rs1 * 2 ^ 15) u0 20 5 hu0 (by omega)]

theorem inv_H (imm : Int) (himm : 0 ≤ imm ∧ imm ≤ 31) (u : Nat) (hu : u = u32N imm) : imm = (u / 2 ^ 0 % 2 ^ 5 : Nat) - (0 : Nat) := by
  rw [show u32N imm = (imm % 4294967296).toNat from rfl] at hu
  rcases Int.lt_or_le imm 0 with h | h
  · have hu' : (u : Int) = imm + 4294967296 := by omega
    clear hu
    omega
  · have hu' : (u : Int) = imm := by omega
    clear hu
    omega
theorem bits_H (p0 : Nat) (hp0 : p0 < 32) (u : Nat) (hu : u = u32N ((p0 : Nat) : Int)) : u / 2 ^ 0 % 2 ^ 5 = p0 := by
  rw [show u32N ((p0 : Nat) : Int) = (((p0 : Nat) : Int) % 4294967296).toNat from rfl] at hu
  omega

theorem back_H (W : Nat) (hW : W = W % 128 + W / 4096 % 8 * 4096 + W / 33554432 * 33554432 ∧ W < 4294967296) (op : Nat) (rd rs1 : Nat) (imm : Int) (himm : 0 ≤ imm ∧ imm ≤ 31) (hrd : rd < 32) (hrs1 : rs1 < 32) : laidK 72 W ⟨op, rd, rs1, 0, imm, 0⟩ < 4294967296 ∧ toldK 72 op (laidK 72 W ⟨op, rd, rs1, 0, imm, 0⟩) = ⟨op, rd, rs1, 0, imm, 0⟩ ∧ restK 72 (laidK 72 W ⟨op, rd, rs1, 0, imm, 0⟩) = W := by
  rw [laid_H W hW op rd rs1 imm hrd hrs1]
  have hi := inv_H imm himm (u32N imm) rfl
  have hul := u32N_lt imm
  generalize u32N imm = u at *
  clear himm
  have hu0 : u / 2 ^ 0 % 2 ^ 5 < 2 ^ 5 := Nat.mod_lt _ (by decide)
  generalize hg0 : u / 2 ^ 0 % 2 ^ 5 = u0 at *
  clear hg0  hul
  have hlt : W + rd * 2 ^ 7 + rs1 * 2 ^ 15 + u0 * 2 ^ 20 < 4294967296 := by omega
  obtain ⟨w0, w1, w2, hw0, hw1, hw2, hWe⟩ : ∃ w0 w1 w2, w0 < 128 ∧ w1 < 8 ∧ w2 < 128 ∧ W = w0 + w1 * 4096 + w2 * 33554432 := ⟨W % 128, W / 4096 % 8, W / 33554432, by omega, by omega, by omega, hW.1⟩
  clear hW
  obtain ⟨n1, hn1⟩ : ∃ n, n = u0 + 32 * w2 := ⟨_, rfl⟩
  obtain ⟨n2, hn2⟩ : ∃ n, n = rs1 + 32 * n1 := ⟨_, rfl⟩
  obtain ⟨n3, hn3⟩ : ∃ n, n = w1 + 8 * n2 := ⟨_, rfl⟩
  obtain ⟨n4, hn4⟩ : ∃ n, n = rd + 32 * n3 := ⟨_, rfl⟩
  have eA : W + rd * 2 ^ 7 + rs1 * 2 ^ 15 + u0 * 2 ^ 20 = w0 + 128 * n4 := by omega
  rw [eA] at hlt ⊢
  clear eA
  generalize hA : w0 + 128 * n4 = A at *
  have d1 : A / 128 = n4 := by omega
  have d0 : A % 128 = w0 := by omega
  have d2 : A / 4096 = n3 := by omega
  have d3 : A / 32768 = n2 := by omega
  have d4 : A / 1048576 = n1 := by omega
  have d5 : A / 33554432 = w2 := by omega
  have a0 : A / 128 % 32 = rd := by rw [d1]; omega
  have a1 : A / 32768 % 32 = rs1 := by rw [d3]; omega
  have a2 : A / 1048576 % 32 = u0 := by rw [d4]; omega
  have a3 : A / 4096 % 8 = w1 := by rw [d2]; omega
  have ar : (A) % 128 + (A) / 4096 % 8 * 4096 + (A) / 33554432 * 33554432 = W := by rw [d0, a3, d5, hWe]
  clear hA d0 d1 d2 d3 d4 d5 a3 hn1 hn2 hn3 hn4 hWe
  refine ⟨hlt, ?_, ?_⟩
  · rw [told_H op _ hlt]
    simp only [I6.mk.injEq, true_and, and_true]
    omega
  · rw [show restK 72 A = (A) % 128 + (A) / 4096 % 8 * 4096 + (A) / 33554432 * 33554432 from rfl]
    exact ar

theorem fore_H (W : Nat) (hW : W = W % 128 + W / 4096 % 8 * 4096 + W / 33554432 * 33554432 ∧ W < 4294967296) (op v : Nat) (hv : v < 4294967296) (hr : restK 72 v = W) : laidK 72 W (toldK 72 op v) = v := by
  rw [show restK 72 v = (v) % 128 + (v) / 4096 % 8 * 4096 + (v) / 33554432 * 33554432 from rfl] at hr
  rw [told_H op v hv]
  rw [laid_H W hW op (v / 128 % 32) (v / 32768 % 32) ((v / 1048576 % 32 : Nat)) (by omega) (by omega)]
  have hb := bits_H (v / 1048576 % 32) (by omega) _ rfl
  generalize u32N ((v / 1048576 % 32 : Nat)) = u at *
  have b0 := hb
  rw [b0]
  clear b0 hb
  have c0 : v = v / 128 * 128 + v % 128 := by omega
  have c7 : v / 128 = v / 4096 * 32 + v / 128 % 32 := by omega
  have c12 : v / 4096 = v / 32768 * 8 + v / 4096 % 8 := by omega
  have c15 : v / 32768 = v / 1048576 * 32 + v / 32768 % 32 := by omega
  have c20 : v / 1048576 = v / 33554432 * 32 + v / 1048576 % 32 := by omega
  omega

theorem laid_R (W : Nat) (hW : W = W % 128 + W / 4096 % 8 * 4096 + W / 33554432 * 33554432 ∧ W < 4294967296) (op : Int) (rd rs1 rs2 : Nat) (hrd : rd < 32) (hrs1 : rs1 < 32) (hrs2 : rs2 < 32) : laidK 82 W ⟨op, rd, rs1, rs2, 0, 0⟩ = W + rd * 2 ^ 7 + rs1 * 2 ^ 15 + rs2 * 2 ^ 20 := by
  unfold laidK
  have e1 : piecesN 82 = [(0, 0, 0), (0, 0, 0), (0, 0, 0), (0, 0, 0)] := rfl
  have e2 : startK W ⟨op, rd, rs1, rs2, 0, 0⟩ = (((W ||| rd * 2 ^ 7) ||| rs1 * 2 ^ 15) ||| rs2 * 2 ^ 20) ||| 0 * 2 ^ 20 := startK_arith W rd rs1 rs2 0 op 0 hrd hrs1 hrs2 (by decide)
  rw [e1, e2]
  simp only [spread]
  have hu : u32N 0 < 4294967296 := by decide
  generalize u32N 0 = u at *
  rw [none0 u hu]
  simp only [Nat.zero_mul, Nat.or_zero]
  rw [or_field (W) rd 7 5 hrd (by omega)]
  rw [or_field (W + rd * 2 ^ 7) rs1 15 5 hrs1 (by omega)]
  rw [or_field (W + rd * 2 ^ 7 + rs1 * 2 ^ 15) rs2 20 5 hrs2 (by omega)]

theorem back_R (W : Nat) (hW : W = W % 128 + W / 4096 % 8 * 4096 + W / 33554432 * 33554432 ∧ W < 4294967296) (op : Nat) (rd rs1 rs2 : Nat) (hrd : rd < 32) (hrs1 : rs1 < 32) (hrs2 : rs2 < 32) : laidK 82 W ⟨op, rd, rs1, rs2, 0, 0⟩ < 4294967296 ∧ toldK 82 op (laidK 82 W ⟨op, rd, rs1, rs2, 0, 0⟩) = ⟨op, rd, rs1, rs2, 0, 0⟩ ∧ restK 82 (laidK 82 W ⟨op, rd, rs1, rs2, 0, 0⟩) = W := by
  rw [laid_R W hW op rd rs1 rs2 hrd hrs1 hrs2]
  have hlt : W + rd * 2 ^ 7 + rs1 * 2 ^ 15 + rs2 * 2 ^ 20 < 4294967296 := by omega
  obtain ⟨w0, w1, w2, hw0, hw1, hw2, hWe⟩ : ∃ w0 w1 w2, w0 < 128 ∧ w1 < 8 ∧ w2 < 128 ∧ W = w0 + w1 * 4096 + w2 * 33554432 := ⟨W % 128, W / 4096 % 8, W / 33554432, by omega, by omega, by omega, hW.1⟩
  clear hW
  obtain ⟨n1, hn1⟩ : ∃ n, n = rs2 + 32 * w2 := ⟨_, rfl⟩
  obtain ⟨n2, hn2⟩ : ∃ n, n = rs1 + 32 * n1 := ⟨_, rfl⟩
  obtain ⟨n3, hn3⟩ : ∃ n, n = w1 + 8 * n2 := ⟨_, rfl⟩
  obtain ⟨n4, hn4⟩ : ∃ n, n = rd + 32 * n3 := ⟨_, rfl⟩
  have eA : W + rd * 2 ^ 7 + rs1 * 2 ^ 15 + rs2 * 2 ^ 20 = w0 + 128 * n4 := by omega
  rw [eA] at hlt ⊢
  clear eA
  generalize hA : w0 + 128 * n4 = A at *
  have d1 : A / 128 = n4 := by omega
  have d0 : A % 128 = w0 := by omega
  have d2 : A / 4096 = n3 := by omega
  have d3 : A / 32768 = n2 := by omega
  have d4 : A / 1048576 = n1 := by omega
  have d5 : A / 33554432 = w2 := by omega
  have a0 : A / 128 % 32 = rd := by rw [d1]; omega
  have a1 : A / 32768 % 32 = rs1 := by rw [d3]; omega
  have a2 : A / 1048576 % 32 = rs2 := by rw [d4]; omega
  have a3 : A / 4096 % 8 = w1 := by rw [d2]; omega
  have ar : (A) % 128 + (A) / 4096 % 8 * 4096 + (A) / 33554432 * 33554432 = W := by rw [d0, a3, d5, hWe]
  clear hA d0 d1 d2 d3 d4 d5 a3 hn1 hn2 hn3 hn4 hWe
  refine ⟨hlt, ?_, ?_⟩
  · rw [told_R op _ hlt]
    simp only [I6.mk.injEq, true_and, and_true]
    omega
  · rw [show restK 82 A = (A) % 128 + (A) / 4096 % 8 * 4096 + (A) / 33554432 * 33554432 from rfl]
    exact ar

theorem fore_R (W : Nat) (hW : W = W % 128 + W / 4096 % 8 * 4096 + W / 33554432 * 33554432 ∧ W < 4294967296) (op v : Nat) (hv : v < 4294967296) (hr : restK 82 v = W) : laidK 82 W (toldK 82 op v) = v := by
  rw [show restK 82 v = (v) % 128 + (v) / 4096 % 8 * 4096 + (v) / 33554432 * 33554432 from rfl] at hr
  rw [told_R op v hv]
  rw [laid_R W hW op (v / 128 % 32) (v / 32768 % 32) (v / 1048576 % 32) (by omega) (by omega) (by omega)]
  have c0 : v = v / 128 * 128 + v % 128 := by omega
  have c7 : v / 128 = v / 4096 * 32 + v / 128 % 32 := by omega
  have c12 : v / 4096 = v / 32768 * 8 + v / 4096 % 8 := by omega
  have c15 : v / 32768 = v / 1048576 * 32 + v / 32768 % 32 := by omega
  have c20 : v / 1048576 = v / 33554432 * 32 + v / 1048576 % 32 := by omega
  omega

theorem laid_N (W : Nat) (hW : W < 4294967296) (op : Int)  : laidK 78 W ⟨op, 0, 0, 0, 0, 0⟩ = W := by
  unfold laidK
  have e1 : piecesN 78 = [(0, 0, 0), (0, 0, 0), (0, 0, 0), (0, 0, 0)] := rfl
  have e2 : startK W ⟨op, 0, 0, 0, 0, 0⟩ = (((W ||| 0 * 2 ^ 7) ||| 0 * 2 ^ 15) ||| 0 * 2 ^ 20) ||| 0 * 2 ^ 20 := startK_arith W 0 0 0 0 op 0 (by decide) (by decide) (by decide) (by decide)
  rw [e1, e2]
  simp only [spread]
  have hu : u32N 0 < 4294967296 := by decide
  generalize u32N 0 = u at *
  rw [none0 u hu]
  simp only [Nat.zero_mul, Nat.or_zero]

theorem back_N (W : Nat) (hW : W < 4294967296) (op : Nat)  : laidK 78 W ⟨op, 0, 0, 0, 0, 0⟩ < 4294967296 ∧ toldK 78 op (laidK 78 W ⟨op, 0, 0, 0, 0, 0⟩) = ⟨op, 0, 0, 0, 0, 0⟩ ∧ restK 78 (laidK 78 W ⟨op, 0, 0, 0, 0, 0⟩) = W := by
  rw [laid_N W hW op]
  have hlt : W < 4294967296 := by omega
  refine ⟨hlt, ?_, ?_⟩
  · rfl
  · rfl

theorem fore_N (W : Nat) (hW : W < 4294967296) (op v : Nat) (hv : v < 4294967296) (hr : restK 78 v = W) : laidK 78 W (toldK 78 op v) = v := by
  rw [show restK 78 v = v from rfl] at hr
  rw [told_N]
  rw [laid_N W hW op]
  omega
end Go.Proofs.YtoekcfbjdcibpaaGreatDoor
