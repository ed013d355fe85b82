/-
  DmaRound, walked.
-/
import Derived.Test.YtalcgipcephnnaaDoorJDmStopW
import Derived.Test.YtalcgipcephnnaaDoorJDmSure
namespace Go.Proofs.YtalcgipcephnnaaDoor
open Go.RowKit
set_option linter.unusedVariables false
set_option linter.unusedSimpArgs false

theorem numF_before {f : Nat → Nat} {a b k : Nat} {l : List Nat} (h : a + k ≤ b) : numF (wroteF f b l) a k = numF f a k :=
  numF_congr (fun j hj => by unfold wroteF; rw [if_neg (by omega)])
theorem numF_behind {f : Nat → Nat} {a b k : Nat} {l : List Nat} (h : b + l.length ≤ a) : numF (wroteF f b l) a k = numF f a k :=
  numF_congr (fun j hj => by unfold wroteF; rw [if_neg (by omega)])
theorem numF_here (f : Nat → Nat) (a v : Nat) (hv : v < 4294967296) : numF (wroteF f a (numB v 4)) a 4 = v := by
  have e : ∀ j, j < 4 → wroteF f a (numB v 4) (a + j) = v / 256 ^ j % 256 := by
    intro j hj
    unfold wroteF
    rw [numB_len, if_pos (by omega), show a + j - a = j by omega]
    unfold numB
    rw [List.getElem?_map, List.getElem?_range hj]
    rfl
  simp only [numF]
  rw [show wroteF f a (numB v 4) (a + 0) = _ from e 0 (by decide), e 1 (by decide), e 2 (by decide), e 3 (by decide)]
  simp only [Nat.pow_zero, Nat.div_one, Nat.pow_one, Nat.reducePow, Nat.mul_one]
  omega
/-- The order i of a list that goes round. -/
structure OrdOk (f : Nat → Nat) (k L i : Nat) : Prop where
  fr : numF f (16 * i) 4 = 2147484672
  tt : numF f (16 * i + 4) 4 = 2147485696
  lf : numF f (16 * i + 8) 4 = L
  nx : numF f (16 * i + 12) 4 = 2147483648 + 16 * ((i + 1) % k)
theorem OrdOk.past {f : Nat → Nat} {k L i b : Nat} {l : List Nat} (h : OrdOk f k L i) (hb : 16 * i + 16 ≤ b) : OrdOk (wroteF f b l) k L i :=
  ⟨(numF_before (by omega)).trans h.fr, (numF_before (by omega)).trans h.tt, (numF_before (by omega)).trans h.lf, (numF_before (by omega)).trans h.nx⟩
def perO (L : Nat) : Nat := 1 + (L + 63) / 64
def rdS (k L q rr : Nat) : E :=
  if rr = 0 then ⟨1, 2147483648, 2147483648 + 16 * (q % k), q, q * L, false, 0, 0, 0, 0, false⟩
  else ⟨1, 2147483648, 2147483648 + 16 * (q % k), q + 1, q * L + 64 * (rr - 1), true, 2147484672 + 64 * (rr - 1), 2147485696 + 64 * (rr - 1), L - 64 * (rr - 1), 2147483648 + 16 * ((q + 1) % k), false⟩
theorem rdS_0 (k L q : Nat) : rdS k L q 0 = ⟨1, 2147483648, 2147483648 + 16 * (q % k), q, q * L, false, 0, 0, 0, 0, false⟩ := rfl
theorem rdS_cd (k L q rr : Nat) : (rdS k L q rr).cd = 1 := by unfold rdS; split <;> rfl
theorem rdS_may {k L q rr : Nat} (hL : 1 ≤ L) (hL2 : L ≤ 100) (hq : q ≤ 64) (hr : rr < perO L) (hr2 : q = 64 → rr = 0) : mayE (rdS k L q rr) = true := by
  unfold perO at hr
  rw [mayE_iff]
  unfold rdS
  split
  · exact ⟨(by show 1 ≤ 3; decide), hq, fun h => (by cases h), fun h => (by cases h), fun _ => ⟨rfl, rfl, rfl, rfl⟩⟩
  · refine ⟨(by show 1 ≤ 3; decide), ?_, fun h => (by cases h), fun _ => ⟨rfl, ?_, ?_⟩, fun h => (by cases h)⟩
    · show q + 1 ≤ 64; omega
    · show 1 ≤ L - 64 * (rr - 1); omega
    · show L - 64 * (rr - 1) ≤ 65536; omega
theorem mul_le {q L : Nat} (hq : q ≤ 64) (hL : L ≤ 100) : q * L ≤ 6400 := Nat.mul_le_mul hq hL
theorem rdS_ok {k L q rr : Nat} (hk : 1 ≤ k) (hk4 : k ≤ 4) (hL2 : L ≤ 100) (hq : q ≤ 64) (hr : rr < perO L) : (rdS k L q rr).Ok := by
  have h1 := mul_le hq hL2
  have h2 : q % k < k := Nat.mod_lt _ hk
  have h3 : (q + 1) % k < k := Nat.mod_lt _ hk
  unfold perO at hr
  unfold rdS
  split
  · exact ⟨(by show 1 < 4294967296; decide), (by show 2147483648 < 4294967296; decide), (by show 2147483648 + 16 * (q % k) < _; omega), (by show q < _; omega), (by show q * L < _; omega), (by show 0 < 4294967296; decide), (by show 0 < 4294967296; decide), (by show 0 < 4294967296; decide), (by show 0 < 4294967296; decide)⟩
  · exact ⟨(by show 1 < 4294967296; decide), (by show 2147483648 < 4294967296; decide), (by show 2147483648 + 16 * (q % k) < _; omega), (by show q + 1 < _; omega), (by show q * L + 64 * (rr - 1) < _; omega), (by show 2147484672 + 64 * (rr - 1) < _; omega), (by show 2147485696 + 64 * (rr - 1) < _; omega), (by show L - 64 * (rr - 1) < _; omega), (by show 2147483648 + 16 * ((q + 1) % k) < _; omega)⟩
theorem rd_tickF {k L q rr : Nat} (hL : 1 ≤ L) (hL2 : L ≤ 100) (hr : rr < perO L) (f : Nat → Nat) {i : Nat} (hi : i < 4) (h : OrdOk f k L i) : OrdOk (tickF (rdS k L q rr) f 2) k L i := by
  unfold tickF moveF
  split
  · split
    · exact h
    · rename_i hg _
      have hv : (rdS k L q rr).hv = true := by
        have := hg; rw [Bool.and_eq_true] at this; exact this.2
      have hrr : rr ≠ 0 := by
        intro e; subst e; rw [rdS_0] at hv; cases hv
      have ht : (rdS k L q rr).tt = 2147485696 + 64 * (rr - 1) := by unfold rdS; rw [if_neg hrr]
      rw [ht]
      exact h.past (by omega)
  · exact h
theorem rd_take {k L q : Nat} (hk : 1 ≤ k) (hk4 : k ≤ 4) (hL : 1 ≤ L) (hL2 : L ≤ 100) (hq : q < 64) (f : Nat → Nat) (h : ∀ i, i < k → OrdOk f k L i) : tickE (rdS k L q 0) f 2 = rdS k L q 1 := by
  have hm := rdS_may (k := k) (rr := 0) hL hL2 (Nat.le_of_lt hq) (by unfold perO; omega) (fun _ => rfl)
  have hg := goes_of hm (rdS_cd k L q 0)
  have hi : q % k < k := Nat.mod_lt _ hk
  obtain ⟨i, hie⟩ : ∃ i, q % k = i := ⟨_, rfl⟩
  have hi2 : (i + 1) % k = (q + 1) % k := by rw [← hie, Nat.mod_add_mod]
  rw [hie] at hi
  have ho := h i hi
  unfold tickE
  rw [hg, if_pos rfl, rdS_0, hie, if_neg (show ¬ (false = true) by decide)]
  unfold takeE
  dsimp only
  rw [show 2147483648 + 16 * i - 2147483648 = 16 * i by omega, ho.fr, ho.tt, ho.lf, ho.nx]
  rw [if_neg (by omega), if_neg (by rintro (e | e); (· omega); (· have := of_decide_eq_false e; omega)), if_neg (by omega)]
  unfold rdS
  rw [if_neg (by decide), hie, hi2]
  simp only [Nat.sub_self, Nat.mul_zero, Nat.add_zero, Nat.sub_zero]
theorem rd_move {k L q rr : Nat} (hk : 1 ≤ k) (hk4 : k ≤ 4) (hL : 1 ≤ L) (hL2 : L ≤ 100) (hq : q < 64) (hr0 : rr ≠ 0) (hr : rr < perO L) (f : Nat → Nat) : tickE (rdS k L q rr) f 2 = if rr + 1 < perO L then rdS k L q (rr + 1) else rdS k L (q + 1) 0 := by
  have hm := rdS_may (k := k) (rr := rr) hL hL2 (Nat.le_of_lt hq) hr (fun e => absurd e (by omega))
  have hg := goes_of hm (rdS_cd k L q rr)
  have h1 := mul_le (Nat.le_of_lt hq) hL2
  have h3 : (q + 1) % k < k := Nat.mod_lt _ hk
  unfold perO at hr ⊢
  unfold tickE
  rw [hg, if_pos rfl]
  have hS : rdS k L q rr = ⟨1, 2147483648, 2147483648 + 16 * (q % k), q + 1, q * L + 64 * (rr - 1), true, 2147484672 + 64 * (rr - 1), 2147485696 + 64 * (rr - 1), L - 64 * (rr - 1), 2147483648 + 16 * ((q + 1) % k), false⟩ := by unfold rdS; rw [if_neg hr0]
  rw [hS, if_pos rfl]
  obtain ⟨r1, hr1⟩ : ∃ x, 64 * (rr - 1) = x := ⟨_, rfl⟩
  rw [hr1]
  have hq1 : (q + 1) * L = q * L + L := Nat.succ_mul q L
  obtain ⟨qL, hqL⟩ : ∃ x, q * L = x := ⟨_, rfl⟩
  obtain ⟨nx, hnx⟩ : ∃ x, (q + 1) % k = x := ⟨_, rfl⟩
  rw [hqL] at h1 hq1
  rw [hqL, hnx]
  rw [hnx] at h3
  by_cases hc : rr + 1 < 1 + (L + 63) / 64
  · rw [if_pos hc]
    have hb : ∀ a b c d, burst ⟨1, 2147483648, a, q + 1, qL + r1, true, b, c, L - r1, d, false⟩ = 64 := by
      intro a b c d; unfold burst; dsimp only; rw [if_neg (by omega)]
    unfold moveE canE onE
    rw [hb]
    dsimp only
    rw [if_neg (by rw [show inB 2 (2147484672 + r1) 64 = true from decide_eq_true (by omega), show inB 2 (2147485696 + r1) 64 = true from decide_eq_true (by omega)]; decide), if_pos (by omega)]
    unfold rdS
    rw [if_neg (by omega), hqL, hnx]
    unfold m32
    rw [show 64 * (rr + 1 - 1) = r1 + 64 by omega, show (2147484672 + r1 + 64) % 4294967296 = 2147484672 + (r1 + 64) by omega, show (2147485696 + r1 + 64) % 4294967296 = 2147485696 + (r1 + 64) by omega, show (qL + r1 + 64) % 4294967296 = qL + (r1 + 64) by omega, show L - r1 - 64 = L - (r1 + 64) by omega]
  · rw [if_neg hc]
    have hb : ∀ a b c d, burst ⟨1, 2147483648, a, q + 1, qL + r1, true, b, c, L - r1, d, false⟩ = L - r1 := by
      intro a b c d; unfold burst; dsimp only; rw [if_pos (by omega)]
    unfold moveE canE onE
    rw [hb]
    dsimp only
    rw [if_neg (by rw [show inB 2 (2147484672 + r1) (L - r1) = true from decide_eq_true (by omega), show inB 2 (2147485696 + r1) (L - r1) = true from decide_eq_true (by omega)]; decide), if_neg (by omega), if_neg (by omega)]
    rw [rdS_0, hnx, hq1]
    unfold noOrd m32
    dsimp only
    rw [show (qL + r1 + (L - r1)) % 4294967296 = qL + L by omega]
theorem rd_last {k L : Nat} (hk : 1 ≤ k) (hL : 1 ≤ L) (hL2 : L ≤ 100) (f : Nat → Nat) : tickE (rdS k L 64 0) f 2 = endE (rdS k L 64 0) 3 := by
  have hm := rdS_may (k := k) (rr := 0) hL hL2 (Nat.le_refl 64) (by unfold perO; omega) (fun _ => rfl)
  have hg := goes_of hm (rdS_cd k L 64 0)
  unfold tickE
  rw [hg, if_pos rfl, rdS_0, if_neg (show ¬ (false = true) by decide)]
  unfold takeE
  rw [if_pos rfl]
theorem rd_first (k L : Nat) : rdS k L 0 0 = ⟨1, 2147483648, 2147483648, 0, 0, false, 0, 0, 0, 0, false⟩ := by rw [rdS_0, Nat.zero_mod, Nat.zero_mul]
end Go.Proofs.YtalcgipcephnnaaDoor
namespace Go.Proofs.YtalcgipcephnnaaDoor
open Go.RowKit
set_option linter.unusedVariables false
set_option linter.unusedSimpArgs false

attribute [local go_sem] E.at0 E.at1 E.at2 E.at3 E.at4 E.at5 E.at6 E.at7 E.at8 E.at9 E.at10
theorem round_one {f : Nat → Nat} {i L : Nat} (h1 : i = 1) (h : ∀ j, j < i → OrdOk f i L j) : ∀ j, j < i → OrdOk (wroteF f 12 (numB 2147483648 4)) i L j := by
  intro j hj
  obtain rfl : j = 0 := by omega
  have h0 := h 0 hj
  subst h1
  exact ⟨(numF_before (by decide)).trans h0.fr, (numF_before (by decide)).trans h0.tt, (numF_before (by decide)).trans h0.lf, numF_here f 12 2147483648 (by decide)⟩
set_option maxRecDepth 20000 in
set_option maxHeartbeats 4000000 in
theorem round_walk (z1 z2 : Int) (w : World) (hA : AreasAt w) :
    Calls Tryd.prog 7 #[.int .i64 z1, .int .i64 z2] w fun e w' => e = .returned (.bool true) ∧ Below w.heap.size w w' := by
  have HN : Hid (Calls Tryd.prog 23 #[.int .i64 2] w fun e w' => ∃ b O, e = .returned (.tuple #[.pointer (some ⟨b, 0, none⟩), .nilIface]) ∧ RamB w' w.heap.size b 2 (fun _ => 0) 0 O ∧ Below w.heap.size w w') := hide (new_b 2 (by decide) (by decide) w)
  obtain ⟨B, hB⟩ : ∃ B, w.heap.size = B := ⟨_, rfl⟩
  have hG : 1 < B := hB ▸ hA.lt
  rw [hB] at HN ⊢
  have hA0 := hA
  clear hA
  have HSu : Hid (∀ W, AreasAt W → Calls Tryd.prog 16 #[] W fun e w' => e = .returned (.bool true) ∧ Below W.heap.size W w') := hide (fun W hA => sure_any W hA)
  obtain ⟨k0, hk0⟩ : ∃ T : Nat, (z2 % 18446744073709551616 % ((4 : Nat) : Int)).toNat = T := ⟨_, rfl⟩
  have hk04 : k0 < 4 := by omega
  have htk : wrap64 ((IntKind.u64.wrap z2).tmod 4) = (k0 : Int) := by rw [← hk0]; exact ticks_eq z2 4 (by decide) (by decide)
  obtain ⟨l0, hl0⟩ : ∃ T : Nat, (z1 % 18446744073709551616 % ((100 : Nat) : Int)).toNat = T := ⟨_, rfl⟩
  have hl04 : l0 < 100 := by omega
  have htl : wrap64 ((IntKind.u64.wrap z1).tmod 100) = (l0 : Int) := by rw [← hl0]; exact ticks_eq z1 100 (by decide) (by decide)
  obtain ⟨k, hk⟩ : ∃ k, 1 + k0 = k := ⟨_, rfl⟩
  obtain ⟨L, hL⟩ : ∃ k, 1 + l0 = k := ⟨_, rfl⟩
  have ek : (1 : Int) + (k0 : Int) = (k : Int) := by omega
  have eL : (1 : Int) + (l0 : Int) = (L : Int) := by omega
  have hk1 : 1 ≤ k := by omega
  have hk4 : k ≤ 4 := by omega
  have hL1 : 1 ≤ L := by omega
  have hL2 : L ≤ 100 := by omega
  clear hk0 hl0 hk hL hk04 hl04
  have HS : Hid (∀ W O1 (f : Nat → Nat) (c b : Nat) (z v : Int) (a n : Nat), RamB W B b 2 f c O1 → z = (a : Int) → v = (n : Int) → a % 4 = 0 → a + 4 ≤ 8192 → n < 4294967296 → c ≤ 1000 → Calls Tryd.prog 24 #[.pointer (some ⟨b, 0, none⟩), .int .u32 z, .int .i64 4, .int .u32 v] W fun e w' => e = .returned .nilIface ∧ ∃ O', RamB w' B b 2 (wroteF f a (numB n 4)) (c + 1) O' ∧ Went B O1 O' W w') := hide (fun W O1 f c b z v a n hM hz hv h1 h2 h3 h4 => by
    rw [hz, hv]; exact store_b hM a 4 (by omega) (by decide) h1 (by omega) n h3 (by omega))
  go_enter Tryd.func7, Tryd.ntmps7
  go_wp2_with (first | (go_at_call 23; refine HN.out.mono ?_; rintro e W ⟨b, O, rfl, hM, hb⟩))
  clear htk htl
  go_loopw [9] (fun iv wr => ∃ (i : Nat) (f : Nat → Nat) (O : Nat → Prop), i ≤ k ∧ iv = .int .i64 (i : Nat) ∧ RamB wr B b 2 f (4 * i) O ∧ (∀ j, j < i → OrdOk f k L j) ∧ Below B w wr) (fun iv _ => k - (intOf iv).toNat)
  case atStart => exact ⟨0, _, O, Nat.zero_le _, rfl, hM, fun j hj => absurd hj (by omega), hb⟩
  case round =>
    clear hM hb
    obtain ⟨i, f, O, hi, rfl, hM, hO, hb⟩ := hrel
    have HO := hide hO
    clear hO
    by_cases hlt : i < k
    · have lt1 : (i : Int) < (k : Int) := by omega
      obtain ⟨nx, hnx⟩ : ∃ x, (i + 1) % k = x := ⟨_, rfl⟩
      have hnk : nx < k := hnx ▸ Nat.mod_lt _ hk1
      have emod : ((i : Int) + 1).tmod (k : Int) = (nx : Int) := by
        rw [← hnx, Int.tmod_eq_emod_of_nonneg (by omega), Int.natCast_emod]; rfl
      have hkz : (k : Int) ≠ 0 := by omega
      have HX := hide hnx
      clear hnx
      have hi4 : i < 4 := by omega
      go_wp2_with (first | (go_at_call 24; (with_reducible refine (HS.out _ _ _ _ _ _ _ (16 * i) (2147484672) hM ?_ ?_ ?_ ?_ ?_ ?_).mono ?_); (first | omega | (simp; omega)); (first | omega | (simp; omega)); omega; omega; omega; omega; rintro e W2 ⟨rfl, O2, hM2, hW2⟩; replace hb := hb.trans hW2.below; replace hM := hM2; clear hM2 hW2) | (go_at_call 24; (with_reducible refine (HS.out _ _ _ _ _ _ _ (16 * i + 4) (2147485696) hM ?_ ?_ ?_ ?_ ?_ ?_).mono ?_); (first | omega | (simp; omega)); (first | omega | (simp; omega)); omega; omega; omega; omega; rintro e W2 ⟨rfl, O2, hM2, hW2⟩; replace hb := hb.trans hW2.below; replace hM := hM2; clear hM2 hW2) | (go_at_call 24; (with_reducible refine (HS.out _ _ _ _ _ _ _ (16 * i + 8) (L) hM ?_ ?_ ?_ ?_ ?_ ?_).mono ?_); (first | omega | (simp; omega)); (first | omega | (simp; omega)); omega; omega; omega; omega; rintro e W2 ⟨rfl, O2, hM2, hW2⟩; replace hb := hb.trans hW2.below; replace hM := hM2; clear hM2 hW2) | (go_at_call 24; (with_reducible refine (HS.out _ _ _ _ _ _ _ (16 * i + 12) (2147483648 + 16 * nx) hM ?_ ?_ ?_ ?_ ?_ ?_).mono ?_); (first | omega | (simp; omega)); (first | omega | (simp; omega)); omega; omega; omega; omega; rintro e W2 ⟨rfl, O2, hM2, hW2⟩; replace hb := hb.trans hW2.below; replace hM := hM2; clear hM2 hW2))
      go_roundw
      case rel =>
        rw [show 4 * i + 1 + 1 + 1 + 1 = 4 * (i + 1) by omega] at hM
        refine ⟨i + 1, _, _, hlt, by go_num, hM, ?_, hb⟩
        · intro j hj
          by_cases hji : j = i
          · subst hji
            have e4 : ∀ v, (numB v 4).length = 4 := fun v => numB_len v 4
            refine ⟨?_, ?_, ?_, ?_⟩
            · rw [numF_before (by omega), numF_before (by omega), numF_before (by omega), numF_here _ _ _ (by decide)]
            · rw [numF_before (by omega), numF_before (by omega), numF_here _ _ _ (by decide)]
            · rw [numF_before (by omega), numF_here _ _ _ (by omega)]
            · rw [numF_here _ _ _ (by omega), HX.out]
          · exact ((((HO.out j (by omega)).past (by omega)).past (by omega)).past (by omega)).past (by omega)
      case measure => simp [intOf]; omega
    · obtain rfl : i = k := by omega
      have hO := HO.out
      clear HO
      have e1 : decide ((i : Int) < (i : Int)) = false := by simp
      by_cases hone : i = 1
      · have to1 : ((i : Int) == 1) = true := (castq i 1).trans (by simp [hone])
        go_wp2_with (first | (go_at_call 24; (with_reducible refine (HS.out _ _ _ _ _ _ _ 12 2147483648 hM ?_ ?_ ?_ ?_ ?_ ?_).mono ?_); omega; omega; omega; omega; omega; omega; rintro e W2 ⟨rfl, O2, hM2, hW2⟩; replace hb := hb.trans hW2.below; replace hM := hM2; clear hM2 hW2; have HO2 := hide (round_one hone hO); clear hO))
        have HDW : Hid (∀ W, AreasAt W → Calls Tryd.prog 11 #[.agg sE0.cells, .int .u32 0, .int .u32 1] W fun e w' => e = .returned (.tuple #[.agg (rdS i L 0 0).cells, .nilIface]) ∧ Below W.heap.size W w') := hide (fun W hA => by
          have h := ewrite_any sE0 0 1 (by decide) W hA
          rw [s_write, s_acc, show sE1 = rdS i L 0 0 from (rd_first i L).symm] at h
          exact h)
        go_wp2_with (first | (go_at_call 11; have hAq := hA0.low hb hG; (refine (HDW.out _ hAq).mono ?_); rintro e W ⟨rfl, hbc⟩; clear hAq; have hBM := hM.base; replace hb := hb.trans (hbc.mono hBM); replace hM := hM.bl hbc; obtain ⟨NX, hNX0⟩ : ∃ n, W.heap.size = n := ⟨_, rfl⟩; have hNX := hide hNX0; have hNB : B ≤ NX := hNX0 ▸ hM.base; have hnx : ¬ O2 NX := (fun e => absurd (hM.lt _ e) (by omega)); clear hNX0 hbc) | ((with_reducible refine al_ep NX ?_ ?_); exact hNX.out; intro W hx hb' hz2; replace hb := hb.trans (hb'.mono hNB); replace hM := hM.bl (hNX.out ▸ hb'); clear hb' hz2) | ((with_reducible refine st_ep NX _ (rdS i L 0 0) hx ?_ ?_ ?_); exact rfl; exact rfl; intro W hnew hoo; replace hM := hM.only hoo hnx; replace hb := hoo.bel _ _ hNB hb; replace hx := hnew; clear hnew hoo))
        clear hNX HDW
        go_loopw [13] (fun iv wr => ∃ (t : Nat) (x : E) (f : Nat → Nat) (O : Nat → Prop), iv = .int .i64 (t : Nat) ∧ RamB wr B b 2 f (200 + t) O ∧ RowAt wr NX x.cells 29 ∧ ¬ O NX ∧ Below B w wr ∧ ((∃ q rr, q ≤ 64 ∧ rr < perO L ∧ (q = 64 → rr = 0) ∧ t = perO L * q + rr ∧ x = rdS i L q rr ∧ ∀ j, j < i → OrdOk f i L j) ∨ (t = perO L * 64 + 1 ∧ x = endE (rdS i L 64 0) 3))) (fun iv _ => 300 - (intOf iv).toNat)
        case atStart => exact ⟨0, _, _, O2, rfl, hM.more (by omega), hx, hnx, hb, .inl ⟨0, 0, by omega, by (unfold perO; omega), fun _ => rfl, by simp, rfl, HO2.out⟩⟩
        case round =>
          clear hM hx hnx hb HO2
          obtain ⟨t, x, f, O, rfl, hM, hx, hnx, hb, hcase⟩ := hrel
          have hA := hA0.low (hB ▸ hb) (hB ▸ hG)
          have hper : perO L = 2 ∨ perO L = 3 := by unfold perO; omega
          obtain ⟨per, hpe⟩ : ∃ p, perO L = p := ⟨_, rfl⟩
          rcases hcase with ⟨q, rr, hq, hrr, hq0, ht, hxe, hO⟩ | ⟨ht, hxe⟩
          · have okx : x.Ok := hxe ▸ rdS_ok hk1 hk4 hL2 hq hrr
            have hcd : x.cd = 1 := by rw [hxe]; exact rdS_cd i L q rr
            have tc : ((x.cd : Int) == 1) = true := (castq x.cd 1).trans (by simp [hcd])
            have ht3 : t ≤ per * 64 := by
              rw [ht, hpe]
              rw [hpe] at hrr
              rcases Nat.lt_or_ge q 64 with e | e
              · have := Nat.mul_le_mul_left per (show q + 1 ≤ 64 by omega)
                rw [Nat.mul_succ] at this; omega
              · have e2 : q = 64 := by omega
                rw [hq0 e2, e2]; omega
            rw [hpe] at hper
            have ht4 : t < 300 := by rcases hper with e | e <;> (rw [e] at ht3; omega)
            have lt1 : (t : Int) < 300 := by omega
            have HT : Hid (∀ W O1, RamB W B b 2 f (200 + t) O1 → AreasAt W → Calls Tryd.prog 18 #[.agg x.cells, .pointer (some ⟨b, 0, none⟩)] W fun e w' => e = .returned (.agg (tickE x f 2).cells) ∧ ∃ O', RamB w' B b 2 (tickF x f 2) (200 + t + 1) O' ∧ Went B O1 O' W w') := hide (fun W O1 hM hA => etick_any x okx hM hA hG (by omega))
            have hnext : (∃ q2 r2, q2 ≤ 64 ∧ r2 < perO L ∧ (q2 = 64 → r2 = 0) ∧ t + 1 = perO L * q2 + r2 ∧ tickE x f 2 = rdS i L q2 r2 ∧ ∀ j, j < i → OrdOk (tickF x f 2) i L j) ∨ (t + 1 = perO L * 64 + 1 ∧ tickE x f 2 = endE (rdS i L 64 0) 3) := by
              rw [hxe]
              rcases Nat.lt_or_ge q 64 with e | e
              · left
                have hF : ∀ j, j < i → OrdOk (tickF (rdS i L q rr) f 2) i L j := fun j hj => rd_tickF hL1 hL2 hrr f (by omega) (hO j hj)
                by_cases hr0 : rr = 0
                · subst hr0
                  exact ⟨q, 1, hq, by (unfold perO; omega), fun e2 => absurd e2 (by omega), by omega, rd_take hk1 hk4 hL1 hL2 e f hO, hF⟩
                · have hmv := rd_move (k := i) hk1 hk4 hL1 hL2 e hr0 hrr f
                  by_cases hc : rr + 1 < perO L
                  · rw [if_pos hc] at hmv
                    exact ⟨q, rr + 1, hq, hc, fun e2 => absurd e2 (by omega), by omega, hmv, hF⟩
                  · rw [if_neg hc] at hmv
                    exact ⟨q + 1, 0, by omega, by omega, fun _ => rfl, by (rw [Nat.mul_succ]; omega), hmv, hF⟩
              · right
                have e2 : q = 64 := by omega
                have e3 := hq0 e2
                subst e2; subst e3
                exact ⟨by omega, rd_last hk1 hL1 hL2 f⟩
            obtain ⟨z, hz⟩ : ∃ z, tickE x f 2 = z := ⟨_, rfl⟩
            obtain ⟨f2, hf2⟩ : ∃ z, tickF x f 2 = z := ⟨_, rfl⟩
            rw [hz, hf2] at HT hnext
            have HNX := hide hnext
            clear hz hf2 hnext hO hxe ht hcd ht3 hper hpe hq0
            have fx := hx.cell
            go_wp2_with (first | ((with_reducible refine ld_ep NX _ hx ?_ ?_ ?_); exact rfl; exact rfl) | (go_at_call 18; (with_reducible refine (HT.out _ _ hM hA).mono ?_); rintro e W2 ⟨rfl, O3, hM3, hW3⟩; have n1 := hW3.no hx.lt hnx; replace hx := hW3.row hx hnx; replace fx := hx.cell; replace hb := hb.trans hW3.below; clear hM hnx hW3; have hM := hM3; have hnx := n1; clear hM3 n1) | ((with_reducible refine st_ep NX _ z hx ?_ ?_ ?_); exact rfl; exact rfl; intro W hnew hoo; replace hM := hM.only hoo hnx; replace hb := hoo.bel _ _ (by omega) hb; replace hx := hnew; replace fx := hx.cell; clear hnew hoo))
            go_roundw
            case rel => exact ⟨t + 1, z, f2, _, by go_num, by (rw [← Nat.add_assoc]; exact hM), hx, hnx, hb, HNX.out⟩
            case measure => simp [intOf]; omega
          · have x3 : x.cd = 3 := by rw [hxe]; rfl
            have xm : x.mv = 64 * L := by rw [hxe]; rfl
            have tc : ((x.cd : Int) == 1) = false := (castq x.cd 1).trans (by simp [x3])
            have tc3 : ((x.cd : Int) == 3) = true := (castq x.cd 3).trans (by simp [x3])
            have tm : ((x.mv : Int) == 64 * (L : Int)) = true := by rw [xm]; simp
            have hd64 : ((L : Int) + 63).tdiv 64 = (((L + 63) / 64 : Nat) : Int) := by rw [Int.tdiv_eq_ediv_of_nonneg (by omega)]; omega
            obtain ⟨d, hd⟩ : ∃ d, (L + 63) / 64 = d := ⟨_, rfl⟩
            rw [hd] at hd64
            have hdi : ((L : Int) + 63) / 64 = (d : Int) := by omega
            have hdd : d ≤ 2 := by omega
            have htd : t = (1 + d) * 64 + 1 := by rw [ht]; unfold perO; rw [hd]
            have tt2 : ((t : Int) == 64 * (1 + (d : Int)) + 1) = true := by rw [htd]; simp; omega
            clear htd ht hd hxe x3 xm hper hpe
            have fx := hx.cell
            go_wp2_with (first | (go_at_call 16; (with_reducible refine (HSu.out _ hA).mono ?_); rintro e W9 ⟨rfl, hbs⟩; replace hb := hb.trans (hbs.mono (by have := hb.size; omega))))
            go_ret
            exact ⟨rfl, hb⟩
      · have to1 : ((i : Int) == 1) = false := (castq i 1).trans (by simp [hone])
        have to2 : ¬ i = 1 := hone
        have HO2 := hide hO
        clear hO
        go_wp2_with (first | fail)
        have HDW : Hid (∀ W, AreasAt W → Calls Tryd.prog 11 #[.agg sE0.cells, .int .u32 0, .int .u32 1] W fun e w' => e = .returned (.tuple #[.agg (rdS i L 0 0).cells, .nilIface]) ∧ Below W.heap.size W w') := hide (fun W hA => by
          have h := ewrite_any sE0 0 1 (by decide) W hA
          rw [s_write, s_acc, show sE1 = rdS i L 0 0 from (rd_first i L).symm] at h
          exact h)
        go_wp2_with (first | (go_at_call 11; have hAq := hA0.low hb hG; (refine (HDW.out _ hAq).mono ?_); rintro e W ⟨rfl, hbc⟩; clear hAq; have hBM := hM.base; replace hb := hb.trans (hbc.mono hBM); replace hM := hM.bl hbc; obtain ⟨NX, hNX0⟩ : ∃ n, W.heap.size = n := ⟨_, rfl⟩; have hNX := hide hNX0; have hNB : B ≤ NX := hNX0 ▸ hM.base; have hnx : ¬ O NX := (fun e => absurd (hM.lt _ e) (by omega)); clear hNX0 hbc) | ((with_reducible refine al_ep NX ?_ ?_); exact hNX.out; intro W hx hb' hz2; replace hb := hb.trans (hb'.mono hNB); replace hM := hM.bl (hNX.out ▸ hb'); clear hb' hz2) | ((with_reducible refine st_ep NX _ (rdS i L 0 0) hx ?_ ?_ ?_); exact rfl; exact rfl; intro W hnew hoo; replace hM := hM.only hoo hnx; replace hb := hoo.bel _ _ hNB hb; replace hx := hnew; clear hnew hoo))
        clear hNX HDW
        go_loopw [13] (fun iv wr => ∃ (t : Nat) (x : E) (f : Nat → Nat) (O : Nat → Prop), iv = .int .i64 (t : Nat) ∧ RamB wr B b 2 f (200 + t) O ∧ RowAt wr NX x.cells 29 ∧ ¬ O NX ∧ Below B w wr ∧ ((∃ q rr, q ≤ 64 ∧ rr < perO L ∧ (q = 64 → rr = 0) ∧ t = perO L * q + rr ∧ x = rdS i L q rr ∧ ∀ j, j < i → OrdOk f i L j) ∨ (t = perO L * 64 + 1 ∧ x = endE (rdS i L 64 0) 3))) (fun iv _ => 300 - (intOf iv).toNat)
        case atStart => exact ⟨0, _, _, O, rfl, hM.more (by omega), hx, hnx, hb, .inl ⟨0, 0, by omega, by (unfold perO; omega), fun _ => rfl, by simp, rfl, HO2.out⟩⟩
        case round =>
          clear hM hx hnx hb HO2
          obtain ⟨t, x, f, O, rfl, hM, hx, hnx, hb, hcase⟩ := hrel
          have hA := hA0.low (hB ▸ hb) (hB ▸ hG)
          have hper : perO L = 2 ∨ perO L = 3 := by unfold perO; omega
          obtain ⟨per, hpe⟩ : ∃ p, perO L = p := ⟨_, rfl⟩
          rcases hcase with ⟨q, rr, hq, hrr, hq0, ht, hxe, hO⟩ | ⟨ht, hxe⟩
          · have okx : x.Ok := hxe ▸ rdS_ok hk1 hk4 hL2 hq hrr
            have hcd : x.cd = 1 := by rw [hxe]; exact rdS_cd i L q rr
            have tc : ((x.cd : Int) == 1) = true := (castq x.cd 1).trans (by simp [hcd])
            have ht3 : t ≤ per * 64 := by
              rw [ht, hpe]
              rw [hpe] at hrr
              rcases Nat.lt_or_ge q 64 with e | e
              · have := Nat.mul_le_mul_left per (show q + 1 ≤ 64 by omega)
                rw [Nat.mul_succ] at this; omega
              · have e2 : q = 64 := by omega
                rw [hq0 e2, e2]; omega
            rw [hpe] at hper
            have ht4 : t < 300 := by rcases hper with e | e <;> (rw [e] at ht3; omega)
            have lt1 : (t : Int) < 300 := by omega
            have HT : Hid (∀ W O1, RamB W B b 2 f (200 + t) O1 → AreasAt W → Calls Tryd.prog 18 #[.agg x.cells, .pointer (some ⟨b, 0, none⟩)] W fun e w' => e = .returned (.agg (tickE x f 2).cells) ∧ ∃ O', RamB w' B b 2 (tickF x f 2) (200 + t + 1) O' ∧ Went B O1 O' W w') := hide (fun W O1 hM hA => etick_any x okx hM hA hG (by omega))
            have hnext : (∃ q2 r2, q2 ≤ 64 ∧ r2 < perO L ∧ (q2 = 64 → r2 = 0) ∧ t + 1 = perO L * q2 + r2 ∧ tickE x f 2 = rdS i L q2 r2 ∧ ∀ j, j < i → OrdOk (tickF x f 2) i L j) ∨ (t + 1 = perO L * 64 + 1 ∧ tickE x f 2 = endE (rdS i L 64 0) 3) := by
              rw [hxe]
              rcases Nat.lt_or_ge q 64 with e | e
              · left
                have hF : ∀ j, j < i → OrdOk (tickF (rdS i L q rr) f 2) i L j := fun j hj => rd_tickF hL1 hL2 hrr f (by omega) (hO j hj)
                by_cases hr0 : rr = 0
                · subst hr0
                  exact ⟨q, 1, hq, by (unfold perO; omega), fun e2 => absurd e2 (by omega), by omega, rd_take hk1 hk4 hL1 hL2 e f hO, hF⟩
                · have hmv := rd_move (k := i) hk1 hk4 hL1 hL2 e hr0 hrr f
                  by_cases hc : rr + 1 < perO L
                  · rw [if_pos hc] at hmv
                    exact ⟨q, rr + 1, hq, hc, fun e2 => absurd e2 (by omega), by omega, hmv, hF⟩
                  · rw [if_neg hc] at hmv
                    exact ⟨q + 1, 0, by omega, by omega, fun _ => rfl, by (rw [Nat.mul_succ]; omega), hmv, hF⟩
              · right
                have e2 : q = 64 := by omega
                have e3 := hq0 e2
                subst e2; subst e3
                exact ⟨by omega, rd_last hk1 hL1 hL2 f⟩
            obtain ⟨z, hz⟩ : ∃ z, tickE x f 2 = z := ⟨_, rfl⟩
            obtain ⟨f2, hf2⟩ : ∃ z, tickF x f 2 = z := ⟨_, rfl⟩
            rw [hz, hf2] at HT hnext
            have HNX := hide hnext
            clear hz hf2 hnext hO hxe ht hcd ht3 hper hpe hq0
            have fx := hx.cell
            go_wp2_with (first | ((with_reducible refine ld_ep NX _ hx ?_ ?_ ?_); exact rfl; exact rfl) | (go_at_call 18; (with_reducible refine (HT.out _ _ hM hA).mono ?_); rintro e W2 ⟨rfl, O3, hM3, hW3⟩; have n1 := hW3.no hx.lt hnx; replace hx := hW3.row hx hnx; replace fx := hx.cell; replace hb := hb.trans hW3.below; clear hM hnx hW3; have hM := hM3; have hnx := n1; clear hM3 n1) | ((with_reducible refine st_ep NX _ z hx ?_ ?_ ?_); exact rfl; exact rfl; intro W hnew hoo; replace hM := hM.only hoo hnx; replace hb := hoo.bel _ _ (by omega) hb; replace hx := hnew; replace fx := hx.cell; clear hnew hoo))
            go_roundw
            case rel => exact ⟨t + 1, z, f2, _, by go_num, by (rw [← Nat.add_assoc]; exact hM), hx, hnx, hb, HNX.out⟩
            case measure => simp [intOf]; omega
          · have x3 : x.cd = 3 := by rw [hxe]; rfl
            have xm : x.mv = 64 * L := by rw [hxe]; rfl
            have tc : ((x.cd : Int) == 1) = false := (castq x.cd 1).trans (by simp [x3])
            have tc3 : ((x.cd : Int) == 3) = true := (castq x.cd 3).trans (by simp [x3])
            have tm : ((x.mv : Int) == 64 * (L : Int)) = true := by rw [xm]; simp
            have hd64 : ((L : Int) + 63).tdiv 64 = (((L + 63) / 64 : Nat) : Int) := by rw [Int.tdiv_eq_ediv_of_nonneg (by omega)]; omega
            obtain ⟨d, hd⟩ : ∃ d, (L + 63) / 64 = d := ⟨_, rfl⟩
            rw [hd] at hd64
            have hdi : ((L : Int) + 63) / 64 = (d : Int) := by omega
            have hdd : d ≤ 2 := by omega
            have htd : t = (1 + d) * 64 + 1 := by rw [ht]; unfold perO; rw [hd]
            have tt2 : ((t : Int) == 64 * (1 + (d : Int)) + 1) = true := by rw [htd]; simp; omega
            clear htd ht hd hxe x3 xm hper hpe
            have fx := hx.cell
            go_wp2_with (first | (go_at_call 16; (with_reducible refine (HSu.out _ hA).mono ?_); rintro e W9 ⟨rfl, hbs⟩; replace hb := hb.trans (hbs.mono (by have := hb.size; omega))))
            go_ret
            exact ⟨rfl, hb⟩
end Go.Proofs.YtalcgipcephnnaaDoor
