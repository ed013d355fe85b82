/-
  CsrBack, put together: what is written is read again, as far as the register holds it; all others stay. Plain numbers first.
-/
import Derived.Test.YtchlomnkjilmeaaCsBackW
import Derived.Test.YtchlomnkjilmeaaCsMath2
namespace Go.Proofs.Ytchlomnkjilmeaa
open Go.RowKit
set_option linter.unusedVariables false

def regI : Nat → Int
  | 0 => 768 | 1 => 772 | 2 => 773 | 3 => 832 | 4 => 833 | 5 => 834 | 6 => 835 | 7 => 2816 | _ => 2944
def holdN : Nat → Nat
  | 0 => 136 | 1 => 2184 | 2 => 4294967293 | 3 => 4294967295 | 4 => 4294967292 | _ => 4294967295
def rd (s : S8) : Nat → Nat
  | 0 => s.st ||| 6144 | 1 => s.en | 2 => s.ve | 3 => s.sc | 4 => s.ep | 5 => s.ca | 6 => s.va | 7 => s.ct % 4294967296 | _ => s.ct / 4294967296
def wrt (s : S8) (v : Nat) : Nat → S8
  | 0 => ⟨v &&& 136, s.en, s.ve, s.sc, s.ep, s.ca, s.va, s.ct⟩
  | 1 => ⟨s.st, v &&& 2184, s.ve, s.sc, s.ep, s.ca, s.va, s.ct⟩
  | 2 => ⟨s.st, s.en, v &&& 4294967293, s.sc, s.ep, s.ca, s.va, s.ct⟩
  | 3 => ⟨s.st, s.en, s.ve, v, s.ep, s.ca, s.va, s.ct⟩
  | 4 => ⟨s.st, s.en, s.ve, s.sc, v &&& 4294967292, s.ca, s.va, s.ct⟩
  | 5 => ⟨s.st, s.en, s.ve, s.sc, s.ep, v, s.va, s.ct⟩
  | 6 => ⟨s.st, s.en, s.ve, s.sc, s.ep, s.ca, v, s.ct⟩
  | 7 => ⟨s.st, s.en, s.ve, s.sc, s.ep, s.ca, s.va, s.ct / 4294967296 * 4294967296 + v⟩
  | _ => ⟨s.st, s.en, s.ve, s.sc, s.ep, s.ca, s.va, v * 4294967296 + s.ct % 4294967296⟩

theorem nine (P : Nat → Prop) (h0 : P 0) (h1 : P 1) (h2 : P 2) (h3 : P 3) (h4 : P 4) (h5 : P 5) (h6 : P 6) (h7 : P 7) (h8 : P 8) (j : Nat) (h : j < 9) : P j := by
  have : j = 0 ∨ j = 1 ∨ j = 2 ∨ j = 3 ∨ j = 4 ∨ j = 5 ∨ j = 6 ∨ j = 7 ∨ j = 8 := by omega
  rcases this with rfl | rfl | rfl | rfl | rfl | rfl | rfl | rfl | rfl <;> assumption
theorem read_reg (s : S8) (j : Nat) (h : j < 9) : readN s (regI j) 0 = some (rd s j) := by
  refine nine (fun j => readN s (regI j) 0 = some (rd s j)) ?_ ?_ ?_ ?_ ?_ ?_ ?_ ?_ ?_ j h <;> simp [readN, regI, rd]
theorem write_reg (s : S8) (v i : Nat) (h : i < 9) : writeN s (regI i) v = (wrt s v i, 0) := by
  refine nine (fun i => writeN s (regI i) v = (wrt s v i, 0)) ?_ ?_ ?_ ?_ ?_ ?_ ?_ ?_ ?_ i h <;> simp [writeN, regI, wrt]
theorem high_of (c v : Nat) (hv : v < 4294967296) : (c / 4294967296 * 4294967296 + v) / 4294967296 = c / 4294967296 := by omega
theorem low_of (c v : Nat) : (v * 4294967296 + c % 4294967296) % 4294967296 = c % 4294967296 := by omega
theorem low_own (c v : Nat) (hv : v < 4294967296) : (c / 4294967296 * 4294967296 + v) % 4294967296 = v := by omega
theorem high_own (c v : Nat) : (v * 4294967296 + c % 4294967296) / 4294967296 = v := by omega
theorem rd_other (s : S8) (v : Nat) (hv : v < 4294967296) (i k : Nat) (hi : i < 9) (hk : k < 9) (hne : i ≠ k) : rd (wrt s v i) k = rd s k := by
  revert hne
  refine nine (fun i => i ≠ k → rd (wrt s v i) k = rd s k) ?_ ?_ ?_ ?_ ?_ ?_ ?_ ?_ ?_ i hi
  · refine nine (fun k => 0 ≠ k → rd (wrt s v 0) k = rd s k) ?_ ?_ ?_ ?_ ?_ ?_ ?_ ?_ ?_ k hk
    · exact fun h => absurd rfl h
    · intro _; simp only [rd, wrt]
    · intro _; simp only [rd, wrt]
    · intro _; simp only [rd, wrt]
    · intro _; simp only [rd, wrt]
    · intro _; simp only [rd, wrt]
    · intro _; simp only [rd, wrt]
    · intro _; simp only [rd, wrt]
    · intro _; simp only [rd, wrt]
  · refine nine (fun k => 1 ≠ k → rd (wrt s v 1) k = rd s k) ?_ ?_ ?_ ?_ ?_ ?_ ?_ ?_ ?_ k hk
    · intro _; simp only [rd, wrt]
    · exact fun h => absurd rfl h
    · intro _; simp only [rd, wrt]
    · intro _; simp only [rd, wrt]
    · intro _; simp only [rd, wrt]
    · intro _; simp only [rd, wrt]
    · intro _; simp only [rd, wrt]
    · intro _; simp only [rd, wrt]
    · intro _; simp only [rd, wrt]
  · refine nine (fun k => 2 ≠ k → rd (wrt s v 2) k = rd s k) ?_ ?_ ?_ ?_ ?_ ?_ ?_ ?_ ?_ k hk
    · intro _; simp only [rd, wrt]
    · intro _; simp only [rd, wrt]
    · exact fun h => absurd rfl h
    · intro _; simp only [rd, wrt]
    · intro _; simp only [rd, wrt]
    · intro _; simp only [rd, wrt]
    · intro _; simp only [rd, wrt]
    · intro _; simp only [rd, wrt]
    · intro _; simp only [rd, wrt]
  · refine nine (fun k => 3 ≠ k → rd (wrt s v 3) k = rd s k) ?_ ?_ ?_ ?_ ?_ ?_ ?_ ?_ ?_ k hk
    · intro _; simp only [rd, wrt]
    · intro _; simp only [rd, wrt]
    · intro _; simp only [rd, wrt]
    · exact fun h => absurd rfl h
    · intro _; simp only [rd, wrt]
    · intro _; simp only [rd, wrt]
    · intro _; simp only [rd, wrt]
    · intro _; simp only [rd, wrt]
    · intro _; simp only [rd, wrt]
  · refine nine (fun k => 4 ≠ k → rd (wrt s v 4) k = rd s k) ?_ ?_ ?_ ?_ ?_ ?_ ?_ ?_ ?_ k hk
    · intro _; simp only [rd, wrt]
    · intro _; simp only [rd, wrt]
    · intro _; simp only [rd, wrt]
    · intro _; simp only [rd, wrt]
    · exact fun h => absurd rfl h
    · intro _; simp only [rd, wrt]
    · intro _; simp only [rd, wrt]
    · intro _; simp only [rd, wrt]
    · intro _; simp only [rd, wrt]
  · refine nine (fun k => 5 ≠ k → rd (wrt s v 5) k = rd s k) ?_ ?_ ?_ ?_ ?_ ?_ ?_ ?_ ?_ k hk
    · intro _; simp only [rd, wrt]
    · intro _; simp only [rd, wrt]
    · intro _; simp only [rd, wrt]
    · intro _; simp only [rd, wrt]
    · intro _; simp only [rd, wrt]
    · exact fun h => absurd rfl h
    · intro _; simp only [rd, wrt]
    · intro _; simp only [rd, wrt]
    · intro _; simp only [rd, wrt]
  · refine nine (fun k => 6 ≠ k → rd (wrt s v 6) k = rd s k) ?_ ?_ ?_ ?_ ?_ ?_ ?_ ?_ ?_ k hk
    · intro _; simp only [rd, wrt]
    · intro _; simp only [rd, wrt]
    · intro _; simp only [rd, wrt]
    · intro _; simp only [rd, wrt]
    · intro _; simp only [rd, wrt]
    · intro _; simp only [rd, wrt]
    · exact fun h => absurd rfl h
    · intro _; simp only [rd, wrt]
    · intro _; simp only [rd, wrt]
  · refine nine (fun k => 7 ≠ k → rd (wrt s v 7) k = rd s k) ?_ ?_ ?_ ?_ ?_ ?_ ?_ ?_ ?_ k hk
    · intro _; simp only [rd, wrt]
    · intro _; simp only [rd, wrt]
    · intro _; simp only [rd, wrt]
    · intro _; simp only [rd, wrt]
    · intro _; simp only [rd, wrt]
    · intro _; simp only [rd, wrt]
    · intro _; simp only [rd, wrt]
    · exact fun h => absurd rfl h
    · intro _; simp only [rd, wrt]; exact high_of _ _ hv
  · refine nine (fun k => 8 ≠ k → rd (wrt s v 8) k = rd s k) ?_ ?_ ?_ ?_ ?_ ?_ ?_ ?_ ?_ k hk
    · intro _; simp only [rd, wrt]
    · intro _; simp only [rd, wrt]
    · intro _; simp only [rd, wrt]
    · intro _; simp only [rd, wrt]
    · intro _; simp only [rd, wrt]
    · intro _; simp only [rd, wrt]
    · intro _; simp only [rd, wrt]
    · intro _; simp only [rd, wrt]; exact low_of _ _
    · exact fun h => absurd rfl h
theorem all_bits (v : Nat) (hv : v < 4294967296) : v &&& 4294967295 = v := by
  have := Nat.and_two_pow_sub_one_eq_mod v 32
  rw [show (2 ^ 32 - 1 : Nat) = 4294967295 from rfl] at this
  rw [this]; omega
theorem rd_own (s : S8) (v : Nat) (hv : v < 4294967296) (i : Nat) (hi : i < 9) (h0 : i ≠ 0) : rd (wrt s v i) i = v &&& holdN i := by
  revert h0
  refine nine (fun i => i ≠ 0 → rd (wrt s v i) i = v &&& holdN i) ?_ ?_ ?_ ?_ ?_ ?_ ?_ ?_ ?_ i hi
  all_goals intro h0
  · exact absurd rfl h0
  · simp only [rd, wrt, holdN]
  · simp only [rd, wrt, holdN]
  · simp only [rd, wrt, holdN]; exact (all_bits v hv).symm
  · simp only [rd, wrt, holdN]
  · simp only [rd, wrt, holdN]; exact (all_bits v hv).symm
  · simp only [rd, wrt, holdN]; exact (all_bits v hv).symm
  · simp only [rd, wrt, holdN]; rw [all_bits v hv]; exact low_own _ _ hv
  · simp only [rd, wrt, holdN]; rw [all_bits v hv]; exact high_own _ _
theorem k6144 : ∀ i, i < 32 → ((Nat.testBit 136 i || Nat.testBit 6144 i) && Nat.testBit 4294961151 i) = Nat.testBit 136 i := by decide +kernel
theorem k6144' : ∀ i, i < 32 → (Nat.testBit 6144 i && Nat.testBit 4294961151 i) = false := by decide +kernel
theorem k136 : ∀ i, i < 32 → Nat.testBit 136 i = true → Nat.testBit 4294961151 i = true := by decide +kernel
theorem own_zero (v : Nat) (hv : v < 4294967296) : ((v &&& 136) ||| 6144) &&& 4294961151 = v &&& 136 := by
  have hl : (v &&& 136) < 2 ^ 32 := Nat.lt_of_le_of_lt Nat.and_le_left hv
  refine word_ext _ _ (Nat.lt_of_le_of_lt Nat.and_le_left (Nat.or_lt_two_pow hl (by decide))) hl fun i hi => ?_
  have h1 := k6144' i hi
  have h2 := k136 i hi
  rw [Nat.testBit_and, Nat.testBit_or, Nat.testBit_and]
  cases e1 : Nat.testBit 136 i <;> cases e2 : Nat.testBit 6144 i <;> cases e3 : Nat.testBit 4294961151 i <;> cases e4 : v.testBit i <;> simp_all

theorem reg_a (j : Nat) (h : j < 9) : (#[.int .i64 768, .int .i64 772, .int .i64 773, .int .i64 832, .int .i64 833, .int .i64 834, .int .i64 835, .int .i64 2816, .int .i64 2944] : Array Value)[j]? = some (.int .i64 (regI j)) := by
  refine nine (fun j => (#[.int .i64 768, .int .i64 772, .int .i64 773, .int .i64 832, .int .i64 833, .int .i64 834, .int .i64 835, .int .i64 2816, .int .i64 2944] : Array Value)[j]? = some (.int .i64 (regI j))) ?_ ?_ ?_ ?_ ?_ ?_ ?_ ?_ ?_ j h <;> rfl
theorem hold_a (j : Nat) (h : j < 9) : (#[.int .u32 136, .int .u32 2184, .int .u32 4294967293, .int .u32 4294967295, .int .u32 4294967292, .int .u32 4294967295, .int .u32 4294967295, .int .u32 4294967295, .int .u32 4294967295] : Array Value)[j]? = some (.int .u32 (holdN j : Nat)) := by
  refine nine (fun j => (#[.int .u32 136, .int .u32 2184, .int .u32 4294967293, .int .u32 4294967295, .int .u32 4294967292, .int .u32 4294967295, .int .u32 4294967295, .int .u32 4294967295, .int .u32 4294967295] : Array Value)[j]? = some (.int .u32 (holdN j : Nat))) ?_ ?_ ?_ ?_ ?_ ?_ ?_ ?_ ?_ j h <;> rfl
theorem hold_lt (j : Nat) : holdN j < 4294967296 := by unfold holdN; split <;> decide
theorem wrt_ok (s : S8) (hs : s.Ok) (v : Nat) (hv : v < 4294967296) (i : Nat) (hi : i < 9) : (wrt s v i).Ok := by
  have h := writeN_ok hs (regI i) hv
  rw [write_reg s v i hi] at h
  exact h
theorem w64_nine (y : Int) (h0 : 0 ≤ y) (h1 : y < 9) : wrap64 y = y := by unfold wrap64; omega
theorem nine_of (z : Int) : ∃ i : Nat, i < 9 ∧ wrap64 ((IntKind.u64.wrap z).tmod 9) = (i : Int) := by
  have h0 : 0 ≤ IntKind.u64.wrap z := by rw [IntKind.wrap_u64]; omega
  have e : (IntKind.u64.wrap z).tmod 9 = IntKind.u64.wrap z % 9 := Int.tmod_eq_emod_of_nonneg h0
  rw [e]
  generalize IntKind.u64.wrap z = y at *
  refine ⟨(y % 9).toNat, by omega, ?_⟩
  rw [w64_nine (y % 9) (by omega) (by omega)]; omega

theorem back_walk (s : S8) (hs : s.Ok) (z0 z1 : Int) (v : Nat) (hv : v < 4294967296) (w : World) :
    Calls Try.prog 4 #[.agg s.cells, .agg #[.int .i64 z0, .int .i64 z1], .int .u32 v] w fun e w' => e = .returned (.bool true) ∧ Below w.heap.size w w' := by
  obtain ⟨i, hi, ezi⟩ := nine_of z0
  obtain ⟨k, hk, ezk⟩ := nine_of z1
  have hy := wrt_ok s hs v hv i hi
  have hW : ∀ w, Calls Try.prog 8 #[.agg s.cells, .int .i64 (regI i), .int .u32 v] w fun e w' => e = .returned (.tuple #[.agg (wrt s v i).cells, .nilIface]) ∧ ∃ o o', w' = (w.alloc o).alloc o' := fun w => by
    have h := write_any s hs (regI i) v hv w
    rw [write_reg s v i hi] at h
    exact h
  have hR : ∀ (t : S8) (ht : t.Ok) (j : Nat) (hj : j < 9) (w : World), Calls Try.prog 9 #[.agg t.cells, .int .i64 (regI j), .int .u32 ((0 : Nat) : Int)] w fun e w' => e = .returned (.tuple #[.int .u32 (rd t j : Nat), .nilIface]) ∧ Below w.heap.size w w' := fun t ht j hj w => by
    have h := Calls.bel1 (read_any t ht (regI j) 0 (by decide) w)
    rw [read_reg t j hj] at h
    exact h
  refine back_core s.st s.en s.ve s.sc s.ep s.ca s.va s.ct (wrt s v i).st (wrt s v i).en (wrt s v i).ve (wrt s v i).sc (wrt s v i).ep (wrt s v i).ca (wrt s v i).va (wrt s v i).ct v z0 z1 i k (regI i) (regI k) (holdN i : Nat) (rd (wrt s v i) i : Nat) (rd (wrt s v i) k : Nat) (rd s k : Nat) w hi hk (reg_a i hi) (reg_a k hk) (hold_a i hi) (hide ezi) (hide ezk) (hide hW) (hide (hR _ hy i hi)) (hide (hR _ hy k hk)) (hide (hR s hs k hk)) ((i : Int) == 0) ((i : Int) == (k : Int)) (hide rfl) (hide rfl) (hide fun h => ?_) (hide fun h => ?_) (hide fun h => ?_)
  · have h0 : i = 0 := by have := eq_of_beq h; omega
    subst h0
    have e1 : bits .andNot .u32 ((rd (wrt s v 0) 0 : Nat) : Int) ((6144 : Nat) : Int) = ((((v &&& 136) ||| 6144) &&& 4294961151 : Nat) : Int) := u32_andNot_nat ((v &&& 136) ||| 6144) 6144 (or_lt32 (and_lt hv) (by decide)) (by decide)
    have e2 : bits .and .u32 (v : Int) ((holdN 0 : Nat) : Int) = ((v &&& 136 : Nat) : Int) := u32_and_nat v 136 hv (by decide)
    rw [own_zero v hv] at e1
    rw [show ((6144 : Nat) : Int) = 6144 from rfl] at e1
    rw [e1, e2]; simp
  · have h0 : i ≠ 0 := fun e => by subst e; simp at h
    rw [u32_and_nat v (holdN i) hv (hold_lt i), rd_own s v hv i hi h0]; simp
  · have h0 : i ≠ k := fun e => by subst e; simp at h
    rw [rd_other s v hv i k hi hk h0]; simp
end Go.Proofs.Ytchlomnkjilmeaa
