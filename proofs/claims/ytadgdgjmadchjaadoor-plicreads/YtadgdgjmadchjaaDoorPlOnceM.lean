/-
  Plain numbers: a state that may be stays one; who is served is Busy, and who is Pending asked and is not Busy. No Go in sight.
-/
import Derived.Test.YtadgdgjmadchjaaDoorPlBestM
namespace Go.Proofs.YtadgdgjmadchjaaDoor
set_option linter.unusedVariables false

/-- A word that has no bits but the sources'. -/
def Srcs (x : Nat) : Prop := ∀ i, x.testBit i = true → 1 ≤ i ∧ i ≤ 7
theorem tb_mask (i : Nat) : (4294967041 : Nat).testBit i = (decide (i < 32) && !(decide (1 ≤ i) && decide (i ≤ 7))) := by
  by_cases h : i < 32
  · revert i; decide
  · rw [Nat.testBit_lt_two_pow (Nat.lt_of_lt_of_le (by decide : 4294967041 < 2 ^ 32) (Nat.pow_le_pow_right (by decide) (by omega))), decide_eq_false h]; rfl
theorem tb_src (i : Nat) : (254 : Nat).testBit i = (decide (1 ≤ i) && decide (i ≤ 7)) := by
  by_cases h : i < 8
  · revert i; decide
  · rw [Nat.testBit_lt_two_pow (Nat.lt_of_lt_of_le (by decide : 254 < 2 ^ 8) (Nat.pow_le_pow_right (by decide) (by omega))), decide_eq_false (show ¬ i ≤ 7 by omega), Bool.and_false]
theorem lt_of_tb {x i : Nat} (hx : x < 4294967296) (h : x.testBit i = true) : i < 32 := by
  rcases Nat.lt_or_ge i 32 with h' | h'
  · exact h'
  · rw [Nat.testBit_lt_two_pow (Nat.lt_of_lt_of_le hx (Nat.pow_le_pow_right (n := 2) (i := 32) (by decide) h'))] at h; cases h
theorem srcs_iff (x : Nat) (hx : x < 4294967296) : x &&& 4294967041 = 0 ↔ Srcs x := by
  constructor
  · intro h i hi
    have h1 : (x &&& 4294967041).testBit i = false := by rw [h, Nat.zero_testBit]
    rw [Nat.testBit_and, hi, tb_mask, decide_eq_true (lt_of_tb hx hi)] at h1
    simp at h1
    exact h1
  · intro h
    apply Nat.eq_of_testBit_eq
    intro i
    rw [Nat.testBit_and, tb_mask, Nat.zero_testBit]
    cases hi : x.testBit i with
    | false => rfl
    | true =>
      have := h i hi
      rw [decide_eq_true this.1, decide_eq_true this.2]; simp
theorem srcs_or {x y : Nat} : Srcs (x ||| y) ↔ Srcs x ∧ Srcs y := by
  constructor
  · intro h
    exact ⟨fun i hi => h i (by rw [Nat.testBit_or, hi]; rfl), fun i hi => h i (by rw [Nat.testBit_or, hi, Bool.or_true])⟩
  · intro ⟨h1, h2⟩ i hi
    rw [Nat.testBit_or, Bool.or_eq_true] at hi
    exact hi.elim (h1 i) (h2 i)
theorem srcs_and {x : Nat} (h : Srcs x) (y : Nat) : Srcs (x &&& y) := fun i hi => by
  rw [Nat.testBit_and, Bool.and_eq_true] at hi
  exact h i hi.1
theorem srcs_and_r (x : Nat) {y : Nat} (h : Srcs y) : Srcs (x &&& y) := fun i hi => by
  rw [Nat.testBit_and, Bool.and_eq_true] at hi
  exact h i hi.2
theorem srcs_254 : Srcs 254 := fun i hi => by
  rw [tb_src] at hi
  simp at hi
  exact hi
theorem srcs_pow {n : Nat} (h1 : 1 ≤ n) (h7 : n ≤ 7) : Srcs (2 ^ n) := fun i hi => by
  rw [Nat.testBit_two_pow] at hi
  simp at hi
  omega
/-- A state may be, part by part. -/
structure May (s : P5) : Prop where
  p0 : s.pr 0 = 0
  th : s.th ≤ 7
  pr : ∀ i, i < 8 → s.pr i ≤ 7
  en : Srcs s.en
  pe : Srcs s.pe
  bu : Srcs s.bu
theorem may_iff (s : P5) (hs : s.Ok) : mayP5 s = true ↔ May s := by
  have e1 : s.en ||| s.pe < 4294967296 := Nat.or_lt_two_pow (n := 32) hs.en hs.pe
  have e2 : s.en ||| s.pe ||| s.bu < 4294967296 := Nat.or_lt_two_pow (n := 32) e1 hs.bu
  have e3 := srcs_iff _ e2
  rw [srcs_or, srcs_or] at e3
  unfold mayP5
  rw [Bool.and_eq_true, Bool.and_eq_true, Bool.and_eq_true, decide_eq_true_eq, decide_eq_true_eq, smallP_iff, beq_iff_eq, e3]
  exact ⟨fun ⟨a, b, c, ⟨d, e⟩, f⟩ => ⟨a, b, c, d, e, f⟩, fun ⟨a, b, c, d, e, f⟩ => ⟨a, b, c, ⟨d, e⟩, f⟩⟩
/-- Who is served is Busy; who is Pending asked, and is not Busy. -/
structure Inv (s : P5) (sv ak : Nat → Bool) : Prop where
  ok : s.Ok
  may : May s
  sv : ∀ n, 1 ≤ n → n < 8 → sv n = s.bu.testBit n
  ak : ∀ n, 1 ≤ n → n < 8 → s.pe.testBit n = true → ak n = true ∧ s.bu.testBit n = false
def setB (f : Nat → Bool) (i : Nat) (v : Bool) : Nat → Bool := fun j => if j = i then v else f j
/-- Who asked, when the sources below k of a word asked besides. -/
def askK (sv ak : Nat → Bool) (l k : Nat) : Nat → Bool := fun n => if 1 ≤ n ∧ n < k then ak n || (l.testBit n && !sv n) else ak n
theorem tb_cut (b i : Nat) (hb : b < 4294967296) : (4294967295 - b).testBit i = (decide (i < 32) && !b.testBit i) := by
  have := Nat.testBit_two_pow_sub_succ (n := 32) (x := b) hb i
  rw [show 2 ^ 32 - (b + 1) = 4294967295 - b by omega] at this
  exact this
theorem inv_new (s : P5) (hs : s.Ok) (hm : May s) (sv ak : Nat → Bool) (h : ∀ n, sv n = false) : Inv ⟨s.pr, s.en, s.th, 0, 0⟩ sv ak :=
  ⟨⟨hs.pr, hs.en, hs.th, by show 0 < _; decide, by show 0 < _; decide⟩, ⟨hm.p0, hm.th, hm.pr, hm.en, fun i hi => by simp at hi, fun i hi => by simp at hi⟩, fun n _ _ => by simp [h], fun n _ _ hp => by simp at hp⟩
theorem inv_level {s : P5} {sv ak : Nat → Bool} (h : Inv s sv ak) (l : Nat) (hl : l < 4294967296) : Inv (levelV s l) sv (askK sv ak l 8) := by
  refine ⟨levelV_ok h.ok l hl, ⟨h.may.p0, h.may.th, h.may.pr, h.may.en, ?_, h.may.bu⟩, h.sv, ?_⟩
  · exact srcs_or.2 ⟨h.may.pe, srcs_and (srcs_and_r l srcs_254) _⟩
  · intro n h1 h8 hp
    have hs := h.sv n h1 h8
    show askK sv ak l 8 n = true ∧ s.bu.testBit n = false
    have hp' : (s.pe ||| ((l &&& 254) &&& (4294967295 - s.bu))).testBit n = true := hp
    rw [Nat.testBit_or, Bool.or_eq_true] at hp'
    unfold askK
    rw [if_pos ⟨h1, h8⟩]
    rcases hp' with hp' | hp'
    · have := h.ak n h1 h8 hp'
      rw [this.1]; exact ⟨rfl, this.2⟩
    · rw [Nat.testBit_and, Nat.testBit_and, tb_cut _ _ h.ok.bu] at hp'
      simp at hp'
      rw [hs, hp'.2.2, hp'.1.1]; exact ⟨by simp, rfl⟩
theorem inv_claim {s : P5} {sv ak : Nat → Bool} (h : Inv s sv ak) (b : Nat) (hb1 : 1 ≤ b) (hb8 : b < 8) : Inv (serveV s b) (setB sv b true) (setB ak b false) := by
  have hp : 2 ^ b < 4294967296 := pow_lt32 (by omega)
  have e : serveV s b = ⟨s.pr, s.en, s.th, s.pe &&& (4294967295 - 2 ^ b), s.bu ||| 2 ^ b⟩ := by unfold serveV; rw [if_neg (by omega)]
  refine ⟨serveV_ok h.ok b (by omega), ?_, ?_, ?_⟩
  · rw [e]
    exact ⟨h.may.p0, h.may.th, h.may.pr, h.may.en, srcs_and h.may.pe _, srcs_or.2 ⟨h.may.bu, srcs_pow hb1 (by omega)⟩⟩
  · intro n h1 h8
    rw [e]
    show setB sv b true n = (s.bu ||| 2 ^ b).testBit n
    rw [Nat.testBit_or, Nat.testBit_two_pow]
    unfold setB
    by_cases c : n = b
    · subst c; simp
    · rw [if_neg c, h.sv n h1 h8]
      have : ¬ b = n := fun h => c h.symm
      simp [this]
  · intro n h1 h8 hpn
    rw [e] at hpn ⊢
    have hpn' : (s.pe &&& (4294967295 - 2 ^ b)).testBit n = true := hpn
    rw [Nat.testBit_and, tb_cut _ _ hp, Nat.testBit_two_pow] at hpn'
    simp at hpn'
    have c : ¬ n = b := fun hh => hpn'.2.2 hh.symm
    have h2 := h.ak n h1 h8 hpn'.1
    show setB ak b false n = true ∧ (s.bu ||| 2 ^ b).testBit n = false
    unfold setB
    rw [if_neg c, Nat.testBit_or, Nat.testBit_two_pow, h2.2]
    have : ¬ b = n := fun h => c h.symm
    exact ⟨h2.1, by simp [this]⟩
theorem inv_end {s : P5} {sv ak : Nat → Bool} (h : Inv s sv ak) (v : Nat) (hv : v < 8) : Inv (endV s v) (setB sv v false) ak := by
  by_cases c : v < 1 ∨ 7 < v
  · have e : endV s v = s := by unfold endV; rw [if_pos c]
    rw [e]
    refine ⟨h.ok, h.may, fun n h1 h8 => ?_, h.ak⟩
    unfold setB
    rw [if_neg (by omega)]; exact h.sv n h1 h8
  · have hp : 2 ^ v < 4294967296 := pow_lt32 (by omega)
    have e : endV s v = ⟨s.pr, s.en, s.th, s.pe, s.bu &&& (4294967295 - 2 ^ v)⟩ := by unfold endV; rw [if_neg c]
    refine ⟨endV_ok h.ok v, ?_, ?_, ?_⟩
    · rw [e]
      exact ⟨h.may.p0, h.may.th, h.may.pr, h.may.en, h.may.pe, srcs_and h.may.bu _⟩
    · intro n h1 h8
      rw [e]
      show setB sv v false n = (s.bu &&& (4294967295 - 2 ^ v)).testBit n
      rw [Nat.testBit_and, tb_cut _ _ hp, Nat.testBit_two_pow, decide_eq_true (show n < 32 by omega)]
      unfold setB
      by_cases c : n = v
      · subst c; simp
      · rw [if_neg c, h.sv n h1 h8]
        have : ¬ v = n := fun h => c h.symm
        simp [this]
    · intro n h1 h8 hpn
      rw [e] at hpn ⊢
      have h2 := h.ak n h1 h8 hpn
      show ak n = true ∧ (s.bu &&& (4294967295 - 2 ^ v)).testBit n = false
      rw [Nat.testBit_and, h2.2]
      exact ⟨h2.1, rfl⟩
theorem inv_end8 {s : P5} {sv ak : Nat → Bool} (h : Inv s sv ak) : Inv (endV s 8) sv ak := h
theorem and7_le (v : Nat) : v &&& 7 ≤ 7 := Nat.and_le_right
theorem inv_write {s : P5} {sv ak : Nat → Bool} (h : Inv s sv ak) (a v : Nat) (hv : v < 4294967296) (hc : a ≠ 2097156) (he : (writeV s a v).2 = 0) : Inv (writeV s a v).1 sv ak := by
  have hok := writeV_ok h.ok a v hv
  unfold writeV at he hok ⊢
  by_cases c0 : isPr a = true
  · rw [if_pos c0] at hok ⊢
    have ha : a / 4 < 8 := by unfold isPr at c0; simp at c0; omega
    dsimp only at hok ⊢
    by_cases c : a / 4 = 0
    · rw [if_pos c]; exact h
    · rw [if_neg c] at hok ⊢
      refine ⟨hok, ⟨?_, h.may.th, ?_, h.may.en, h.may.pe, h.may.bu⟩, h.sv, h.ak⟩
      · show setN s.pr (a / 4) (v &&& 7) 0 = 0
        unfold setN
        rw [if_neg (fun e => c e.symm)]; exact h.may.p0
      · intro i hi
        show setN s.pr (a / 4) (v &&& 7) i ≤ 7
        unfold setN
        split
        · exact and7_le v
        · exact h.may.pr i hi
  rw [if_neg c0] at he hok ⊢
  by_cases c1 : a = 4096
  · rw [if_pos c1]; exact h
  rw [if_neg c1] at he hok ⊢
  by_cases c2 : a = 8192
  · rw [if_pos c2] at hok ⊢
    exact ⟨hok, ⟨h.may.p0, h.may.th, h.may.pr, srcs_and_r v srcs_254, h.may.pe, h.may.bu⟩, h.sv, h.ak⟩
  rw [if_neg c2] at he hok ⊢
  by_cases c3 : a = 2097152
  · rw [if_pos c3] at hok ⊢
    exact ⟨hok, ⟨h.may.p0, and7_le v, h.may.pr, h.may.en, h.may.pe, h.may.bu⟩, h.sv, h.ak⟩
  rw [if_neg c3, if_neg hc] at he
  cases he
theorem askK_one (sv ak : Nat → Bool) (l : Nat) : askK sv ak l 1 = ak := by
  funext n
  unfold askK
  rw [if_neg (by omega)]
theorem askK_step (sv ak : Nat → Bool) (l k : Nat) (hk : 1 ≤ k) : askK sv ak l (k + 1) = setB (askK sv ak l k) k (ak k || (l.testBit k && !sv k)) := by
  funext n
  unfold askK setB
  by_cases c : n = k
  · subst c; rw [if_pos ⟨hk, Nat.lt_succ_self n⟩, if_pos rfl]
  · rw [if_neg c]
    dsimp only
    by_cases d : 1 ≤ n ∧ n < k
    · rw [if_pos d, if_pos ⟨d.1, by omega⟩]
    · rw [if_neg d, if_neg (by omega)]
theorem askK_at (sv ak : Nat → Bool) (l k : Nat) : askK sv ak l k k = ak k := by
  unfold askK
  rw [if_neg (by omega)]
end Go.Proofs.YtadgdgjmadchjaaDoor
