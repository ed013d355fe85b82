/-
  Orders that follow one another: what each tick makes.
-/
import Derived.Test.YtalcgipcephnnaaDoorJDmRoW
namespace Go.Proofs.YtalcgipcephnnaaDoor
open Go.RowKit
set_option linter.unusedVariables false
set_option linter.unusedSimpArgs false

def frO (i : Nat) : Nat := 4096 + 1024 * i
def toO (i : Nat) : Nat := 16384 + 1024 * i
def nxO (n i : Nat) : Nat := if i + 1 = n then 0 else 2147483648 + 16 * i + 16
def sumK (K : Nat → Nat) : Nat → Nat
  | 0 => 0
  | q + 1 => sumK K q + K q
def sumP (K : Nat → Nat) : Nat → Nat
  | 0 => 0
  | q + 1 => sumP K q + 1 + (K q + 63) / 64
theorem sumK_le {K : Nat → Nat} (h : ∀ i, K i ≤ 1000) : ∀ q, sumK K q ≤ 1000 * q
  | 0 => Nat.le_refl _
  | q + 1 => by have := sumK_le h q; have := h q; show sumK K q + K q ≤ _; omega
theorem sumP_le {K : Nat → Nat} (h : ∀ i, K i ≤ 1000) : ∀ q, sumP K q ≤ 17 * q
  | 0 => Nat.le_refl _
  | q + 1 => by have := sumP_le h q; have := h q; show sumP K q + 1 + (K q + 63) / 64 ≤ _; omega
structure OrdM (f : Nat → Nat) (K : Nat → Nat) (n i : Nat) : Prop where
  fr : numF f (16 * i) 4 = 2147483648 + frO i
  tt : numF f (16 * i + 4) 4 = 2147483648 + toO i
  lf : numF f (16 * i + 8) 4 = K i
  nx : numF f (16 * i + 12) 4 = nxO n i
theorem OrdM.past {f K : Nat → Nat} {n i b : Nat} {l : List Nat} (h : OrdM f K n i) (hb : 16 * i + 16 ≤ b) : OrdM (wroteF f b l) K n i :=
  ⟨(numF_before (by omega)).trans h.fr, (numF_before (by omega)).trans h.tt, (numF_before (by omega)).trans h.lf, (numF_before (by omega)).trans h.nx⟩
def mvS (K : Nat → Nat) (n q rr : Nat) : E :=
  if rr = 0 then ⟨1, 2147483648, 2147483648 + 16 * q, q, sumK K q, false, 0, 0, 0, 0, false⟩
  else ⟨1, 2147483648, 2147483648 + 16 * q, q + 1, sumK K q + 64 * (rr - 1), true, 2147483648 + frO q + 64 * (rr - 1), 2147483648 + toO q + 64 * (rr - 1), K q - 64 * (rr - 1), nxO n q, false⟩
def dnS (K : Nat → Nat) (n : Nat) : E := ⟨2, 2147483648, 2147483648 + 16 * (n - 1), n, sumK K n, false, 0, 0, 0, 0, true⟩
theorem mvS_0 (K : Nat → Nat) (n q : Nat) : mvS K n q 0 = ⟨1, 2147483648, 2147483648 + 16 * q, q, sumK K q, false, 0, 0, 0, 0, false⟩ := rfl
theorem mvS_n {K : Nat → Nat} {n q rr : Nat} (h : rr ≠ 0) : mvS K n q rr = ⟨1, 2147483648, 2147483648 + 16 * q, q + 1, sumK K q + 64 * (rr - 1), true, 2147483648 + frO q + 64 * (rr - 1), 2147483648 + toO q + 64 * (rr - 1), K q - 64 * (rr - 1), nxO n q, false⟩ := by unfold mvS; rw [if_neg h]
theorem mvS_cd (K : Nat → Nat) (n q rr : Nat) : (mvS K n q rr).cd = 1 := by unfold mvS; split <;> rfl
theorem mvS_may {K : Nat → Nat} {n q rr : Nat} (hK : 1 ≤ K q) (hK2 : K q ≤ 1000) (hq : q < 6) (hr : rr < perO (K q)) : mayE (mvS K n q rr) = true := by
  unfold perO at hr
  rw [mayE_iff]
  unfold mvS
  split
  · exact ⟨(by show 1 ≤ 3; decide), (by show q ≤ 64; omega), fun h => (by cases h), fun h => (by cases h), fun _ => ⟨rfl, rfl, rfl, rfl⟩⟩
  · refine ⟨(by show 1 ≤ 3; decide), ?_, fun h => (by cases h), fun _ => ⟨rfl, ?_, ?_⟩, fun h => (by cases h)⟩
    · show q + 1 ≤ 64; omega
    · show 1 ≤ K q - 64 * (rr - 1); omega
    · show K q - 64 * (rr - 1) ≤ 65536; omega
theorem nxO_lt {n i : Nat} (hi : i < 6) : nxO n i < 4294967296 := by unfold nxO; split <;> omega
theorem mvS_ok {K : Nat → Nat} {n q rr : Nat} (hK : ∀ i, K i ≤ 1000) (hq : q < 6) (hr : rr < perO (K q)) : (mvS K n q rr).Ok := by
  have h1 := sumK_le hK q
  have h2 := hK q
  have h3 := nxO_lt (n := n) hq
  unfold perO at hr
  unfold mvS frO toO
  split
  · exact ⟨(by show 1 < 4294967296; decide), (by show 2147483648 < 4294967296; decide), (by show 2147483648 + 16 * q < _; omega), (by show q < _; omega), (by show sumK K q < _; omega), (by show 0 < 4294967296; decide), (by show 0 < 4294967296; decide), (by show 0 < 4294967296; decide), (by show 0 < 4294967296; decide)⟩
  · exact ⟨(by show 1 < 4294967296; decide), (by show 2147483648 < 4294967296; decide), (by show 2147483648 + 16 * q < _; omega), (by show q + 1 < _; omega), (by show sumK K q + 64 * (rr - 1) < _; omega), (by show 2147483648 + (4096 + 1024 * q) + 64 * (rr - 1) < _; omega), (by show 2147483648 + (16384 + 1024 * q) + 64 * (rr - 1) < _; omega), (by show K q - 64 * (rr - 1) < _; omega), h3⟩
theorem mv_take {K : Nat → Nat} {n q : Nat} (hK : 1 ≤ K q) (hK2 : K q ≤ 1000) (hq : q < 6) (f : Nat → Nat) (h : OrdM f K n q) : tickE (mvS K n q 0) f 8 = mvS K n q 1 ∧ tickF (mvS K n q 0) f 8 = f := by
  have hm := mvS_may (n := n) (rr := 0) hK hK2 hq (by unfold perO; omega)
  have hg := goes_of hm (mvS_cd K n q 0)
  constructor
  · unfold tickE
    rw [hg, if_pos rfl, mvS_0, if_neg (show ¬ (false = true) by decide)]
    unfold takeE
    dsimp only
    rw [show 2147483648 + 16 * q - 2147483648 = 16 * q by omega, h.fr, h.tt, h.lf, h.nx]
    rw [if_neg (by omega), if_neg (by rintro (e | e); (· omega); (· have := of_decide_eq_false e; omega)), if_neg (by omega)]
    rw [mvS_n (by decide)]
    simp only [Nat.sub_self, Nat.mul_zero, Nat.add_zero, Nat.sub_zero]
  · unfold tickF
    rw [hg, mvS_0]
    exact if_neg (show ¬ ((true && false) = true) by decide)
def bstO (k rr : Nat) : Nat := if k - 64 * (rr - 1) ≤ 64 then k - 64 * (rr - 1) else 64
theorem mv_move {K : Nat → Nat} {n q rr : Nat} (hKa : ∀ i, K i ≤ 1000) (hK : 1 ≤ K q) (hq : q < n) (hn : n ≤ 6) (hr0 : rr ≠ 0) (hr : rr < perO (K q)) (f : Nat → Nat) :
    tickE (mvS K n q rr) f 8 = (if rr + 1 < perO (K q) then mvS K n q (rr + 1) else if q + 1 < n then mvS K n (q + 1) 0 else dnS K n) ∧
    tickF (mvS K n q rr) f 8 = wroteF f (toO q + 64 * (rr - 1)) (cutF f (frO q + 64 * (rr - 1)) (bstO (K q) rr)) := by
  have hK2 := hKa q
  have h1 := sumK_le hKa q
  have hm := mvS_may (n := n) (rr := rr) hK hK2 (by omega) hr
  have hg := goes_of hm (mvS_cd K n q rr)
  have hs1 : sumK K (q + 1) = sumK K q + K q := rfl
  have hfr : frO q = 4096 + 1024 * q := rfl
  have hto : toO q = 16384 + 1024 * q := rfl
  have hq0 : mvS K n (q + 1) 0 = ⟨1, 2147483648, 2147483648 + 16 * (q + 1), q + 1, sumK K (q + 1), false, 0, 0, 0, 0, false⟩ := mvS_0 K n (q + 1)
  rw [hs1] at hq0
  have hdn : q + 1 = n → dnS K n = ⟨2, 2147483648, 2147483648 + 16 * q, q + 1, sumK K q + K q, false, 0, 0, 0, 0, true⟩ := by
    intro e; subst e; rfl
  have hr2 : mvS K n q (rr + 1) = ⟨1, 2147483648, 2147483648 + 16 * q, q + 1, sumK K q + 64 * rr, true, 2147483648 + frO q + 64 * rr, 2147483648 + toO q + 64 * rr, K q - 64 * rr, nxO n q, false⟩ := by rw [mvS_n (by omega), show rr + 1 - 1 = rr by omega]
  unfold perO at hr ⊢
  have hS := mvS_n (K := K) (n := n) (q := q) hr0
  have hv : (mvS K n q rr).hv = true := by rw [hS]
  obtain ⟨r1, hr1⟩ : ∃ x, 64 * (rr - 1) = x := ⟨_, rfl⟩
  have hr1' : r1 = 64 * (rr - 1) := hr1.symm
  obtain ⟨sK, hsK⟩ : ∃ x, sumK K q = x := ⟨_, rfl⟩
  obtain ⟨kq, hkq⟩ : ∃ x, K q = x := ⟨_, rfl⟩
  obtain ⟨fq, hfq⟩ : ∃ x, frO q = x := ⟨_, rfl⟩
  obtain ⟨tq, htq⟩ : ∃ x, toO q = x := ⟨_, rfl⟩
  obtain ⟨nx, hnx⟩ : ∃ x, nxO n q = x := ⟨_, rfl⟩
  unfold bstO
  rw [hsK] at h1 hq0 hr2 hdn hS
  rw [hkq] at hK hK2 hr hq0 hr2 hdn hS
  rw [hfq] at hfr hr2 hS
  rw [htq] at hto hr2 hS
  rw [hnx] at hr2 hS
  rw [hr1] at hS
  rw [hkq, hfq, htq, hr1]
  have hbst : ∀ a b c d, burst ⟨1, 2147483648, a, q + 1, sK + r1, true, b, c, kq - r1, d, false⟩ = (if kq - r1 ≤ 64 then kq - r1 else 64) := fun a b c d => rfl
  have hcan : canE (mvS K n q rr) 8 = true := by
    unfold canE
    rw [hS, hbst]
    dsimp only
    rw [show inB 8 (2147483648 + fq + r1) (if kq - r1 ≤ 64 then kq - r1 else 64) = true from decide_eq_true (by split <;> omega), show inB 8 (2147483648 + tq + r1) (if kq - r1 ≤ 64 then kq - r1 else 64) = true from decide_eq_true (by split <;> omega)]
    rfl
  constructor
  · unfold tickE
    rw [hg, if_pos rfl, if_pos hv]
    unfold moveE
    rw [if_neg (by rw [hcan]; decide)]
    by_cases hc : rr + 1 < 1 + (kq + 63) / 64
    · rw [if_pos hc, hr2, hS]
      unfold onE
      rw [hbst, if_neg (show ¬ kq - r1 ≤ 64 by omega)]
      dsimp only
      rw [if_pos (by omega)]
      unfold m32
      rw [show (2147483648 + fq + r1 + 64) % 4294967296 = 2147483648 + fq + 64 * rr by omega, show (2147483648 + tq + r1 + 64) % 4294967296 = 2147483648 + tq + 64 * rr by omega, show (sK + r1 + 64) % 4294967296 = sK + 64 * rr by omega, show kq - r1 - 64 = kq - 64 * rr by omega]
    · rw [if_neg hc, hS]
      unfold onE
      rw [hbst, if_pos (show kq - r1 ≤ 64 by omega)]
      dsimp only
      rw [if_neg (by omega)]
      by_cases hl : q + 1 < n
      · have hx : nx = 2147483648 + 16 * q + 16 := by rw [← hnx]; unfold nxO; rw [if_neg (by omega)]
        rw [if_pos hl, if_neg (by omega), hq0]
        unfold noOrd m32
        dsimp only
        rw [hx, show (sK + r1 + (kq - r1)) % 4294967296 = sK + kq by omega, show 2147483648 + 16 * q + 16 = 2147483648 + 16 * (q + 1) by omega]
      · have hx : nx = 0 := by rw [← hnx]; unfold nxO; rw [if_pos (by omega)]
        rw [if_neg hl, if_pos hx, hdn (by omega)]
        unfold endE noOrd m32
        dsimp only
        rw [show (sK + r1 + (kq - r1)) % 4294967296 = sK + kq by omega]
  · unfold tickF
    rw [hg, hv, if_pos (by decide)]
    unfold moveF
    rw [if_neg (by rw [hcan]; decide), hS, hbst]
    dsimp only
    rw [show 2147483648 + tq + r1 - 2147483648 = tq + r1 by omega, show 2147483648 + fq + r1 - 2147483648 = fq + r1 by omega]
/-- What was moved so far. -/
structure Copd (f K : Nat → Nat) (q rr : Nat) : Prop where
  all : ∀ i, i < q → ∀ j, j < K i → f (toO i + j) = f (frO i + j)
  some : ∀ j, j < 64 * (rr - 1) → j < K q → f (toO q + j) = f (frO q + j)
theorem wrote_far {f : Nat → Nat} {a x : Nat} {l : List Nat} (h : x < a ∨ a + l.length ≤ x) : wroteF f a l x = f x := by unfold wroteF; rw [if_neg (by omega)]
theorem wrote_cut {f : Nat → Nat} {a b n j : Nat} (h : j < n) : wroteF f a (cutF f b n) (a + j) = f (b + j) := by
  unfold wroteF
  rw [cutF_len, if_pos (by omega), show a + j - a = j by omega, cutF_at h]; rfl
theorem Copd.move {f K : Nat → Nat} {q rr : Nat} (h : Copd f K q rr) (hKa : ∀ i, K i ≤ 1000) (hq : q < 6) (hr0 : rr ≠ 0) (hr : rr < perO (K q)) :
    ∀ j, (j < 64 * rr → j < K q → wroteF f (toO q + 64 * (rr - 1)) (cutF f (frO q + 64 * (rr - 1)) (bstO (K q) rr)) (toO q + j) = wroteF f (toO q + 64 * (rr - 1)) (cutF f (frO q + 64 * (rr - 1)) (bstO (K q) rr)) (frO q + j)) := by
  intro j h1 h2
  have hk := hKa q
  have hlen := cutF_len f (frO q + 64 * (rr - 1)) (bstO (K q) rr)
  have hfr : frO q = 4096 + 1024 * q := rfl
  have hto : toO q = 16384 + 1024 * q := rfl
  rw [wrote_far (x := frO q + j) (.inl (by omega))]
  by_cases hj : j < 64 * (rr - 1)
  · rw [wrote_far (.inl (by omega))]
    exact h.some j hj h2
  · have e : toO q + j = toO q + 64 * (rr - 1) + (j - 64 * (rr - 1)) := by omega
    have hb : j - 64 * (rr - 1) < bstO (K q) rr := by unfold bstO; split <;> omega
    rw [e, wrote_cut hb]
    congr 1
    omega
theorem Copd.rest {f K : Nat → Nat} {q rr : Nat} (h : Copd f K q rr) (hKa : ∀ i, K i ≤ 1000) (hq : q < 6) : ∀ i, i < q → ∀ j, j < K i → wroteF f (toO q + 64 * (rr - 1)) (cutF f (frO q + 64 * (rr - 1)) (bstO (K q) rr)) (toO i + j) = wroteF f (toO q + 64 * (rr - 1)) (cutF f (frO q + 64 * (rr - 1)) (bstO (K q) rr)) (frO i + j) := by
  intro i hi j hj
  have hk := hKa i
  have h1 : toO i = 16384 + 1024 * i := rfl
  have h2 : toO q = 16384 + 1024 * q := rfl
  have h3 : frO i = 4096 + 1024 * i := rfl
  rw [wrote_far (.inl (by omega)), wrote_far (x := frO i + j) (.inl (by omega))]
  exact h.all i hi j hj
theorem sumP_mono (K : Nat → Nat) {a b : Nat} (h : a ≤ b) : sumP K a ≤ sumP K b := by
  induction b with
  | zero => rw [show a = 0 by omega]; exact Nat.le_refl _
  | succ b ih =>
    rcases Nat.eq_or_lt_of_le h with e | e
    · subst e; exact Nat.le_refl _
    · have := ih (by omega); show sumP K a ≤ sumP K b + 1 + (K b + 63) / 64; omega
/-- How it stands behind t ticks. -/
def MvAt (K : Nat → Nat) (n t : Nat) (x : E) (f : Nat → Nat) : Prop :=
  (∃ q rr, q < n ∧ rr < perO (K q) ∧ t = sumP K q + rr ∧ x = mvS K n q rr ∧ (∀ j, j < n → OrdM f K n j) ∧ Copd f K q rr) ∨
  (t = sumP K n ∧ x = dnS K n ∧ ∀ i, i < n → ∀ j, j < K i → f (toO i + j) = f (frO i + j))
theorem MvAt.cd {K : Nat → Nat} {n t : Nat} {x : E} {f : Nat → Nat} (h : MvAt K n t x f) (ht : t < sumP K n) : ∃ q rr, q < n ∧ rr < perO (K q) ∧ t = sumP K q + rr ∧ x = mvS K n q rr ∧ (∀ j, j < n → OrdM f K n j) ∧ Copd f K q rr := by
  rcases h with h | ⟨h, _⟩
  · exact h
  · omega
theorem MvAt.fin {K : Nat → Nat} {n t : Nat} {x : E} {f : Nat → Nat} (h : MvAt K n t x f) (ht : t = sumP K n) : x = dnS K n ∧ ∀ i, i < n → ∀ j, j < K i → f (toO i + j) = f (frO i + j) := by
  rcases h with ⟨q, rr, h1, h2, h3, _⟩ | ⟨_, h1, h2⟩
  · have h4 := sumP_mono K (show q + 1 ≤ n from h1)
    have h5 : sumP K (q + 1) = sumP K q + 1 + (K q + 63) / 64 := rfl
    unfold perO at h2
    omega
  · exact ⟨h1, h2⟩
theorem MvAt.next {K : Nat → Nat} {n t : Nat} {x : E} {f : Nat → Nat} (h : MvAt K n t x f) (ht : t < sumP K n) (hn : n ≤ 6) (hK1 : ∀ i, 1 ≤ K i) (hKa : ∀ i, K i ≤ 1000) : MvAt K n (t + 1) (tickE x f 8) (tickF x f 8) := by
  obtain ⟨q, rr, h1, h2, h3, rfl, h5, h6⟩ := h.cd ht
  have hP : sumP K (q + 1) = sumP K q + 1 + (K q + 63) / 64 := rfl
  have hpe : perO (K q) = 1 + (K q + 63) / 64 := rfl
  by_cases hr0 : rr = 0
  · subst hr0
    obtain ⟨e1, e2⟩ := mv_take (hK1 q) (hKa q) (by omega) f (h5 q h1)
    rw [e1, e2]
    have := hK1 q
    exact .inl ⟨q, 1, h1, by omega, by omega, rfl, h5, ⟨h6.all, fun j hj => absurd hj (by omega)⟩⟩
  · obtain ⟨e1, e2⟩ := mv_move (n := n) hKa (hK1 q) h1 hn hr0 h2 f
    rw [e1, e2]
    have hmv := h6.move hKa (by omega) hr0 h2
    have hre := h6.rest hKa (by omega)
    have hto : toO q = 16384 + 1024 * q := rfl
    have hOM : ∀ j, j < n → OrdM (wroteF f (toO q + 64 * (rr - 1)) (cutF f (frO q + 64 * (rr - 1)) (bstO (K q) rr))) K n j := fun j hj => (h5 j hj).past (by omega)
    by_cases hc : rr + 1 < perO (K q)
    · rw [if_pos hc]
      exact .inl ⟨q, rr + 1, h1, hc, by omega, rfl, hOM, ⟨hre, fun j hj => hmv j (by omega)⟩⟩
    · rw [if_neg hc]
      have hdone : ∀ i, i < q + 1 → ∀ j, j < K i → wroteF f (toO q + 64 * (rr - 1)) (cutF f (frO q + 64 * (rr - 1)) (bstO (K q) rr)) (toO i + j) = wroteF f (toO q + 64 * (rr - 1)) (cutF f (frO q + 64 * (rr - 1)) (bstO (K q) rr)) (frO i + j) := by
        intro i hi j hj
        rcases Nat.eq_or_lt_of_le (Nat.le_of_lt_succ hi) with e | e
        · subst e; exact hmv j (by omega) hj
        · exact hre i e j hj
      by_cases hl : q + 1 < n
      · rw [if_pos hl]
        have := hK1 (q + 1)
        exact .inl ⟨q + 1, 0, hl, by (unfold perO; omega), by omega, rfl, hOM, ⟨hdone, fun j hj => absurd hj (by omega)⟩⟩
      · rw [if_neg hl]
        obtain rfl : q + 1 = n := by omega
        exact .inr ⟨by omega, rfl, hdone⟩
def textO (f : Nat → Nat) (N : Nat) : ByteArray := ⟨((List.range N).map fun j => UInt8.ofNat (f j)).toArray⟩
theorem textO_congr {f g : Nat → Nat} {N : Nat} (h : ∀ j, j < N → f j = g j) : textO f N = textO g N := by
  unfold textO
  congr 2
  apply List.map_congr_left
  intro j hj
  rw [h j (List.mem_range.1 hj)]
theorem conv_O {W : World} {g N c : Nat} {f : Nat → Nat} (hf : ∀ x, f x < 256) (h : HoldsAt W g N 5 (fun j => .int .u8 (f j : Nat))) : (convert 43 9 (.slice (some ⟨g, 0, none⟩) N c)).run Tryd.prog W = .ok (.string (textO f N)) W :=
  conv_row (w := W) (g := g) (o := 0) (l := N) (c := c) (f := f) hf (fun j hj => by rw [Nat.zero_add, h.cell hj])
structure IntsAt (w : World) (B : Nat) (la : Option Addr) (len : Nat) (g : Nat → Int) : Prop where
  lies : ∀ j, j < len → ∃ b o, la = some ⟨b, o, none⟩ ∧ b < B ∧ w.cell? ⟨b, o + j, none⟩ = some (.int .i64 (g j))
def KO (g : Nat → Int) (i : Nat) : Nat := 1 + (g i % 18446744073709551616 % ((1000 : Nat) : Int)).toNat
theorem KO_1 (g : Nat → Int) (i : Nat) : 1 ≤ KO g i := by unfold KO; omega
theorem KO_2 (g : Nat → Int) (i : Nat) : KO g i ≤ 1000 := by unfold KO; omega
theorem mvS_cd1 {K : Nat → Nat} {n t : Nat} {x : E} {f : Nat → Nat} (h : MvAt K n t x f) (ht : t < sumP K n) : x.cd = 1 := by
  obtain ⟨q, rr, _, _, _, rfl, _, _⟩ := h.cd ht
  exact mvS_cd K n q rr
theorem MvAt.ok {K : Nat → Nat} {n t : Nat} {x : E} {f : Nat → Nat} (h : MvAt K n t x f) (ht : t < sumP K n) (hn : n ≤ 6) (hKa : ∀ i, K i ≤ 1000) : x.Ok := by
  obtain ⟨q, rr, h1, h2, _, rfl, _, _⟩ := h.cd ht
  exact mvS_ok hKa (by omega) h2
end Go.Proofs.YtalcgipcephnnaaDoor
