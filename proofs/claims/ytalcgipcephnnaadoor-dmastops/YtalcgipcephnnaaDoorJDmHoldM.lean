/-
  What a tick keeps, and what it moves on.
-/
import Derived.Test.YtalcgipcephnnaaDoorJDmTick
namespace Go.Proofs.YtalcgipcephnnaaDoor
open Go.RowKit
set_option linter.unusedVariables false
set_option linter.unusedSimpArgs false

theorem goes_of {s : E} (hm : mayE s = true) (h : s.cd = 1) : goes s = true := by unfold goes; rw [hm, h]; rfl
theorem goes_not {s : E} (h : s.cd ≠ 1) : goes s = false := by
  unfold goes
  have : (s.cd == 1) = false := by simp [h]
  rw [this, Bool.and_false]
theorem end_may {s : E} (hs : s.st ≤ 64) {c : Nat} (hc : c = 2 ∨ c = 3) : mayE (endE s c) = true := by
  rw [mayE_iff]
  refine ⟨?_, hs, fun _ => hc, fun h => (by cases h), fun _ => ⟨rfl, rfl, rfl, rfl⟩⟩
  show c ≤ 3
  omega
theorem take_key (s : E) (f : Nat → Nat) (p : Nat) (m2 : s.st ≤ 64) : (takeE s f p = endE s 3) ∨ (takeE s f p = endE { s with st := s.st + 1 } 3 ∧ s.st < 64) ∨ (s.st < 64 ∧ ∃ a b c d, 1 ≤ c ∧ c ≤ 65536 ∧ takeE s f p = { s with st := s.st + 1, hv := true, fr := a, tt := b, lf := c, nx := d }) := by
  unfold takeE
  generalize numF f (s.pl - 2147483648 + 8) 4 = c
  generalize numF f (s.pl - 2147483648 + 4) 4 = b
  generalize numF f (s.pl - 2147483648 + 12) 4 = d
  generalize numF f (s.pl - 2147483648) 4 = a
  split
  · exact .inl rfl
  · split
    · exact .inl rfl
    · split
      · exact .inr (.inl ⟨rfl, by omega⟩)
      · rename_i h1 h2 h3
        exact .inr (.inr ⟨by omega, a, b, c, d, by omega, by omega, rfl⟩)
theorem on_mv (s : E) : (onE s).mv = m32 (s.mv + burst s) := rfl
theorem end_mv (s : E) (c : Nat) : (endE s c).mv = s.mv := rfl
theorem no_mv (s : E) (q : Nat) : (noOrd { s with pl := q }).mv = s.mv := rfl
theorem on_hd (s : E) : (onE s).hd = s.hd := rfl
theorem end_hd (s : E) (c : Nat) : (endE s c).hd = s.hd := rfl
theorem no_hd (s : E) (q : Nat) : (noOrd { s with pl := q }).hd = s.hd := rfl
theorem m32_ne {a n : Nat} (ha : a < 4294967296) (h0 : 0 < n) (h1 : n ≤ 64) : m32 (a + n) ≠ a ∧ ((m32 (a + n) : Int) - a) % 4294967296 ≤ 64 := by unfold m32; omega
/-- All that a tick of a state that may be answers. -/
structure Tickd (s : E) (f : Nat → Nat) (p : Nat) : Prop where
  may : mayE (tickE s f p) = true
  hd : (tickE s f p).hd = s.hd
  less : ((tickE s f p).mv : Int) = s.mv ∨ ((((tickE s f p).mv : Int) - s.mv) % 4294967296 ≤ 64 ∧ (tickE s f p).mv ≠ s.mv)
  still : (tickE s f p).mv = s.mv → tickF s f p = f
  idle : s.cd ≠ 1 → tickE s f p = s
  on : s.cd = 1 → tickE s f p ≠ s
theorem tickd {s : E} (ok : s.Ok) (hm : mayE s = true) (f : Nat → Nat) (p : Nat) : Tickd s f p := by
  obtain ⟨m1, m2, m3, m4, m5⟩ := (mayE_iff s).1 hm
  by_cases hc : s.cd = 1
  · have hg := goes_of hm hc
    have hak : s.ak = false := by
      cases h : s.ak with
      | false => rfl
      | true => have := m3 h; omega
    cases hv : s.hv with
    | false =>
      have eF : tickF s f p = f := by unfold tickF; rw [hg, hv]; exact if_neg (by decide)
      have eE : tickE s f p = takeE s f p := by unfold tickE; rw [hg, if_pos rfl, hv, if_neg (by decide)]
      have key : (takeE s f p = endE s 3) ∨ (takeE s f p = endE { s with st := s.st + 1 } 3 ∧ s.st < 64) ∨ (s.st < 64 ∧ ∃ a b c d, 1 ≤ c ∧ c ≤ 65536 ∧ takeE s f p = { s with st := s.st + 1, hv := true, fr := a, tt := b, lf := c, nx := d }) := by
        exact take_key s f p m2
      rcases key with e | ⟨e, hs⟩ | ⟨hs, a, b, c, d, hc1, hc2, e⟩
      · exact { may := by rw [eE, e]; exact end_may m2 (.inr rfl), hd := by rw [eE, e]; rfl, less := .inl (by rw [eE, e]; rfl), still := fun _ => eF, idle := fun h => absurd hc h, on := fun _ h => by rw [eE, e] at h; have := congrArg E.cd h; rw [hc] at this; cases this }
      · exact { may := by rw [eE, e]; exact end_may (show s.st + 1 ≤ 64 by omega) (.inr rfl), hd := by rw [eE, e]; rfl, less := .inl (by rw [eE, e]; rfl), still := fun _ => eF, idle := fun h => absurd hc h, on := fun _ h => by rw [eE, e] at h; have := congrArg E.cd h; rw [hc] at this; cases this }
      · refine { may := ?_, hd := by rw [eE, e], less := .inl (by rw [eE, e]), still := fun _ => eF, idle := fun h => absurd hc h, on := fun _ h => by rw [eE, e] at h; have := congrArg E.hv h; rw [hv] at this; cases this }
        rw [eE, e, mayE_iff]
        exact ⟨m1, (show s.st + 1 ≤ 64 by omega), fun h => (by have h2 : s.ak = true := h; rw [hak] at h2; cases h2), fun _ => ⟨hc, hc1, hc2⟩, fun h => (by cases h)⟩
    | true =>
      obtain ⟨_, hl1, hl2⟩ := m4 hv
      obtain ⟨b0, b64, bl⟩ : 0 < burst s ∧ burst s ≤ 64 ∧ burst s ≤ s.lf := by unfold burst; split <;> omega
      have eE : tickE s f p = moveE s p := by unfold tickE; rw [hg, if_pos rfl, hv, if_pos rfl]
      have eF : tickF s f p = moveF s f p := by unfold tickF; rw [hg, hv]; exact if_pos (by decide)
      have hmv := ok.mv
      obtain ⟨hne, hle⟩ := m32_ne hmv b0 b64
      cases hcan : canE s p with
      | false =>
        have e : moveE s p = endE s 3 := by unfold moveE; rw [if_pos hcan]
        have e2 : moveF s f p = f := by unfold moveF; rw [if_pos hcan]
        exact { may := by rw [eE, e]; exact end_may m2 (.inr rfl), hd := by rw [eE, e]; rfl, less := .inl (by rw [eE, e]; rfl), still := fun _ => eF.trans e2, idle := fun h => absurd hc h, on := fun _ h => by rw [eE, e] at h; have := congrArg E.cd h; rw [hc] at this; cases this }
      | true =>
        have key : (burst s < s.lf ∧ moveE s p = onE s) ∨ moveE s p = endE (onE s) 2 ∨ moveE s p = noOrd { onE s with pl := s.nx } := by
          unfold moveE
          rw [if_neg (by rw [hcan]; decide)]
          split
          · rename_i h; exact .inl ⟨h, rfl⟩
          · split
            · exact .inr (.inl rfl)
            · exact .inr (.inr rfl)
        have hmvE : (moveE s p).mv = m32 (s.mv + burst s) := by
          rcases key with ⟨_, e⟩ | e | e
          · rw [e, on_mv]
          · rw [e, end_mv, on_mv]
          · rw [e, no_mv, on_mv]
        have hhdE : (moveE s p).hd = s.hd := by
          rcases key with ⟨_, e⟩ | e | e
          · rw [e, on_hd]
          · rw [e, end_hd, on_hd]
          · rw [e, no_hd, on_hd]
        refine { may := ?_, hd := by rw [eE]; exact hhdE, less := .inr (by rw [eE, hmvE]; exact ⟨hle, hne⟩), still := fun h => absurd (by rw [← hmvE, ← eE]; exact h) hne, idle := fun h => absurd hc h, on := fun _ h => absurd (by rw [← hmvE, ← eE, h]) hne }
        rw [eE]
        rcases key with ⟨hlt, e⟩ | e | e
        · rw [e, mayE_iff]
          exact ⟨m1, m2, m3, fun _ => ⟨hc, (show 1 ≤ s.lf - burst s by omega), (show s.lf - burst s ≤ 65536 by omega)⟩, fun h => (by have h2 : s.hv = false := h; rw [hv] at h2; cases h2)⟩
        · rw [e]; exact end_may m2 (.inl rfl)
        · rw [e, mayE_iff]
          exact ⟨m1, m2, m3, fun h => (by cases h), fun _ => ⟨rfl, rfl, rfl, rfl⟩⟩
  · have hg := goes_not hc
    have eE : tickE s f p = s := by unfold tickE; rw [hg]; exact if_neg (by decide)
    have eF : tickF s f p = f := by unfold tickF; rw [hg]; exact if_neg (by rw [Bool.false_and]; decide)
    exact { may := by rw [eE]; exact hm, hd := by rw [eE], less := .inl (by rw [eE]), still := fun _ => eF, idle := fun _ => eE, on := fun h => absurd h hc }
end Go.Proofs.YtalcgipcephnnaaDoor
