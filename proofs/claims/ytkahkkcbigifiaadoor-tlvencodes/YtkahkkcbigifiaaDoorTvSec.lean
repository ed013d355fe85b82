/-
  Lists of sections in memory; tags that ascend, by their places.
-/
import Derived.Test.YtkahkkcbigifiaaDoorTvMath
import Derived.Test.YtkahkkcbigifiaaDoorSmE
namespace Go.Proofs.YtkahkkcbigifiaaDoor
open Go.RowKit
set_option linter.unusedVariables false
set_option linter.unusedSimpArgs false

/-- Sections that can be read, in a block below B. -/
structure Secs (B : Nat) (w : World) (v : Value) (L : List Sct) : Prop where
  tags : ∀ s ∈ L, s.tag < 4294967296
  at' : ∃ a cap, v = .slice a L.length cap ∧ L.length ≤ cap ∧ cap ≤ 9223372036854775807 ∧
    (0 < L.length → ∃ b off, a = some ⟨b, off, none⟩ ∧ b < B ∧ ∀ j (hj : j < L.length), w.cell? ⟨b, off + j * 2, none⟩ = some (.int .u32 (L[j].tag : Nat)) ∧ ∃ u, w.cell? ⟨b, off + j * 2 + 1, none⟩ = some u ∧ Rd B w u L[j].b)
theorem Secs.bel {B : Nat} {w W : World} {v : Value} {L : List Sct} (h : Secs B w v L) (hb : Below B w W) : Secs B W v L := by
  obtain ⟨h1, a, cap, h2, h3, h4, h5⟩ := h
  refine ⟨h1, a, cap, h2, h3, h4, fun h0 => ?_⟩
  obtain ⟨b, off, e1, e2, e3⟩ := h5 h0
  refine ⟨b, off, e1, e2, fun j hj => ?_⟩
  obtain ⟨c1, u, c2, c3⟩ := e3 j hj
  exact ⟨(hb.cell (p := ⟨b, off + j * 2, none⟩) e2).trans c1, u, (hb.cell (p := ⟨b, off + j * 2 + 1, none⟩) e2).trans c2, c3.bel hb⟩
theorem Secs.mono {B B' : Nat} {w : World} {v : Value} {L : List Sct} (h : Secs B w v L) (hB : B ≤ B') : Secs B' w v L := by
  obtain ⟨h1, a, cap, h2, h3, h4, h5⟩ := h
  refine ⟨h1, a, cap, h2, h3, h4, fun h0 => ?_⟩
  obtain ⟨b, off, e1, e2, e3⟩ := h5 h0
  refine ⟨b, off, e1, Nat.lt_of_lt_of_le e2 hB, fun j hj => ?_⟩
  obtain ⟨c1, u, c2, c3⟩ := e3 j hj
  exact ⟨c1, u, c2, c3.mono hB⟩
theorem Secs.form {B : Nat} {w : World} {v : Value} {L : List Sct} (h : Secs B w v L) : ∃ a cap, v = .slice a L.length cap ∧ L.length ≤ cap ∧ cap ≤ 9223372036854775807 := by
  obtain ⟨h1, a, cap, h2, h3, h4, h5⟩ := h
  exact ⟨a, cap, h2, h3, h4⟩
theorem Secs.all {B : Nat} {w : World} {v : Value} {L : List Sct} (h : Secs B w v L) (h0 : 0 < L.length) : ∃ b off cap, v = .slice (some ⟨b, off, none⟩) L.length cap ∧ L.length ≤ cap ∧ cap ≤ 9223372036854775807 ∧ b < B ∧
    Hid (∀ j (hj : j < L.length), w.cell? ⟨b, off + j * 2, none⟩ = some (.int .u32 (L[j].tag : Nat)) ∧ ∃ u, w.cell? ⟨b, off + j * 2 + 1, none⟩ = some u ∧ Rd B w u L[j].b) := by
  obtain ⟨h1, a, cap, rfl, h3, h4, h5⟩ := h
  obtain ⟨b, off, rfl, e2, e3⟩ := h5 h0
  exact ⟨b, off, cap, rfl, h3, h4, e2, hide e3⟩
theorem Secs.none {B : Nat} {w : World} {v : Value} {L : List Sct} (h : Secs B w v L) (h0 : ¬ 0 < L.length) : L = [] ∧ ∃ a cap, v = .slice a 0 cap ∧ cap ≤ 9223372036854775807 := by
  have hl : L = [] := List.length_eq_zero_iff.1 (by omega)
  subst hl
  obtain ⟨h1, a, cap, rfl, h3, h4, h5⟩ := h
  exact ⟨rfl, a, cap, rfl, h4⟩
theorem Secs.nil (B : Nat) (w : World) : Secs B w (.slice Option.none 0 0) [] := ⟨(fun _ h => nomatch h), Option.none, 0, rfl, Nat.le_refl _, by decide, fun h => absurd h (by decide)⟩
/-- Each of them is one that may be. -/
theorem Secs.ok {B : Nat} {w : World} {v : Value} {L : List Sct} (h : Secs B w v L) (hl : ∀ s ∈ L, s.b.length < 4294967296) : ∀ s ∈ L, s.Ok := fun s hs => by
  obtain ⟨j, hj, rfl⟩ := List.getElem_of_mem hs
  refine ⟨h.tags _ hs, hl _ hs, ?_⟩
  obtain ⟨b, off, cap, _, _, _, _, HC⟩ := h.all (by omega)
  obtain ⟨_, u, _, c3⟩ := HC.out j hj
  exact c3.lt

/-- Tags that ascend, by their places. -/
theorem asc_from : ∀ (L : List Sct) (p : Option Nat), ascF p L = true ↔ (∀ q, p = some q → ∀ h : 0 < L.length, q < L[0].tag) ∧ ∀ j (h : j + 1 < L.length), L[j].tag < L[j + 1].tag
  | [], p => by simp [ascF]
  | s :: L, p => by
    rw [show ascF p (s :: L) = (upF p s.tag && ascF (some s.tag) L) from rfl, Bool.and_eq_true, asc_from L (some s.tag)]
    constructor
    · rintro ⟨h1, h2, h3⟩
      refine ⟨fun q hq _ => ?_, fun j hj => ?_⟩
      · subst hq
        simpa [upF] using h1
      · rcases j with _ | j
        · simpa using h2 s.tag rfl (by simpa using hj)
        · simpa using h3 j (by simpa using hj)
    · rintro ⟨h1, h2⟩
      refine ⟨?_, fun q hq hl => ?_, fun j hj => ?_⟩
      · cases p with
        | none => rfl
        | some q => exact decide_eq_true (h1 q rfl (by simp))
      · obtain rfl := Option.some.inj hq
        simpa using h2 0 (by simpa using hl)
      · exact h2 (j + 1) (by simpa using hj)
theorem asc_iff (L : List Sct) : ascF none L = true ↔ ∀ j (h : j + 1 < L.length), L[j].tag < L[j + 1].tag := by
  rw [asc_from]
  exact ⟨fun h => h.2, fun h => ⟨(fun q hq => by cases hq), h⟩⟩
def findF (tag : Nat) : List Sct → Option (List Nat)
  | [] => none
  | s :: l => if s.tag = tag then some s.b else findF tag l
def findE (tag : Nat) (L : List Sct) : Nat := match findF tag L with
  | none => 8
  | some _ => 0
def findB (tag : Nat) (L : List Sct) : List Nat := (findF tag L).getD []
theorem find_drop (tag : Nat) (L : List Sct) (k : Nat) (hk : k < L.length) : findF tag (L.drop k) = if L[k].tag = tag then some L[k].b else findF tag (L.drop (k + 1)) := by
  rw [List.drop_eq_getElem_cons hk]; rfl
end Go.Proofs.YtkahkkcbigifiaaDoor
