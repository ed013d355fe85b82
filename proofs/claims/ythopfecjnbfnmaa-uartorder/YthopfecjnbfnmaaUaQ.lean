/-
  Bytes that wait in a slice of one's own: what append and a cut make of it.
-/
import Derived.Test.YthopfecjnbfnmaaUaRow
import Derived.Test.YthopfecjnbfnmaaUaOrdM
import Derived.Deep.AppendSrc
import Derived.Laws.AppendOwn
namespace Go.Proofs.Ythopfecjnbfnmaa
open Go.RowKit
set_option linter.unusedVariables false

/-- These bytes, in a block of one's own from B on. -/
def Qat (w : World) (B : Nat) (v : Value) (l : List Nat) : Prop :=
  (v = .slice none 0 0 ∧ l = []) ∨ ∃ g o cap cur, v = .slice (some ⟨g, o, none⟩) l.length cap ∧ B ≤ g ∧ RowAt w g cur 5 ∧ l.length ≤ cap ∧ o + cap ≤ cur.size ∧ cap ≤ maxLen ∧ ∀ j x, l[j]? = some x → cur[o + j]? = some (.int .u8 (x : Nat))
def QFar (v u : Value) : Prop := ∀ g, v.ownBlock = some g → u.ownBlock ≠ some g
theorem QFar.symm {v u : Value} (h : QFar v u) : QFar u v := fun g h1 h2 => h g h2 h1
theorem Qat.nil (w : World) (B : Nat) : Qat w B (.slice none 0 0) [] := .inl ⟨rfl, rfl⟩
theorem Qat.lt {w : World} {B : Nat} {v : Value} {l : List Nat} (h : Qat w B v l) {g : Nat} (hg : v.ownBlock = some g) : B ≤ g ∧ g < w.heap.size := by
  rcases h with ⟨rfl, _⟩ | ⟨g', o, cap, cur, rfl, hB, hr, _⟩
  · cases hg
  · obtain rfl : g' = g := Option.some.inj hg
    exact ⟨hB, hr.lt⟩
theorem Qat.keep {w W : World} {B : Nat} {v : Value} {l : List Nat} (h : Qat w B v l) (hk : ∀ g, v.ownBlock = some g → W.heap[g]? = w.heap[g]?) : Qat W B v l := by
  rcases h with h | ⟨g, o, cap, cur, rfl, hB, hr, hrest⟩
  · exact .inl h
  · exact .inr ⟨g, o, cap, cur, rfl, hB, (hk g rfl).trans hr, hrest⟩
theorem Qat.bl {w W : World} {B : Nat} {v : Value} {l : List Nat} (h : Qat w B v l) (hb : Below w.heap.size w W) : Qat W B v l :=
  h.keep fun g hg => hb.block g (h.lt hg).2
theorem Qat.only {w W : World} {b B : Nat} {v : Value} {l : List Nat} (h : Qat w B v l) (ho : Only b w W) (hb : b < B) : Qat W B v l :=
  h.keep fun g hg => ho.row g (by have := (h.lt hg).1; omega)
theorem Qat.other {w W : World} {b B : Nat} {v : Value} {l : List Nat} (h : Qat w B v l) (ho : Only b w W) (hb : v.ownBlock ≠ some b) : Qat W B v l :=
  h.keep fun g hg => ho.row g (fun e => hb (e ▸ hg))
theorem Qat.dr {w : World} {B : Nat} {v : Value} {l : List Nat} (h : Qat w B v l) : Qat w.drew B v l := h.keep fun _ _ => rfl
theorem Qat.form {w : World} {B : Nat} {v : Value} {l : List Nat} (h : Qat w B v l) : ∃ ad cap, v = .slice ad l.length cap ∧ l.length ≤ cap ∧ cap ≤ maxLen := by
  rcases h with ⟨rfl, rfl⟩ | ⟨g, o, cap, cur, rfl, hB, hr, h1, h2, h3, h4⟩
  · exact ⟨none, 0, rfl, Nat.le_refl _, Nat.zero_le _⟩
  · exact ⟨_, cap, rfl, h1, h3⟩
/-- The first of them, and the others. -/
theorem Qat.first {w : World} {B : Nat} {v : Value} {y : Nat} {l : List Nat} (h : Qat w B v (y :: l)) : ∃ g o cap, v = .slice (some ⟨g, o, none⟩) (l.length + 1) cap ∧ l.length + 1 ≤ cap ∧ cap ≤ maxLen ∧ w.cell? ⟨g, o, none⟩ = some (.int .u8 (y : Nat)) ∧
    (1 < cap → Qat w B (.slice (some ⟨g, o + 1, none⟩) l.length (cap - 1)) l) ∧ (¬ 1 < cap → l = [] ∧ cap = 1 ∧ Qat w B (.slice (some ⟨g, o, none⟩) 0 0) []) := by
  rcases h with ⟨_, h⟩ | ⟨g, o, cap, cur, rfl, hB, hr, h1, h2, h3, h4⟩
  · cases h
  · simp only [List.length_cons] at h1
    refine ⟨g, o, cap, rfl, h1, h3, ?_, fun hc => .inr ⟨g, o + 1, cap - 1, cur, rfl, hB, hr, by omega, by omega, by omega, fun j x hj => ?_⟩, fun hc => ?_⟩
    · have := h4 0 y rfl
      rw [hr.cell]
      exact this
    · have := h4 (j + 1) x (by simpa using hj)
      rw [← this]; congr 1; omega
    · have hl : l = [] := List.length_eq_zero_iff.1 (by omega)
      exact ⟨hl, by omega, .inr ⟨g, o, 0, cur, rfl, hB, hr, Nat.le_refl _, by omega, Nat.zero_le _, fun j x hj => by simp at hj⟩⟩
theorem cap_small : ∀ N, N < 16 → ∀ c, c ≤ N → Builtin.nextslicecap (N + 1) c * 1 ≤ 281474976710656 := by decide
def AppQ (X W : World) (v x v' : Value) : Prop :=
  (Builtin.append_ #[40, 40] 40 #[v, x]).run Try.prog X = .ok v' W
theorem AppQ.eq {X W : World} {v x v' : Value} (h : AppQ X W v x v') : (Builtin.append_ #[40, 40] 40 #[v, x]).run Try.prog X = .ok v' W := h
theorem src_one (X : World) (sb sc c : Nat) (hs : X.cell? ⟨sb, 0, none⟩ = some (.int .u8 (c : Nat))) : Src Try.prog 1 40 (.slice (some ⟨sb, 0, none⟩) 1 sc) 1 [.int .u8 (c : Nat)] X :=
  Src.ofSlice X Try.underlying40 ⟨sb, 0, none⟩ 1 sc [.int .u8 (c : Nat)] rfl (fun j u h => by
    rcases j with _ | j
    · simp at h; subst h; rw [Addr.add_lit]; exact hs
    · simp at h) (fun u hu => by simp at hu; subst hu; rfl)
def qV (l : List Nat) : List Value := l.map fun n => Value.int .u8 (n : Nat)
theorem app_q {X : World} {B : Nat} {v : Value} {l : List Nat} (h : Qat X B v l) (hB : B ≤ X.heap.size) (hl : l.length < 16) (sb sc c : Nat) (hs : X.cell? ⟨sb, 0, none⟩ = some (.int .u8 (c : Nat))) :
    ∃ W v', AppQ X W v (.slice (some ⟨sb, 0, none⟩) 1 sc) v' ∧ Qat W B v' (l ++ [c]) ∧ (∀ g, g < X.heap.size → v.ownBlock ≠ some g → W.heap[g]? = X.heap[g]?) ∧ X.heap.size ≤ W.heap.size ∧ (∀ B' w0, B' ≤ B → Below B' w0 X → Below B' w0 W) ∧ (v'.ownBlock = v.ownBlock ∨ v'.ownBlock = some X.heap.size) := by
  obtain ⟨i0, hi, hz, hsz, hby⟩ := info_parts (P := Try.prog) (e := 5) (z := .int .u8 0) (size := 1) (bytes := 1) (by kernel_rfl)
  have hS : Src Try.prog i0.size 40 (.slice (some ⟨sb, 0, none⟩) 1 sc) 1 [.int .u8 (c : Nat)] X := by rw [hsz]; exact src_one X sb sc c hs
  have grow : ∀ (a : Option Addr) (cap : Nat), cap ≤ l.length → (Builtin.firstCells i0.size l.length (.slice a l.length cap)).run Try.prog X.drew = .ok (qV l).toArray X.drew →
      ∃ W v', AppQ X W (.slice a l.length cap) (.slice (some ⟨sb, 0, none⟩) 1 sc) v' ∧ Qat W B v' (l ++ [c]) ∧ (∀ g, g < X.heap.size → W.heap[g]? = X.heap[g]?) ∧ X.heap.size ≤ W.heap.size ∧ (∀ B' w0, B' ≤ B → Below B' w0 X → Below B' w0 W) ∧ v'.ownBlock = some X.heap.size := by
    intro a cap hc hf
    have hN : Builtin.nextslicecap (l.length + 1) cap * i0.bytes ≤ 281474976710656 := by rw [hby]; exact cap_small l.length hl cap hc
    have hr := run_append_grow_src (P := Try.prog) X 40 40 40 5 i0 _ Try.underlying40 hi hz a l.length cap (qV l) hf _ 1 _ hS (by omega) (by omega) hN
    have hlen : (qV l ++ [Value.int .u8 (c : Nat)]).length = l.length + 1 := by simp [qV]
    refine ⟨_, _, hr, .inr ⟨_, 0, _, _, by simp; rfl, hB, RowAt.new X.drew _ _ _ rfl, by simp; exact grownCap_ge _ _ _ _, ?_, grownCap_le_maxLen _ _ _ _ (by unfold maxLen; omega), fun j x hj => ?_⟩, fun g hg => ?_, by simp, fun B' w0 hB' hb => hb.drew.alloc (by simp; omega) _, rfl⟩
    · have := grownCap_ge X (l.length + 1) cap 5
      simp [qV, Builtin.zeroCells, Value.cells]
      omega
    · have hjl : j < l.length + 1 := by have := (List.getElem?_eq_some_iff.1 hj).1; simpa using this
      rw [Nat.zero_add, Array.getElem?_append_left (by simpa [qV] using hjl), List.getElem?_toArray]
      rcases at_append hj with ⟨h1, h2⟩ | ⟨h1, h2⟩
      · rw [List.getElem?_append_left (by simpa [qV] using h1), qV, List.getElem?_map, h2]; rfl
      · subst h1 h2
        rw [List.getElem?_append_right (by simp [qV])]; simp [qV]
    · exact Below.heap_alloc _ _ _ (by simpa using hg)
  rcases h with ⟨rfl, rfl⟩ | ⟨g, o, cap, cur, rfl, hBg, hr, h1, h2, h3, h4⟩
  · obtain ⟨W, v', a1, a2, a3, a4, a5, a6⟩ := grow none 0 (Nat.le_refl _) (run_firstCells_none _ _ _ _ _)
    exact ⟨W, v', a1, a2, fun g hg _ => a3 g hg, a4, a5, .inr a6⟩
  · by_cases hc : l.length + 1 ≤ cap
    · have hra := run_append_room_src (P := Try.prog) X 40 40 40 5 i0 Try.underlying40 hi g o l.length cap _ 1 _ hS hc
        (fun j hj => by
          rw [hr.cell, hsz, Nat.mul_one, Array.getElem?_eq_getElem (by simp at hj; omega)]; rfl)
        (fun j hj => hr.thaw _)
      rw [hsz, Nat.mul_one] at hra
      have hrow := RowAt.puts [Value.int .u8 (c : Nat)] (o + l.length) hr
      have hon := only_setCells g (o + l.length) [Value.int .u8 (c : Nat)] X
      refine ⟨_, _, hra, .inr ⟨g, o, cap, _, by simp, hBg, hrow, by simpa using hc, by simpa [putAll] using h2, h3, fun j x hj => ?_⟩, fun g' hg' hne => hon.row g' (fun e => hne (e ▸ rfl)), Nat.le_of_eq hon.size.symm, fun B' w0 hB' hb => hon.bel B' w0 (by omega) hb, .inl rfl⟩
      show (cur.setIfInBounds (o + l.length) (Value.int .u8 (c : Nat)))[o + j]? = _
      rcases at_append hj with ⟨h5, h6⟩ | ⟨h5, h6⟩
      · rw [Array.getElem?_setIfInBounds_ne (by omega)]; exact h4 j x h6
      · subst h5 h6
        rw [Array.getElem?_setIfInBounds_self_of_lt (by omega)]
    · obtain ⟨W, v', a1, a2, a3, a4, a5, a6⟩ := grow (some ⟨g, o, none⟩) cap (by omega) (run_firstCells_some _ _ _ ⟨g, o, none⟩ _ _ (qV l) (by simp [qV, hsz]) (fun j u hj => by
        have hjl : j < l.length := by have := (List.getElem?_eq_some_iff.1 hj).1; simpa [qV] using this
        rw [Addr.add_lit]
        show X.cell? _ = _
        rw [hr.cell, h4 j l[j] (List.getElem?_eq_getElem hjl), ← hj, qV, List.getElem?_map, List.getElem?_eq_getElem hjl]; rfl))
      exact ⟨W, v', a1, a2, fun g' hg' _ => a3 g' hg', a4, a5, .inr a6⟩
end Go.Proofs.Ythopfecjnbfnmaa
