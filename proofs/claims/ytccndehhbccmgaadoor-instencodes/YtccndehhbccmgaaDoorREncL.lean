/-
  Rows of places that a call has made, kept and joined; a word into which bits are laid one by one.
-/
import Derived.Test.YtccndehhbccmgaaDoorREncB
import Derived.Test.YtccndehhbccmgaaDoorRSet
namespace Go.Proofs.YtccndehhbccmgaaDoor
open Go.RowKit
set_option linter.unusedVariables false

theorem Own.lt {base : Nat} {w : World} {v : Value} {l : List Nat} (h : Own base w v l) : ∀ k, v.ownBlock = some k → k < w.heap.size := by
  intro k hk
  rcases h.2 with ⟨rfl, _⟩ | ⟨g, cap, cur, rfl, hg, hcur, _⟩
  · simp [Value.ownBlock] at hk
  · simp [Value.ownBlock] at hk
    subst hk
    exact (Array.getElem?_eq_some_iff.1 hcur).1
theorem Own.keep {base B : Nat} {w w' : World} {v : Value} {l : List Nat} (h : Own base w v l) (hb : Below B w w') (hB : w.heap.size ≤ B) : Own base w' v l := by
  have hlt := h.lt
  refine ⟨h.1, ?_⟩
  rcases h.2 with ⟨rfl, h0⟩ | ⟨g, cap, cur, rfl, hg, hcur, h1, h2, h3, h4⟩
  · exact .inl ⟨rfl, h0⟩
  · exact .inr ⟨g, cap, cur, rfl, hg, (hb.block g (Nat.lt_of_lt_of_le (hlt g rfl) hB)).trans hcur, h1, h2, h3, h4⟩
theorem Own.news {base : Nat} {w : World} {v : Value} {l : List Nat} (h : Own base w v l) (h0 : l ≠ []) : ∃ g cap, v = .slice (some ⟨g, 0, none⟩) l.length cap ∧ ∀ j u, (intsOf l)[j]? = some u → w.cell? ((⟨g, 0, none⟩ : Addr).add j) = some u := by
  obtain ⟨g, cap, rfl, _, _, hc⟩ := h.cells h0
  refine ⟨g, cap, rfl, ?_⟩
  intro j u hu
  have hj : j < l.length := by
    rcases Nat.lt_or_ge j l.length with h | h
    · exact h
    · rw [List.getElem?_eq_none (by rw [intsOf_length]; exact h)] at hu; cases hu
  have ha : (⟨g, 0, none⟩ : Addr).add j = ⟨g, j, none⟩ := by unfold Addr.add; split <;> simp_all
  rw [ha, hc j hj, ← hu, intsOf, List.getElem?_map, List.getElem?_eq_getElem hj, List.getD_eq_getElem?_getD, List.getElem?_eq_getElem hj]
  rfl
theorem Own.cellsN {base : Nat} {w : World} {v : Value} {l : List Nat} (h : Own base w v l) (m : Nat) (hm : l.length = m) (h0 : m ≠ 0) : ∃ g cap, v = .slice (some ⟨g, 0, none⟩) m cap ∧ m ≤ cap ∧ ∀ j, j < m → w.cell? ⟨g, j, none⟩ = some (.int .i64 (l.getD j 0 : Nat)) := by
  subst hm
  obtain ⟨g, cap, rfl, h1, _, hc⟩ := h.cells (fun e => h0 (by rw [e]; rfl))
  exact ⟨g, cap, rfl, h1, hc⟩
theorem ints_one (l : List Nat) : ∀ u ∈ intsOf l, u.oneCell' = true := by
  intro u hu
  obtain ⟨x, _, rfl⟩ := List.mem_map.1 hu
  simp [Value.oneCell']
theorem intsOf_append (a b : List Nat) : intsOf (a ++ b) = intsOf a ++ intsOf b := by simp [intsOf]

/-- A word into which bits of a number are laid, one by one. -/
def layF (n : Nat) (fs ts : List Nat) (b : Nat) : Nat → Nat
  | 0 => b
  | k + 1 => setW (layF n fs ts b k) (ts.getD k 0 : Nat) (1 : Nat) (bitN n (fs.getD k 0 : Nat))
theorem layF_lt (n : Nat) (fs ts : List Nat) (b : Nat) (hb : b < 4294967296) : ∀ k, layF n fs ts b k < 4294967296
  | 0 => hb
  | k + 1 => setW_lt _ (layF_lt n fs ts b hb k) _ _ _

theorem Calls.two {P : Program} {f : Nat} {args : Array Value} {g g' j n : Nat} {w0 w1 : World} {c c' r : Value} (hg : g < n) (hg' : g' < n)
    (hs : w1.cell? ⟨g, j, none⟩ = some c ∧ w1.cell? ⟨g', j, none⟩ = some c' ∧ Off w0 n w1)
    (h : Calls P f args w1 fun e w2 => e = .returned r ∧ Below w1.heap.size w1 w2) :
    Calls P f args w1 fun e w2 => e = .returned r ∧ w2.cell? ⟨g, j, none⟩ = some c ∧ w2.cell? ⟨g', j, none⟩ = some c' ∧ Off w0 n w2 :=
  h.mono fun e w2 ⟨he, hb⟩ => ⟨he, hs.2.2.cell hb hg hs.1, hs.2.2.cell hb hg' hs.2.1, hs.2.2.step hb⟩

theorem rset_bit (v : Nat) (hv : v < 4294967296) (p : Nat) (x : Nat) (hx : x < 4294967296) (w : World) :
    Calls Tryd.prog 32 #[.int .u32 v, .int .i64 p, .int .i64 1, .int .u32 x] w fun e w' => e = .returned (.int .u32 (setW v (p : Nat) (1 : Nat) x : Nat)) ∧ Below w.heap.size w w' := by
  have h := refset_any v hv (p : Nat) (1 : Nat) (by omega) (by omega) x hx w
  rw [← set_num v hv (p : Nat) (1 : Nat) x hx] at h
  exact h
end Go.Proofs.YtccndehhbccmgaaDoor
