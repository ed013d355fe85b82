/-
  The document's Write.
-/
import Derived.Test.YtghpjibjhaomoaaGreatDoorJMeRef3
import Derived.Deep.CutRange
namespace Go.Proofs.YtghpjibjhaomoaaGreatDoor
open Go.RowKit
set_option linter.unusedVariables false
attribute [local go_sem ↓] Go.wp_at_zero Go.wp_at_succ

theorem RP.ne {r : RP} {x b : Nat} (hx : r.owns x) (h1 : r.gB ≠ b) (h2 : r.gD ≠ b) : x ≠ b := by
  rcases hx with rfl | rfl
  · exact h1
  · exact h2
theorem cut_at {f : Nat → Nat} {N o m : Nat} (h : o + m ≤ N) (j : Nat) (hj : j < m) : (((List.range m).map fun i => f (o + i)))[j]? = some (f (o + j)) := by
  rw [List.getElem?_map, List.getElem?_range hj]; rfl
/-- Some bytes of a row, as values. -/
def rowB (f : Nat → Nat) (o m : Nat) : List Value := byteV ((List.range m).map fun i => f (o + i))
theorem rowB_len (f : Nat → Nat) (o m : Nat) : (rowB f o m).length = m := by simp [rowB, byteV]
theorem rowB_at {f : Nat → Nat} {o m j : Nat} (h : j < m) : (rowB f o m)[j]? = some (.int .u8 (f (o + j) : Nat)) := by
  unfold rowB byteV
  rw [List.getElem?_map, List.getElem?_map, List.getElem?_range h]; rfl
theorem byteV_one (l : List Nat) : ∀ u ∈ byteV l, u.oneCell' = true := fun u hu => by
  simp only [byteV, List.mem_map] at hu
  obtain ⟨x, _, rfl⟩ := hu
  rfl
theorem byteV_len (l : List Nat) : (byteV l).length = l.length := by simp [byteV]
theorem byteV_at {l : List Nat} {j : Nat} (h : j < l.length) : (byteV l)[j]? = some (.int .u8 ((l[j]?).getD 0 : Nat)) := by
  unfold byteV; rw [List.getElem?_map, List.getElem?_eq_getElem h]; rfl
theorem rowB_src {W : World} {g N o m : Nat} {f : Nat → Nat} (h : HoldsAt W g N 5 (fun x => .int .u8 (f x : Nat))) (p : Nat) (hp : p = o ∨ m = 0) (hm : o + m ≤ N) (j : Nat) (u : Value) (hu : (rowB f o m)[j]? = some u) : W.cell? ((⟨g, p, none⟩ : Addr).add j) = some u := by
  have hj : j < m := by have := (List.getElem?_eq_some_iff.1 hu).1; rwa [rowB_len] at this
  have hpo : p = o := by omega
  subst hpo
  rw [Addr.add_lit, h.cell (j := p + j) (by omega), ← hu, rowB_at hj]
theorem three_at {f : Nat → Nat} {N a : Nat} {l : List Nat} (h : a + l.length ≤ N) (j : Nat) (hj : j < N) : (rowB f 0 a ++ byteV l ++ rowB f (a + l.length) (N - (a + l.length)))[j]? = some (.int .u8 (wroteF f a l j : Nat)) := by
  unfold wroteF
  by_cases h1 : j < a
  · rw [List.append_assoc, List.getElem?_append_left (by rw [rowB_len]; exact h1), rowB_at h1, if_neg (by omega), Nat.zero_add]
  · by_cases h2 : j < a + l.length
    · rw [List.getElem?_append_left (by rw [List.length_append, rowB_len, byteV_len]; exact h2), List.getElem?_append_right (by rw [rowB_len]; omega), rowB_len, byteV_at (by omega), if_pos (by omega)]
    · rw [List.getElem?_append_right (by rw [List.length_append, rowB_len, byteV_len]; omega), List.length_append, rowB_len, byteV_len, rowB_at (by omega), if_neg (by omega), show a + l.length + (j - (a + l.length)) = j by omega]

end Go.Proofs.YtghpjibjhaomoaaGreatDoor
