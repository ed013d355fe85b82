/-
  bytes.Equal of two pages.
-/
import Derived.Test.YtghpjibjhaomoaaGreatDoorJMeDig
import Derived.Test.YtghpjibjhaomoaaGreatDoorJMeStore
namespace Go.Proofs.YtghpjibjhaomoaaGreatDoor
open Go.RowKit
set_option linter.unusedVariables false
attribute [local go_sem ↓] Go.wp_at_zero Go.wp_at_succ

/-- A page's bytes, as bytes. -/
def pageL (f : Nat → Nat) : List UInt8 := (List.range 4096).map fun j => UInt8.ofNat (f j)
theorem pageL_len (f : Nat → Nat) : (pageL f).length = 4096 := by simp [pageL]
theorem pageL_cells {f : Nat → Nat} (hf : ∀ j, f j < 256) {x : Nat} {u : Value} (h : (cellsB (pageL f))[x]? = some u) : x < 4096 ∧ u = .int .u8 (f x : Nat) := by
  have hx : x < 4096 := by
    have := (List.getElem?_eq_some_iff.1 h).1
    simpa [cellsB, pageL] using this
  refine ⟨hx, ?_⟩
  unfold cellsB pageL at h
  rw [List.getElem?_map, List.getElem?_map, List.getElem?_range hx] at h
  have := Option.some.inj h
  rw [← this]
  show Value.int .u8 (((UInt8.ofNat (f x)).toNat : Nat) : Int) = _
  rw [UInt8.toNat_ofNat', Nat.mod_eq_of_lt (hf x)]
theorem pageL_eq {f g : Nat → Nat} (hf : ∀ j, f j < 256) (hg : ∀ j, g j < 256) : pageL f = pageL g ↔ ∀ j, j < 4096 → f j = g j := by
  unfold pageL
  constructor
  · intro h j hj
    have h1 : ((List.range 4096).map fun j => UInt8.ofNat (f j))[j]? = ((List.range 4096).map fun j => UInt8.ofNat (g j))[j]? := by rw [h]
    rw [List.getElem?_map, List.getElem?_map, List.getElem?_range hj] at h1
    have h2 := congrArg UInt8.toNat (Option.some.inj h1)
    rw [UInt8.toNat_ofNat', UInt8.toNat_ofNat', Nat.mod_eq_of_lt (hf j), Nat.mod_eq_of_lt (hg j)] at h2
    exact h2
  · intro h
    apply List.map_congr_left
    intro j hj
    rw [h j (List.mem_range.1 hj)]
theorem str_of_cellsE {W' : World} {b off c : Nat} {l : List UInt8} (h : ∀ j u, (cellsB l)[j]? = some u → W'.cell? ⟨b, off + j, none⟩ = some u) :
    (convert 28 9 (.slice (some ⟨b, off, none⟩) l.length c)).run Tryz.prog W' = .ok (.string ⟨l.toArray⟩) W' := by
  refine run_convert_bytes_back W' _ _ 5 ⟨b, off, none⟩ c l Tryz.underlying28 Tryz.underlying5 Tryz.underlying9 ?_
  intro j hj
  rw [Addr.add_lit]
  exact h j _ (by simp [cellsB, hj])
theorem str_of_page {w : World} {g c : Nat} {f : Nat → Nat} (hf : ∀ j, f j < 256) (h : HoldsAt w g 4096 5 (fun o => .int .u8 (f o : Nat))) : (convert 28 9 (.slice (some ⟨g, 0, none⟩) 4096 c)).run Tryz.prog w = .ok (.string ⟨(pageL f).toArray⟩) w := by
  have hl := pageL_len f
  have := str_of_cellsE (l := pageL f) (W' := w) (b := g) (off := 0) (c := c) (fun x u hu => by
    obtain ⟨h1, rfl⟩ := pageL_cells hf hu
    rw [Nat.zero_add]
    exact h.cell h1)
  rw [hl] at this
  exact this
end Go.Proofs.YtghpjibjhaomoaaGreatDoor
