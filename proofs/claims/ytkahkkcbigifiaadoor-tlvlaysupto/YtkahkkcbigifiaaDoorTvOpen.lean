/-
  Slices that came in, element by element with their data; how far a slice within a datum reaches; words.
-/
import Derived.Test.YtkahkkcbigifiaaDoorSmOpen
import Derived.Test.YtkahkkcbigifiaaDoorTvRows
import Derived.SizedLaws
namespace Go.Proofs.YtkahkkcbigifiaaDoor
open Go.ChangeShapes Go.WideShapes Go.ChangeAt Go.RowKit
set_option linter.unusedVariables false

theorem open_elems2 {H : Type} {enc : TypeId × Value → H} {P : Program} {w : World} {base : Nat} {spare : Nat → Bool} {held : Bool} {ts t : TypeId} {C fuel : Nat} {vs : List Value} {x : DataW H × List MemPlace}
    (hts : P.underlying ts = some (.slice t)) (hC : P.cellsOf t = C) (hpos : 0 < C) (hlen : ∀ n cs y, DataW.trod enc P w base spare held n t cs = some y → cs.length = C)
    (h : DataW.trod enc P w base spare held fuel ts vs = some x) :
    ∃ a len cap, vs = [.slice a len cap] ∧ len ≤ cap ∧ cap ≤ maxLen ∧ ∀ j, j < len → ∃ b o cs m y es sp, a = some ⟨b, o, none⟩ ∧ cs.length = C ∧ (∀ i, i < C → w.cell? ⟨b, o + j * C + i, none⟩ = cs[i]?) ∧ DataW.trod enc P w base spare held m t cs = some y ∧ x.1 = .slice es sp ∧ y.1 ∈ es := by
  rcases DataW.trod_slice hts h with ⟨h0, _⟩ | ⟨ad, len, cap, elems, rest, n, _, hcs, hx, hb, hl, hm, hle, hel, _, _⟩
  · exact ⟨none, 0, 0, h0, Nat.le_refl _, Nat.zero_le _, fun j hj => absurd hj (by omega)⟩
  · refine ⟨some ad, len, cap, hcs, hl, hm, fun j hj => ?_⟩
    have h1 := hel j hj
    have hxj : j < elems.length := by omega
    rw [List.getElem?_eq_getElem hxj, hC] at h1
    rw [Option.bind_eq_some_iff] at h1
    obtain ⟨cs, h2, h3⟩ := h1
    have hcl := hlen _ _ _ h3
    obtain ⟨_, hln, hcell⟩ := World.cells?_some h2
    have hsp : ad.spot = none := by
      have h1 := hel 0 (by omega)
      rw [List.getElem?_eq_getElem (by omega), hC] at h1
      rw [Option.bind_eq_some_iff] at h1
      obtain ⟨cs, h2, h3⟩ := h1
      have hcl := hlen _ _ _ h3
      obtain ⟨_, _, hcell⟩ := World.cells?_some h2
      have hc0 := hcell 0 hpos
      rw [List.getElem?_eq_getElem (by omega)] at hc0
      have := World.cell?_spot hc0
      simpa [Addr.add] using this
    obtain ⟨b, o, spot⟩ := ad
    simp only at hsp
    subst hsp
    refine ⟨b, o, cs, n, elems[j], _, _, rfl, hcl, fun i hi => ?_, h3, by rw [hx], List.mem_map.2 ⟨_, List.getElem_mem hxj, rfl⟩⟩
    have hc := hcell i hi
    have e : (Addr.add (Addr.add ⟨b, o, none⟩ (j * C)) i) = ⟨b, o + j * C + i, none⟩ := by
      unfold Addr.add
      by_cases h1 : j * C = 0 <;> by_cases h2 : i = 0 <;> simp [h1, h2]
    rw [← e]; exact hc
theorem all_mem {H : Type} {P : Program} {e : TypeId} {n : Nat} : ∀ {es : List (DataW H)} {d : DataW H}, d ∈ es → n ∈ d.weights P e → n ∈ DataW.weightsAll P e es
  | x :: es, d, hd, hn => by
    simp only [DataW.weightsAll, List.mem_append]
    rcases List.mem_cons.1 hd with rfl | hd
    · exact .inl hn
    · exact .inr (all_mem hd hn)
  | [], _, hd, _ => by cases hd
/-- What an element weighs the slice weighs, too. -/
theorem slice_mem {H : Type} {P : Program} {t e : TypeId} {n : Nat} {es sp : List (DataW H)} {d : DataW H} (ht : P.underlying t = some (.slice e)) (hd : d ∈ es) (hn : n ∈ d.weights P e) : n ∈ (DataW.slice es sp).weights P t := by
  simp only [DataW.weights, ht, List.mem_cons, List.mem_append]
  exact .inr (.inl (all_mem hd hn))
theorem bytesOf_u8 : Tryd.prog.bytesOf 5 = 1 := by kernel_rfl
/-- Bytes that came in reach no farther than the datum. -/
theorem bytes_reach {H' : Type} {enc : TypeId × Value → H'} {W : World} {held : Bool} {base m : Nat} {spare : Nat → Bool} {a : Option Addr} {len cap R : Nat} {y : DataW H' × List MemPlace}
    (h : DataW.trod enc Tryd.prog W base spare held m 26 [.slice a len cap] = some y) (hR : ∀ n ∈ y.1.weights Tryd.prog 26, n ≤ R) : len ≤ R := by
  rcases DataW.trod_slice Tryd.underlying26 h with ⟨h0, _⟩ | ⟨ad, len', cap', elems, rest, n, _, hcs, hx, _, _, _, hle, _⟩
  · simp only [List.cons.injEq, Value.slice.injEq, and_true] at h0
    omega
  · simp only [List.cons.injEq, Value.slice.injEq, and_true] at hcs
    obtain ⟨rfl, rfl, rfl⟩ := hcs
    have := hR ((elems.length + rest.length) * 1) (by
      rw [hx]
      simp only [DataW.weights, Tryd.underlying26, bytesOf_u8, List.length_map, List.mem_cons, true_or])
    omega
theorem some_of' {α : Type} {l : List α} {j : Nat} (h : j < l.length) : l[j]? = some l[j] := List.getElem?_eq_getElem h
theorem one_at' {cs : List Value} {o : Nat} {v : Value} (h : (cs.drop o).take 1 = [v]) : cs[o]? = some v := by
  have h1 : ((cs.drop o).take 1)[0]? = some v := by rw [h]; rfl
  rw [List.getElem?_take, if_pos (by decide), List.getElem?_drop, Nat.add_zero] at h1
  exact h1
theorem cells_u32 : Tryd.prog.cellsOf 22 = 1 := by kernel_rfl
theorem slice_form {H' : Type} {enc : TypeId × Value → H'} {W : World} {held : Bool} {base m : Nat} {spare : Nat → Bool} {cs : List Value} {y : DataW H' × List MemPlace}
    (h : DataW.trod enc Tryd.prog W base spare held m 26 cs = some y) : ∃ a n c, cs = [.slice a n c] := by
  rcases DataW.trod_slice Tryd.underlying26 h with ⟨h0, _⟩ | ⟨ad, len, cap, elems, rest, n, _, hcs, _⟩
  · exact ⟨_, _, _, h0⟩
  · exact ⟨_, _, _, hcs⟩
theorem slice_nil0 {H' : Type} {enc : TypeId × Value → H'} {W : World} {held : Bool} {base m : Nat} {spare : Nat → Bool} {t e : TypeId} {a : Option Addr} {len cap : Nat} {y : DataW H' × List MemPlace} (hu : Tryd.prog.underlying t = some (.slice e))
    (h : DataW.trod enc Tryd.prog W base spare held m t [.slice a len cap] = some y) : len ≤ cap ∧ cap ≤ 9223372036854775807 := by
  rcases DataW.trod_slice hu h with ⟨h0, _⟩ | ⟨ad, len', cap', elems, rest, n, _, hcs, _, _, hl, hm, _⟩
  · simp only [List.cons.injEq, Value.slice.injEq, and_true] at h0
    omega
  · simp only [List.cons.injEq, Value.slice.injEq, and_true] at hcs
    obtain ⟨rfl, rfl, rfl⟩ := hcs
    exact ⟨hl, hm⟩
end Go.Proofs.YtkahkkcbigifiaaDoor
