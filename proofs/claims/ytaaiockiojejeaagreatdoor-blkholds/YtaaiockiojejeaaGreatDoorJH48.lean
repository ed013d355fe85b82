/-
  Rings and pairs of words that came in, as plain numbers.
-/
import Derived.Test.YtaaiockiojejeaaGreatDoorJH15
import Derived.Test.YtaaiockiojejeaaGreatDoorJH14
import Derived.Test.YtaaiockiojejeaaGreatDoorJH0
import Derived.ProofKit
import Derived.OpenShut
import Derived.WideShapes
namespace Go.Proofs.YtaaiockiojejeaaGreatDoor
open Go.ChangeShapes Go.WideShapes Go.ChangeAt Go.RowKit
set_option linter.unusedVariables false

theorem bounds_w {z : Int} (h : (Lit.int .u32 z).wf = true) : ∃ n : Nat, z = n ∧ n < 4294967296 := by
  have hb := bounds_u32 h
  exact ⟨z.toNat, by omega, by omega⟩
theorem one_at {l : List Value} {a : Nat} {v : Value} (h : (l.drop a).take 1 = [v]) : l[a]? = some v := by
  have e : ((l.drop a).take 1)[0]? = some v := by rw [h]; rfl
  simpa using e
theorem some_of {α : Type} {l : List α} {i : Nat} (h : i < l.length) : l[i]? = some l[i] := List.getElem?_eq_getElem h
variable {H' : Type} {enc : TypeId × Value → H'} {W : World} {base b0 : Nat} {spare : Nat → Bool} {held : Bool} {fuel : Nat} {x : DataW H' × List MemPlace}
theorem word_at {cs : List Value} (h : DataW.trod enc Tryz.prog W base spare held fuel 22 cs = some x) : ∃ n : Nat, cs = [.int .u32 (n : Nat)] ∧ n < 4294967296 := by
  obtain ⟨z, e, _, hw⟩ := DataW.trod_int Tryz.underlying22 h
  obtain ⟨n, rfl, hn⟩ := bounds_w hw
  exact ⟨n, e, hn⟩
theorem int_at {cs : List Value} (h : DataW.trod enc Tryz.prog W base spare held fuel 3 cs = some x) : ∃ z : Int, cs = [.int .i64 z] ∧ (-9223372036854775808 ≤ z ∧ z ≤ 9223372036854775807) := by
  obtain ⟨z, e, _, hw⟩ := DataW.trod_int Tryz.underlying3 h
  have hb := bounds_i64 hw
  exact ⟨z, e, by omega, by omega⟩
theorem cells_w : Tryz.prog.cellsOf 22 = 1 := by kernel_rfl
theorem cells_in : Tryz.prog.cellsOf 3 = 1 := by kernel_rfl
theorem open_pairs {a : Option Addr} {len cap : Nat} {d : DataW H'} {p : List MemPlace}
    (h : DataW.Trod enc Tryz.prog W base spare held 35 (.slice a len cap) d p) : ∃ g : Nat → Nat → Nat, len ≤ cap ∧ cap ≤ 9223372036854775807 ∧ PairsAt W W.heap.size a len g := by
  obtain ⟨h1, h2, g, hg⟩ := open_arrs (N := 2) Tryz.underlying35 Tryz.underlying23 Tryz.underlying22 cells_w (by kernel_rfl) (by decide) h
  unfold maxLen at h2
  refine ⟨fun j i => (g j i).toNat, h1, by omega, ⟨fun j hj => ?_, fun j hj => ?_⟩⟩
  · obtain ⟨⟨b, o, e, hc⟩, hw⟩ := hg j hj
    have k0 := hc 0 (by decide)
    have k1 := hc 1 (by decide)
    have b0 := bounds_u32 (hw 0 (by decide))
    have b1 := bounds_u32 (hw 1 (by decide))
    refine ⟨b, o, e, lt_of_cell k0, ?_, ?_⟩
    · rw [show (((g j 0).toNat : Nat) : Int) = g j 0 by omega]; exact k0
    · rw [show (((g j 1).toNat : Nat) : Int) = g j 1 by omega]; exact k1
  · obtain ⟨_, hw⟩ := hg j hj
    have b0 := bounds_u32 (hw 0 (by decide))
    have b1 := bounds_u32 (hw 1 (by decide))
    exact ⟨by omega, by omega⟩
end Go.Proofs.YtaaiockiojejeaaGreatDoor
