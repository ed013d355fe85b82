/-
  What the document's only and but stand on.
-/
import Derived.Test.YtelakpogochifaaDoorRField
import Derived.Test.YtelakpogochifaaDoorCsMath
import Derived.Deep.RegionHeld3
namespace Go.Proofs.YtelakpogochifaaDoor
open Go.RowKit
set_option linter.unusedVariables false

/-- Block b holds the numbers of l. -/
def IntsAt (w : World) (b : Nat) (l : List Nat) : Prop := b < w.heap.size ∧ ∀ j (h : j < l.length), w.cell? ⟨b, j, none⟩ = some (.int .i64 (l[j] : Nat))
theorem IntsAt.below {w w' : World} {b n : Nat} {l : List Nat} (h : IntsAt w b l) (hn : b < n) (hb : Below n w w') : IntsAt w' b l :=
  ⟨Nat.lt_of_lt_of_le h.1 hb.size, fun j hj => (hb.cell (p := ⟨b, j, none⟩) hn).trans (h.2 j hj)⟩

/-- What a call leaves: all that lay. -/
def OffW (w0 : World) (n : Nat) (w : World) : Prop := Below n w0 w ∧ w0.heap.size = n
theorem OffW.step {w0 a b : World} {n : Nat} (h : OffW w0 n a) (k : Below a.heap.size a b) : OffW w0 n b := ⟨h.1.trans (k.mono (by rw [← h.2]; exact h.1.size)), h.2⟩
theorem OffW.drew {w0 a : World} {n : Nat} (h : OffW w0 n a) : OffW w0 n a.drew := ⟨h.1.drew, h.2⟩
theorem OffW.cell {w0 a b : World} {n g j : Nat} {c : Value} (h : OffW w0 n a) (k : Below a.heap.size a b) (hg : g < n) (hc : a.cell? ⟨g, j, none⟩ = some c) : b.cell? ⟨g, j, none⟩ = some c :=
  (k.cell (p := ⟨g, j, none⟩) (Nat.lt_of_lt_of_le hg (by rw [← h.2]; exact h.1.size))).trans hc
theorem Calls.one {P : Program} {f : Nat} {args : Array Value} {g j n : Nat} {w0 w1 : World} {c r : Value} (hg : g < n)
    (hs : w1.cell? ⟨g, j, none⟩ = some c ∧ OffW w0 n w1)
    (h : Calls P f args w1 fun e w2 => e = .returned r ∧ Below w1.heap.size w1 w2) :
    Calls P f args w1 fun e w2 => e = .returned r ∧ w2.cell? ⟨g, j, none⟩ = some c ∧ OffW w0 n w2 :=
  h.mono fun e w2 ⟨he, hb⟩ => ⟨he, hs.2.cell hb hg hs.1, hs.2.step hb⟩

theorem rset_one (a : Nat) (ha : a < 4294967296) (lo x : Nat) (hx : x < 4294967296) (w : World) :
    Calls Tryd.prog 90 #[.int .u32 a, .int .i64 lo, .int .i64 1, .int .u32 x] w fun e w' => e = .returned (.int .u32 (setOne a lo x : Nat)) ∧ Below w.heap.size w w' := by
  unfold setOne
  exact refset_any a ha lo 1 (by omega) (by omega) x hx w
theorem rset_zero (a : Nat) (ha : a < 4294967296) (lo : Nat) (w : World) :
    Calls Tryd.prog 90 #[.int .u32 a, .int .i64 lo, .int .i64 1, .int .u32 0] w fun e w' => e = .returned (.int .u32 (setOne a lo 0 : Nat)) ∧ Below w.heap.size w w' := rset_one a ha lo 0 (by decide) w
theorem rfld_one (v : Nat) (hv : v < 4294967296) (lo : Nat) (w : World) :
    Calls Tryd.prog 91 #[.int .u32 v, .int .i64 lo, .int .i64 1] w fun e w' => e = .returned (.int .u32 (fldOne v lo : Nat)) ∧ Below w.heap.size w w' := by
  unfold fldOne
  exact reffield_any v hv lo 1 w

theorem butL_take (v : Nat) (l : List Nat) (k : Nat) (h : k < l.length) : butL v (l.take (k + 1)) = setOne (butL v (l.take k)) l[k] 0 := by
  unfold butL
  rw [List.take_add_one, List.foldl_append, List.getElem?_eq_getElem h, Option.toList_some, List.foldl_cons, List.foldl_nil]
theorem butL_lt (v : Nat) (hv : v < 4294967296) (l : List Nat) : ∀ k, butL v (l.take k) < 4294967296
  | 0 => hv
  | k + 1 => by
    by_cases h : k < l.length
    · rw [butL_take v l k h]; exact setOne_lt _ _ _
    · rw [List.take_of_length_le (by omega), ← List.take_of_length_le (i := k) (l := l) (by omega)]; exact butL_lt v hv l k
end Go.Proofs.YtelakpogochifaaDoor
