/-
  What the document's only answers.
-/
import Derived.Test.YtelakpogochifaaDoorRCsBase
namespace Go.Proofs.YtelakpogochifaaDoor
open Go.RowKit
set_option linter.unusedVariables false

theorem onlyL_take (v : Nat) (l : List Nat) (k : Nat) (h : k < l.length) : onlyL v (l.take (k + 1)) = setOne (onlyL v (l.take k)) l[k] (fldOne v l[k]) := by
  unfold onlyL
  rw [List.take_add_one, List.foldl_append, List.getElem?_eq_getElem h, Option.toList_some, List.foldl_cons, List.foldl_nil]
theorem onlyL_lt (v : Nat) (l : List Nat) : ∀ k, onlyL v (l.take k) < 4294967296
  | 0 => by show 0 < 4294967296; decide
  | k + 1 => by
    by_cases h : k < l.length
    · rw [onlyL_take v l k h]; exact setOne_lt _ _ _
    · rw [List.take_of_length_le (by omega), ← List.take_of_length_le (i := k) (l := l) (by omega)]; exact onlyL_lt v l k
set_option maxHeartbeats 1000000 in
set_option maxRecDepth 100000 in
theorem ronly_any (v : Nat) (hv : v < 4294967296) (l : List Nat) (hl : ∀ j (h : j < l.length), l[j] < 32) (hn : l.length < 100) (b : Nat) (w : World) (hc : IntsAt w b l) :
    Calls Tryd.prog 78 #[.int .u32 v, .slice (some ⟨b, 0, none⟩) l.length l.length] w fun e w' => e = .returned (.int .u32 (onlyL v l : Nat)) ∧ Below w.heap.size w w' := by
  have HS := hide rset_one
  have HF := hide (rfld_one v hv)
  have HC := hide hc
  have HL := hide hl
  clear hc hl
  go_enter Tryd.func78, Tryd.ntmps78
  go_wp2
  go_loopw [5, 6] (fun o i wr => ∃ k : Nat, k ≤ l.length ∧ i = .int .i64 k ∧ o = .int .u32 (onlyL v (l.take k) : Nat) ∧ Below w.heap.size w wr) (fun _ i _ => l.length - (intOf i).toNat)
  case atStart => exact ⟨0, by omega, rfl, rfl, Below.refl _ _⟩
  case round =>
    obtain ⟨k, hk, rfl, rfl, hB⟩ := hrel
    by_cases hlt : k < l.length
    · have hx := HL.out k hlt
      have hcell := (HC.out.below HC.out.1 hB).2 k hlt
      have HB := hide hB
      have HCr := hide (HC.out.below HC.out.1 hB)
      have hol := onlyL_lt v l k
      have HT := hide (onlyL_take v l k hlt)
      obtain ⟨x, hxe⟩ : ∃ x, l[k] = x := ⟨_, rfl⟩
      rw [hxe] at hx hcell HT
      obtain ⟨f, hfe⟩ : ∃ f, fldOne v x = f := ⟨_, rfl⟩
      have hfl := fldOne_lt v x
      have HFx := hide (HF.out x)
      rw [hfe] at hfl HT HFx
      clear hfe hxe
      generalize onlyL v (l.take k) = o at *
      have hg : OffW w w.heap.size wr := ⟨HB.out, rfl⟩
      have hg' : OffW w w.heap.size wr.drew := hg.drew
      have HG := hide HC.out.1
      clear hB
      go_wp2_with (fail)
      go_region_held3 (fun w' => w'.cell? ⟨b, k, none⟩ = some (.int .i64 x) ∧ OffW w w.heap.size w') (go_keep)
        (first | (go_at_call 91; refine (Calls.one (w0 := w) (g := b) (j := k) (c := .int .i64 x) HG.out ?_ (HFx.out _)).mono ?_; (simp [*]); rintro e w' ⟨rfl, hcell, hg⟩) | (go_at_call 90; refine (Calls.one (w0 := w) (g := b) (j := k) (c := .int .i64 x) HG.out ?_ (HS.out _ (by assumption) _ _ (by assumption) _)).mono ?_; (simp [*]); rintro e w' ⟨rfl, hcell, hg⟩))
      go_wp2
      go_roundw
      case rel => exact ⟨k + 1, by omega, by go_num, by rw [HT.out], hg.1⟩
      case measure => simp [intOf]; omega
    · obtain rfl : k = l.length := by omega
      rw [List.take_length]
      go_wp2
      go_ret
      exact ⟨rfl, hB⟩
end Go.Proofs.YtelakpogochifaaDoor
