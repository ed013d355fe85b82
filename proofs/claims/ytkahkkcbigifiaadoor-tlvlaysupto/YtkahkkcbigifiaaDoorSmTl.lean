/-
  Bytes and their sum behind: Tail.
-/
import Derived.Test.YtkahkkcbigifiaaDoorSmTail
namespace Go.Proofs.YtkahkkcbigifiaaDoor
open Go.RowKit
set_option linter.unusedVariables false
set_option linter.unusedSimpArgs false

theorem info_u8 : ∃ i, Tryd.prog.info? 5 = some i ∧ i.zero = some (.int .u8 0) ∧ i.size = 1 ∧ i.bytes = 1 := by
  have hm : (Tryd.prog.info? 5).map (fun i => (i.zero, i.size, i.bytes)) = some (some (.int .u8 0), 1, 1) := by kernel_rfl
  obtain ⟨i, hi, hm⟩ := Option.map_eq_some_iff.1 hm
  exact ⟨i, hi, congrArg (·.1) hm, congrArg (·.2.1) hm, congrArg (·.2.2) hm⟩
theorem ex_frmC {P : Program} {dst : Option Tmp} {ty t : TypeId} {pos : String} {after : Array Edge} {a : Act} {x y : Operand} {gd : Option (Nat × Bool)} (g o len cap n : Nat) (hn : n ≤ len) (hc : n < cap) (ht : P.underlying t = some (.slice (P.elem t))) (hs : ∀ w, (sizeOf (P.elem t)).run P w = .ok 1 w) (hx : a.eval x = .slice (some ⟨g, o, none⟩) len cap) (hy : a.eval y = .int .i64 (n : Nat)) (w : World) :
    (execOp a.eval ⟨dst, .slice t x (some y) none none, ty, pos, after, gd⟩).run P w = .ok (.value (.slice (some ⟨g, o + n, none⟩) (len - n) (cap - n))) w := by
  unfold execOp
  simp only [hx, hy, Option.map_some, Option.map_none, Sem.run_bind, Sem.run_pure, run_sliceAt_slice w t _ _ _ _ ht, run_slice_l w t (some ⟨g, o, none⟩) len cap ht .i64 (n : Nat) (by omega) (by omega), hs, Result.andThen_ok, sliced]
  rw [if_neg (by simp; omega)]
  simp [Addr.add_lit]
theorem ex_frmT {P : Program} {dst : Option Tmp} {ty t : TypeId} {pos : String} {after : Array Edge} {a : Act} {x y : Operand} {gd : Option (Nat × Bool)} (g n : Nat) (ht : P.underlying t = some (.slice (P.elem t))) (hs : ∀ w, (sizeOf (P.elem t)).run P w = .ok 1 w) (hx : a.eval x = .slice (some ⟨g, 0, none⟩) (n + 4) (n + 4)) (hy : a.eval y = .int .i64 (n : Nat)) (w : World) :
    (execOp a.eval ⟨dst, .slice t x (some y) none none, ty, pos, after, gd⟩).run P w = .ok (.value (.slice (some ⟨g, n, none⟩) 4 4)) w := by
  have := ex_frmC (P := P) (dst := dst) (ty := ty) (pos := pos) (after := after) (gd := gd) g 0 (n + 4) (n + 4) n (by omega) (by omega) ht hs hx hy w
  rwa [Nat.add_sub_cancel_left, Nat.zero_add] at this
/-- What holds behind every operation from here on may be more than was asked so far. -/
theorem wpAnyH_more {P : Program} {md : Region.Mode} {ops : Array Oper} {Q : Exit → Act → World → Prop} {S S' : World → Prop} (hSS : ∀ w, S' w → S w) : ∀ (fuel : Nat) (listed : Array Bool) (a : Act) (w : World), wpAnyH P md ops Q S' fuel listed a w → wpAnyH P md ops Q S fuel listed a w
  | 0, _, _, _, h => h
  | fuel + 1, _, _, _, h => ⟨h.1, fun i hi => wpOp_mono (fun a' w' h' => ⟨hSS _ h'.1, wpAnyH_more hSS fuel _ a' w' h'.2⟩) (h.2 i hi)⟩
theorem und_sl : Tryd.prog.underlying 26 = some (.slice (Tryd.prog.elem 26)) := by kernel_rfl
theorem siz_sl : ∀ w : World, (sizeOf (Tryd.prog.elem 26)).run Tryd.prog w = .ok 1 w := fun w => by kernel_rfl
theorem tail4_len (s : Nat) : (tail4 s).length = 4 := rfl
/-- The array's bytes can be read. -/
theorem rd_row {w : World} {b : Nat} {l : List Nat} {t : TypeId} (h : RowAt w b (byV l).toArray t) (hl : ∀ x ∈ l, x < 256) (n : Nat) (hn : l.length = n) (hm : n ≤ 9223372036854775807) : Rd w.heap.size w (.slice (some ⟨b, 0, none⟩) n n) l := by
  subst hn
  refine ⟨hl, _, l.length, rfl, Nat.le_refl _, hm, fun _ => ⟨b, 0, rfl, h.lt, fun j hj => ?_⟩⟩
  rw [h.cell, Nat.zero_add, List.getElem?_toArray]
  exact byV_get hj
theorem put_one (l : List Nat) : putAll (zeros (l.length + 4)).toArray 0 (byV l) = (byV l ++ zeros 4).toArray := by
  rw [putAll_list _ _ 0 (by rw [byV_len, zeros_len]; omega)]
  simp only [List.take_zero, List.nil_append, Nat.zero_add, byV_len]
  congr 2
  unfold zeros byV
  rw [← List.map_drop, List.drop_replicate]
  congr 2; omega
theorem put_two (l : List Nat) (s : Nat) : putAll (byV l ++ zeros 4).toArray l.length (byV (tail4 s)) = (byV (l ++ tail4 s)).toArray := by
  rw [putAll_list _ _ _ (by rw [List.length_append, byV_len, byV_len, zeros_len, tail4_len]; omega)]
  congr 1
  have h1 : (byV l ++ zeros 4).take l.length = byV l := by rw [← byV_len l, List.take_left]
  have h2 : (byV l ++ zeros 4).drop (l.length + (byV (tail4 s)).length) = [] := List.drop_eq_nil_of_le (by rw [List.length_append, byV_len, byV_len, zeros_len, tail4_len]; omega)
  rw [h1, h2, List.append_nil, byV_app]
end Go.Proofs.YtkahkkcbigifiaaDoor
