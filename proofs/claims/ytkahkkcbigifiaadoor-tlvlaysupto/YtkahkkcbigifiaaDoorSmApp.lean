/-
  append and built slices, bytes; strings held against one another.
-/
import Derived.Test.YtkahkkcbigifiaaDoorSmCut
import Derived.Great.Walk
namespace Go.Proofs.YtkahkkcbigifiaaDoor
open Go.RowKit
set_option linter.unusedVariables false
set_option linter.unusedSimpArgs false

variable {P : Program} {ops : Array Oper} {rest : List Oper} {dst : Option Tmp} {ty t t2 : TypeId} {pos : String} {after : Array Edge} {a : Act} {w : World} {Q : Exit → Act → World → Prop} {K : Act → World → Prop} {x y : Operand} {gd : Option (Nat × Bool)}
structure BuiltR (P : Program) (e : TypeId) (n : Nat) (L : List (Nat × Value)) (C : Array Value) : Prop where
  h : P.builtSlice e n L = some C
theorem wp_bs {parts : Array (Nat × Operand)} (t e : TypeId) (n : Nat) (hu : P.underlying t = some (.slice e)) (C : Array Value) (N : Nat) (hN : w.heap.size = N) (L : List (Nat × Value)) (hL : (parts.map fun p => (p.1, a.eval p.2)).toList = L) (hf : BuiltR P e n L C)
    (k : ∀ W, RowAt W N C e → Below N w W → Hid (W.heap.size = N + 1) → K (a.put dst (.slice (some ⟨N, 0, none⟩) n n)) W) :
    Oper.wp P ⟨dst, .buildSlice t n parts, ty, pos, after, none⟩ a w K Q := by
  subst hN hL
  replace hf := hf.h
  unfold Program.builtSlice at hf
  cases hie : P.info? e with
  | none => simp [hie] at hf
  | some ie =>
    simp only [hie] at hf
    cases hz : ie.zero with
    | none => simp [hz] at hf
    | some z =>
      simp only [hz] at hf
      by_cases hc : n * ie.size > 2 ^ 24 ∨ n * ie.size = 0
      · simp [hc] at hf
      · rw [if_neg hc] at hf
        exact wp_buildSlice t e n parts rfl C ie z hu hie hz (fun h' => hc (Or.inl h')) (fun h' => hc (Or.inr h')) hf (k _ (RowAt.new w _ C e rfl) (below_one w _) (hide (by simp)))
theorem op_bs {parts : Array (Nat × Operand)} (t e : TypeId) (n : Nat) (hu : P.underlying t = some (.slice e)) (C : Array Value) (N : Nat) (hN : w.heap.size = N) (L : List (Nat × Value)) (hL : (parts.map fun p => (p.1, a.eval p.2)).toList = L) (hf : BuiltR P e n L C)
    (k : ∀ W, RowAt W N C e → Below N w W → Hid (W.heap.size = N + 1) → wpList P ops Q rest (a.put dst (.slice (some ⟨N, 0, none⟩) n n)) W) :
    wpList P ops Q (⟨dst, .buildSlice t n parts, ty, pos, after, none⟩ :: rest) a w :=
  wpList_plain rfl fun K hK => wp_bs t e n hu C N hN L hL hf fun W h1 h2 h3 => hK _ _ (k W h1 h2 h3)
/-- append of bytes that can be read. -/
theorem wp_app {B C : Nat} {e : TypeId} (i : TypeInfo) (ht : P.underlying t = some (.slice e)) (hi : P.info? e = some i) (hz : i.zero = some (.int .u8 0)) (hs : i.size = 1) (hb : i.bytes = 1) {v u : Value} {l m : List Nat} (ho : Own B e w v l) (h : Rd C w u m) (hn : l.length + m.length ≤ 140737488355328) (hB : B ≤ w.heap.size) (hx : a.eval x = v) (hy : a.eval y = u)
    (k : ∀ W v', Own B e W v' (l ++ m) → w.grownBy W v.ownBlock → K (a.put dst v') W) :
    Oper.wp P ⟨dst, .call { callee := .builtin .append, args := #[x, y], argTypes := #[t, t] }, t, pos, after, none⟩ a w K Q := by
  obtain ⟨v', W, h1, h2, h3⟩ := ex_app (P := P) (dst := dst) (pos := pos) (after := after) (gd := none) i ht hi hz hs hb ho h hn hB hx hy
  unfold Oper.wp
  rw [h1, Oper.upon_value]
  exact k W v' h2 h3
theorem op_app {B C : Nat} {e : TypeId} (i : TypeInfo) (ht : P.underlying t = some (.slice e)) (hi : P.info? e = some i) (hz : i.zero = some (.int .u8 0)) (hs : i.size = 1) (hb : i.bytes = 1) {v u : Value} {l m : List Nat} (ho : Own B e w v l) (h : Rd C w u m) (hn : l.length + m.length ≤ 140737488355328) (hB : B ≤ w.heap.size) (hx : a.eval x = v) (hy : a.eval y = u)
    (k : ∀ W v', Own B e W v' (l ++ m) → w.grownBy W v.ownBlock → wpList P ops Q rest (a.put dst v') W) :
    wpList P ops Q (⟨dst, .call { callee := .builtin .append, args := #[x, y], argTypes := #[t, t] }, t, pos, after, none⟩ :: rest) a w :=
  wpList_plain rfl fun K hK => wp_app i ht hi hz hs hb ho h hn hB hx hy fun W v' h1 h2 => hK _ _ (k W v' h1 h2)
theorem Own.grown {B N : Nat} {e : TypeId} {w w0 W : World} {v : Value} {l : List Nat} (h : Own B e w v l) (hg : w.grownBy W v.ownBlock) (hb : Below N w0 w) (hN : N ≤ w.heap.size) (hB : N ≤ B) : Below N w0 W :=
  hb.grown hg hN fun k hk => Nat.le_trans hB (h.row.lt k hk).1
theorem rd_new {e : TypeId} (W : World) (cs : Array Value) (l : List Nat) (h : cs = (byV l).toArray) (hl : ∀ x ∈ l, x < 256) (n : Nat) (hn : l.length = n) (hm : n ≤ 9223372036854775807) : Rd (W.alloc (.cells cs e)).heap.size (W.alloc (.cells cs e)) (.slice (some ⟨W.heap.size, 0, none⟩) n n) l := by
  subst h
  exact rd_row (RowAt.new W W.heap.size _ e rfl) hl n hn hm
theorem bs4 (z0 z1 z2 z3 : Int) : BuiltR Tryd.prog 5 4 [(0, .int .u8 z0), (1, .int .u8 z1), (2, .int .u8 z2), (3, .int .u8 z3)] #[.int .u8 z0, .int .u8 z1, .int .u8 z2, .int .u8 z3] := ⟨by kernel_rfl⟩
theorem und_str : Tryd.prog.underlying 9 = some .string := by kernel_rfl
/-- A string held against another one. -/
theorem ex_sneq (s u : ByteArray) (hx : a.eval x = .string s) (hy : a.eval y = .string u) (w : World) :
    (execOp a.eval ⟨dst, .binOp .neq 9 x y t2, ty, pos, after, gd⟩).run Tryd.prog w = .ok (.value (.bool (!(s.toList == u.toList)))) w := by
  unfold execOp
  simp only [hx, hy]
  go_simp
theorem ex_seq (s u : ByteArray) (hx : a.eval x = .string s) (hy : a.eval y = .string u) (w : World) :
    (execOp a.eval ⟨dst, .binOp .eql 9 x y t2, ty, pos, after, gd⟩).run Tryd.prog w = .ok (.value (.bool (s.toList == u.toList))) w := by
  unfold execOp
  simp only [hx, hy]
  go_simp
theorem ok_whole (l : List Nat) (m : Nat) (hm : l.length = m + 4) : okL l = decide (l.take m ++ tail4 (sumL (l.take m)) = l) := by
  unfold okL
  rw [hm, Nat.add_sub_cancel]
  have h4 : decide (4 ≤ m + 4) = true := by simp
  rw [h4, Bool.true_and]
  by_cases h : l.drop m = tail4 (sumL (l.take m))
  · rw [decide_eq_true h, decide_eq_true (by rw [← h, List.take_append_drop])]
  · rw [decide_eq_false h, decide_eq_false]
    intro h2
    apply h
    have h3 := congrArg (List.drop m) h2
    have e : (l.take m).length = m := by rw [List.length_take]; omega
    rw [List.drop_append, e, Nat.sub_self, List.drop_zero, List.drop_eq_nil_of_le (by omega), List.nil_append] at h3
    exact h3.symm
end Go.Proofs.YtkahkkcbigifiaaDoor
