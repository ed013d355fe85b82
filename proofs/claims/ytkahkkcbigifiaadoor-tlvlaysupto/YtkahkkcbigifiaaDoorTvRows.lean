/-
  Rows of the laws' arguments: tags, asks, things; worlds that differ in a hole alone.
-/
import Derived.Test.YtkahkkcbigifiaaDoorTvSec
import Derived.Test.YtkahkkcbigifiaaDoorSmTl
namespace Go.Proofs.YtkahkkcbigifiaaDoor
open Go.RowKit
set_option linter.unusedVariables false
set_option linter.unusedSimpArgs false

/-- Elements of k cells each, in a block below B: cell i of element j is f j i. -/
structure ElemsAt (B k : Nat) (w : World) (v : Value) (n : Nat) (f : Nat → Nat → World → Value → Prop) : Prop where
  at' : ∃ a cap, v = .slice a n cap ∧ n ≤ cap ∧ cap ≤ 9223372036854775807 ∧
    (0 < n → ∃ b off, a = some ⟨b, off, none⟩ ∧ b < B ∧ ∀ j, j < n → ∀ i, i < k → ∃ u, w.cell? ⟨b, off + j * k + i, none⟩ = some u ∧ f j i w u)
theorem ElemsAt.bel {B k n : Nat} {w W : World} {v : Value} {f : Nat → Nat → World → Value → Prop} (h : ElemsAt B k w v n f) (hf : ∀ j i u, f j i w u → f j i W u) (hb : Below B w W) : ElemsAt B k W v n f := by
  obtain ⟨a, cap, h2, h3, h4, h5⟩ := h
  refine ⟨a, cap, h2, h3, h4, fun h0 => ?_⟩
  obtain ⟨b, off, e1, e2, e3⟩ := h5 h0
  refine ⟨b, off, e1, e2, fun j hj i hi => ?_⟩
  obtain ⟨u, c1, c2⟩ := e3 j hj i hi
  exact ⟨u, (hb.cell (p := ⟨b, off + j * k + i, none⟩) e2).trans c1, hf j i u c2⟩
theorem ElemsAt.form {B k n : Nat} {w : World} {v : Value} {f : Nat → Nat → World → Value → Prop} (h : ElemsAt B k w v n f) : ∃ a cap, v = .slice a n cap ∧ n ≤ cap ∧ cap ≤ 9223372036854775807 := by
  obtain ⟨a, cap, h2, h3, h4, h5⟩ := h
  exact ⟨a, cap, h2, h3, h4⟩
theorem ElemsAt.all {B k n : Nat} {w : World} {v : Value} {f : Nat → Nat → World → Value → Prop} (h : ElemsAt B k w v n f) (h0 : 0 < n) : ∃ b off cap, v = .slice (some ⟨b, off, none⟩) n cap ∧ n ≤ cap ∧ cap ≤ 9223372036854775807 ∧ b < B ∧
    Hid (∀ j, j < n → ∀ i, i < k → ∃ u, w.cell? ⟨b, off + j * k + i, none⟩ = some u ∧ f j i w u) := by
  obtain ⟨a, cap, rfl, h3, h4, h5⟩ := h
  obtain ⟨b, off, rfl, e2, e3⟩ := h5 h0
  exact ⟨b, off, cap, rfl, h3, h4, e2, hide e3⟩
/-- Tags. -/
def tagF (l : List Nat) (j _ : Nat) (_ : World) (u : Value) : Prop := u = .int .u32 (l.getD j 0 : Nat)
def TagsAt (B : Nat) (w : World) (v : Value) (l : List Nat) : Prop := (∀ c ∈ l, c < 4294967296) ∧ ElemsAt B 1 w v l.length (tagF l)
theorem TagsAt.bel {B : Nat} {w W : World} {v : Value} {l : List Nat} (h : TagsAt B w v l) (hb : Below B w W) : TagsAt B W v l := ⟨h.1, h.2.bel (fun _ _ _ h => h) hb⟩
theorem TagsAt.lt {B : Nat} {w : World} {v : Value} {l : List Nat} (h : TagsAt B w v l) (j : Nat) : l.getD j 0 < 4294967296 := by
  rw [List.getD_eq_getElem?_getD]
  by_cases hj : j < l.length
  · rw [List.getElem?_eq_getElem hj]; exact h.1 _ (List.getElem_mem hj)
  · rw [List.getElem?_eq_none (by omega)]; decide
theorem TagsAt.all {B : Nat} {w : World} {v : Value} {l : List Nat} (h : TagsAt B w v l) (h0 : 0 < l.length) : ∃ b off cap, v = .slice (some ⟨b, off, none⟩) l.length cap ∧ l.length ≤ cap ∧ cap ≤ 9223372036854775807 ∧ b < B ∧
    Hid (∀ j, j < l.length → w.cell? ⟨b, off + j, none⟩ = some (.int .u32 (l.getD j 0 : Nat))) := by
  obtain ⟨b, off, cap, h1, h2, h3, h4, h5⟩ := h.2.all h0
  refine ⟨b, off, cap, h1, h2, h3, h4, hide fun j hj => ?_⟩
  obtain ⟨u, c1, c2⟩ := h5.out j hj 0 (by decide)
  rw [Nat.mul_one, Nat.add_zero] at c1
  rw [c1, show u = _ from c2]
/-- Asks: (run, n, most). -/
structure AskS where
  run : Bool
  n : Int
  most : Int
def askF (l : List AskS) (j i : Nat) (_ : World) (u : Value) : Prop := ∃ s, l[j]? = some s ∧ u = match i with
  | 0 => .bool s.run
  | 1 => .int .i64 s.n
  | _ => .int .i64 s.most
def AsksAt (B : Nat) (w : World) (v : Value) (l : List AskS) : Prop := ElemsAt B 3 w v l.length (askF l)
theorem AsksAt.bel {B : Nat} {w W : World} {v : Value} {l : List AskS} (h : AsksAt B w v l) (hb : Below B w W) : AsksAt B W v l := ElemsAt.bel h (fun _ _ _ h => h) hb
theorem AsksAt.all {B : Nat} {w : World} {v : Value} {l : List AskS} (h : AsksAt B w v l) (h0 : 0 < l.length) : ∃ b off cap, v = .slice (some ⟨b, off, none⟩) l.length cap ∧ l.length ≤ cap ∧ cap ≤ 9223372036854775807 ∧ b < B ∧
    Hid (∀ j (hj : j < l.length), w.cell? ⟨b, off + j * 3, none⟩ = some (.bool l[j].run) ∧ w.cell? ⟨b, off + j * 3 + 1, none⟩ = some (.int .i64 l[j].n) ∧ w.cell? ⟨b, off + j * 3 + 2, none⟩ = some (.int .i64 l[j].most)) := by
  obtain ⟨b, off, cap, h1, h2, h3, h4, h5⟩ := ElemsAt.all h h0
  refine ⟨b, off, cap, h1, h2, h3, h4, hide fun j hj => ?_⟩
  have key : ∀ i, i < 3 → ∃ u, w.cell? ⟨b, off + j * 3 + i, none⟩ = some u ∧ u = (match i with
      | 0 => .bool l[j].run
      | 1 => .int .i64 l[j].n
      | _ => .int .i64 l[j].most) := fun i hi => by
    obtain ⟨u, c1, s, c2, c3⟩ := h5.out j hj i hi
    rw [List.getElem?_eq_getElem hj] at c2
    obtain rfl := Option.some.inj c2
    exact ⟨u, c1, c3⟩
  obtain ⟨u0, a0, rfl⟩ := key 0 (by decide)
  obtain ⟨u1, a1, rfl⟩ := key 1 (by decide)
  obtain ⟨u2, a2, rfl⟩ := key 2 (by decide)
  exact ⟨a0, a1, a2⟩
/-- Things: (run, value, n, bytes). -/
structure ThingS where
  run : Bool
  v : Nat
  n : Int
  b : List Nat
def thingF (B : Nat) (l : List ThingS) (j i : Nat) (w : World) (u : Value) : Prop := ∃ s, l[j]? = some s ∧ match i with
  | 0 => u = .bool s.run
  | 1 => u = .int .u64 (s.v : Nat)
  | 2 => u = .int .i64 s.n
  | _ => Rd B w u s.b
def ThingsAt (B : Nat) (w : World) (v : Value) (l : List ThingS) : Prop := (∀ s ∈ l, s.v < 18446744073709551616) ∧ ElemsAt B 4 w v l.length (thingF B l)
theorem ThingsAt.bel {B : Nat} {w W : World} {v : Value} {l : List ThingS} (h : ThingsAt B w v l) (hb : Below B w W) : ThingsAt B W v l := ⟨h.1, h.2.bel (fun j i u hu => by
  obtain ⟨s, h1, h2⟩ := hu
  refine ⟨s, h1, ?_⟩
  rcases i with _ | _ | _ | i
  · exact h2
  · exact h2
  · exact h2
  · exact Rd.bel h2 hb) hb⟩
theorem ThingsAt.all {B : Nat} {w : World} {v : Value} {l : List ThingS} (h : ThingsAt B w v l) (h0 : 0 < l.length) : ∃ b off cap, v = .slice (some ⟨b, off, none⟩) l.length cap ∧ l.length ≤ cap ∧ cap ≤ 9223372036854775807 ∧ b < B ∧
    Hid (∀ j (hj : j < l.length), w.cell? ⟨b, off + j * 4, none⟩ = some (.bool l[j].run) ∧ w.cell? ⟨b, off + j * 4 + 1, none⟩ = some (.int .u64 (l[j].v : Nat)) ∧ w.cell? ⟨b, off + j * 4 + 2, none⟩ = some (.int .i64 l[j].n) ∧ ∃ u, w.cell? ⟨b, off + j * 4 + 3, none⟩ = some u ∧ Rd B w u l[j].b) := by
  obtain ⟨b, off, cap, h1, h2, h3, h4, h5⟩ := h.2.all h0
  refine ⟨b, off, cap, h1, h2, h3, h4, hide fun j hj => ?_⟩
  have key : ∀ i, i < 4 → ∃ u, w.cell? ⟨b, off + j * 4 + i, none⟩ = some u ∧ (match i with
      | 0 => u = .bool l[j].run
      | 1 => u = .int .u64 (l[j].v : Nat)
      | 2 => u = .int .i64 l[j].n
      | _ => Rd B w u l[j].b) := fun i hi => by
    obtain ⟨u, c1, s, c2, c3⟩ := h5.out j hj i hi
    rw [List.getElem?_eq_getElem hj] at c2
    obtain rfl := Option.some.inj c2
    exact ⟨u, c1, c3⟩
  obtain ⟨u0, a0, rfl⟩ := key 0 (by decide)
  obtain ⟨u1, a1, rfl⟩ := key 1 (by decide)
  obtain ⟨u2, a2, rfl⟩ := key 2 (by decide)
  obtain ⟨u3, a3, h3'⟩ := key 3 (by decide)
  exact ⟨a0, a1, a2, u3, a3, h3'⟩
/-- What was there is as it was, but for blocks from lo up to hi. -/
structure Hole (lo hi : Nat) (w w' : World) : Prop where
  os : w'.os = w.os
  tape : w'.tape = w.tape
  output : w'.output = w.output
  size : w.heap.size ≤ w'.heap.size
  block : ∀ k, k < w.heap.size → (k < lo ∨ hi ≤ k) → w'.heap[k]? = w.heap[k]?
theorem Hole.refl (lo hi : Nat) (w : World) : Hole lo hi w w := ⟨rfl, rfl, rfl, Nat.le_refl _, fun _ _ _ => rfl⟩
theorem Hole.trans {lo hi : Nat} {a b c : World} (h : Hole lo hi a b) (k : Hole lo hi b c) : Hole lo hi a c :=
  ⟨k.os.trans h.os, k.tape.trans h.tape, k.output.trans h.output, Nat.le_trans h.size k.size, fun j hj hh => (k.block j (Nat.lt_of_lt_of_le hj h.size) hh).trans (h.block j hj hh)⟩
theorem Hole.of {lo hi : Nat} {a b : World} (h : Below a.heap.size a b) : Hole lo hi a b := ⟨h.os, h.tape, h.output, h.size, fun j hj _ => h.block j hj⟩
theorem Hole.below {lo hi : Nat} {a b : World} (h : Hole lo hi a b) (hl : lo ≤ a.heap.size) : Below lo a b := ⟨h.os, h.tape, h.output, h.size, fun j hj => h.block j (Nat.lt_of_lt_of_le hj hl) (Or.inl hj)⟩
theorem Hole.row {lo hi b : Nat} {w w' : World} {cs : Array Value} {t : TypeId} (h : Hole lo hi w w') (hr : RowAt w b cs t) (hb : b < lo ∨ hi ≤ b) : RowAt w' b cs t := (h.block b hr.lt hb).trans hr
theorem Hole.mono {lo hi lo' hi' : Nat} {a b : World} (h : Hole lo hi a b) (hl : lo' ≤ lo) (hh : hi ≤ hi') : Hole lo' hi' a b := ⟨h.os, h.tape, h.output, h.size, fun j hj hc => h.block j hj (by omega)⟩
end Go.Proofs.YtkahkkcbigifiaaDoor
