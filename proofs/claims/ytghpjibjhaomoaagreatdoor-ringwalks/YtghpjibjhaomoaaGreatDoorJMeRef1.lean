/-
  The document's memory as it lies, and what of it is only read: Load, Read, Page, Digest.
-/
import Derived.Test.YtghpjibjhaomoaaGreatDoorJMeClone
import Derived.Test.YtghpjibjhaomoaaGreatDoorJMeRWith
import Derived.Test.YtghpjibjhaomoaaGreatDoorJRes
import Derived.Laws.BytesArg
namespace Go.Proofs.YtghpjibjhaomoaaGreatDoor
open Go.RowKit
set_option linter.unusedVariables false
attribute [local go_sem ↓] Go.wp_at_zero Go.wp_at_succ

/-- Where its bytes and marks lie, and its count. -/
structure RP where
  gB : Nat
  cB : Nat
  gD : Nat
  cD : Nat
  wr : Int
def RP.v (r : RP) (N n : Nat) : Array Value := #[.slice (some ⟨r.gB, 0, none⟩) N r.cB, .slice (some ⟨r.gD, 0, none⟩) n r.cD, .int .i64 r.wr]
structure RefAt (w : World) (N n : Nat) (f : Nat → Nat) (r : RP) : Prop where
  bytes : HoldsAt w r.gB N 5 (fun x => .int .u8 (f x : Nat))
  marks : ∃ d : Nat → Bool, HoldsAt w r.gD n 4 (fun p => .bool (d p))
  small : ∀ x, f x < 256
  capB : N ≤ r.cB ∧ r.cB ≤ maxLen
  capD : n ≤ r.cD ∧ r.cD ≤ maxLen
  few : 0 < n ∧ n ≤ 16384 ∧ N = 4096 * n
/-- Its blocks. -/
def RP.owns (r : RP) (x : Nat) : Prop := x = r.gB ∨ x = r.gD
theorem RefAt.same {w w' : World} {N n : Nat} {f : Nat → Nat} {r : RP} (h : RefAt w N n f r) (e : ∀ x, r.owns x → w'.heap[x]? = w.heap[x]?) : RefAt w' N n f r :=
  { bytes := h.bytes.of_heap (e _ (.inl rfl)), marks := by (obtain ⟨d, hd⟩ := h.marks; exact ⟨d, hd.of_heap (e _ (.inr rfl))⟩), small := h.small, capB := h.capB, capD := h.capD, few := h.few }
theorem RefAt.lt {w : World} {N n : Nat} {f : Nat → Nat} {r : RP} (h : RefAt w N n f r) {x : Nat} (hx : r.owns x) : x < w.heap.size := by
  rcases hx with rfl | rfl
  · exact h.bytes.lt
  · obtain ⟨d, hd⟩ := h.marks; exact hd.lt
theorem RefAt.bl {w w' : World} {N n : Nat} {f : Nat → Nat} {r : RP} (h : RefAt w N n f r) (hb : Below w.heap.size w w') : RefAt w' N n f r :=
  h.same (fun x hx => hb.block x (h.lt hx))
theorem RefAt.al {w : World} {N n : Nat} {f : Nat → Nat} {r : RP} (h : RefAt w N n f r) (o : Obj) : RefAt (w.alloc o) N n f r := h.bl (below_one w o)
theorem RefAt.congr {w : World} {N n : Nat} {f g : Nat → Nat} {r : RP} (h : RefAt w N n f r) (e : ∀ x, x < N → f x = g x) (hg : ∀ x, g x < 256) : RefAt w N n g r :=
  { bytes := h.bytes.congr (fun j hj => by rw [e j hj]), marks := h.marks, small := hg, capB := h.capB, capD := h.capD, few := h.few }

/-- A slice of bytes that lies in a block, or none: as a string it is some bytes. -/
def Strs (w : World) (v : Value) : Prop := ∃ s : ByteArray, (convert 28 9 v).run Tryz.prog w = .ok (.string s) w
theorem conv_row {w : World} {g o l c : Nat} {f : Nat → Nat} (hf : ∀ j, f j < 256) (h : ∀ j, j < l → w.cell? ⟨g, o + j, none⟩ = some (.int .u8 (f j : Nat))) :
    (convert 28 9 (.slice (some ⟨g, o, none⟩) l c)).run Tryz.prog w = .ok (.string ⟨((List.range l).map fun j => UInt8.ofNat (f j)).toArray⟩) w := by
  have hl : ((List.range l).map fun j => UInt8.ofNat (f j)).length = l := by simp
  have := str_of_cellsE (l := (List.range l).map fun j => UInt8.ofNat (f j)) (W' := w) (b := g) (off := o) (c := c) (fun x u hu => by
    have hx : x < l := by
      have := (List.getElem?_eq_some_iff.1 hu).1
      simpa [cellsB] using this
    unfold cellsB at hu
    rw [List.getElem?_map, List.getElem?_map, List.getElem?_range hx] at hu
    have := Option.some.inj hu
    rw [← this, h x hx]
    show _ = some (Value.int .u8 (((UInt8.ofNat (f x)).toNat : Nat) : Int))
    rw [UInt8.toNat_ofNat', Nat.mod_eq_of_lt (hf x)])
  rw [hl] at this
  exact this
theorem conv_nil (w : World) : Strs w (.slice none 0 0) := ⟨_, run_convert_bytes_nil (P := Tryz.prog) w 28 5 Tryz.underlying28 Tryz.underlying5 0 0 9 Tryz.underlying9⟩
set_option maxHeartbeats 1000000 in
theorem rread_any {w : World} {N n : Nat} {f : Nat → Nat} {r : RP} (h : RefAt w N n f r) (a : Nat) (ha : a < 4294967296) (k : Int) (hk : k ≤ 9223372036854775807) (hk0 : -9223372036854775808 ≤ k) :
    Calls Tryz.prog 42 #[.agg (r.v N n), .int .u32 a, .int .i64 k] w fun e w' => (∃ v : Value, (∃ y : Int, e = .returned (.tuple #[v, .int .i64 y])) ∧ ∀ w2, Below w.heap.size w w2 → Strs w2 v) ∧ Below w.heap.size w w' := by
  have hN9 : N ≤ 67108864 := by have := h.few; omega
  have hcp := h.capB
  unfold maxLen at hcp
  obtain ⟨hc1, hc2⟩ := hcp
  have HC : Hid (∀ j o : Nat, (o = a ∨ j = 0) → a + j ≤ N → ∀ c w2, Below w.heap.size w w2 → Strs w2 (.slice (some ⟨r.gB, o, none⟩) j c)) := hide (fun j o ho hj c w2 hb => ⟨_, conv_row (f := fun i => f (o + i)) (fun i => h.small _) (fun i hi => (h.bl hb).bytes.cell (j := o + i) (by omega))⟩)
  have HCn := hide conv_nil
  clear h
  unfold RP.v
  generalize r.gB = gB at *
  generalize r.gD = gD at *
  generalize r.cB = cB at *
  generalize r.cD = cD at *
  generalize r.wr = wr at *
  by_cases h0 : k < 0
  · go_enter Tryz.func42, Tryz.ntmps42
    go_wp2
    go_ret2
    exact ⟨⟨_, ⟨_, rfl⟩, fun w2 _ => HCn.out w2⟩, below_one _ _⟩
  · obtain ⟨j, rfl⟩ : ∃ j : Nat, k = j := ⟨k.toNat, by omega⟩
    have t0 : decide ((j : Int) < 0) = false := decide_eq_false (by omega)
    by_cases h1 : N < j
    · have t1 : decide ((N : Int) < (j : Int)) = true := decide_eq_true (by omega)
      have t1' : decide (N < j) = true := decide_eq_true (by omega)
      go_enter Tryz.func42, Tryz.ntmps42
      go_wp2
      go_ret2
      exact ⟨⟨_, ⟨_, rfl⟩, fun w2 _ => HCn.out w2⟩, below_one _ _⟩
    · have t1 : decide ((N : Int) < (j : Int)) = false := decide_eq_false (by omega)
      have t1' : decide (N < j) = false := decide_eq_false (by omega)
      by_cases h2 : N - j < a
      · have t2 : decide ((N : Int) - (j : Int) < (a : Int)) = true := decide_eq_true (by omega)
        go_enter Tryz.func42, Tryz.ntmps42
        go_wp2
        go_ret2
        exact ⟨⟨_, ⟨_, rfl⟩, fun w2 _ => HCn.out w2⟩, below_one _ _⟩
      · have t2 : decide ((N : Int) - (j : Int) < (a : Int)) = false := decide_eq_false (by omega)
        have g1 : (a : Int) + (j : Int) ≤ (N : Int) := by omega
        have g2 : (N : Int) ≤ (cB : Int) := by omega
        have HC1 := hide (fun o h => HC.out j o h (by omega))
        clear HC HCn
        go_enter Tryz.func42, Tryz.ntmps42
        go_wp2
        all_goals
          go_ret2
          exact ⟨⟨_, ⟨_, rfl⟩, fun w2 hb => HC1.out _ (by omega) _ w2 hb⟩, below_one _ _⟩
end Go.Proofs.YtghpjibjhaomoaaGreatDoor
