/-
  MemBack: what is so of the memory behind a byte stored and bytes written.
-/
import Derived.Test.YtijeceibkdcdaaaMeSure
import Derived.Test.YtijeceibkdcdaaaMeNone
import Derived.Laws.IdiomStrings
import Derived.Lib.BufferRead
namespace Go.Proofs.Ytijeceibkdcdaaa
open Go.RowKit
set_option linter.unusedVariables false

theorem str_of_cells {W' : World} {b off c : Nat} {l : List UInt8} (h : ∀ j u, (cellsB l)[j]? = some u → W'.cell? ⟨b, off + j, none⟩ = some u) :
    (convert 23 9 (.slice (some ⟨b, off, none⟩) l.length c)).run Try.prog W' = .ok (.string ⟨l.toArray⟩) W' := by
  refine run_convert_bytes_back W' _ _ 5 ⟨b, off, none⟩ c l Try.underlying23 Try.underlying5 Try.underlying9 ?_
  intro j hj
  rw [Addr.add_lit]
  exact h j _ (by simp [cellsB, hj])
theorem str_nil (W : World) (c : Nat) : (convert 23 9 (.slice none 0 c)).run Try.prog W = .ok (.string ⟨#[]⟩) W :=
  Lib.run_convert_nil_bytes W _ _ 5 c Try.underlying23 Try.underlying5 Try.underlying9
theorem str_empty (W : World) (a : Option Addr) (c : Nat) : (convert 23 9 (.slice a 0 c)).run Try.prog W = .ok (.string ⟨#[]⟩) W := by
  cases a with
  | none => exact str_nil W c
  | some ad => exact run_convert_bytes_back W _ _ 5 ad c [] Try.underlying23 Try.underlying5 Try.underlying9 (fun j hj => by simp at hj)

def natB (l : List UInt8) : List Nat := l.map UInt8.toNat
theorem byteV_natB (l : List UInt8) : byteV (natB l) = cellsB l := by simp [byteV, natB, cellsB]
theorem natB_lt (l : List UInt8) : ∀ y, y ∈ natB l → y < 256 := by
  intro y hy
  obtain ⟨u, _, rfl⟩ := List.mem_map.1 hy
  exact u.toNat_lt
theorem getN_one (g : Nat → UInt8) (o : Nat) : getN g o 1 = (g o).toNat := by
  simp [getN, accN, upto, downAt, List.range, List.range.loop]

theorem RamAt.owns_low {w : World} {B b P D : Nat} {m : Mem} (h : RamAt w B b P D m) {x : Nat} (ho : m.owns b P D x) : B ≤ x := by
  obtain ⟨h1, h2, h3, h4⟩ := h.low
  rcases ho with rfl | rfl | rfl | ⟨p, hp, hb⟩
  · exact h1
  · exact h2
  · exact h3
  · exact h4 p x hp hb

/-- The memory with the byte 171 at j. -/
def Stored (j S : Nat) (m : Mem) : Prop := ∃ q, Wrote (Mem.fresh 3) q S j (numB 171 1) 1 ∧ m = { q with wr := q.wr + 1 }
theorem Stored.n {j S : Nat} {m : Mem} (h : Stored j S m) : m.n = 3 := by
  obtain ⟨q, hq, rfl⟩ := h
  exact hq.n
theorem Stored.wr {j S : Nat} {m : Mem} (h : Stored j S m) : m.wr = 1 := by
  obtain ⟨q, hq, rfl⟩ := h
  show q.wr + 1 = 1
  rw [hq.wr]; rfl
theorem Stored.there {j S : Nat} {m : Mem} (h : Stored j S m) : ∃ g, m.blk (j / 4096) = some g := by
  obtain ⟨q, hq, rfl⟩ := h
  exact Option.ne_none_iff_exists'.1 (hq.there j (by omega) (by omega))
theorem Stored.at {j S : Nat} {m : Mem} (h : Stored j S m) (x : Nat) : m.at x = if x = j then 171 else 0 := by
  obtain ⟨q, hq, rfl⟩ := h
  show q.at x = _
  rw [hq.dat x]
  by_cases hx : x = j
  · subst hx
    rw [if_pos (by omega), if_pos rfl, Nat.sub_self]
    rfl
  · rw [if_neg (by omega), if_neg hx]
    rfl

/-- Then with bytes l from i on. -/
def Written (i j S S' : Nat) (l : List UInt8) (m : Mem) : Prop := ∃ m1 k, Stored j S m1 ∧ Wrote m1 k S' i (natB l) l.length ∧ m = { k with wr := k.wr + 1 }
theorem Written.n {i j S S' : Nat} {l : List UInt8} {m : Mem} (h : Written i j S S' l m) : m.n = 3 := by
  obtain ⟨m1, k, h1, h2, rfl⟩ := h
  exact h2.n.trans h1.n
theorem Written.there {i j S S' : Nat} {l : List UInt8} {m : Mem} (h : Written i j S S' l m) : ∃ g, m.blk (j / 4096) = some g := by
  obtain ⟨m1, k, h1, h2, rfl⟩ := h
  obtain ⟨g, hg⟩ := h1.there
  exact ⟨g, h2.keep _ _ hg⟩
theorem Written.all {i j S S' : Nat} {l : List UInt8} {m : Mem} (h : Written i j S S' l m) : ∀ x, i ≤ x → x < i + l.length → m.blk (x / 4096) ≠ none := by
  obtain ⟨m1, k, h1, h2, rfl⟩ := h
  exact h2.there
theorem Written.at {i j S S' : Nat} {l : List UInt8} {m : Mem} (h : Written i j S S' l m) (x : Nat) : m.at x = if i ≤ x ∧ x < i + l.length then ((natB l)[x - i]?).getD 0 else if x = j then 171 else 0 := by
  obtain ⟨m1, k, h1, h2, rfl⟩ := h
  show k.at x = _
  rw [h2.dat x, h1.at x]
theorem Written.byte {i j S S' : Nat} {l : List UInt8} {m : Mem} (h : Written i j S S' l m) (x : Nat) : m.at x < 256 := by
  rw [h.at x]
  split
  · cases hx : (natB l)[x - i]? with
    | none => decide
    | some y => exact natB_lt l y (List.mem_of_getElem? hx)
  · split <;> decide

/-- What Load answers at j. -/
def backV (i j : Nat) (l : List UInt8) : Nat := if i ≤ j ∧ j < i + l.length then ((natB l)[j - i]?).getD 0 else 171
theorem load_back {w : World} {B b P D i j S S' : Nat} {l : List UInt8} {m : Mem} (h : RamAt w B b P D m) (hm : Written i j S S' l m) (hj : j < 12288) :
    Calls Try.prog 9 #[.pointer (some ⟨b, 0, none⟩), .int .u32 (j : Nat), .int .i64 1] w fun e w' => e = .returned (.tuple #[.int .u32 (backV i j l : Nat), .nilIface]) ∧ Below w.heap.size w w' := by
  obtain ⟨g, hg⟩ := hm.there
  refine (load_there h j 1 (by omega) (.inl rfl) (Nat.mod_one _) (by rw [hm.n]; omega) g hg (fun o ho => by rw [m.dat_at _ o ho]; exact hm.byte _)).mono ?_
  rintro e w' ⟨rfl, hb⟩
  refine ⟨?_, hb⟩
  have hv : getN (fun o => UInt8.ofNat (m.dat (j / 4096) o)) (j % 4096) 1 = backV i j l := by
    rw [getN_one]
    have e : m.dat (j / 4096) (j % 4096) = m.at j := rfl
    have hb := hm.byte j
    rw [e]
    have : (UInt8.ofNat (m.at j)).toNat = m.at j := by simp; omega
    rw [this, hm.at j, backV]
    split
    · rfl
    · rw [if_pos rfl]
  rw [hv]

/-- What Read gives is the bytes. -/
theorem read_back {w : World} {O i j S S' : Nat} {l : List UInt8} {m : Mem} (hm : Written i j S S' l m) (h : HoldsAt w O l.length 5 (readV m i l.length)) :
    ∀ x u, (cellsB l)[x]? = some u → w.cell? ⟨O, 0 + x, none⟩ = some u := by
  intro x u hx
  have hlt : x < l.length := by
    have := (List.getElem?_eq_some_iff.1 hx).1
    rwa [cellsB_length] at this
  rw [Nat.zero_add, h.cell hlt, readV_lt hlt, hm.at (i + x), if_pos (by omega), show i + x - i = x by omega, ← hx, ← byteV_natB]
  have : x < (natB l).length := by simpa [natB] using hlt
  simp [byteV, List.getElem?_eq_getElem this]
end Go.Proofs.Ytijeceibkdcdaaa
