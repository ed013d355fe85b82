/-
  A memory and its elder copy, page by page: what stays so.
-/
import Derived.Test.YtficoenanfnijaaGreatDoorJMeLoop
import Derived.Test.YtficoenanfnijaaGreatDoorJMeSure
namespace Go.Proofs.YtficoenanfnijaaGreatDoor
open Go.RowKit
set_option linter.unusedVariables false

/-- The list of dirty pages holds just these. -/
theorem dirty_any_mem (m : Mem) (n p : Nat) (hp : p < n) : (dirtyTo m n).any (· == p) = m.dirty p := by
  cases hd : m.dirty p with
  | true =>
    rw [List.any_eq_true]
    exact ⟨p, List.mem_filter.2 ⟨List.mem_range.2 hp, hd⟩, by simp⟩
  | false =>
    rw [List.any_eq_false]
    intro q hq hqp
    have h1 := (List.mem_filter.1 hq).2
    have : q = p := by simpa using hqp
    rw [this, hd] at h1
    cases h1
theorem any_take_succ (l : List Nat) (p i : Nat) (hi : i < l.length) : (l.take (i + 1)).any (· == p) = ((l.take i).any (· == p) || ((l[i]?).getD 0 == p)) := by
  rw [List.take_add_one, List.any_append, List.getElem?_eq_getElem hi]
  simp

structure Two (w Y0 Y1 wr : World) (B b P D cc Q E n : Nat) (m m' k : Mem) (p : Nat) : Prop where
  lm : Looked m m'
  mn : m.n = n
  ms : ∀ q o, m.dat q o < 256
  rm : RamAt wr B b P D m'
  rk : RamAt wr B cc Q E k
  kn : k.n = n
  o1 : Off m' b P D k cc Q E
  o2 : Off k cc Q E m' b P D
  ks : ∀ q o, k.dat q o < 256
  kw : k.wr ≤ 15 + p
  eq : ∀ q o, o < 4096 → (q < p ∨ m.dirty q = false) → k.dat q o = m.dat q o
  ko : ∀ x, k.owns cc Q E x → x < Y0.heap.size ∨ Y1.heap.size ≤ x
  mo : ∀ x, m.owns b P D x → x < Y0.heap.size
  mid : ∀ x, Y0.heap.size ≤ x → x < Y1.heap.size → wr.heap[x]? = Y1.heap[x]?
  bel : Below B w wr
  base : B ≤ wr.heap.size
  sz : Y1.heap.size ≤ wr.heap.size
  s0 : Y0.heap.size ≤ Y1.heap.size
variable {w Y0 Y1 wr W1 : World} {B b P D cc Q E n p : Nat} {m m' k : Mem}
theorem Two.lookK {k2 : Mem} (h : Two w Y0 Y1 wr B b P D cc Q E n m m' k p) (hl : Looked k k2) (hR : RamAt W1 B cc Q E k2) (hz : k2.z = k.z ∨ ∃ x, k2.z = some x ∧ wr.heap.size ≤ x) (hK : Kept B wr W1 (k.owns cc Q E)) : Two w Y0 Y1 W1 B b P D cc Q E n m m' k2 p :=
  { lm := h.lm, mn := h.mn, ms := h.ms, rm := h.rm.other h.o2 hK, rk := hR, kn := by (rw [hl.n]; exact h.kn), o1 := h.o1.right h.rm hl hz, o2 := h.o2.left hl, ks := by (rw [hl.dat]; exact h.ks), kw := by (rw [hl.wr]; exact h.kw), eq := by (rw [hl.dat]; exact h.eq), ko := fun x hx => h.ko x (hl.owns.1 hx), mo := h.mo,
    mid := fun x h1 h2 => (hK.other x (Nat.lt_of_lt_of_le h2 h.sz) (fun h3 => (h.ko x h3).elim (fun h4 => by omega) (fun h4 => by omega))).trans (h.mid x h1 h2), bel := h.bel.trans hK.below, base := Nat.le_trans h.base hK.size, sz := Nat.le_trans h.sz hK.size, s0 := h.s0 }
theorem Two.lookM {m2 : Mem} (h : Two w Y0 Y1 wr B b P D cc Q E n m m' k p) (hl : Looked m' m2) (hR : RamAt W1 B b P D m2) (hz : m2.z = m'.z ∨ ∃ x, m2.z = some x ∧ wr.heap.size ≤ x) (hK : Kept B wr W1 (m'.owns b P D)) : Two w Y0 Y1 W1 B b P D cc Q E n m m2 k p :=
  { lm := h.lm.trans hl, mn := h.mn, ms := h.ms, rm := hR, rk := h.rk.other h.o1 hK, kn := h.kn, o1 := h.o1.left hl, o2 := h.o2.right h.rk hl hz, ks := h.ks, kw := h.kw, eq := h.eq, ko := h.ko, mo := h.mo,
    mid := fun x h1 h2 => (hK.other x (Nat.lt_of_lt_of_le h2 h.sz) (fun h3 => by have := h.mo x (h.lm.owns.1 h3); omega)).trans (h.mid x h1 h2), bel := h.bel.trans hK.below, base := Nat.le_trans h.base hK.size, sz := Nat.le_trans h.sz hK.size, s0 := h.s0 }
theorem Two.next (h : Two w Y0 Y1 wr B b P D cc Q E n m m' k p) (hd : m.dirty p = false) : Two w Y0 Y1 wr B b P D cc Q E n m m' k (p + 1) :=
  { lm := h.lm, mn := h.mn, ms := h.ms, rm := h.rm, rk := h.rk, kn := h.kn, o1 := h.o1, o2 := h.o2, ks := h.ks, kw := Nat.le_succ_of_le h.kw, eq := fun q o ho hq => h.eq q o ho (by
      rcases hq with hq | hq
      · by_cases e : q = p
        · subst e; exact .inr hd
        · exact .inl (by omega)
      · exact .inr hq), ko := h.ko, mo := h.mo, mid := h.mid, bel := h.bel, base := h.base, sz := h.sz, s0 := h.s0 }
theorem Two.set {g : Nat} {l : List Nat} (h : Two w Y0 Y1 wr B b P D cc Q E n m m' k p) (hR : RamAt W1 B cc Q E (k.setp p g l)) (hg : k.blk p = some g ∨ (k.blk p = none ∧ wr.heap.size ≤ g)) (hK : Kept B wr W1 (k.owns cc Q E)) (hl : l.length = 4096) (hs : ∀ y, y ∈ l → y < 256) (hv : ∀ o, o < 4096 → (l[o]?).getD 0 = m.dat p o) : Two w Y0 Y1 W1 B b P D cc Q E n m m' (k.setp p g l).norm (p + 1) := by
  obtain ⟨hM, hat⟩ := set_out (w := w) (W := wr) hl hs hR hg hK
  have hown : ∀ x, (k.setp p g l).norm.owns cc Q E x → k.owns cc Q E x ∨ wr.heap.size ≤ x := hM.st.own1
  have hz : (k.setp p g l).norm.z = k.z := rfl
  have hsm : ∀ x, k.at x < 256 := fun x => h.ks _ _
  exact { lm := h.lm, mn := h.mn, ms := h.ms, rm := h.rm.other h.o2 hK, rk := hR.norm, kn := h.kn,
          o1 := ⟨fun x hx hh => by
            have hlt := h.rm.owned hx
            rcases hh with h1 | h1
            · exact (hown x h1).elim (fun h2 => h.o1.no x hx (.inl h2)) (fun h2 => by omega)
            · exact h.o1.no x hx (.inr (hz ▸ h1))⟩,
          o2 := ⟨fun x hx hh => by
            rcases hown x hx with h1 | h1
            · exact h.o2.no x h1 hh
            · rcases hh with h2 | h2
              · have := h.rm.owned h2; omega
              · have := h.rm.z_lt h2; omega⟩,
          ks := Mem.norm_small (hM.st.small hsm), kw := (by show k.wr + 1 ≤ _; have := h.kw; omega),
          eq := fun q o ho hq => by
            rw [Mem.norm_dat _ q ho, Mem.dat_at _ q o ho, hat]
            unfold wroteF
            by_cases e : q = p
            · subst e
              rw [if_pos (by omega), show q * 4096 + o - 4096 * q = o by omega]
              exact hv o ho
            · rw [if_neg (by omega), ← k.dat_at q o ho]
              exact h.eq q o ho (hq.imp (fun h1 => by omega) id),
          ko := fun x hx => (hown x hx).elim (h.ko x) (fun h1 => .inr (Nat.le_trans h.sz h1)), mo := h.mo,
          mid := fun x h1 h2 => (hK.other x (Nat.lt_of_lt_of_le h2 h.sz) (fun h3 => (h.ko x h3).elim (fun h4 => by omega) (fun h4 => by omega))).trans (h.mid x h1 h2), bel := h.bel.trans hK.below, base := Nat.le_trans h.base hK.size, sz := Nat.le_trans h.sz hK.size, s0 := h.s0 }
end Go.Proofs.YtficoenanfnijaaGreatDoor
