/-
  Cells that are read, and bytes that are made.
-/
import Derived.Test.YtbggkoahofnnjaaDoorJK24
namespace Go.Proofs.YtbggkoahofnnjaaDoor
open Go.RowKit
set_option linter.unusedVariables false
set_option linter.unusedSimpArgs false

/-- The word that lies at a place behind k words. -/
def wordL (g : Nat → Nat → Nat) : Nat → Nat → Nat
  | 0, _ => 0
  | k + 1, a => if atOf (g k 0) = a then g k 1 else wordL g k a
theorem numB_lv (v j : Nat) (hj : j < 4) : ((numB v 4)[j]?).getD 0 = v / 256 ^ j % 256 := by
  unfold numB
  rw [List.getElem?_map, List.getElem?_range hj]
  rfl
theorem laid_byte (g : Nat → Nat → Nat) : ∀ (k x : Nat), laidW g k x = wordL g k (x / 4 * 4) / 256 ^ (x % 4) % 256
  | 0, x => by show 0 = 0 / _ % _; simp
  | k + 1, x => by
    show wroteF (laidW g k) (atOf (g k 0)) (numB (g k 1) 4) x = (if atOf (g k 0) = x / 4 * 4 then g k 1 else wordL g k (x / 4 * 4)) / 256 ^ (x % 4) % 256
    have ha : atOf (g k 0) % 4 = 0 := by unfold atOf; omega
    unfold wroteF
    rw [numB_len]
    by_cases h : atOf (g k 0) = x / 4 * 4
    · rw [if_pos (by omega), if_pos h, numB_lv _ _ (by omega), show x - atOf (g k 0) = x % 4 by omega]
    · rw [if_neg (by omega), if_neg h, laid_byte g k x]
theorem split4 (v : Nat) (hv : v < 4294967296) : v / 256 ^ 0 % 256 + v / 256 ^ 1 % 256 * 256 + v / 256 ^ 2 % 256 * 65536 + v / 256 ^ 3 % 256 * 16777216 = v := by
  simp only [Nat.pow_zero, Nat.div_one, Nat.pow_one, Nat.reducePow]; omega
theorem numF_four (f : Nat → Nat) (a : Nat) : numF f a 4 = f (a + 0) + f (a + 1) * 256 + f (a + 2) * 65536 + f (a + 3) * 16777216 := by
  simp only [numF, Nat.pow_zero, Nat.mul_one, Nat.zero_add, Nat.pow_one, Nat.reducePow]
theorem numF_two (f : Nat → Nat) (a : Nat) : numF f a 2 = f (a + 0) + f (a + 1) * 256 := by
  simp only [numF, Nat.pow_zero, Nat.mul_one, Nat.zero_add, Nat.pow_one, Nat.reducePow]
/-- Bytes that are a word's. -/
structure WordAt (f : Nat → Nat) (a v : Nat) : Prop where
  b0 : f (a + 0) = v / 256 ^ 0 % 256
  b1 : f (a + 1) = v / 256 ^ 1 % 256
  b2 : f (a + 2) = v / 256 ^ 2 % 256
  b3 : f (a + 3) = v / 256 ^ 3 % 256
theorem WordAt.num {f : Nat → Nat} {a v : Nat} (h : WordAt f a v) (hv : v < 4294967296) : numF f a 4 = v := by
  rw [numF_four, h.b0, h.b1, h.b2, h.b3, split4 v hv]
theorem WordAt.lo {f : Nat → Nat} {a v : Nat} (h : WordAt f a v) : numF f a 2 = v % 65536 := by
  rw [numF_two, h.b0, h.b1]
  simp only [Nat.pow_zero, Nat.div_one, Nat.pow_one]; omega
theorem WordAt.hi {f : Nat → Nat} {a v : Nat} (h : WordAt f a v) : numF f (a + 2) 2 = v / 65536 % 65536 := by
  rw [numF_two, show a + 2 + 0 = a + 2 from rfl, show a + 2 + 1 = a + 3 from rfl, h.b2, h.b3]
  simp only [Nat.reducePow]; omega
theorem WordAt.laid (g : Nat → Nat → Nat) (k a : Nat) (ha : a % 4 = 0) : WordAt (laidW g k) a (wordL g k a) := by
  refine ⟨?_, ?_, ?_, ?_⟩
  all_goals rw [laid_byte]
  · rw [show (a + 0) / 4 * 4 = a by omega, show (a + 0) % 4 = 0 by omega]
  · rw [show (a + 1) / 4 * 4 = a by omega, show (a + 1) % 4 = 1 by omega]
  · rw [show (a + 2) / 4 * 4 = a by omega, show (a + 2) % 4 = 2 by omega]
  · rw [show (a + 3) / 4 * 4 = a by omega, show (a + 3) % 4 = 3 by omega]
theorem WordAt.before {f : Nat → Nat} {a v b : Nat} {l : List Nat} (h : WordAt f a v) (hb : a + 4 ≤ b) : WordAt (wroteF f b l) a v := by
  refine ⟨?_, ?_, ?_, ?_⟩
  · unfold wroteF; rw [if_neg (by omega)]; exact h.b0
  · unfold wroteF; rw [if_neg (by omega)]; exact h.b1
  · unfold wroteF; rw [if_neg (by omega)]; exact h.b2
  · unfold wroteF; rw [if_neg (by omega)]; exact h.b3
/-- The ring of four, when so many were taken and given back. -/
def lR (la pu : Nat) : Rg := ⟨4, 2147483648, 2147483904, 2147484160, la, pu⟩
theorem lR_chk (la pu : Nat) : chkR (lR la pu) = true := by kernel_rfl
theorem next_one {f : Nat → Nat} (h1 : WordAt f 256 65536) (h2 : WordAt f 260 0) : nextV 2 f (lR 0 0) = (lR 1 0, 0, true, 0) := by
  have e1 : numF f (plM (avC (lR 0 0))) 2 = 1 := by
    rw [show plM (avC (lR 0 0)) = 256 + 2 by kernel_rfl, h1.hi]
  have e2 : numF f (plM (avH (lR 0 0))) 2 = 0 := by
    rw [show plM (avH (lR 0 0)) = 260 by kernel_rfl, h2.lo]
  unfold nextV
  rw [if_pos (lR_chk 0 0), if_pos (by kernel_rfl), e1, e2, if_neg (by decide), if_pos (by kernel_rfl), if_pos (by decide)]
  rfl
theorem deA_lv (la pu n : Nat) (hn : n < 4) : deA (lR la pu) n = 2147483648 + 16 * n := by
  show (2147483648 + 16 * n) % 4294967296 = _
  omega
theorem plM_lv (x : Nat) : plM (2147483648 + x) = x := by unfold plM; rw [if_pos (by omega)]; omega
theorem dsc_lv {f : Nat → Nat} (la pu n : Nat) (hn : n < 4) (i : Nat) : dscAt f (lR la pu) ((n : Nat) : Int) i = numF f (16 * n + 4 * i) 4 := by
  show numF f (plM (deA (lR la pu) ((n : Nat) : Int).toNat) + 4 * i) 4 = _
  rw [Int.toNat_natCast, deA_lv la pu n hn, plM_lv]
theorem plB_at (x n : Nat) (h : x + n ≤ 8192) : plB 2 (2147483648 + x) n = true := by
  unfold plB; rw [plM_lv]; exact decide_eq_true (.inr (by omega))
theorem deB_lv (la pu n : Nat) (hn : n < 4) : plB 2 (deA (lR la pu) ((n : Nat) : Int).toNat) 16 = true := by
  rw [Int.toNat_natCast, deA_lv la pu n hn]; exact plB_at _ _ (by omega)
theorem walkV_of {p : Nat} {f : Nat → Nat} {r : Rg} {hd : Int} {l : List (Nat → Nat)} (h : followV p f r r.sz.toNat hd = some l) (ho : oddL p 0 false l = false) : walkV p f r hd = some (l.map sgOf) := by
  unfold walkV
  rw [h]
  simp only [ho]
  rfl
theorem wroteF_nil (f : Nat → Nat) (a : Nat) : wroteF f a [] = f := by
  funext x; unfold wroteF; rw [if_neg (by simp)]
theorem parts_skip {wr b : Bool} {n m : Int} {a : Nat} {t : List Sg} (h : b ≠ wr) : partsV wr n (⟨a, m, b⟩ :: t) = partsV wr n t := by rw [partsV, if_neg (fun q => h q.1)]
theorem parts_void {wr b : Bool} {n m : Int} {a : Nat} {t : List Sg} (h : m ≤ 0) : partsV wr n (⟨a, m, b⟩ :: t) = partsV wr n t := by
  rw [partsV, if_neg (fun q => absurd q.2.1 (by show ¬ 0 < m; omega))]
theorem parts_have {wr : Bool} {n m : Int} {a : Nat} {t : List Sg} (h2 : 0 < m) (h3 : m ≤ n) : partsV wr n (⟨a, m, wr⟩ :: t) = ⟨a, m, wr⟩ :: partsV wr (n - m) t := by
  rw [partsV, if_pos ⟨rfl, h2, by omega⟩]
  show (⟨a, if m ≤ n then m else n, wr⟩ : Sg) :: partsV wr (n - if m ≤ n then m else n) t = _
  rw [if_pos h3]
theorem more0 {n : Int} (h0 : 0 ≤ n) (h1 : n ≤ 9223372036854775807) : moreN 0 n = n := by
  unfold moreN; rw [if_pos h0, if_pos (by omega)]; omega
theorem parts_nil {wr : Bool} {n : Int} : partsV wr n [] = [] := rfl
theorem WordAt.lies (g : Nat → Nat → Nat) (k a v : Nat) (ha : a % 4 = 0) (hv : wordL g k a = v) : WordAt (laidW g k) a v := hv ▸ WordAt.laid g k a ha
theorem seg_cells (f : Nat → Nat) (a : Nat) (n : Int) (b : Bool) : segF f ⟨a, n, b⟩ = (List.range n.toNat).map fun j => f (plM a + j) := rfl
theorem moreN_of {s n : Int} (h0 : 0 ≤ s) (h1 : 0 ≤ n) (h2 : s + n ≤ 9223372036854775807) : moreN s n = s + n := by
  unfold moreN; rw [if_pos h1, if_pos (by omega)]
theorem lR_ok {la pu : Nat} (h1 : la < 65536) (h2 : pu < 65536) : (lR la pu).Ok := ⟨by show (_ : Int) ≤ 4; decide, by show (4 : Int) ≤ _; decide, by show 2147483648 < _; decide, by show 2147483904 < _; decide, by show 2147484160 < _; decide, h1, h2⟩
/-- The device that works: its queue q is a ring of four, when so many were taken and given back. -/
def lvN (q la pu ir : Nat) : V := if q = 0 then ⟨15, 0, 0, 0, ir, 0, 1, ⟨true, lR la pu⟩, zeroQu⟩ else ⟨15, 0, 0, 0, ir, 0, 1, zeroQu, ⟨true, lR la pu⟩⟩
theorem lvN_ok {q la pu ir : Nat} (h1 : la < 65536) (h2 : pu < 65536) (h3 : ir < 4294967296) : (lvN q la pu ir).Ok := by
  unfold lvN
  split
  · exact ⟨by show 15 < _; decide, by show 0 < _; decide, by show 0 < _; decide, by show 0 < _; decide, h3, by show 0 < _; decide, by show 1 < _; decide, lR_ok h1 h2, zeroRg_ok⟩
  · exact ⟨by show 15 < _; decide, by show 0 < _; decide, by show 0 < _; decide, by show 0 < _; decide, h3, by show 0 < _; decide, by show 1 < _; decide, zeroRg_ok, lR_ok h1 h2⟩
def lvS (q : Nat) : Nc := ⟨lvN q 0 0 0, true, 0⟩
theorem lvS_ok (q : Nat) : (lvS q).Ok := ⟨lvN_ok (by decide) (by decide) (by decide), by show 0 < _; decide⟩
/-- One chain of two parts is offered. -/
structure Off2 (f : Nat → Nat) (a0 n0 x0 a1 n1 x1 : Nat) : Prop where
  cnt : WordAt f 256 65536
  hed : WordAt f 260 0
  d00 : WordAt f 0 a0
  d01 : WordAt f 4 0
  d02 : WordAt f 8 n0
  d03 : WordAt f 12 x0
  d10 : WordAt f 16 a1
  d11 : WordAt f 20 0
  d12 : WordAt f 24 n1
  d13 : WordAt f 28 x1
theorem walk_two {f : Nat → Nat} {a0 n0 x0 a1 n1 x1 : Nat} (h : Off2 f a0 n0 x0 a1 n1 x1) (la pu : Nat) (b0 : a0 < 4294967296) (b1 : a1 < 4294967296) (c0 : n0 < 4294967296) (c1 : n1 < 4294967296)
    (y : (x0 = 65537 ∧ x1 = 0) ∨ (x0 = 65539 ∧ x1 = 2)) (ht : n0 + n1 ≤ 1048576) (i0 : plB 2 a0 n0 = true) (i1 : plB 2 a1 n1 = true) :
    walkV 2 f (lR la pu) 0 = some [⟨a0, (n0 : Nat), decide (x0 = 65539)⟩, ⟨a1, (n1 : Nat), decide (x1 = 2)⟩] := by
  have z0 : dscAt f (lR la pu) ((0 : Nat) : Int) 0 = a0 := by rw [dsc_lv la pu 0 (by decide)]; exact h.d00.num b0
  have z1 : dscAt f (lR la pu) ((0 : Nat) : Int) 1 = 0 := by rw [dsc_lv la pu 0 (by decide)]; exact h.d01.num (by decide)
  have z2 : dscAt f (lR la pu) ((0 : Nat) : Int) 2 = n0 := by rw [dsc_lv la pu 0 (by decide)]; exact h.d02.num c0
  have z3 : dscAt f (lR la pu) ((0 : Nat) : Int) 3 = x0 := by rw [dsc_lv la pu 0 (by decide)]; exact h.d03.num (by omega)
  have o0 : dscAt f (lR la pu) ((1 : Nat) : Int) 0 = a1 := by rw [dsc_lv la pu 1 (by decide)]; exact h.d10.num b1
  have o1 : dscAt f (lR la pu) ((1 : Nat) : Int) 1 = 0 := by rw [dsc_lv la pu 1 (by decide)]; exact h.d11.num (by decide)
  have o2 : dscAt f (lR la pu) ((1 : Nat) : Int) 2 = n1 := by rw [dsc_lv la pu 1 (by decide)]; exact h.d12.num c1
  have o3 : dscAt f (lR la pu) ((1 : Nat) : Int) 3 = x1 := by rw [dsc_lv la pu 1 (by decide)]; exact h.d13.num (by omega)
  obtain ⟨D0, e0⟩ : ∃ d, dscAt f (lR la pu) ((0 : Nat) : Int) = d := ⟨_, rfl⟩
  obtain ⟨D1, e1⟩ : ∃ d, dscAt f (lR la pu) ((1 : Nat) : Int) = d := ⟨_, rfl⟩
  rw [e0] at z0 z1 z2 z3
  rw [e1] at o0 o1 o2 o3
  have g1 : followV 2 f (lR la pu) 3 ((1 : Nat) : Int) = some [D1] := by
    rw [followV, if_pos (by show (0 : Int) ≤ 1 ∧ (1 : Int) < 4; decide), if_pos (deB_lv la pu 1 (by decide)), e1, if_neg (by unfold hasD; rw [o3]; rcases y with ⟨_, q⟩ | ⟨_, q⟩ <;> rw [q] <;> decide)]
  have g0 : followV 2 f (lR la pu) 4 ((0 : Nat) : Int) = some [D0, D1] := by
    rw [followV, if_pos (by show (0 : Int) ≤ 0 ∧ (0 : Int) < 4; decide), if_pos (deB_lv la pu 0 (by decide)), e0, if_pos (by unfold hasD; rw [z3]; rcases y with ⟨q, _⟩ | ⟨q, _⟩ <;> rw [q] <;> decide), z3, show x0 / 65536 = 1 by omega, g1]
    rfl
  have w0 : hasD D0 2 = decide (x0 = 65539) := by unfold hasD; rw [z3]; rcases y with ⟨q, _⟩ | ⟨q, _⟩ <;> rw [q] <;> decide
  have w1 : hasD D1 2 = decide (x1 = 2) := by unfold hasD; rw [o3]; rcases y with ⟨_, q⟩ | ⟨_, q⟩ <;> rw [q] <;> decide
  have od : oddL 2 0 false [D0, D1] = false := by
    simp only [oddL, oddD, w0, w1, z0, z1, z2, z3, o0, o1, o2, o3, i0, i1]
    have q1 : decide (1048576 < 0 + n0) = false := by simp; omega
    have q2 : decide (1048576 < 0 + n0 + n1) = false := by simp; omega
    rw [q1, q2]
    rcases y with ⟨q, q'⟩ | ⟨q, q'⟩ <;> rw [q, q'] <;> simp
  have hfin := walkV_of (p := 2) (f := f) (r := lR la pu) (hd := ((0 : Nat) : Int)) g0 od
  have e : [D0, D1].map sgOf = [⟨a0, (n0 : Nat), decide (x0 = 65539)⟩, ⟨a1, (n1 : Nat), decide (x1 = 2)⟩] := by
    show [Sg.mk (D0 0) ((D0 2 : Nat) : Int) (hasD D0 2), Sg.mk (D1 0) ((D1 2 : Nat) : Int) (hasD D1 2)] = _
    rw [w0, w1, z0, z2, o0, o2]
  rw [e] at hfin
  exact hfin
/-- The words that must do. -/
def suG : Nat → Nat → Nat
  | 0, 0 => 0 | 0, _ => 2147484416 | 1, 0 => 8 | 1, _ => 13 | 2, 0 => 256 | 2, _ => 65536 | _, 0 => 780 | _, _ => 7
def suF : Nat → Nat := laidW suG 4
theorem su_send : (sendV 2 suF (lvS 1)).2 = (⟨lvN 1 1 1 1, false, 0⟩, [[7]]) := by kernel_rfl
end Go.Proofs.YtbggkoahofnnjaaDoor
namespace Go.Proofs.YtbggkoahofnnjaaDoor
open Go.RowKit
set_option linter.unusedVariables false
set_option linter.unusedSimpArgs false

theorem WordAt.behind {f : Nat → Nat} {a v b : Nat} {l : List Nat} (h : WordAt f a v) (hb : b + l.length ≤ a) : WordAt (wroteF f b l) a v := by
  refine ⟨?_, ?_, ?_, ?_⟩
  · unfold wroteF; rw [if_neg (by omega)]; exact h.b0
  · unfold wroteF; rw [if_neg (by omega)]; exact h.b1
  · unfold wroteF; rw [if_neg (by omega)]; exact h.b2
  · unfold wroteF; rw [if_neg (by omega)]; exact h.b3
theorem WordAt.itself (f : Nat → Nat) (a v : Nat) : WordAt (wroteF f a (numB v 4)) a v := by
  refine ⟨?_, ?_, ?_, ?_⟩
  · unfold wroteF; rw [numB_len, if_pos (by omega), show a + 0 - a = 0 by omega, numB_lv _ _ (by decide)]
  · unfold wroteF; rw [numB_len, if_pos (by omega), show a + 1 - a = 1 by omega, numB_lv _ _ (by decide)]
  · unfold wroteF; rw [numB_len, if_pos (by omega), show a + 2 - a = 2 by omega, numB_lv _ _ (by decide)]
  · unfold wroteF; rw [numB_len, if_pos (by omega), show a + 3 - a = 3 by omega, numB_lv _ _ (by decide)]
theorem next_end {f : Nat → Nat} (h1 : WordAt f 256 65536) : nextV 2 f (lR 1 1) = (zeroRg, 0, false, 0) := by
  have e1 : numF f (plM (avC (lR 1 1))) 2 = 1 := by
    rw [show plM (avC (lR 1 1)) = 256 + 2 by kernel_rfl, h1.hi]
  unfold nextV
  rw [if_pos (lR_chk 1 1), if_pos (by kernel_rfl), e1, if_pos (by decide)]
/-- The parts of the chain. -/
def bkP (n c : Nat) (wr : Bool) : List Sg := [⟨2147487744, (c : Nat), wr⟩, ⟨2147489792, ((n - c : Nat) : Int), wr⟩]
/-- The chain is offered. -/
structure BkOff (f : Nat → Nat) (n c : Nat) (wr : Bool) : Prop where
  off : Off2 f 2147487744 c (if wr = true then 65539 else 65537) 2147489792 (n - c) (if wr = true then 2 else 0)
theorem bk_walk {f : Nat → Nat} {n c : Nat} {wr : Bool} (h : BkOff f n c wr) (hc : c ≤ n) (hn : n ≤ 1012) : walkV 2 f (lR 1 0) 0 = some (bkP n c wr) := by
  have i0 := plB_at 4096 c (by omega)
  have i1 := plB_at 6144 (n - c) (by omega)
  rw [show 2147483648 + 4096 = 2147487744 by decide] at i0
  rw [show 2147483648 + 6144 = 2147489792 by decide] at i1
  have ho := h.off
  cases wr
  · have hw := walk_two (x0 := 65537) (x1 := 0) ho 1 0 (by decide) (by decide) (by omega) (by omega) (.inl ⟨rfl, rfl⟩) (by omega) i0 i1
    rw [show decide ((65537 : Nat) = 65539) = false by decide, show decide ((0 : Nat) = 2) = false by decide] at hw
    exact hw
  · have hw := walk_two (x0 := 65539) (x1 := 2) ho 1 0 (by decide) (by decide) (by omega) (by omega) (.inr ⟨rfl, rfl⟩) (by omega) i0 i1
    rw [show decide ((65539 : Nat) = 65539) = true by decide, show decide ((2 : Nat) = 2) = true by decide] at hw
    exact hw
theorem next_of {p hd : Nat} {f : Nat → Nat} {r r1 : Rg} {l : List Sg} (h1 : nextV p f r = (r1, hd, true, 0)) (h2 : walkV p f r1 ((hd : Nat) : Int) = some l) : ncNext p f r = (0, some (⟨r1, ((hd : Nat) : Int)⟩, l)) := by
  unfold ncNext
  rw [h1]
  simp only [if_true]
  rw [h2]
theorem next_no {p hd : Nat} {f : Nat → Nat} {r r1 : Rg} (h1 : nextV p f r = (r1, hd, false, 0)) : ncNext p f r = (0, none) := by
  unfold ncNext
  rw [h1]
  simp
theorem bk_next {f : Nat → Nat} {n c : Nat} {wr : Bool} (h : BkOff f n c wr) (hc : c ≤ n) (hn : n ≤ 1012) : ncNext 2 f (lR 0 0) = (0, some (⟨lR 1 0, 0⟩, bkP n c wr)) := by
  have hw2 : walkV 2 f (lR 1 0) ((0 : Nat) : Int) = some (bkP n c wr) := bk_walk h hc hn
  have e1 : nextV 2 f (lR 0 0) = (lR 1 0, 0, true, 0) := next_one h.off.cnt h.off.hed
  generalize bkP n c wr = L at *
  exact next_of e1 hw2
theorem bk_room {n c : Nat} (hc : c ≤ n) (hn : n ≤ 1012) (wr : Bool) : roomV wr 0 (bkP n c wr) = (n : Int) := by
  cases wr
  all_goals
    show moreN (moreN 0 ((c : Nat) : Int)) ((n - c : Nat) : Int) = (n : Int)
    rw [more0 (by omega) (by omega), moreN_of (by omega) (by omega) (by omega)]
    omega
theorem bk_parts {n c : Nat} (hc : c ≤ n) (wr : Bool) (N : Int) (hN : (n : Int) ≤ N) : partsV wr N (bkP n c wr) = (if c = 0 then [] else [⟨2147487744, (c : Nat), wr⟩]) ++ (if n - c = 0 then [] else [⟨2147489792, ((n - c : Nat) : Int), wr⟩]) := by
  unfold bkP
  by_cases h1 : c = 0
  · subst h1
    rw [parts_void (by simp), if_pos rfl]
    by_cases h2 : n - 0 = 0
    · rw [if_pos h2, h2, parts_void (by simp)]; rfl
    · rw [if_neg h2, parts_have (by omega) (by omega)]; rfl
  · rw [if_neg h1, parts_have (by omega) (by omega)]
    by_cases h2 : n - c = 0
    · rw [if_pos h2, h2, parts_void (by simp)]; rfl
    · rw [if_neg h2, parts_have (by omega) (by omega)]; rfl
theorem bk_scat (f : Nat → Nat) {n c : Nat} (hc : c ≤ n) (b : List Nat) (hb : b.length = n) : scatF f (partsV true (n : Int) (bkP n c true)) b = wroteF (wroteF f 4096 (b.take c)) 6144 (b.drop c) := by
  rw [bk_parts hc true n (Int.le_refl _)]
  by_cases h1 : c = 0
  · subst h1
    rw [if_pos rfl, List.take_zero, wroteF_nil, List.drop_zero, List.nil_append]
    by_cases h2 : n - 0 = 0
    · rw [if_pos h2, List.eq_nil_of_length_eq_zero (show b.length = 0 by omega), wroteF_nil]; rfl
    · rw [if_neg h2]
      show wroteF f (plM 2147489792) (b.take ((n - 0 : Nat) : Int).toNat) = _
      rw [Int.toNat_natCast, List.take_of_length_le (by omega)]; rfl
  · rw [if_neg h1]
    by_cases h2 : n - c = 0
    · rw [if_pos h2, List.append_nil, List.drop_eq_nil_of_le (by omega), wroteF_nil]
      show wroteF f (plM 2147487744) (b.take ((c : Nat) : Int).toNat) = _
      rw [Int.toNat_natCast]; rfl
    · rw [if_neg h2]
      show wroteF (wroteF f (plM 2147487744) (b.take ((c : Nat) : Int).toNat)) (plM 2147489792) ((b.drop ((c : Nat) : Int).toNat).take ((n - c : Nat) : Int).toNat) = _
      rw [Int.toNat_natCast, Int.toNat_natCast, show (b.drop c).take (n - c) = b.drop c from List.take_of_length_le (by rw [List.length_drop]; omega)]; rfl
theorem bk_ins {n c : Nat} (hc : c ≤ n) (hn : n ≤ 1012) : (partsV true (n : Int) (bkP n c true)).all (inS 2) = true := by
  rw [bk_parts hc true n (Int.le_refl _), List.all_append]
  have i1 : inS 2 ⟨2147487744, (c : Nat), true⟩ = true := by unfold inS; rw [Int.toNat_natCast]; exact plB_at 4096 c (by omega)
  have i2 : inS 2 ⟨2147489792, ((n - c : Nat) : Int), true⟩ = true := by unfold inS; rw [Int.toNat_natCast]; exact plB_at 6144 (n - c) (by omega)
  by_cases h1 : c = 0 <;> by_cases h2 : n - c = 0 <;> simp only [h1, h2, if_true, if_false, List.all_nil, List.all_cons, Bool.and_true] <;> first | rfl | skip
  all_goals simp_all
/-- What memory is, when the frame was taken. -/
def bkF (f : Nat → Nat) (n c : Nat) (b : List Nat) : Nat → Nat := giveF (lR 1 0) (wroteF (wroteF f 4096 (b.take c)) 6144 (b.drop c)) 0 n
theorem lv_take (q : Nat) (hq : q < 2) : ((lvN q 0 0 0).qw q (((lvN q 0 0 0).q q).rw' (lR 1 0))) = lvN q 1 0 0 := by
  rcases (show q = 0 ∨ q = 1 by omega) with rfl | rfl <;> kernel_rfl
theorem lv_give (q : Nat) (hq : q < 2) : usedV ((lvN q 1 0 0).qw q (((lvN q 1 0 0).q q).rw' (lR 1 1))) = lvN q 1 1 1 := by
  rcases (show q = 0 ∨ q = 1 by omega) with rfl | rfl <;> kernel_rfl
theorem give_lv (f : Nat → Nat) (n : Nat) : giveV 2 f (lR 1 0) 0 n = (giveF (lR 1 0) f 0 n, some (lR 1 1)) := by
  unfold giveV
  rw [if_pos (lR_chk 1 0), if_pos (by decide), if_pos (by kernel_rfl), if_pos (by kernel_rfl)]
  rfl
theorem bk_ans {f : Nat → Nat} {n c : Nat} (hc : c ≤ n) (hn : n ≤ 1012) (b : List Nat) (hb : b.length = n) : ncAns 2 f (lvN 0 0 0 0) 0 ⟨lR 1 0, 0⟩ (bkP n c true) b = (bkF f n c b, lvN 0 1 1 1, true) := by
  have hs : scatE 2 (bkP n c true) b.length = 0 := by
    unfold scatE
    rw [bk_room hc hn true, hb, if_neg (by omega), if_pos (bk_ins hc hn)]
  unfold ncAns
  rw [if_pos hs, hb, bk_scat f hc b hb]
  simp only [give_lv]
  rw [lv_take 0 (by decide), lv_give 0 (by decide)]
  first | done | rfl
theorem bk_take {f : Nat → Nat} {n c : Nat} (h : BkOff f n c true) (hc : c ≤ n) (hn : n ≤ 1012) (fr : List Nat) (hf : fr.length + 12 = n) (h1 : 1 ≤ fr.length) : takeV 2 f (lvS 0) fr = (bkF f n c (headL ++ fr), ⟨lvN 0 1 1 1, true, 0⟩, true, 0) := by
  have hfr : isFr (fr.length : Int) = true := by
    unfold isFr; rw [decide_eq_true (show (1 : Int) ≤ (fr.length : Int) by omega), decide_eq_true (show (fr.length : Int) ≤ 1514 by omega)]; rfl
  have hr := bk_next h hc hn
  have hrm : ¬ roomV true 0 (bkP n c true) < ((12 + fr.length : Nat) : Int) := by rw [bk_room hc hn true]; omega
  unfold takeV
  rw [if_pos hfr, if_pos (show ncWorks (lvS 0).p 0 = true by kernel_rfl), show (lvS 0).p.q0.r = lR 0 0 from rfl, hr]
  simp only
  rw [if_neg hrm, show (lvS 0).p = lvN 0 0 0 0 from rfl, bk_ans hc hn (headL ++ fr) (by rw [List.length_append]; show 12 + fr.length = n; omega)]
  rfl
/-- The chain is offered anew, to be read. -/
def bkG (f : Nat → Nat) : Nat → Nat := wroteF (wroteF f 12 (numB 65537 4)) 28 (numB 0 4)
theorem bkF_word {f : Nat → Nat} {n c a v : Nat} {b : List Nat} (h : WordAt f a v) (ha : a + 4 ≤ 514) : WordAt (bkF f n c b) a v := by
  unfold bkF giveF
  rw [show plM (usH (lR 1 0)) = 516 by kernel_rfl, show plM (usN (lR 1 0)) = 520 by kernel_rfl, show plM (usC (lR 1 0)) = 514 by kernel_rfl]
  exact ((((h.before (by omega)).before (by omega)).before (by omega)).before (by omega)).before (by omega)
theorem bkG_off {f : Nat → Nat} {n c : Nat} {b : List Nat} (h : BkOff f n c true) : BkOff (bkG (bkF f n c b)) n c false := by
  have o := h.off
  refine ⟨?_⟩
  show Off2 _ _ _ 65537 _ _ 0
  unfold bkG
  exact ⟨((bkF_word o.cnt (by decide)).behind (by rw [numB_len]; decide)).behind (by rw [numB_len]; decide), ((bkF_word o.hed (by decide)).behind (by rw [numB_len]; decide)).behind (by rw [numB_len]; decide),
    ((bkF_word o.d00 (by decide)).before (by decide)).before (by decide), ((bkF_word o.d01 (by decide)).before (by decide)).before (by decide), ((bkF_word o.d02 (by decide)).before (by decide)).before (by decide), (WordAt.itself _ 12 65537).before (by decide),
    ((bkF_word o.d10 (by decide)).behind (by rw [numB_len]; decide)).before (by decide), ((bkF_word o.d11 (by decide)).behind (by rw [numB_len]; decide)).before (by decide), ((bkF_word o.d12 (by decide)).behind (by rw [numB_len]; decide)).before (by decide), WordAt.itself _ 28 0⟩
theorem bkG_far (f : Nat → Nat) (n c : Nat) (b : List Nat) (x : Nat) (hx : 1000 ≤ x) : bkG (bkF f n c b) x = wroteF (wroteF f 4096 (b.take c)) 6144 (b.drop c) x := by
  unfold bkG bkF giveF
  rw [show plM (usH (lR 1 0)) = 516 by kernel_rfl, show plM (usN (lR 1 0)) = 520 by kernel_rfl, show plM (usC (lR 1 0)) = 514 by kernel_rfl]
  generalize wroteF (wroteF f 4096 (b.take c)) 6144 (b.drop c) = g
  unfold wroteF
  simp only [numB_len]
  rw [if_neg (by omega), if_neg (by omega), if_neg (by omega), if_neg (by omega), if_neg (by omega)]
theorem bk_gath (f : Nat → Nat) {n c : Nat} (hc : c ≤ n) (hn : n ≤ 1012) (b : List Nat) (hb : b.length = n) : gathF (bkG (bkF f n c b)) (partsV false 9223372036854775807 (bkP n c false)) = b := by
  have e : gathF (bkG (bkF f n c b)) (partsV false 9223372036854775807 (bkP n c false)) = (List.range c).map (fun j => bkG (bkF f n c b) (4096 + j)) ++ (List.range (n - c)).map (fun j => bkG (bkF f n c b) (6144 + j)) := by
    rw [bk_parts hc false _ (by omega), gathF_app]
    congr 1
    · by_cases h1 : c = 0
      · rw [if_pos h1, h1]; rfl
      · rw [if_neg h1, gathF_one, seg_cells, Int.toNat_natCast]; rfl
    · by_cases h2 : n - c = 0
      · rw [if_pos h2, h2]; rfl
      · rw [if_neg h2, gathF_one, seg_cells, Int.toNat_natCast]; rfl
  rw [e]
  apply List.ext_getElem?
  intro j
  by_cases h1 : j < c
  · rw [List.getElem?_append_left (by simpa using h1), List.getElem?_map, List.getElem?_range h1]
    show some (bkG (bkF f n c b) (4096 + j)) = _
    rw [bkG_far f n c b _ (by omega)]
    unfold wroteF
    simp only [List.length_take, List.length_drop, hb]
    rw [if_neg (by omega), if_pos (by omega), show 4096 + j - 4096 = j by omega, List.getElem?_take, if_pos h1, List.getElem?_eq_getElem (by omega)]
    rfl
  · rw [List.getElem?_append_right (by simp; omega), List.length_map, List.length_range, List.getElem?_map]
    by_cases h2 : j < n
    · rw [List.getElem?_range (by omega)]
      show some (bkG (bkF f n c b) (6144 + (j - c))) = _
      rw [bkG_far f n c b _ (by omega)]
      unfold wroteF
      simp only [List.length_take, List.length_drop, hb]
      rw [if_pos (by omega), show 6144 + (j - c) - 6144 = j - c by omega, List.getElem?_drop, show c + (j - c) = j by omega, List.getElem?_eq_getElem (by omega)]
      rfl
    · rw [List.getElem?_eq_none (by simp; omega), List.getElem?_eq_none (by omega)]; rfl
theorem bk_nil {f : Nat → Nat} {n c : Nat} : ncAns 2 f (lvN 1 0 0 0) 1 ⟨lR 1 0, 0⟩ (bkP n c false) [] = (giveF (lR 1 0) f 0 0, lvN 1 1 1 1, true) := by
  have hs : scatE 2 (bkP n c false) 0 = 0 := by
    unfold scatE bkP
    rw [if_neg (by simp [roomV]), if_pos]
    rw [show ((0 : Nat) : Int) = 0 from rfl, parts_skip (by decide), parts_skip (by decide), parts_nil]
    rfl
  have hsc : scatF f (partsV true ((0 : Nat) : Int) (bkP n c false)) [] = f := by
    unfold bkP
    rw [show ((0 : Nat) : Int) = 0 from rfl, parts_skip (by decide), parts_skip (by decide), parts_nil]
    rfl
  unfold ncAns
  rw [show ([] : List Nat).length = 0 from rfl, if_pos hs, hsc]
  simp only [give_lv]
  rw [lv_take 1 (by decide), lv_give 1 (by decide)]
  first | done | rfl
theorem bk_send {f : Nat → Nat} {n c : Nat} (h : BkOff f n c true) (hc : c ≤ n) (hn : n ≤ 1012) (fr : List Nat) (hf : fr.length + 12 = n) (h1 : 1 ≤ fr.length) : (sendV 2 (bkG (bkF f n c (headL ++ fr))) (lvS 1)).2 = (⟨lvN 1 1 1 1, false, 0⟩, [fr]) := by
  have hb : (headL ++ fr).length = n := by rw [List.length_append]; show 12 + fr.length = n; omega
  have ho := bkG_off (b := headL ++ fr) h
  have hg := bk_gath f hc hn (headL ++ fr) hb
  obtain ⟨g, hgd⟩ : ∃ g, bkG (bkF f n c (headL ++ fr)) = g := ⟨_, rfl⟩
  rw [hgd] at ho hg ⊢
  have hnx := bk_next ho hc hn
  have hfm : ncFrame g (bkP n c false) = some fr := by
    unfold ncFrame
    rw [bk_room hc hn false, if_pos, hg]
    · rfl
    · unfold isFr; rw [decide_eq_true (show (1 : Int) ≤ (n : Int) - 12 by omega), decide_eq_true (show (n : Int) - 12 ≤ 1514 by omega)]; rfl
  have hcnt : WordAt (giveF (lR 1 0) g 0 0) 256 65536 := by
    unfold giveF
    rw [show plM (usH (lR 1 0)) = 516 by kernel_rfl, show plM (usN (lR 1 0)) = 520 by kernel_rfl, show plM (usC (lR 1 0)) = 514 by kernel_rfl]
    exact ((ho.off.cnt.before (by decide)).before (by decide)).before (by decide)
  have hn2 : ncNext 2 (giveF (lR 1 0) g 0 0) (lR 1 1) = (0, none) := by
    exact next_no (next_end hcnt)
  unfold sendV
  rw [if_pos (by kernel_rfl)]
  rw [ncSend, show (lvS 1).p.q1.r = lR 0 0 from rfl, hnx]
  simp only [hfm]
  rw [show (lvS 1).p = lvN 1 0 0 0 from rfl, bk_nil]
  simp only [if_true]
  rw [ncSend, show ((lvS 1).pw (lvN 1 1 1 1)).p.q1.r = lR 1 1 from rfl, hn2]
  first | done | rfl
def bkW (n c : Nat) : Nat → Nat → Nat
  | 0, 0 => 0 | 0, _ => 2147487744 | 1, 0 => 8 | 1, _ => c | 2, 0 => 12 | 2, _ => 65539 | 3, 0 => 16 | 3, _ => 2147489792 | 4, 0 => 24 | 4, _ => n - c | 5, 0 => 28 | 5, _ => 2 | _, 0 => 256 | _, _ => 65536
theorem bk_off (n c : Nat) : BkOff (laidW (bkW n c) 7) n c true := by
  refine ⟨?_⟩
  show Off2 _ _ _ 65539 _ _ 2
  exact ⟨WordAt.lies (bkW n c) 7 256 _ (by decide) (by kernel_rfl), WordAt.lies (bkW n c) 7 260 _ (by decide) (by kernel_rfl), WordAt.lies (bkW n c) 7 0 _ (by decide) (by kernel_rfl), WordAt.lies (bkW n c) 7 4 _ (by decide) (by kernel_rfl), WordAt.lies (bkW n c) 7 8 _ (by decide) (by kernel_rfl), WordAt.lies (bkW n c) 7 12 _ (by decide) (by kernel_rfl), WordAt.lies (bkW n c) 7 16 _ (by decide) (by kernel_rfl), WordAt.lies (bkW n c) 7 20 _ (by decide) (by kernel_rfl), WordAt.lies (bkW n c) 7 24 _ (by decide) (by kernel_rfl), WordAt.lies (bkW n c) 7 28 _ (by decide) (by kernel_rfl)⟩
end Go.Proofs.YtbggkoahofnnjaaDoor
namespace Go.Proofs.YtbggkoahofnnjaaDoor
open Go.RowKit
set_option linter.unusedVariables false

theorem Nc.at0 (s : Nc) : s.c[0]? = some (.int .u32 (s.p.st : Nat)) := rfl
theorem Nc.at1 (s : Nc) : s.c[1]? = some (.int .u32 (s.p.fs : Nat)) := rfl
theorem Nc.at2 (s : Nc) : s.c[2]? = some (.int .u32 (s.p.ds : Nat)) := rfl
theorem Nc.at3 (s : Nc) : s.c[3]? = some (.int .u32 (s.p.se : Nat)) := rfl
theorem Nc.at4 (s : Nc) : s.c[4]? = some (.int .u32 (s.p.ir : Nat)) := rfl
theorem Nc.at5 (s : Nc) : s.c[5]? = some (.int .u32 (s.p.d0 : Nat)) := rfl
theorem Nc.at6 (s : Nc) : s.c[6]? = some (.int .u32 (s.p.d1 : Nat)) := rfl
theorem Nc.at7 (s : Nc) : s.c[7]? = some (.bool s.p.q0.rd) := rfl
theorem Nc.at8 (s : Nc) : s.c[8]? = some (.int .i64 s.p.q0.r.sz) := rfl
theorem Nc.at9 (s : Nc) : s.c[9]? = some (.int .u32 (s.p.q0.r.de : Nat)) := rfl
theorem Nc.at10 (s : Nc) : s.c[10]? = some (.int .u32 (s.p.q0.r.av : Nat)) := rfl
theorem Nc.at11 (s : Nc) : s.c[11]? = some (.int .u32 (s.p.q0.r.us : Nat)) := rfl
theorem Nc.at12 (s : Nc) : s.c[12]? = some (.int .u16 (s.p.q0.r.la : Nat)) := rfl
theorem Nc.at13 (s : Nc) : s.c[13]? = some (.int .u16 (s.p.q0.r.pu : Nat)) := rfl
theorem Nc.at14 (s : Nc) : s.c[14]? = some (.bool s.p.q1.rd) := rfl
theorem Nc.at15 (s : Nc) : s.c[15]? = some (.int .i64 s.p.q1.r.sz) := rfl
theorem Nc.at16 (s : Nc) : s.c[16]? = some (.int .u32 (s.p.q1.r.de : Nat)) := rfl
theorem Nc.at17 (s : Nc) : s.c[17]? = some (.int .u32 (s.p.q1.r.av : Nat)) := rfl
theorem Nc.at18 (s : Nc) : s.c[18]? = some (.int .u32 (s.p.q1.r.us : Nat)) := rfl
theorem Nc.at19 (s : Nc) : s.c[19]? = some (.int .u16 (s.p.q1.r.la : Nat)) := rfl
theorem Nc.at20 (s : Nc) : s.c[20]? = some (.int .u16 (s.p.q1.r.pu : Nat)) := rfl
theorem Nc.ones (s : Nc) : s.c.all (·.oneCell') = true := by simp [Nc.c, V.cells, Value.oneCell']
theorem Cn.at0 (s : Cn) (v : Value) : (s.c v)[0]? = some (.int .i64 s.r.sz) := rfl
theorem Cn.at1 (s : Cn) (v : Value) : (s.c v)[1]? = some (.int .u32 (s.r.de : Nat)) := rfl
theorem Cn.at2 (s : Cn) (v : Value) : (s.c v)[2]? = some (.int .u32 (s.r.av : Nat)) := rfl
theorem Cn.at3 (s : Cn) (v : Value) : (s.c v)[3]? = some (.int .u32 (s.r.us : Nat)) := rfl
theorem Cn.at4 (s : Cn) (v : Value) : (s.c v)[4]? = some (.int .u16 (s.r.la : Nat)) := rfl
theorem Cn.at5 (s : Cn) (v : Value) : (s.c v)[5]? = some (.int .u16 (s.r.pu : Nat)) := rfl
theorem Cn.at6 (s : Cn) (v : Value) : (s.c v)[6]? = some (.int .i64 s.hd) := rfl
theorem Cn.at7 (s : Cn) (v : Value) : (s.c v)[7]? = some (v) := rfl
theorem Cn.ones (s : Cn) (v : Value) (hv : v.oneCell' = true) : (s.c v).all (·.oneCell') = true := by simp [Cn.c, Rg.cells, Value.oneCell'] ; simpa [Value.oneCell'] using hv
theorem ext_np (s : Nc) : (s.c.extract 0 (0 + s.p.cells.size)).toList = s.p.cells.toList := by kernel_rfl
theorem ext_nr0 (s : Nc) : (s.c.extract 8 (8 + s.p.q0.r.cells.size)).toList = s.p.q0.r.cells.toList := by kernel_rfl
theorem ext_nr1 (s : Nc) : (s.c.extract 15 (15 + s.p.q1.r.cells.size)).toList = s.p.q1.r.cells.toList := by kernel_rfl
theorem ext_cr (s : Cn) (v : Value) : ((s.c v).extract 0 (0 + s.r.cells.size)).toList = s.r.cells.toList := by kernel_rfl
theorem putAll_np (s : Nc) (p : V) : putAll s.c 0 p.cells.toList = (s.pw p).c := by kernel_rfl
theorem putAll_v0 (s : V) (r : Rg) : putAll s.cells 8 r.cells.toList = (s.qw 0 ((s.q 0).rw' r)).cells := by kernel_rfl
theorem putAll_v1 (s : V) (r : Rg) : putAll s.cells 15 r.cells.toList = (s.qw 1 ((s.q 1).rw' r)).cells := by kernel_rfl
variable {ops : Array Oper} {rest : List Oper} {dst : Option Tmp} {ty : TypeId} {pos : String} {after : Array Edge} {a : Act} {w : World} {Q : Exit → Act → World → Prop} {x y : Operand} {b : Nat} {S : World → Prop} {K : Act → World → Prop} {gd : Option (Nat × Bool)}
theorem size_nc : (Tryd.prog.info? 43).map (·.size) = some 23 := by kernel_rfl
theorem zero_nc (w : World) : (zeroValue 43).run Tryd.prog w = .ok (.agg zeroNc.c) w :=
  (zero_of_info (P := Tryd.prog) (t := 43) (v := .agg zeroNc.c) (n := 23) (by kernel_rfl)).1 w
theorem bx_nc (N : Nat) (h : Nc) (hN : w.heap.size = N) (hx : a.eval x = .agg h.c)
    (k : ∀ W, RowAt W N h.c 43 → Below N w W → Hid (W.heap.size = N + 1) → wpList Tryd.prog ops Q rest (a.put dst (.pointer (some ⟨N, 0, none⟩))) W) :
    wpList Tryd.prog ops Q (⟨dst, .box 43 x, ty, pos, after, none⟩ :: rest) a w := op_box N hN h.c hx k
theorem al_nc (N : Nat) (hN : w.heap.size = N)
    (k : ∀ W, RowAt W N zeroNc.c 43 → Below N w W → Hid (W.heap.size = N + 1) → wpList Tryd.prog ops Q rest (a.put dst (.pointer (some ⟨N, 0, none⟩))) W) :
    wpList Tryd.prog ops Q (⟨dst, .alloc 43, ty, pos, after, none⟩ :: rest) a w := op_alloc N hN zeroNc.c zero_nc k
theorem ld_nc (b : Nat) (h : Nc) (hr : RowAt w b h.c 43) (hx : a.eval x = .pointer (some ⟨b, 0, none⟩)) (hw : Region.wanted ⟨dst, .load 43 x, ty, pos, after, gd⟩ (yielded ops a.tmps) = true)
    (k : wpList Tryd.prog ops Q rest (a.put dst (.agg h.c)) w) : wpList Tryd.prog ops Q (⟨dst, .load 43 x, ty, pos, after, gd⟩ :: rest) a w :=
  BigFrame.wpList_want hw fun K hK => wp_load_row 43 x rfl b hx _ h.c (0, 0) _ hr Tryd.underlying43 rfl size_nc (hK _ _ k)
theorem st_nc (b : Nat) (old : Nc) (h : Nc) (hr : RowAt w b old.c 43) (hx : a.eval x = .pointer (some ⟨b, 0, none⟩)) (hy : a.eval y = .agg h.c)
    (k : ∀ W, RowAt W b h.c 43 → Only b w W → wpList Tryd.prog ops Q rest (a.put dst undef) W) : wpList Tryd.prog ops Q (⟨dst, .store 43 x y, ty, pos, after, none⟩ :: rest) a w :=
  op_store b hx h.c hy old.c _ hr size_nc rfl h.ones k
theorem size_cn : (Tryd.prog.info? 65).map (·.size) = some 8 := by kernel_rfl
theorem zero_cn (w : World) : (zeroValue 65).run Tryd.prog w = .ok (.agg (zeroCn.c nilS)) w :=
  (zero_of_info (P := Tryd.prog) (t := 65) (v := .agg (zeroCn.c nilS)) (n := 8) (by kernel_rfl)).1 w
theorem bx_cn (N : Nat) (h : Cn) (v : Value) (hN : w.heap.size = N) (hx : a.eval x = .agg (h.c v))
    (k : ∀ W, RowAt W N (h.c v) 65 → Below N w W → Hid (W.heap.size = N + 1) → wpList Tryd.prog ops Q rest (a.put dst (.pointer (some ⟨N, 0, none⟩))) W) :
    wpList Tryd.prog ops Q (⟨dst, .box 65 x, ty, pos, after, none⟩ :: rest) a w := op_box N hN (h.c v) hx k
theorem al_cn (N : Nat) (hN : w.heap.size = N)
    (k : ∀ W, RowAt W N (zeroCn.c nilS) 65 → Below N w W → Hid (W.heap.size = N + 1) → wpList Tryd.prog ops Q rest (a.put dst (.pointer (some ⟨N, 0, none⟩))) W) :
    wpList Tryd.prog ops Q (⟨dst, .alloc 65, ty, pos, after, none⟩ :: rest) a w := op_alloc N hN (zeroCn.c nilS) zero_cn k
theorem ld_cn (b : Nat) (h : Cn) (v : Value) (hr : RowAt w b (h.c v) 65) (hx : a.eval x = .pointer (some ⟨b, 0, none⟩)) (hw : Region.wanted ⟨dst, .load 65 x, ty, pos, after, gd⟩ (yielded ops a.tmps) = true)
    (k : wpList Tryd.prog ops Q rest (a.put dst (.agg (h.c v))) w) : wpList Tryd.prog ops Q (⟨dst, .load 65 x, ty, pos, after, gd⟩ :: rest) a w :=
  BigFrame.wpList_want hw fun K hK => wp_load_row 65 x rfl b hx _ (h.c v) (0, 0) _ hr Tryd.underlying65 rfl size_cn (hK _ _ k)
theorem st_cn (b : Nat) (old : Cn) (ov : Value) (h : Cn) (v : Value) (hv : v.oneCell' = true) (hr : RowAt w b (old.c ov) 65) (hx : a.eval x = .pointer (some ⟨b, 0, none⟩)) (hy : a.eval y = .agg (h.c v))
    (k : ∀ W, RowAt W b (h.c v) 65 → Only b w W → wpList Tryd.prog ops Q rest (a.put dst undef) W) : wpList Tryd.prog ops Q (⟨dst, .store 65 x y, ty, pos, after, none⟩ :: rest) a w :=
  op_store b hx (h.c v) hy (old.c ov) _ hr size_cn rfl (h.ones v hv) k
theorem ld_np (b : Nat) (h : Nc) (t' : TypeId) (hr : RowAt w b h.c t') (hx : a.eval x = .pointer (some ⟨b, 0, none⟩)) (hw : Region.wanted ⟨dst, .load 41 x, ty, pos, after, gd⟩ (yielded ops a.tmps) = true)
    (k : wpList Tryd.prog ops Q rest (a.put dst (.agg h.p.cells)) w) : wpList Tryd.prog ops Q (⟨dst, .load 41 x, ty, pos, after, gd⟩ :: rest) a w :=
  BigFrame.wpList_want hw fun K hK => wp_load_mid 41 x rfl b 0 hx h.p.cells.toList _ (ext_np h ▸ World.rangeAt_of_block hr 0 h.p.cells.size) Tryd.underlying41 rfl size_vp (hK _ _ k)
theorem ld_nr0 (b : Nat) (h : Nc) (t' : TypeId) (hr : RowAt w b h.c t') (hx : a.eval x = .pointer (some ⟨b, 8, none⟩)) (hw : Region.wanted ⟨dst, .load 36 x, ty, pos, after, gd⟩ (yielded ops a.tmps) = true)
    (k : wpList Tryd.prog ops Q rest (a.put dst (.agg h.p.q0.r.cells)) w) : wpList Tryd.prog ops Q (⟨dst, .load 36 x, ty, pos, after, gd⟩ :: rest) a w :=
  BigFrame.wpList_want hw fun K hK => wp_load_mid 36 x rfl b 8 hx h.p.q0.r.cells.toList _ (ext_nr0 h ▸ World.rangeAt_of_block hr 8 h.p.q0.r.cells.size) Tryd.underlying36 rfl size_rp (hK _ _ k)
theorem ld_nr1 (b : Nat) (h : Nc) (t' : TypeId) (hr : RowAt w b h.c t') (hx : a.eval x = .pointer (some ⟨b, 15, none⟩)) (hw : Region.wanted ⟨dst, .load 36 x, ty, pos, after, gd⟩ (yielded ops a.tmps) = true)
    (k : wpList Tryd.prog ops Q rest (a.put dst (.agg h.p.q1.r.cells)) w) : wpList Tryd.prog ops Q (⟨dst, .load 36 x, ty, pos, after, gd⟩ :: rest) a w :=
  BigFrame.wpList_want hw fun K hK => wp_load_mid 36 x rfl b 15 hx h.p.q1.r.cells.toList _ (ext_nr1 h ▸ World.rangeAt_of_block hr 15 h.p.q1.r.cells.size) Tryd.underlying36 rfl size_rp (hK _ _ k)
theorem ld_cr (b : Nat) (h : Cn) (v : Value) (t' : TypeId) (hr : RowAt w b (h.c v) t') (hx : a.eval x = .pointer (some ⟨b, 0, none⟩)) (hw : Region.wanted ⟨dst, .load 36 x, ty, pos, after, gd⟩ (yielded ops a.tmps) = true)
    (k : wpList Tryd.prog ops Q rest (a.put dst (.agg h.r.cells)) w) : wpList Tryd.prog ops Q (⟨dst, .load 36 x, ty, pos, after, gd⟩ :: rest) a w :=
  BigFrame.wpList_want hw fun K hK => wp_load_mid 36 x rfl b 0 hx h.r.cells.toList _ (ext_cr h v ▸ World.rangeAt_of_block hr 0 h.r.cells.size) Tryd.underlying36 rfl size_rp (hK _ _ k)
theorem st_np (b : Nat) (h : Nc) (f : V) (t' : TypeId) (hr : RowAt w b h.c t') (hx : a.eval x = .pointer (some ⟨b, 0, none⟩)) (hy : a.eval y = .agg f.cells)
    (k : ∀ W, RowAt W b (h.pw f).c t' → Only b w W → wpList Tryd.prog ops Q rest (a.put dst undef) W) : wpList Tryd.prog ops Q (⟨dst, .store 41 x y, ty, pos, after, none⟩ :: rest) a w :=
  op_store_mid b 0 hx f.cells hy h.c _ _ hr size_vp (by show 0 + 21 ≤ 23; decide) (vi_one f) (putAll_np h f) k
theorem st_v0 (b : Nat) (h : V) (f : Rg) (t' : TypeId) (hr : RowAt w b h.cells t') (hx : a.eval x = .pointer (some ⟨b, 8, none⟩)) (hy : a.eval y = .agg f.cells)
    (k : ∀ W, RowAt W b (h.qw 0 ((h.q 0).rw' f)).cells t' → Only b w W → wpList Tryd.prog ops Q rest (a.put dst undef) W) : wpList Tryd.prog ops Q (⟨dst, .store 36 x y, ty, pos, after, none⟩ :: rest) a w :=
  op_store_mid b 8 hx f.cells hy h.cells _ _ hr size_rp (by show 8 + 6 ≤ 21; decide) (rg_one f) (putAll_v0 h f) k
theorem st_v1 (b : Nat) (h : V) (f : Rg) (t' : TypeId) (hr : RowAt w b h.cells t') (hx : a.eval x = .pointer (some ⟨b, 15, none⟩)) (hy : a.eval y = .agg f.cells)
    (k : ∀ W, RowAt W b (h.qw 1 ((h.q 1).rw' f)).cells t' → Only b w W → wpList Tryd.prog ops Q rest (a.put dst undef) W) : wpList Tryd.prog ops Q (⟨dst, .store 36 x y, ty, pos, after, none⟩ :: rest) a w :=
  op_store_mid b 15 hx f.cells hy h.cells _ _ hr size_rp (by show 15 + 6 ≤ 21; decide) (rg_one f) (putAll_v1 h f) k
theorem ld_nbe (b : Nat) (h : Nc) (t' : TypeId) (hr : RowAt w b h.c t') (hx : a.eval x = .pointer (some ⟨b, 21, none⟩)) (hw : Region.wanted ⟨dst, .load 4 x, ty, pos, after, gd⟩ (yielded ops a.tmps) = true)
    (k : wpList Tryd.prog ops Q rest (a.put dst (.bool h.be)) w) : wpList Tryd.prog ops Q (⟨dst, .load 4 x, ty, pos, after, gd⟩ :: rest) a w :=
  op_load_cellg b 21 hx h.c _ _ hr rfl _ Tryd.underlying4 rfl hw k
theorem st_nbe (b : Nat) (h : Nc) (n : Bool) (t' : TypeId) (hr : RowAt w b h.c t') (hx : a.eval x = .pointer (some ⟨b, 21, none⟩)) (hy : a.eval y = .bool n)
    (k : ∀ W, RowAt W b ((h.bw n).c) t' → Only b w W → wpList Tryd.prog ops Q rest (a.put dst undef) W) : wpList Tryd.prog ops Q (⟨dst, .store 4 x y, ty, pos, after, none⟩ :: rest) a w :=
  op_store_cell b 21 hx _ hy h.c _ _ hr size_boi (by show 21 < 23; decide) rfl rfl k
theorem ld_nlo (b : Nat) (h : Nc) (t' : TypeId) (hr : RowAt w b h.c t') (hx : a.eval x = .pointer (some ⟨b, 22, none⟩)) (hw : Region.wanted ⟨dst, .load 24 x, ty, pos, after, gd⟩ (yielded ops a.tmps) = true)
    (k : wpList Tryd.prog ops Q rest (a.put dst (.int .u32 (h.lo : Nat))) w) : wpList Tryd.prog ops Q (⟨dst, .load 24 x, ty, pos, after, gd⟩ :: rest) a w :=
  op_load_cellg b 22 hx h.c _ _ hr rfl _ Tryd.underlying24 rfl hw k
theorem st_nlo (b : Nat) (h : Nc) (n : Nat) (t' : TypeId) (hr : RowAt w b h.c t') (hx : a.eval x = .pointer (some ⟨b, 22, none⟩)) (hy : a.eval y = .int .u32 (n : Nat))
    (k : ∀ W, RowAt W b ((h.lw n).c) t' → Only b w W → wpList Tryd.prog ops Q rest (a.put dst undef) W) : wpList Tryd.prog ops Q (⟨dst, .store 24 x y, ty, pos, after, none⟩ :: rest) a w :=
  op_store_cell b 22 hx _ hy h.c _ _ hr size_u32i (by show 22 < 23; decide) rfl rfl k
theorem ld_chd (b : Nat) (h : Cn) (v : Value) (t' : TypeId) (hr : RowAt w b (h.c v) t') (hx : a.eval x = .pointer (some ⟨b, 6, none⟩)) (hw : Region.wanted ⟨dst, .load 3 x, ty, pos, after, gd⟩ (yielded ops a.tmps) = true)
    (k : wpList Tryd.prog ops Q rest (a.put dst (.int .i64 h.hd)) w) : wpList Tryd.prog ops Q (⟨dst, .load 3 x, ty, pos, after, gd⟩ :: rest) a w :=
  op_load_cellg b 6 hx (h.c v) _ _ hr rfl _ Tryd.underlying3 rfl hw k
theorem ld_cps (b : Nat) (h : Cn) (v : Value) (t' : TypeId) (hr : RowAt w b (h.c v) t') (hx : a.eval x = .pointer (some ⟨b, 7, none⟩)) (hw : Region.wanted ⟨dst, .load 63 x, ty, pos, after, gd⟩ (yielded ops a.tmps) = true)
    (k : wpList Tryd.prog ops Q rest (a.put dst (v)) w) : wpList Tryd.prog ops Q (⟨dst, .load 63 x, ty, pos, after, gd⟩ :: rest) a w :=
  op_load_cellg b 7 hx (h.c v) _ _ hr rfl _ Tryd.underlying63 rfl hw k
end Go.Proofs.YtbggkoahofnnjaaDoor
namespace Go.Proofs.YtbggkoahofnnjaaDoor
open Go.RowKit
set_option linter.unusedVariables false
set_option linter.unusedSimpArgs false

variable {ops : Array Oper} {rest : List Oper} {dst : Option Tmp} {ty : TypeId} {pos : String} {after : Array Edge} {a : Act} {w : World} {Q : Exit → Act → World → Prop} {K : Act → World → Prop} {x y : Operand} {gd : Option (Nat × Bool)}
end Go.Proofs.YtbggkoahofnnjaaDoor
