/-
  Numbers and truths that came in, as plain ones.
-/
import Derived.Test.YtghpjibjhaomoaaGreatDoorJRiSure
import Derived.Test.YtghpjibjhaomoaaGreatDoorJRiGive
import Derived.Test.YtghpjibjhaomoaaGreatDoorRows
import Derived.ProofKit
import Derived.OpenShut
import Derived.WideShapes
import Derived.ChangeSlices
import Derived.Deep.Grids
namespace Go.Proofs.YtghpjibjhaomoaaGreatDoor
open Go.RowKit
set_option linter.unusedVariables false
set_option linter.unusedSimpArgs false

theorem numR_before {f : Nat → Nat} {a b k : Nat} {l : List Nat} (h : a + k ≤ b) : numF (wroteF f b l) a k = numF f a k :=
  numF_congr (fun j hj => by unfold wroteF; rw [if_neg (by omega)])
theorem numR_behind {f : Nat → Nat} {a b k : Nat} {l : List Nat} (h : b + l.length ≤ a) : numF (wroteF f b l) a k = numF f a k :=
  numF_congr (fun j hj => by unfold wroteF; rw [if_neg (by omega)])
theorem wroteR_at (f : Nat → Nat) (a v k j : Nat) (hj : j < k) : wroteF f a (numB v k) (a + j) = v / 256 ^ j % 256 := by
  unfold wroteF
  rw [numB_len, if_pos (by omega), show a + j - a = j by omega]
  unfold numB
  rw [List.getElem?_map, List.getElem?_range hj]
  rfl
theorem numR_four (f : Nat → Nat) (a v : Nat) (hv : v < 4294967296) : numF (wroteF f a (numB v 4)) a 4 = v := by
  have e := wroteR_at f a v 4
  simp only [numF]
  rw [show wroteF f a (numB v 4) (a + 0) = _ from e 0 (by decide), e 1 (by decide), e 2 (by decide), e 3 (by decide)]
  simp only [Nat.pow_zero, Nat.div_one, Nat.pow_one, Nat.reducePow, Nat.mul_one]
  omega
theorem numR_two (f : Nat → Nat) (a v : Nat) (hv : v < 65536) : numF (wroteF f a (numB v 2)) a 2 = v := by
  have e := wroteR_at f a v 2
  simp only [numF]
  rw [show wroteF f a (numB v 2) (a + 0) = _ from e 0 (by decide), e 1 (by decide)]
  simp only [Nat.pow_zero, Nat.div_one, Nat.pow_one, Nat.mul_one]
  omega
theorem i64_and3 (n : Int) : bits .and .i64 n 3 = n % 4 := by
  have h3 : (BitVec.ofInt 64 3).toNat = 2 ^ 2 - 1 := by decide
  have key : (BitVec.ofInt 64 n &&& BitVec.ofInt 64 3).toNat = (n % ((2 ^ 64 : Nat) : Int)).toNat % 2 ^ 2 := by
    rw [BitVec.toNat_and, BitVec.toNat_ofInt, h3, Nat.and_two_pow_sub_one_eq_mod]
  show IntKind.i64.wrap ((BitVec.ofInt 64 n &&& BitVec.ofInt 64 3).toNat : Nat) = n % 4
  rw [key, IntKind.wrap_i64]
  omega
/-- The head that is offered as the j-th. -/
def hdN (g : Nat → Int) (j : Nat) : Nat := (g j % 4).toNat
theorem hdN_lt (g : Nat → Int) (j : Nat) : hdN g j < 4 := by unfold hdN; omega
/-- What memory tells, when o were offered and t of them taken. -/
structure OnM (f : Nat → Nat) (g : Nat → Int) (o t : Nat) : Prop where
  cnt : numF f 258 2 = o
  hds : ∀ j, t ≤ j → j < o → numF f (260 + 2 * (j % 4)) 2 = hdN g j
  le : t ≤ o
  far : o ≤ t + 4
def offF (f : Nat → Nat) (h o : Nat) : Nat → Nat := wroteF (wroteF f (260 + 2 * (o % 4)) (numB h 2)) 258 (numB (o + 1) 2)
theorem OnM.off {f : Nat → Nat} {g : Nat → Int} {o t : Nat} (h : OnM f g o t) (hf : o < t + 4) (ho : o ≤ 60) : OnM (offF f (hdN g o) o) g (o + 1) t := by
  refine ⟨numR_two _ _ _ (by omega), fun j h1 h2 => ?_, by have := h.le; omega, by omega⟩
  unfold offF
  rw [numR_behind (by rw [numB_len]; omega)]
  by_cases e : j = o
  · subst e; exact numR_two _ _ _ (by have := hdN_lt g j; omega)
  · have hne : j % 4 ≠ o % 4 := by omega
    rcases Nat.lt_or_ge (j % 4) (o % 4) with q | q
    · rw [numR_before (by omega)]; exact h.hds j h1 (by omega)
    · rw [numR_behind (by rw [numB_len]; omega)]; exact h.hds j h1 (by omega)
/-- The ring, when t were taken and given back, and between. -/
def rT (t : Nat) : Rg := ⟨4, 2147483648, 2147483904, 2147484160, t, t⟩
def rS (t : Nat) : Rg := ⟨4, 2147483648, 2147483904, 2147484160, t + 1, t⟩
theorem rT_ok {t : Nat} (h : t ≤ 60) : (rT t).Ok := ⟨by show (_ : Int) ≤ 4; decide, by show (4 : Int) ≤ _; decide, by show 2147483648 < _; decide, by show 2147483904 < _; decide, by show 2147484160 < _; decide, by show t < _; omega, by show t < _; omega⟩
theorem rS_ok {t : Nat} (h : t ≤ 60) : (rS t).Ok := ⟨by show (_ : Int) ≤ 4; decide, by show (4 : Int) ≤ _; decide, by show 2147483648 < _; decide, by show 2147483904 < _; decide, by show 2147484160 < _; decide, by show t + 1 < _; omega, by show t < _; omega⟩
theorem rT_chk (t : Nat) : chkR (rT t) = true := by kernel_rfl
theorem rS_chk (t : Nat) : chkR (rS t) = true := by kernel_rfl
theorem rT_taken {t : Nat} (h : t ≤ 60) : takenR (rT t) = rS t := by
  unfold takenR rT rS
  simp only
  rw [Nat.mod_eq_of_lt (by omega)]
theorem rS_given {t : Nat} (h : t ≤ 60) : givenR (rS t) = rT (t + 1) := by
  unfold givenR rT rS
  simp only
  rw [Nat.mod_eq_of_lt (by omega)]
theorem rT_avC (t : Nat) : plM (avC (rT t)) = 258 ∧ plB 2 (avC (rT t)) 2 = true := by
  have e : avC (rT t) = avC sR := rfl
  rw [e]
  constructor <;> kernel_rfl
theorem rT_slot (t : Nat) : slotN (rT t) t = t % 4 := rfl
theorem rS_slot (t : Nat) : slotN (rS t) t = t % 4 := rfl
theorem rT_avH (t : Nat) : plM (avH (rT t)) = 260 + 2 * (t % 4) ∧ plB 2 (avH (rT t)) 2 = true := by
  have e : avH (rT t) = 2147483908 + 2 * (t % 4) := by
    show (2147483904 + 4 + 2 * (t % 4)) % 4294967296 = _
    omega
  have e2 : plM (avH (rT t)) = 260 + 2 * (t % 4) := by rw [e]; unfold plM; rw [if_pos (by omega)]; omega
  exact ⟨e2, by unfold plB; rw [e2]; exact decide_eq_true (by omega)⟩
theorem rS_us (t : Nat) : plM (usH (rS t)) = 516 + 8 * (t % 4) ∧ plB 2 (usH (rS t)) 8 = true ∧ plM (usN (rS t)) = 520 + 8 * (t % 4) ∧ plM (usC (rS t)) = 514 ∧ plB 2 (usC (rS t)) 2 = true := by
  have e : usH (rS t) = 2147484164 + 8 * (t % 4) := by
    show (2147484160 + 4 + 8 * (t % 4)) % 4294967296 = _
    omega
  have e2 : plM (usH (rS t)) = 516 + 8 * (t % 4) := by rw [e]; unfold plM; rw [if_pos (by omega)]; omega
  have e3 : plB 2 (usH (rS t)) 8 = true := by unfold plB; rw [e2]; exact decide_eq_true (by omega)
  have e4 : usC (rS t) = usC sR := rfl
  exact ⟨e2, e3, by rw [(usN_in (by decide) e3).1, e2]; omega, by rw [e4]; kernel_rfl, by rw [e4]; kernel_rfl⟩
def gvF (f : Nat → Nat) (h t : Nat) : Nat → Nat := wroteF (wroteF (wroteF f (516 + 8 * (t % 4)) (numB h 4)) (520 + 8 * (t % 4)) (numB (t + 1) 4)) 514 (numB (t + 1) 2)
theorem rS_give {t : Nat} (h : t ≤ 60) (f : Nat → Nat) (hd : Nat) : giveF (rS t) f hd (t + 1) = gvF f hd t := by
  obtain ⟨e1, _, e3, e4, _⟩ := rS_us t
  unfold giveF gvF
  rw [e1, e3, e4, show ((rS t).pu + 1) % 65536 = t + 1 from Nat.mod_eq_of_lt (by show t + 1 < _; omega)]
theorem OnM.take {f : Nat → Nat} {g : Nat → Int} {o t : Nat} (h : OnM f g o t) (hf : t < o) (hd : Nat) : OnM (gvF f hd t) g o (t + 1) := by
  have far : ∀ a k, a + k ≤ 514 → numF (gvF f hd t) a k = numF f a k := fun a k q => by
    unfold gvF
    rw [numR_before q, numR_before (by omega), numR_before (by omega)]
  exact ⟨(far _ _ (by decide)).trans h.cnt, fun j h1 h2 => (far _ _ (by omega)).trans (h.hds j (by omega) h2), hf, by have := h.far; omega⟩
theorem gv_head {f : Nat → Nat} {hd t : Nat} (h : hd < 4) : numF (gvF f hd t) (516 + 8 * (t % 4)) 4 = hd := by
  unfold gvF
  rw [numR_behind (by rw [numB_len]; omega), numR_before (by omega)]
  exact numR_four _ _ _ (by omega)
theorem gv_num {f : Nat → Nat} {hd t : Nat} (h : t ≤ 60) : numF (gvF f hd t) (520 + 8 * (t % 4)) 4 = t + 1 := by
  unfold gvF
  rw [numR_behind (by rw [numB_len]; omega)]
  exact numR_four _ _ _ (by omega)
theorem gv_cnt {f : Nat → Nat} {hd t : Nat} (h : t ≤ 60) : numF (gvF f hd t) 514 2 = t + 1 := numR_two _ _ _ (by omega)
theorem on_none (g : Nat → Int) : OnM (fun _ => 0) g 0 0 := ⟨rfl, fun j _ h => absurd h (by omega), Nat.le_refl _, by decide⟩
structure RIntsAt (w : World) (B : Nat) (la : Option Addr) (len : Nat) (g : Nat → Int) : Prop where
  lies : ∀ j, j < len → ∃ b o, la = some ⟨b, o, none⟩ ∧ b < B ∧ w.cell? ⟨b, o + j, none⟩ = some (.int .i64 (g j))
structure RBoolsAt (w : World) (B : Nat) (la : Option Addr) (len : Nat) (g : Nat → Bool) : Prop where
  lies : ∀ j, j < len → ∃ b o, la = some ⟨b, o, none⟩ ∧ b < B ∧ w.cell? ⟨b, o + j, none⟩ = some (.bool (g j))
end Go.Proofs.YtghpjibjhaomoaaGreatDoor
namespace Go.Proofs.YtghpjibjhaomoaaGreatDoor
open Go.ChangeShapes Go.WideShapes Go.ChangeAt Go.RowKit
set_option linter.unusedVariables false

theorem cells_ri : Tryz.prog.cellsOf 3 = 1 := by kernel_rfl
theorem cells_rb : Tryz.prog.cellsOf 4 = 1 := by kernel_rfl
theorem open_rints {H' : Type} {enc : TypeId × Value → H'} {W : World} {held : Bool} {base : Nat} {a : Option Addr} {len cap : Nat} {d : DataW H'} {p : List MemPlace}
    (h : DataW.Trod enc Tryz.prog W base (fun _ => true) held 67 (.slice a len cap) d p) : ∃ g : Nat → Int, len ≤ cap ∧ cap ≤ 9223372036854775807 ∧ RIntsAt W W.heap.size a len g := by
  obtain ⟨fuel, hf⟩ := h
  rcases open_ints Tryz.underlying67 Tryz.underlying3 cells_ri hf with ⟨hcs, _⟩ | ⟨x, l, c, zs, hcs, _, hl, hm, hz, hx, hcell, hwz⟩
  · simp [Value.cells] at hcs
    obtain ⟨rfl, rfl, rfl⟩ := hcs
    exact ⟨fun _ => 0, by decide, by decide, ⟨fun j hj => absurd hj (by omega)⟩⟩
  · simp [Value.cells] at hcs
    obtain ⟨rfl, rfl, rfl⟩ := hcs
    simp only [if_true] at hz
    have hcap : cap ≤ 9223372036854775807 := hm
    refine ⟨fun j => zs.getD j 0, hl, hcap, ⟨fun j hj => ?_⟩⟩
    obtain ⟨b, off, spot⟩ := x
    have hc := hcell 0 (by omega)
    have hspot : spot = none := by simpa [Addr.add] using World.cell?_spot hc
    subst hspot
    have hj' : j < zs.length := by omega
    have h1 := hcell j hj'
    rw [Addr.add_mid] at h1
    exact ⟨b, off, rfl, lt_of_cell h1, h1⟩
theorem open_rbools {H' : Type} {enc : TypeId × Value → H'} {W : World} {held : Bool} {base : Nat} {a : Option Addr} {len cap : Nat} {d : DataW H'} {p : List MemPlace}
    (h : DataW.Trod enc Tryz.prog W base (fun _ => true) held 29 (.slice a len cap) d p) : ∃ g : Nat → Bool, len ≤ cap ∧ cap ≤ 9223372036854775807 ∧ RBoolsAt W W.heap.size a len g := by
  obtain ⟨fuel, hf⟩ := h
  rcases Go.Deep.open_bools Tryz.underlying29 Tryz.underlying4 cells_rb hf with ⟨hcs, _⟩ | ⟨x, l, c, B, hcs, _, hl, hm, hx, hcell⟩
  · simp [Value.cells] at hcs
    obtain ⟨rfl, rfl, rfl⟩ := hcs
    exact ⟨fun _ => false, by decide, by decide, ⟨fun j hj => absurd hj (by omega)⟩⟩
  · simp [Value.cells] at hcs
    obtain ⟨rfl, rfl, rfl⟩ := hcs
    have hcap : cap ≤ 9223372036854775807 := hm
    refine ⟨B, hl, hcap, ⟨fun j hj => ?_⟩⟩
    obtain ⟨b, off, spot⟩ := x
    have hc := hcell 0 (by omega)
    have hspot : spot = none := by simpa [Addr.add] using World.cell?_spot hc
    subst hspot
    have h1 := hcell j (by omega)
    rw [Addr.add_mid] at h1
    exact ⟨b, off, rfl, lt_of_cell h1, h1⟩
end Go.Proofs.YtghpjibjhaomoaaGreatDoor
