/-
  How a device is set up, plain.
-/
import Derived.Test.YtahgacdkofmbmaaDoorRgMath
namespace Go.Proofs.YtahgacdkofmbmaaDoor
open Go.RowKit
set_option linter.unusedVariables false

structure Qu where
  rd : Bool
  r : Rg
structure V where
  st : Nat
  fs : Nat
  ds : Nat
  se : Nat
  ir : Nat
  d0 : Nat
  d1 : Nat
  q0 : Qu
  q1 : Qu
structure V.Ok (s : V) : Prop where
  st : s.st < 4294967296
  fs : s.fs < 4294967296
  ds : s.ds < 4294967296
  se : s.se < 4294967296
  ir : s.ir < 4294967296
  d0 : s.d0 < 4294967296
  d1 : s.d1 < 4294967296
  q0 : s.q0.r.Ok
  q1 : s.q1.r.Ok
def zeroQu : Qu := ⟨false, zeroRg⟩
def zeroV : V := ⟨0, 0, 0, 0, 0, 0, 0, zeroQu, zeroQu⟩
def Rg.szw (r : Rg) (n : Int) : Rg := ⟨n, r.de, r.av, r.us, r.la, r.pu⟩
def Rg.dew (r : Rg) (n : Nat) : Rg := ⟨r.sz, n, r.av, r.us, r.la, r.pu⟩
def Rg.avw (r : Rg) (n : Nat) : Rg := ⟨r.sz, r.de, n, r.us, r.la, r.pu⟩
def Rg.usw (r : Rg) (n : Nat) : Rg := ⟨r.sz, r.de, r.av, n, r.la, r.pu⟩
def Rg.law (r : Rg) (n : Nat) : Rg := ⟨r.sz, r.de, r.av, r.us, n, r.pu⟩
def Rg.puw (r : Rg) (n : Nat) : Rg := ⟨r.sz, r.de, r.av, r.us, r.la, n⟩
def Qu.rdw (q : Qu) (b : Bool) : Qu := ⟨b, q.r⟩
def Qu.rw' (q : Qu) (r : Rg) : Qu := ⟨q.rd, r⟩
def V.stw (s : V) (n : Nat) : V := ⟨n, s.fs, s.ds, s.se, s.ir, s.d0, s.d1, s.q0, s.q1⟩
def V.fsw (s : V) (n : Nat) : V := ⟨s.st, n, s.ds, s.se, s.ir, s.d0, s.d1, s.q0, s.q1⟩
def V.dsw (s : V) (n : Nat) : V := ⟨s.st, s.fs, n, s.se, s.ir, s.d0, s.d1, s.q0, s.q1⟩
def V.sew (s : V) (n : Nat) : V := ⟨s.st, s.fs, s.ds, n, s.ir, s.d0, s.d1, s.q0, s.q1⟩
def V.irw (s : V) (n : Nat) : V := ⟨s.st, s.fs, s.ds, s.se, n, s.d0, s.d1, s.q0, s.q1⟩
def V.d0w (s : V) (n : Nat) : V := ⟨s.st, s.fs, s.ds, s.se, s.ir, n, s.d1, s.q0, s.q1⟩
def V.d1w (s : V) (n : Nat) : V := ⟨s.st, s.fs, s.ds, s.se, s.ir, s.d0, n, s.q0, s.q1⟩
def V.q0w (s : V) (q : Qu) : V := ⟨s.st, s.fs, s.ds, s.se, s.ir, s.d0, s.d1, q, s.q1⟩
def V.q1w (s : V) (q : Qu) : V := ⟨s.st, s.fs, s.ds, s.se, s.ir, s.d0, s.d1, s.q0, q⟩
/-- The queue at a number, of which there are two. -/
def V.q (s : V) (i : Nat) : Qu := if i = 0 then s.q0 else s.q1
def V.qw (s : V) (i : Nat) (q : Qu) : V := if i = 0 then s.q0w q else s.q1w q
def mayQ (q : Qu) : Bool := if q.rd = true then chkR q.r else (decide (0 ≤ q.r.sz) && decide (q.r.sz ≤ 256))
def setl (s : V) : Bool := decide (s.d0 = 0) && decide (s.d1 = 1)
def okSt (n : Nat) : Bool := decide (n &&& 4294967088 = 0)
def mayV (s : V) : Bool := okSt s.st && (decide (s.ir ≤ 3) && ((!s.st.testBit 3 || setl s) && (mayQ s.q0 && mayQ s.q1)))
def liveV (s : V) : Bool := s.st.testBit 2 && (s.st.testBit 3 && !s.st.testBit 6)
def failV (s : V) : V := (s.stw (s.st ||| 64)).irw (s.ir ||| 2)
def usedV (s : V) : V := s.irw (s.ir ||| 1)
/-- Read, of a state that may be. -/
def readS (s : V) (id a : Nat) : Nat :=
  if a = 0 then 1953655158 else if a = 4 then 2 else if a = 8 then id else if a = 12 then 1347305795 else if a = 16 then (if s.fs = 1 then 1 else 0)
  else if a = 96 then s.ir else if a = 112 then s.st
  else if s.se < 2 then (if a = 52 then 256 else if a = 68 then (if (s.q s.se).rd = true then 1 else 0) else 0) else 0
def accN (a : Nat) : Bool := decide (a < 256) && decide (a % 4 = 0)
def accV (s : V) (a : Nat) : Nat := if mayV s = true then (if accN a = true then 0 else 20) else 1
def readV (s : V) (id a : Nat) : Nat × Nat := if accV s a = 0 then (readS s id a, 0) else (0, accV s a)
def askV (s : V) (v : Nat) : V := if s.st.testBit 3 = true then s else if s.ds = 0 then s.d0w v else if s.ds = 1 then s.d1w v else s
def notV (s : V) (v : Nat) : Int := if (decide (v < 2) && ((s.q v).rd && liveV s)) = true then (v : Int) else -1
def statB (s : V) (v : Nat) : Nat := if setl s = true then v &&& 143 else (v &&& 143) &&& 4294967287
def statM (s : V) (v : Nat) : Nat := if (s.st ||| statB s v).testBit 3 = true then statB s v else statB s v &&& 4294967291
def statV (s : V) (v : Nat) : V := if v = 0 then zeroV else s.stw (s.st ||| statM s v)
/-- 0x44 of the queue at Sel, which is below 2. -/
def rdyV (s : V) (v : Nat) : V :=
  if v = 1 then (if chkR (s.q s.se).r = true then s.qw s.se ⟨true, ((s.q s.se).r.law 0).puw 0⟩ else failV s)
  else if v = 0 then s.qw s.se ((s.q s.se).rdw false) else s
/-- The queue's registers, of a queue that is not ready. -/
def regV (s : V) (a v : Nat) : V :=
  if a = 56 then (if v ≤ 256 then s.qw s.se ((s.q s.se).rw' ((s.q s.se).r.szw (v : Int))) else s)
  else if a = 128 then s.qw s.se ((s.q s.se).rw' ((s.q s.se).r.dew v))
  else if a = 144 then s.qw s.se ((s.q s.se).rw' ((s.q s.se).r.avw v))
  else if a = 160 then s.qw s.se ((s.q s.se).rw' ((s.q s.se).r.usw v))
  else if a = 132 ∨ a = 148 ∨ a = 164 then (if v = 0 then s else failV s)
  else s
def wqV (s : V) (a v : Nat) : V := if a = 68 then rdyV s v else if (s.q s.se).rd = true then s else regV s a v
/-- Write, of a state that may be, where there is a register. -/
def writeS (s : V) (a v : Nat) : V × Int :=
  if a = 20 then (s.fsw v, -1) else if a = 36 then (s.dsw v, -1) else if a = 32 then (askV s v, -1) else if a = 48 then (s.sew v, -1)
  else if a = 80 then (s, notV s v) else if a = 100 then (s.irw (s.ir &&& (4294967295 - v)), -1) else if a = 112 then (statV s v, -1)
  else if s.se < 2 then (wqV s a v, -1) else (s, -1)
def writeV (s : V) (a v : Nat) : V × Int × Nat := if accV s a = 0 then ((writeS s a v).1, (writeS s a v).2, 0) else (zeroV, -1, accV s a)

/-- Numbers by their lowest eight bits. -/
theorem and_low (x m : Nat) (hm : m < 256) : x &&& m = (x % 256) &&& m := by
  apply Nat.eq_of_testBit_eq
  intro i
  rw [Nat.testBit_and, Nat.testBit_and, show (256 : Nat) = 2 ^ 8 from rfl, Nat.testBit_mod_two_pow]
  by_cases h : i < 8
  · simp [h]
  · rw [Nat.testBit_lt_two_pow (Nat.lt_of_lt_of_le hm (show 256 ≤ 2 ^ i from Nat.pow_le_pow_right (n := 2) (i := 8) (by decide) (by omega)))]; simp
theorem tb_low (x i : Nat) (hi : i < 8) : x.testBit i = (x % 256).testBit i := by
  rw [show (256 : Nat) = 2 ^ 8 from rfl, Nat.testBit_mod_two_pow]; simp [hi]
theorem live_low : ∀ n, n < 256 → ((n &&& 76) == 12) = (n.testBit 2 && (n.testBit 3 && !n.testBit 6)) := by decide +kernel
theorem bit8_low : ∀ n, n < 256 → ((n &&& 8) != 0) = n.testBit 3 := by decide +kernel
theorem live_and (n : Nat) : ((n &&& 76) == 12) = (n.testBit 2 && (n.testBit 3 && !n.testBit 6)) := by
  rw [and_low n 76 (by decide), tb_low n 2 (by decide), tb_low n 3 (by decide), tb_low n 6 (by decide)]
  exact live_low _ (Nat.mod_lt _ (by decide))
theorem bit8_and (n : Nat) : ((n &&& 8) != 0) = n.testBit 3 := by
  rw [and_low n 8 (by decide), tb_low n 3 (by decide)]
  exact bit8_low _ (Nat.mod_lt _ (by decide))
theorem tb_m (i : Nat) : (4294967088 : Nat).testBit i = (decide (i < 32) && decide (i ≠ 0 ∧ i ≠ 1 ∧ i ≠ 2 ∧ i ≠ 3 ∧ i ≠ 6 ∧ i ≠ 7)) := by
  by_cases h : i < 32
  · revert i; decide
  · rw [Nat.testBit_lt_two_pow (Nat.lt_of_lt_of_le (by decide : 4294967088 < 2 ^ 32) (Nat.pow_le_pow_right (by decide) (by omega)))]; simp [h]
theorem okSt_iff (n : Nat) : okSt n = true ↔ ∀ i, i < 32 → n.testBit i = true → i = 0 ∨ i = 1 ∨ i = 2 ∨ i = 3 ∨ i = 6 ∨ i = 7 := by
  unfold okSt
  rw [decide_eq_true_eq]
  constructor
  · intro h i hi hb
    have e := congrArg (fun x => x.testBit i) h
    simp only [Nat.testBit_and, hb, tb_m, Nat.zero_testBit, decide_eq_true hi, Bool.true_and, decide_eq_false_iff_not] at e
    omega
  · intro h
    apply Nat.eq_of_testBit_eq
    intro i
    rw [Nat.testBit_and, tb_m, Nat.zero_testBit]
    by_cases hi : i < 32
    · cases hb : n.testBit i with
      | false => simp
      | true => have := h i hi hb; simp [hi]; omega
    · simp [hi]
theorem ir_low : ∀ n, n < 4 → n &&& 4294967292 = 0 := by decide +kernel
theorem tb_irm (i : Nat) : (4294967292 : Nat).testBit i = (decide (i < 32) && decide (2 ≤ i)) := by
  by_cases h : i < 32
  · revert i; decide
  · rw [Nat.testBit_lt_two_pow (Nat.lt_of_lt_of_le (by decide : 4294967292 < 2 ^ 32) (Nat.pow_le_pow_right (by decide) (by omega)))]; simp [h]
theorem ir_iff (n : Nat) (hn : n < 4294967296) : n &&& 4294967292 = 0 ↔ n ≤ 3 := by
  constructor
  · intro h
    have : n < 2 ^ 2 := by
      apply Nat.lt_pow_two_of_testBit
      intro i hi
      by_cases h32 : i < 32
      · have e := congrArg (fun x => x.testBit i) h
        simpa [Nat.testBit_and, tb_irm, h32, hi] using e
      · exact Nat.testBit_lt_two_pow (Nat.lt_of_lt_of_le hn (Nat.pow_le_pow_right (n := 2) (i := 32) (by decide) (by omega)))
    omega
  · intro h; exact ir_low n (by omega)
theorem ir_and (n : Nat) (hn : n < 4294967296) : ((n &&& 4294967292) != 0) = !decide (n ≤ 3) := by
  by_cases h : n ≤ 3
  · rw [(ir_iff n hn).2 h]; simp [h]
  · have : n &&& 4294967292 ≠ 0 := fun e => h ((ir_iff n hn).1 e)
    simp [h, this]
theorem st_and (n : Nat) : ((n &&& 4294967088) != 0) = !okSt n := by
  unfold okSt
  by_cases h : n &&& 4294967088 = 0 <;> simp [h]
theorem or_lt32 {a b : Nat} (ha : a < 4294967296) (hb : b < 4294967296) : a ||| b < 4294967296 := Nat.or_lt_two_pow (n := 32) ha hb
theorem and_lt32 {a : Nat} (b : Nat) (ha : a < 4294967296) : a &&& b < 4294967296 := Nat.lt_of_le_of_lt Nat.and_le_left ha
theorem zeroRg_ok : zeroRg.Ok := ⟨by decide, by decide, by decide, by decide, by decide, by decide, by decide⟩
theorem zeroV_ok : zeroV.Ok := ⟨by decide, by decide, by decide, by decide, by decide, by decide, by decide, zeroRg_ok, zeroRg_ok⟩
theorem V.Ok.q {s : V} (ok : s.Ok) (i : Nat) : (s.q i).r.Ok := by
  unfold V.q; split
  · exact ok.q0
  · exact ok.q1
theorem V.Ok.qw {s : V} (ok : s.Ok) (i : Nat) {q : Qu} (hq : q.r.Ok) : (s.qw i q).Ok := by
  unfold V.qw; split
  · exact ⟨ok.st, ok.fs, ok.ds, ok.se, ok.ir, ok.d0, ok.d1, hq, ok.q1⟩
  · exact ⟨ok.st, ok.fs, ok.ds, ok.se, ok.ir, ok.d0, ok.d1, ok.q0, hq⟩
theorem failV_ok {s : V} (ok : s.Ok) : (failV s).Ok := ⟨or_lt32 ok.st (by decide), ok.fs, ok.ds, ok.se, or_lt32 ok.ir (by decide), ok.d0, ok.d1, ok.q0, ok.q1⟩
theorem statB_lt {s : V} {v : Nat} (hv : v < 4294967296) : statB s v < 4294967296 := by
  unfold statB; split
  · exact and_lt32 _ hv
  · exact and_lt32 _ (and_lt32 _ hv)
theorem statM_lt {s : V} {v : Nat} (hv : v < 4294967296) : statM s v < 4294967296 := by
  unfold statM; split
  · exact statB_lt hv
  · exact and_lt32 _ (statB_lt hv)
theorem statV_ok {s : V} (ok : s.Ok) {v : Nat} (hv : v < 4294967296) : (statV s v).Ok := by
  unfold statV; split
  · exact zeroV_ok
  · exact ⟨or_lt32 ok.st (statM_lt hv), ok.fs, ok.ds, ok.se, ok.ir, ok.d0, ok.d1, ok.q0, ok.q1⟩
theorem askV_ok {s : V} (ok : s.Ok) {v : Nat} (hv : v < 4294967296) : (askV s v).Ok := by
  unfold askV; split
  · exact ok
  · split
    · exact ⟨ok.st, ok.fs, ok.ds, ok.se, ok.ir, hv, ok.d1, ok.q0, ok.q1⟩
    · split
      · exact ⟨ok.st, ok.fs, ok.ds, ok.se, ok.ir, ok.d0, hv, ok.q0, ok.q1⟩
      · exact ok
theorem rdyV_ok {s : V} (ok : s.Ok) (v : Nat) : (rdyV s v).Ok := by
  have h := ok.q s.se
  unfold rdyV; split
  · split
    · exact ok.qw _ ⟨h.sz0, h.sz1, h.de, h.av, h.us, show 0 < 65536 by decide, show 0 < 65536 by decide⟩
    · exact failV_ok ok
  · split
    · exact ok.qw _ h
    · exact ok
theorem regV_ok {s : V} (ok : s.Ok) (a : Nat) {v : Nat} (hv : v < 4294967296) : (regV s a v).Ok := by
  have h := ok.q s.se
  unfold regV; split
  · split
    · exact ok.qw _ ⟨by show -9223372036854775808 ≤ (v : Int); omega, by show (v : Int) ≤ 9223372036854775807; omega, h.de, h.av, h.us, h.la, h.pu⟩
    · exact ok
  · split
    · exact ok.qw _ ⟨h.sz0, h.sz1, hv, h.av, h.us, h.la, h.pu⟩
    · split
      · exact ok.qw _ ⟨h.sz0, h.sz1, h.de, hv, h.us, h.la, h.pu⟩
      · split
        · exact ok.qw _ ⟨h.sz0, h.sz1, h.de, h.av, hv, h.la, h.pu⟩
        · split
          · split
            · exact ok
            · exact failV_ok ok
          · exact ok
theorem writeS_ok {s : V} (ok : s.Ok) (a : Nat) {v : Nat} (hv : v < 4294967296) : (writeS s a v).1.Ok := by
  unfold writeS
  by_cases h0 : a = 20
  · rw [if_pos h0]; exact ⟨ok.st, hv, ok.ds, ok.se, ok.ir, ok.d0, ok.d1, ok.q0, ok.q1⟩
  rw [if_neg h0]
  by_cases h1 : a = 36
  · rw [if_pos h1]; exact ⟨ok.st, ok.fs, hv, ok.se, ok.ir, ok.d0, ok.d1, ok.q0, ok.q1⟩
  rw [if_neg h1]
  by_cases h2 : a = 32
  · rw [if_pos h2]; exact askV_ok ok hv
  rw [if_neg h2]
  by_cases h3 : a = 48
  · rw [if_pos h3]; exact ⟨ok.st, ok.fs, ok.ds, hv, ok.ir, ok.d0, ok.d1, ok.q0, ok.q1⟩
  rw [if_neg h3]
  by_cases h4 : a = 80
  · rw [if_pos h4]; exact ok
  rw [if_neg h4]
  by_cases h5 : a = 100
  · rw [if_pos h5]; exact ⟨ok.st, ok.fs, ok.ds, ok.se, and_lt32 _ ok.ir, ok.d0, ok.d1, ok.q0, ok.q1⟩
  rw [if_neg h5]
  by_cases h6 : a = 112
  · rw [if_pos h6]; exact statV_ok ok hv
  rw [if_neg h6]
  by_cases h7 : s.se < 2
  · rw [if_pos h7]
    show (wqV s a v).Ok
    unfold wqV; split
    · exact rdyV_ok ok v
    · split
      · exact ok
      · exact regV_ok ok a hv
  · rw [if_neg h7]; exact ok
theorem writeV_ok {s : V} (ok : s.Ok) (a : Nat) {v : Nat} (hv : v < 4294967296) : (writeV s a v).1.Ok := by
  unfold writeV; split
  · exact writeS_ok ok a hv
  · exact zeroV_ok
end Go.Proofs.YtahgacdkofmbmaaDoor
