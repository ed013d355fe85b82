/-
  What stays, whatever is written: plain.
-/
import Derived.Test.YtbggkoahofnnjaaDoorRows
import Derived.Test.YtbggkoahofnnjaaDoorJK0
import Derived.WalkKit
import Derived.WalkLawsBesides
import Derived.WalkSpells
import Derived.Laws.Rows
import Derived.Below
import Derived.WalkSmall
import Derived.Laws.ResultCell
namespace Go.Proofs.YtbggkoahofnnjaaDoor
open Go.RowKit

theorem hide {p : Prop} (h : p) : Hid p := h
end Go.Proofs.YtbggkoahofnnjaaDoor
namespace Go.Proofs.YtbggkoahofnnjaaDoor
open Go.RowKit
set_option linter.unusedVariables false
set_option linter.unusedSimpArgs false

structure Rg where
  sz : Int
  de : Nat
  av : Nat
  us : Nat
  la : Nat
  pu : Nat
structure Rg.Ok (r : Rg) : Prop where
  sz0 : -9223372036854775808 ≤ r.sz
  sz1 : r.sz ≤ 9223372036854775807
  de : r.de < 4294967296
  av : r.av < 4294967296
  us : r.us < 4294967296
  la : r.la < 65536
  pu : r.pu < 65536
def zeroRg : Rg := ⟨0, 0, 0, 0, 0, 0⟩
def okSz (s : Int) : Bool := (s == 1) || (s == 2) || (s == 4) || (s == 8) || (s == 16) || (s == 32) || (s == 64) || (s == 128) || (s == 256)
def alR (r : Rg) : Bool := decide (r.de % 16 = 0) && (decide (r.av % 2 = 0) && decide (r.us % 4 = 0))
def chkR (r : Rg) : Bool := okSz r.sz && alR r
theorem okSz_cases {s : Int} (h : okSz s = true) : s = 1 ∨ s = 2 ∨ s = 4 ∨ s = 8 ∨ s = 16 ∨ s = 32 ∨ s = 64 ∨ s = 128 ∨ s = 256 := by
  simp only [okSz, Bool.or_eq_true, beq_iff_eq] at h
  omega
theorem chkR_sz {r : Rg} (h : chkR r = true) : ∃ n : Nat, r.sz = (n : Int) ∧ 1 ≤ n ∧ n ≤ 256 := by
  simp only [chkR, Bool.and_eq_true] at h
  have := okSz_cases h.1
  exact ⟨r.sz.toNat, by omega, by omega, by omega⟩
theorem chkR_al {r : Rg} (h : chkR r = true) : r.de % 16 = 0 ∧ r.av % 2 = 0 ∧ r.us % 4 = 0 := by
  simp only [chkR, alR, Bool.and_eq_true, decide_eq_true_eq] at h
  exact h.2
end Go.Proofs.YtbggkoahofnnjaaDoor
namespace Go.Proofs.YtbggkoahofnnjaaDoor
open Go.RowKit
set_option linter.unusedVariables false

structure Qu where
  rd : Bool
  r : Rg
structure V where
  st : Nat
  fs : Nat
  ds : Nat
  se : Nat
  ir : Nat
  d0 : Nat
  d1 : Nat
  q0 : Qu
  q1 : Qu
structure V.Ok (s : V) : Prop where
  st : s.st < 4294967296
  fs : s.fs < 4294967296
  ds : s.ds < 4294967296
  se : s.se < 4294967296
  ir : s.ir < 4294967296
  d0 : s.d0 < 4294967296
  d1 : s.d1 < 4294967296
  q0 : s.q0.r.Ok
  q1 : s.q1.r.Ok
def zeroQu : Qu := ⟨false, zeroRg⟩
def zeroV : V := ⟨0, 0, 0, 0, 0, 0, 0, zeroQu, zeroQu⟩
def Rg.szw (r : Rg) (n : Int) : Rg := ⟨n, r.de, r.av, r.us, r.la, r.pu⟩
def Rg.dew (r : Rg) (n : Nat) : Rg := ⟨r.sz, n, r.av, r.us, r.la, r.pu⟩
def Rg.avw (r : Rg) (n : Nat) : Rg := ⟨r.sz, r.de, n, r.us, r.la, r.pu⟩
def Rg.usw (r : Rg) (n : Nat) : Rg := ⟨r.sz, r.de, r.av, n, r.la, r.pu⟩
def Rg.law (r : Rg) (n : Nat) : Rg := ⟨r.sz, r.de, r.av, r.us, n, r.pu⟩
def Rg.puw (r : Rg) (n : Nat) : Rg := ⟨r.sz, r.de, r.av, r.us, r.la, n⟩
def Qu.rdw (q : Qu) (b : Bool) : Qu := ⟨b, q.r⟩
def Qu.rw' (q : Qu) (r : Rg) : Qu := ⟨q.rd, r⟩
def V.stw (s : V) (n : Nat) : V := ⟨n, s.fs, s.ds, s.se, s.ir, s.d0, s.d1, s.q0, s.q1⟩
def V.fsw (s : V) (n : Nat) : V := ⟨s.st, n, s.ds, s.se, s.ir, s.d0, s.d1, s.q0, s.q1⟩
def V.dsw (s : V) (n : Nat) : V := ⟨s.st, s.fs, n, s.se, s.ir, s.d0, s.d1, s.q0, s.q1⟩
def V.sew (s : V) (n : Nat) : V := ⟨s.st, s.fs, s.ds, n, s.ir, s.d0, s.d1, s.q0, s.q1⟩
def V.irw (s : V) (n : Nat) : V := ⟨s.st, s.fs, s.ds, s.se, n, s.d0, s.d1, s.q0, s.q1⟩
def V.d0w (s : V) (n : Nat) : V := ⟨s.st, s.fs, s.ds, s.se, s.ir, n, s.d1, s.q0, s.q1⟩
def V.d1w (s : V) (n : Nat) : V := ⟨s.st, s.fs, s.ds, s.se, s.ir, s.d0, n, s.q0, s.q1⟩
def V.q0w (s : V) (q : Qu) : V := ⟨s.st, s.fs, s.ds, s.se, s.ir, s.d0, s.d1, q, s.q1⟩
def V.q1w (s : V) (q : Qu) : V := ⟨s.st, s.fs, s.ds, s.se, s.ir, s.d0, s.d1, s.q0, q⟩
/-- The queue at a number, of which there are two. -/
def V.q (s : V) (i : Nat) : Qu := if i = 0 then s.q0 else s.q1
def V.qw (s : V) (i : Nat) (q : Qu) : V := if i = 0 then s.q0w q else s.q1w q
def mayQ (q : Qu) : Bool := if q.rd = true then chkR q.r else (decide (0 ≤ q.r.sz) && decide (q.r.sz ≤ 256))
def setl (s : V) : Bool := decide (s.d0 = 0) && decide (s.d1 = 1)
def okSt (n : Nat) : Bool := decide (n &&& 4294967088 = 0)
def mayV (s : V) : Bool := okSt s.st && (decide (s.ir ≤ 3) && ((!s.st.testBit 3 || setl s) && (mayQ s.q0 && mayQ s.q1)))
def liveV (s : V) : Bool := s.st.testBit 2 && (s.st.testBit 3 && !s.st.testBit 6)
def failV (s : V) : V := (s.stw (s.st ||| 64)).irw (s.ir ||| 2)
def usedV (s : V) : V := s.irw (s.ir ||| 1)
/-- Read, of a state that may be. -/
def readS (s : V) (id a : Nat) : Nat :=
  if a = 0 then 1953655158 else if a = 4 then 2 else if a = 8 then id else if a = 12 then 1347305795 else if a = 16 then (if s.fs = 1 then 1 else 0)
  else if a = 96 then s.ir else if a = 112 then s.st
  else if s.se < 2 then (if a = 52 then 256 else if a = 68 then (if (s.q s.se).rd = true then 1 else 0) else 0) else 0
def vaccN (a : Nat) : Bool := decide (a < 256) && decide (a % 4 = 0)
def accV (s : V) (a : Nat) : Nat := if mayV s = true then (if vaccN a = true then 0 else 20) else 1
def vreadV (s : V) (id a : Nat) : Nat × Nat := if accV s a = 0 then (readS s id a, 0) else (0, accV s a)
def askV (s : V) (v : Nat) : V := if s.st.testBit 3 = true then s else if s.ds = 0 then s.d0w v else if s.ds = 1 then s.d1w v else s
def notV (s : V) (v : Nat) : Int := if (decide (v < 2) && ((s.q v).rd && liveV s)) = true then (v : Int) else -1
def statB (s : V) (v : Nat) : Nat := if setl s = true then v &&& 143 else (v &&& 143) &&& 4294967287
def statM (s : V) (v : Nat) : Nat := if (s.st ||| statB s v).testBit 3 = true then statB s v else statB s v &&& 4294967291
def statV (s : V) (v : Nat) : V := if v = 0 then zeroV else s.stw (s.st ||| statM s v)
/-- 0x44 of the queue at Sel, which is below 2. -/
def rdyV (s : V) (v : Nat) : V :=
  if v = 1 then (if chkR (s.q s.se).r = true then s.qw s.se ⟨true, ((s.q s.se).r.law 0).puw 0⟩ else failV s)
  else if v = 0 then s.qw s.se ((s.q s.se).rdw false) else s
/-- The queue's registers, of a queue that is not ready. -/
def regV (s : V) (a v : Nat) : V :=
  if a = 56 then (if v ≤ 256 then s.qw s.se ((s.q s.se).rw' ((s.q s.se).r.szw (v : Int))) else s)
  else if a = 128 then s.qw s.se ((s.q s.se).rw' ((s.q s.se).r.dew v))
  else if a = 144 then s.qw s.se ((s.q s.se).rw' ((s.q s.se).r.avw v))
  else if a = 160 then s.qw s.se ((s.q s.se).rw' ((s.q s.se).r.usw v))
  else if a = 132 ∨ a = 148 ∨ a = 164 then (if v = 0 then s else failV s)
  else s
def wqV (s : V) (a v : Nat) : V := if a = 68 then rdyV s v else if (s.q s.se).rd = true then s else regV s a v
/-- Write, of a state that may be, where there is a register. -/
def writeS (s : V) (a v : Nat) : V × Int :=
  if a = 20 then (s.fsw v, -1) else if a = 36 then (s.dsw v, -1) else if a = 32 then (askV s v, -1) else if a = 48 then (s.sew v, -1)
  else if a = 80 then (s, notV s v) else if a = 100 then (s.irw (s.ir &&& (4294967295 - v)), -1) else if a = 112 then (statV s v, -1)
  else if s.se < 2 then (wqV s a v, -1) else (s, -1)
def writeV (s : V) (a v : Nat) : V × Int × Nat := if accV s a = 0 then ((writeS s a v).1, (writeS s a v).2, 0) else (zeroV, -1, accV s a)

/-- Numbers by their lowest eight bits. -/
theorem and_low (x m : Nat) (hm : m < 256) : x &&& m = (x % 256) &&& m := by
  apply Nat.eq_of_testBit_eq
  intro i
  rw [Nat.testBit_and, Nat.testBit_and, show (256 : Nat) = 2 ^ 8 from rfl, Nat.testBit_mod_two_pow]
  by_cases h : i < 8
  · simp [h]
  · rw [Nat.testBit_lt_two_pow (Nat.lt_of_lt_of_le hm (show 256 ≤ 2 ^ i from Nat.pow_le_pow_right (n := 2) (i := 8) (by decide) (by omega)))]; simp
theorem tb_low (x i : Nat) (hi : i < 8) : x.testBit i = (x % 256).testBit i := by
  rw [show (256 : Nat) = 2 ^ 8 from rfl, Nat.testBit_mod_two_pow]; simp [hi]
theorem live_low : ∀ n, n < 256 → ((n &&& 76) == 12) = (n.testBit 2 && (n.testBit 3 && !n.testBit 6)) := by decide +kernel
theorem live_and (n : Nat) : ((n &&& 76) == 12) = (n.testBit 2 && (n.testBit 3 && !n.testBit 6)) := by
  rw [and_low n 76 (by decide), tb_low n 2 (by decide), tb_low n 3 (by decide), tb_low n 6 (by decide)]
  exact live_low _ (Nat.mod_lt _ (by decide))
theorem tb_m (i : Nat) : (4294967088 : Nat).testBit i = (decide (i < 32) && decide (i ≠ 0 ∧ i ≠ 1 ∧ i ≠ 2 ∧ i ≠ 3 ∧ i ≠ 6 ∧ i ≠ 7)) := by
  by_cases h : i < 32
  · revert i; decide
  · rw [Nat.testBit_lt_two_pow (Nat.lt_of_lt_of_le (by decide : 4294967088 < 2 ^ 32) (Nat.pow_le_pow_right (by decide) (by omega)))]; simp [h]
theorem okSt_iff (n : Nat) : okSt n = true ↔ ∀ i, i < 32 → n.testBit i = true → i = 0 ∨ i = 1 ∨ i = 2 ∨ i = 3 ∨ i = 6 ∨ i = 7 := by
  unfold okSt
  rw [decide_eq_true_eq]
  constructor
  · intro h i hi hb
    have e := congrArg (fun x => x.testBit i) h
    simp only [Nat.testBit_and, hb, tb_m, Nat.zero_testBit, decide_eq_true hi, Bool.true_and, decide_eq_false_iff_not] at e
    omega
  · intro h
    apply Nat.eq_of_testBit_eq
    intro i
    rw [Nat.testBit_and, tb_m, Nat.zero_testBit]
    by_cases hi : i < 32
    · cases hb : n.testBit i with
      | false => simp
      | true => have := h i hi hb; simp [hi]; omega
    · simp [hi]
theorem or_lt32 {a b : Nat} (ha : a < 4294967296) (hb : b < 4294967296) : a ||| b < 4294967296 := Nat.or_lt_two_pow (n := 32) ha hb
theorem zeroRg_ok : zeroRg.Ok := ⟨by decide, by decide, by decide, by decide, by decide, by decide, by decide⟩
theorem V.Ok.q {s : V} (ok : s.Ok) (i : Nat) : (s.q i).r.Ok := by
  unfold V.q; split
  · exact ok.q0
  · exact ok.q1
theorem V.Ok.qw {s : V} (ok : s.Ok) (i : Nat) {q : Qu} (hq : q.r.Ok) : (s.qw i q).Ok := by
  unfold V.qw; split
  · exact ⟨ok.st, ok.fs, ok.ds, ok.se, ok.ir, ok.d0, ok.d1, hq, ok.q1⟩
  · exact ⟨ok.st, ok.fs, ok.ds, ok.se, ok.ir, ok.d0, ok.d1, ok.q0, hq⟩
theorem failV_ok {s : V} (ok : s.Ok) : (failV s).Ok := ⟨or_lt32 ok.st (by decide), ok.fs, ok.ds, ok.se, or_lt32 ok.ir (by decide), ok.d0, ok.d1, ok.q0, ok.q1⟩
end Go.Proofs.YtbggkoahofnnjaaDoor
namespace Go.Proofs.YtbggkoahofnnjaaDoor
open Go.RowKit
set_option linter.unusedVariables false

theorem lt_of_cell {w : World} {g j : Nat} {v : Value} (h : w.cell? ⟨g, j, none⟩ = some v) : g < w.heap.size := by
  rcases Nat.lt_or_ge g w.heap.size with h' | h'
  · exact h'
  · simp [World.cell?, Array.getElem?_eq_none h'] at h
theorem below_bl {n : Nat} {w a b : World} (hn : n = w.heap.size) (h : Below n w a) (hb : Below a.heap.size a b) : Below n w b := by
  subst hn; exact h.trans (hb.mono h.size)
theorem below_one (w : World) (a : Obj) : Below w.heap.size w (w.alloc a) := (Below.refl _ w).alloc (Nat.le_refl _) _
theorem below_two (w : World) (a b : Obj) : Below w.heap.size w ((w.alloc a).alloc b) := ((Below.refl _ w).alloc (Nat.le_refl _) _).alloc (by simp) _
theorem below_three (w : World) (a b c : Obj) : Below w.heap.size w (((w.alloc a).alloc b).alloc c) := (((Below.refl _ w).alloc (Nat.le_refl _) _).alloc (by simp) _).alloc (by simp; omega) _
/-- A call that only makes memory keeps what holds of all that lay. -/
theorem Calls.kept {P : Program} {f : Nat} {args : Array Value} {r : Value} {w1 : World} {S : World → Prop} (hk : ∀ a b, Below a.heap.size a b → S a → S b) (hs : S w1)
    (h : Calls P f args w1 fun e w2 => e = .returned r ∧ Below w1.heap.size w1 w2) : Calls P f args w1 fun e w2 => e = .returned r ∧ S w2 :=
  h.mono fun _ _ ⟨he, hb⟩ => ⟨he, hk _ _ hb hs⟩

/-- Block b is these cells. -/
def RowAt (w : World) (b : Nat) (cs : Array Value) (t : TypeId) : Prop := w.heap[b]? = some (.cells cs t (0, 0))
theorem RowAt.lt {w : World} {b : Nat} {cs : Array Value} {t : TypeId} (h : RowAt w b cs t) : b < w.heap.size := by
  rcases Nat.lt_or_ge b w.heap.size with h' | h'
  · exact h'
  · unfold RowAt at h; rw [Array.getElem?_eq_none h'] at h; cases h
theorem RowAt.al {w : World} {b : Nat} {cs : Array Value} {t : TypeId} (h : RowAt w b cs t) (o : Obj) : RowAt (w.alloc o) b cs t := by
  have hk := h.lt
  unfold RowAt at *
  rw [Below.heap_alloc _ _ _ hk]; exact h
theorem RowAt.dr {w : World} {b : Nat} {cs : Array Value} {t : TypeId} (h : RowAt w b cs t) : RowAt w.drew b cs t := h
theorem RowAt.dn {w : World} {b : Nat} {cs : Array Value} {t : TypeId} (h : RowAt w b cs t) (n : Nat) : RowAt (w.drewN n) b cs t := h
theorem RowAt.new (w : World) (b : Nat) (cs : Array Value) (t : TypeId) (h : w.heap.size = b) : RowAt (w.alloc (.cells cs t)) b cs t := by
  subst h; exact heap_alloc_new w _
theorem RowAt.put {w : World} {b : Nat} {cs : Array Value} {t : TypeId} (h : RowAt w b cs t) (j : Nat) (v : Value) : RowAt (w.setCell ⟨b, j, none⟩ v) b (cs.setIfInBounds j v) t :=
  heap_setCell_same w b j _ _ _ h
theorem RowAt.far {w : World} {b : Nat} {cs : Array Value} {t : TypeId} (h : RowAt w b cs t) {g : Nat} (hg : b ≠ g) (j : Nat) (v : Value) : RowAt (w.setCell ⟨g, j, none⟩ v) b cs t := by
  unfold RowAt at *
  rw [Below.heap_setCell _ _ _ _ hg]; exact h
theorem RowAt.bl {w w' : World} {b : Nat} {cs : Array Value} {t : TypeId} (h : RowAt w b cs t) (hb : Below w.heap.size w w') : RowAt w' b cs t :=
  (hb.block b h.lt).trans h
theorem RowAt.cell {w : World} {b : Nat} {cs : Array Value} {t : TypeId} (h : RowAt w b cs t) (j : Nat) : w.cell? ⟨b, j, none⟩ = cs[j]? := cell_of_row _ _ _ _ _ (0, 0) h
theorem RowAt.thaw {w : World} {b : Nat} {cs : Array Value} {t : TypeId} (h : RowAt w b cs t) (j : Nat) : w.frozen? ⟨b, j, none⟩ = false := frozen_of_row w b j _ _ h
theorem RowAt.one {w : World} {b : Nat} {cs ds : Array Value} {t u : TypeId} (h : RowAt w b cs t) (k : RowAt w b ds u) : cs = ds := by
  unfold RowAt at *
  rw [h] at k
  injection k with k
  injection k
end Go.Proofs.YtbggkoahofnnjaaDoor
namespace Go.Proofs.YtbggkoahofnnjaaDoor
open Go.RowKit
set_option linter.unusedVariables false

set_option maxHeartbeats 400000 in
theorem split_any (a : Nat) (h : a < 4294967296) (w : World) :
    Calls Tryd.prog 37 #[.int .u32 a] w fun e w' => e = .returned (.tuple #[.int .i64 (a / 4096 : Nat), .int .i64 (a % 4096 : Nat)]) ∧ w' = w := by
  go_enter Tryd.func37, Tryd.ntmps37
  go_wp2
  go_ret2
  exact ⟨by simp, rfl⟩

/-- The memory that a pointer means has n pages, in block P. -/
def PagesAt (w : World) (b P n : Nat) : Prop := w.cell? ⟨b, 0, none⟩ = some (.slice (some ⟨P, 0, none⟩) n n)

def hasB (a : Nat) (k : Int) (n : Nat) : Bool := k == 0 || decide ((a : Int) + k ≤ (n : Int) * 4096)

set_option maxHeartbeats 400000 in
theorem has_zero (b P n a : Nat) (w : World) :
    Calls Tryd.prog 35 #[.pointer (some ⟨b, 0, none⟩), .int .u32 a, .int .i64 0] w fun e w' => e = .returned (.bool true) ∧ w' = w := by
  go_enter Tryd.func35, Tryd.ntmps35
  go_wp2
  go_ret
  exact ⟨rfl, rfl⟩
set_option maxHeartbeats 400000 in
theorem has_some (b P n a : Nat) (ha : a < 4294967296) (hn : n ≤ 16384) (k : Int) (h0 : 0 < k) (h1 : k ≤ 9223372036854775807) (w : World) (hP : PagesAt w b P n) :
    Calls Tryd.prog 35 #[.pointer (some ⟨b, 0, none⟩), .int .u32 a, .int .i64 k] w fun e w' => e = .returned (.bool (decide ((a : Int) + k ≤ (n : Int) * 4096))) ∧ w' = w := by
  have hc : w.cell? ⟨b, 0, none⟩ = some (.slice (some ⟨P, 0, none⟩) n n) := hP
  clear hP
  have hk : (k == 0) = false := by simp; omega
  go_enter Tryd.func35, Tryd.ntmps35
  go_wp2
  go_ret
  exact ⟨rfl, rfl⟩
end Go.Proofs.YtbggkoahofnnjaaDoor
namespace Go.Proofs.YtbggkoahofnnjaaDoor
open Go.RowKit
set_option linter.unusedVariables false

theorem has_any (b P n a : Nat) (ha : a < 4294967296) (hn : n ≤ 16384) (k : Int) (h0 : 0 ≤ k) (h1 : k ≤ 9223372036854775807) (w : World) (hP : PagesAt w b P n) :
    Calls Tryd.prog 35 #[.pointer (some ⟨b, 0, none⟩), .int .u32 a, .int .i64 k] w fun e w' => e = .returned (.bool (hasB a k n)) ∧ w' = w := by
  by_cases h : k = 0
  · subst h
    exact has_zero b P n a w
  · have e : hasB a k n = decide ((a : Int) + k ≤ (n : Int) * 4096) := by
      have h2 : (k == 0) = false := by simpa using h
      unfold hasB; rw [h2, Bool.false_or]
    rw [e]
    exact has_some b P n a ha hn k (by omega) h1 w hP

/-- The number of checkNumber's error; 0: none. -/
def numE (a : Nat) (k : Int) (n : Nat) : Int := if k ≠ 1 ∧ k ≠ 2 ∧ k ≠ 4 then 21 else if (n : Int) * 4096 < a + k then 4 else if (a : Int) % k ≠ 0 then 5 else 0
def errM (c : Int) : Value := if c = 0 then .nilIface else .iface 59 (.int .i64 c)

set_option maxHeartbeats 400000 in
theorem check_width (b a : Nat) (k : Int) (h1 : k ≠ 1) (h2 : k ≠ 2) (h4 : k ≠ 4) (w : World) :
    Calls Tryd.prog 21 #[.pointer (some ⟨b, 0, none⟩), .int .u32 a, .int .i64 k] w fun e w' => e = .returned (.iface 59 (.int .i64 21)) ∧ w' = w := by
  have q1 : (k != 1) = true := by simpa using h1
  have q2 : (k != 2) = true := by simpa using h2
  have q4 : (k != 4) = true := by simpa using h4
  clear h1 h2 h4
  go_enter Tryd.func21, Tryd.ntmps21
  go_wp2
  go_ret
  exact ⟨rfl, rfl⟩
set_option maxHeartbeats 1000000 in
theorem check_wide (b P n a k : Nat) (hk : k = 1 ∨ k = 2 ∨ k = 4) (ha : a < 4294967296) (hn : n ≤ 16384) (w : World) (hP : PagesAt w b P n) :
    Calls Tryd.prog 21 #[.pointer (some ⟨b, 0, none⟩), .int .u32 a, .int .i64 k] w fun e w' => e = .returned (errM (numE a k n)) ∧ w' = w := by
  have HH := hide (has_any b P n a ha hn k (by omega) (by omega) w hP)
  have e0 : hasB a k n = decide ((a : Int) + k ≤ (n : Int) * 4096) := by
    have h2 : ((k : Int) == 0) = false := by simp; omega
    unfold hasB; rw [h2, Bool.false_or]
  rw [e0] at HH
  clear e0 hP
  by_cases hr : (a : Int) + k ≤ (n : Int) * 4096
  · rw [decide_eq_true hr] at HH
    by_cases hm : (a : Int) % k = 0
    · have hE : Hid (errM (numE a k n) = .nilIface) := by
        show _ = _
        unfold numE; rw [if_neg (by omega), if_neg (by omega), if_neg (by simpa using hm)]; rfl
      rw [hE.out]
      clear hE hr
      have hq : ((a : Int) % (k : Int) != 0) = false := by simpa using hm
      clear hm
      rcases hk with rfl | rfl | rfl
      all_goals
        go_enter Tryd.func21, Tryd.ntmps21
        go_wp2_with (first | (go_at_call 35; refine HH.out.mono ?_; rintro e w1 ⟨rfl, rfl⟩))
        go_ret
        exact ⟨rfl, rfl⟩
    · have hE : Hid (errM (numE a k n) = .iface 59 (.int .i64 5)) := by
        show _ = _
        unfold numE; rw [if_neg (by omega), if_neg (by omega), if_pos hm]; rfl
      rw [hE.out]
      clear hE hr
      have hq : ((a : Int) % (k : Int) != 0) = true := by simpa using hm
      rcases hk with rfl | rfl | rfl
      · exact absurd (by omega) hm
      all_goals
        clear hm
        go_enter Tryd.func21, Tryd.ntmps21
        go_wp2_with (first | (go_at_call 35; refine HH.out.mono ?_; rintro e w1 ⟨rfl, rfl⟩))
        go_ret
        exact ⟨rfl, rfl⟩
  · rw [decide_eq_false hr] at HH
    have hE : Hid (errM (numE a k n) = .iface 59 (.int .i64 4)) := by
      show _ = _
      unfold numE; rw [if_neg (by omega), if_pos (by omega)]; rfl
    rw [hE.out]
    clear hE hr
    rcases hk with rfl | rfl | rfl
    all_goals
      go_enter Tryd.func21, Tryd.ntmps21
      go_wp2_with (first | (go_at_call 35; refine HH.out.mono ?_; rintro e w1 ⟨rfl, rfl⟩))
      go_ret
      exact ⟨rfl, rfl⟩
end Go.Proofs.YtbggkoahofnnjaaDoor
namespace Go.Proofs.YtbggkoahofnnjaaDoor
open Go.RowKit

theorem results_cell_tmp_row {P : Program} {fn : Func} {p u : Tmp} {ty : TypeId} (h : fn.results = #[.cell p ty, .tmp u]) (tmps : Array Value) (w : World) (g : Nat) (t : TypeId) (cs : Array Value) (fr : Nat × Nat) (d : TypeDesc)
    (hp : tmps.getD p undef = .pointer (some ⟨g, 0, none⟩)) (hg : w.heap[g]? = some (.cells cs t fr))
    (hu : P.underlying ty = some d) (hd : (match d with | .struct _ | .array _ _ => true | _ => false) = true) (hi : (P.info? ty).map (·.size) = some cs.size) :
    (results fn tmps).run P w = .ok (.tuple #[.agg cs, tmps.getD u undef]) w := by
  have hp' : tmps[p]?.getD undef = .pointer (some ⟨g, 0, none⟩) := by simpa using hp
  simp [results, h, hp', asAddr, run_loadVar_row w g t ty cs fr d hg hu hd hi]

end Go.Proofs.YtbggkoahofnnjaaDoor
namespace Go.Proofs.YtbggkoahofnnjaaDoor
open Go.RowKit
set_option linter.unusedVariables false

structure Sg where
  at' : Nat
  n : Int
  wr : Bool
structure Sg.Ok (s : Sg) : Prop where
  at' : s.at' < 4294967296
  n0 : -9223372036854775808 ≤ s.n
  n1 : s.n ≤ 9223372036854775807
def zeroSg : Sg := ⟨0, 0, false⟩
def Sg.cells (s : Sg) : Array Value := #[.int .u32 (s.at' : Nat), .int .i64 s.n, .bool s.wr]
end Go.Proofs.YtbggkoahofnnjaaDoor
namespace Go.Proofs.YtbggkoahofnnjaaDoor
open Go.RowKit
set_option linter.unusedVariables false

def firstL : List Nat := [0, 33554432, 201326592, 268435456, 268500992, 268566528, 268632064, 2147483648]
def sizeL : List Nat := [0, 65536, 4194304, 8, 256, 512, 512, 0]
def widL : List Nat := [0, 4, 4, 1, 4, 4, 4, 7]
def firstN (d : Nat) : Nat := firstL.getD d 0
def sizeN (d s : Nat) : Nat := if d = 7 then (if s ≤ 2147483648 then s else 2147483648) else sizeL.getD d 0
def widN (d : Nat) : Nat := widL.getD d 0

/-- What the table of areas holds. -/
def AreasAt (w : World) : Prop := ∀ d, d < 8 → w.cell? ⟨0, d * 3, none⟩ = some (.int .u32 (firstN d : Nat)) ∧ w.cell? ⟨0, d * 3 + 1, none⟩ = some (.int .u32 (sizeL.getD d 0 : Nat)) ∧ w.cell? ⟨0, d * 3 + 2, none⟩ = some (.int .i64 (widN d : Nat))
theorem AreasAt.lt {w : World} (h : AreasAt w) : 0 < w.heap.size := block_lt_of_cell (h 0 (by decide)).1
theorem AreasAt.bl {w w' : World} (h : AreasAt w) (hb : Below w.heap.size w w') : AreasAt w' := fun d hd =>
  ⟨(hb.cell (p := ⟨0, d * 3, none⟩) h.lt).trans (h d hd).1, (hb.cell (p := ⟨0, d * 3 + 1, none⟩) h.lt).trans (h d hd).2.1, (hb.cell (p := ⟨0, d * 3 + 2, none⟩) h.lt).trans (h d hd).2.2⟩

def isW (n : Int) : Bool := decide (n = 1 ∨ n = 2 ∨ n = 4)
def takesW (wd : Nat) (n : Int) : Bool := decide ((n = 1 ∨ n = 2 ∨ n = 4) ∧ (wd = 7 ∨ n = wd))
theorem size_area : (Tryd.prog.info? 153).map (·.size) = some 3 := by kernel_rfl
set_option maxHeartbeats 400000 in
theorem area_any (d : Nat) (hd : d < 8) (s : Nat) (hs : s < 4294967296) (w : World) (hA : AreasAt w) :
    Calls Tryd.prog 70 #[.int .i64 d, .int .u32 s] w fun e w' => e = .returned (.agg #[.int .u32 (firstN d : Nat), .int .u32 (sizeN d s : Nat), .int .i64 (widN d : Nat)]) ∧ Below w.heap.size w w' := by
  obtain ⟨c0, c1, c2⟩ := hA d hd
  have hl := hA.lt
  unfold sizeN
  generalize firstN d = f at *
  generalize sizeL.getD d 0 = z at *
  generalize widN d = wd at *
  clear hA
  by_cases h7 : d = 7
  · subst h7
    rw [if_pos rfl]
    by_cases h8 : s ≤ 2147483648
    · have h9 : (s : Int) ≤ 2147483648 := by omega
      rw [if_pos h8]
      go_enter Tryd.func70, Tryd.ntmps70
      go_wp2
      refine bodyPost_ret (results_cell_row Tryd.results70 _ _ w.heap.size _ _ _ _ rfl ((RowAt.new w _ _ _ rfl).al _) Tryd.underlying153 rfl size_area) rfl ?_
      exact ⟨rfl, below_two _ _ _⟩
    · have h9 : 2147483648 < (s : Int) := by omega
      rw [if_neg h8]
      go_enter Tryd.func70, Tryd.ntmps70
      go_wp2
      refine bodyPost_ret (results_cell_row Tryd.results70 _ _ w.heap.size _ _ _ _ rfl ((RowAt.new w _ _ _ rfl).al _) Tryd.underlying153 rfl size_area) rfl ?_
      exact ⟨rfl, below_two _ _ _⟩
  · rw [if_neg h7]
    have e7 : ((d : Int) == 7) = false := by simp; omega
    go_enter Tryd.func70, Tryd.ntmps70
    go_wp2
    refine bodyPost_ret (results_cell_row Tryd.results70 _ _ w.heap.size _ _ _ _ rfl ((RowAt.new w _ _ _ rfl).al _) Tryd.underlying153 rfl size_area) rfl ?_
    exact ⟨rfl, below_two _ _ _⟩
end Go.Proofs.YtbggkoahofnnjaaDoor
namespace Go.Proofs.YtbggkoahofnnjaaDoor
open Go.RowKit
set_option linter.unusedVariables false

structure MayV (s : V) : Prop where
  st : okSt s.st = true
  ir : s.ir ≤ 3
  se : s.st.testBit 3 = true → setl s = true
  q0 : mayQ s.q0 = true
  q1 : mayQ s.q1 = true
theorem mayV_iff (s : V) : mayV s = true ↔ MayV s := by
  unfold mayV
  simp only [Bool.and_eq_true, decide_eq_true_eq, Bool.or_eq_true, Bool.not_eq_true']
  constructor
  · rintro ⟨a, b, c, d, e⟩
    refine ⟨a, b, fun h => ?_, d, e⟩
    rcases c with c | c
    · rw [h] at c; cases c
    · exact c
  · rintro ⟨a, b, c, d, e⟩
    refine ⟨a, b, ?_, d, e⟩
    cases h : s.st.testBit 3 with
    | false => exact Or.inl rfl
    | true => exact Or.inr (c h)
theorem okSt_or {a b : Nat} (ha : okSt a = true) (hb : okSt b = true) : okSt (a ||| b) = true := by
  rw [okSt_iff] at *
  intro i hi h
  rw [Nat.testBit_or, Bool.or_eq_true] at h
  rcases h with h | h
  · exact ha i hi h
  · exact hb i hi h
theorem ir_or : ∀ n, n ≤ 3 → n ||| 2 ≤ 3 := by decide
theorem mayV_fail {s : V} (h : mayV s = true) : mayV (failV s) = true := by
  rw [mayV_iff] at *
  refine ⟨okSt_or h.st (by decide), ir_or _ h.ir, fun e => h.se ?_, h.q0, h.q1⟩
  have e : (s.st ||| 64).testBit 3 = true := e
  rw [Nat.testBit_or, show (64 : Nat).testBit 3 = false from by decide, Bool.or_false] at e
  exact e
theorem mayV_q {s : V} (h : MayV s) (i : Nat) : mayQ (s.q i) = true := by
  unfold V.q; split
  · exact h.q0
  · exact h.q1
theorem mayV_qw {s : V} (h : MayV s) (i : Nat) {q : Qu} (hq : mayQ q = true) : MayV (s.qw i q) := by
  unfold V.qw; split
  · exact ⟨h.st, h.ir, h.se, hq, h.q1⟩
  · exact ⟨h.st, h.ir, h.se, h.q0, hq⟩
/-- What is told of a queue that is notified. -/
structure ToldV (z : V) (n : Int) : Prop where
  ok : n = -1 ∨ (n = 0 ∧ z.q0.rd = true ∧ liveV z = true ∧ chkR z.q0.r = true) ∨ (n = 1 ∧ z.q1.rd = true ∧ liveV z = true ∧ chkR z.q1.r = true)
end Go.Proofs.YtbggkoahofnnjaaDoor
