/-
  Plain numbers: a port, its two fifos, and what comes, goes out, is read and written. No Go in sight.
-/
namespace Go.Proofs.Ythopfecjnbfnmaa
set_option linter.unusedVariables false

/-- A fifo: its sixteen bytes, and how many of them wait. -/
structure F where
  b : Nat → Nat
  n : Int
structure F.Ok (f : F) : Prop where
  b : ∀ i, f.b i < 256
  n0 : -9223372036854775808 ≤ f.n
  n1 : f.n ≤ 9223372036854775807
/-- A port. -/
structure U where
  rx : F
  tx : F
  ie : Nat
  lc : Nat
  mc : Nat
  sc : Nat
  dl : Nat
  dm : Nat
  ov : Bool
  wt : Int
structure U.Ok (s : U) : Prop where
  rx : s.rx.Ok
  tx : s.tx.Ok
  ie : s.ie < 256
  lc : s.lc < 256
  mc : s.mc < 256
  sc : s.sc < 256
  dl : s.dl < 256
  dm : s.dm < 256
  w0 : -9223372036854775808 ≤ s.wt
  w1 : s.wt ≤ 9223372036854775807
def zeroF : F := ⟨fun _ => 0, 0⟩
def zeroU : U := ⟨zeroF, zeroF, 0, 0, 0, 0, 0, 0, false, 0⟩
/-- All bytes from N on are nought. -/
def tailB (f : F) : Bool := decide (∀ i : Nat, i < 16 → f.n ≤ (i : Int) → f.b i = 0)
def mayF (f : F) : Bool := decide (0 ≤ f.n) && (decide (f.n ≤ 16) && tailB f)
def waitB (s : U) : Bool := decide (s.wt = 0) || (decide (0 < s.wt) && (decide (s.wt < 4) && decide (s.tx.n ≠ 0)))
def mayU (s : U) : Bool := mayF s.rx && (mayF s.tx && (waitB s && (decide (s.ie ≤ 7) && decide (s.mc ≤ 31))))
def setB (b : Nat → Nat) (i c : Nat) : Nat → Nat := fun j => if j = i then c else b j
def putF (f : F) (c : Nat) : F := ⟨setB f.b f.n.toNat c, f.n + 1⟩
def moved (b : Nat → Nat) : Nat → Nat := fun j => if j < 15 then b (j + 1) else 0
def takeF (f : F) : F := ⟨moved f.b, f.n - 1⟩
def withRx (s : U) (f : F) : U := ⟨f, s.tx, s.ie, s.lc, s.mc, s.sc, s.dl, s.dm, s.ov, s.wt⟩
def withTx (s : U) (f : F) : U := ⟨s.rx, f, s.ie, s.lc, s.mc, s.sc, s.dl, s.dm, s.ov, s.wt⟩
def withOv (s : U) (b : Bool) : U := ⟨s.rx, s.tx, s.ie, s.lc, s.mc, s.sc, s.dl, s.dm, b, s.wt⟩
def withWt (s : U) (n : Int) : U := ⟨s.rx, s.tx, s.ie, s.lc, s.mc, s.sc, s.dl, s.dm, s.ov, n⟩
def withIe (s : U) (v : Nat) : U := ⟨s.rx, s.tx, v, s.lc, s.mc, s.sc, s.dl, s.dm, s.ov, s.wt⟩
def withLc (s : U) (v : Nat) : U := ⟨s.rx, s.tx, s.ie, v, s.mc, s.sc, s.dl, s.dm, s.ov, s.wt⟩
def withMc (s : U) (v : Nat) : U := ⟨s.rx, s.tx, s.ie, s.lc, v, s.sc, s.dl, s.dm, s.ov, s.wt⟩
def withSc (s : U) (v : Nat) : U := ⟨s.rx, s.tx, s.ie, s.lc, s.mc, v, s.dl, s.dm, s.ov, s.wt⟩
def withDl (s : U) (v : Nat) : U := ⟨s.rx, s.tx, s.ie, s.lc, s.mc, s.sc, v, s.dm, s.ov, s.wt⟩
def withDm (s : U) (v : Nat) : U := ⟨s.rx, s.tx, s.ie, s.lc, s.mc, s.sc, s.dl, v, s.ov, s.wt⟩
/-- A byte comes, to a state that may be. -/
def putS (s : U) (c : Nat) : U := if s.rx.n = 16 then withOv s true else withRx s (putF s.rx c)
def putV (s : U) (c : Nat) : U := if mayU s = true then putS s c else s
/-- A tick of a state that may be. -/
def tickS (s : U) : U × Nat × Bool :=
  if s.tx.n = 0 then (s, 0, false) else if s.wt < 3 then (withWt s (s.wt + 1), 0, false)
  else (withTx (withWt s 0) (takeF s.tx), s.tx.b 0, true)
def tickV (s : U) : U × Nat × Bool := if mayU s = true then tickS s else (s, 0, false)
/-- What it asks for. -/
def asksN (s : U) : Nat :=
  if (s.ov && decide (s.ie / 4 % 2 = 1)) = true then 6 else if (decide (s.rx.n ≠ 0) && decide (s.ie % 2 = 1)) = true then 4
  else if (decide (s.tx.n = 0) && decide (s.ie / 2 % 2 = 1)) = true then 2 else 1
def dlB (s : U) : Bool := decide (128 ≤ s.lc)
def dataS (s : U) : U × Nat := if dlB s = true then (s, s.dl) else if s.rx.n = 0 then (s, 0) else (withRx s (takeF s.rx), s.rx.b 0)
def statN (s : U) : Nat := (if s.rx.n ≠ 0 then 1 else 0) + (if s.ov = true then 2 else 0) + (if s.tx.n = 0 then 96 else 0)
/-- Read, of a state that may be: the state, the byte, the error's number. -/
def readS (s : U) (a : Nat) : U × Nat × Nat :=
  if a = 0 then ((dataS s).1, (dataS s).2, 0) else if a = 1 then (s, (if dlB s = true then s.dm else s.ie), 0) else if a = 2 then (s, 192 + asksN s, 0)
  else if a = 3 then (s, s.lc, 0) else if a = 4 then (s, s.mc, 0) else if a = 5 then (withOv s false, statN s, 0) else if a = 6 then (s, 0, 0) else if a = 7 then (s, s.sc, 0)
  else (zeroU, 0, 20)
def readV (s : U) (a : Nat) : U × Nat × Nat := if mayU s = true then readS s a else (zeroU, 0, 1)
def dataW (s : U) (v : Nat) : U := if dlB s = true then withDl s v else if s.tx.n = 16 then s else withTx s (putF s.tx v)
def empRx (s : U) (v : Nat) : U := if v / 2 % 2 = 1 then withOv (withRx s zeroF) false else s
def empTx (s : U) (v : Nat) : U := if v / 4 % 2 = 1 then withWt (withTx s zeroF) 0 else s
def empS (s : U) (v : Nat) : U := empTx (empRx s v) v
def writeS (s : U) (a v : Nat) : U × Nat :=
  if a = 0 then (dataW s v, 0) else if a = 1 then ((if dlB s = true then withDm s v else withIe s (v % 8)), 0) else if a = 2 then (empS s v, 0)
  else if a = 3 then (withLc s v, 0) else if a = 4 then (withMc s (v % 32), 0) else if a = 5 then (s, 0) else if a = 6 then (s, 0) else if a = 7 then (withSc s v, 0)
  else (zeroU, 20)
def writeV (s : U) (a v : Nat) : U × Nat := if mayU s = true then writeS s a v else (zeroU, 1)
def chk (b : Bool) : Nat := if b = true then 0 else 1
theorem mayF_iff (f : F) : mayF f = true ↔ 0 ≤ f.n ∧ f.n ≤ 16 ∧ ∀ i : Nat, i < 16 → f.n ≤ (i : Int) → f.b i = 0 := by
  unfold mayF tailB; simp
structure May (s : U) : Prop where
  rx : mayF s.rx = true
  tx : mayF s.tx = true
  w0 : 0 ≤ s.wt
  w3 : s.wt ≤ 3
  wt : s.tx.n = 0 → s.wt = 0
  ie : s.ie ≤ 7
  mc : s.mc ≤ 31
theorem waitB_iff (s : U) : waitB s = true ↔ 0 ≤ s.wt ∧ s.wt ≤ 3 ∧ (s.tx.n = 0 → s.wt = 0) := by
  unfold waitB; simp; omega
theorem mayU_iff (s : U) : mayU s = true ↔ May s := by
  unfold mayU
  simp only [Bool.and_eq_true, decide_eq_true_eq, waitB_iff]
  constructor
  · rintro ⟨a, b, ⟨c, d, e⟩, g, h⟩; exact ⟨a, b, c, d, e, g, h⟩
  · rintro ⟨a, b, c, d, e, g, h⟩; exact ⟨a, b, ⟨c, d, e⟩, g, h⟩
theorem zeroF_ok : zeroF.Ok := ⟨fun _ => by show 0 < 256; decide, by decide, by decide⟩
theorem zeroU_ok : zeroU.Ok := ⟨zeroF_ok, zeroF_ok, by decide, by decide, by decide, by decide, by decide, by decide, by decide, by decide⟩
theorem moved_ok {b : Nat → Nat} (h : ∀ i, b i < 256) (i : Nat) : moved b i < 256 := by
  unfold moved; split
  · exact h _
  · decide
theorem setB_ok {b : Nat → Nat} (h : ∀ i, b i < 256) (k : Nat) {c : Nat} (hc : c < 256) (i : Nat) : setB b k c i < 256 := by
  unfold setB; split
  · exact hc
  · exact h _
theorem mayF.n0 {f : F} (h : mayF f = true) : 0 ≤ f.n := ((mayF_iff f).1 h).1
theorem mayF.n16 {f : F} (h : mayF f = true) : f.n ≤ 16 := ((mayF_iff f).1 h).2.1
theorem mayF.tail {f : F} (h : mayF f = true) : ∀ i : Nat, i < 16 → f.n ≤ (i : Int) → f.b i = 0 := ((mayF_iff f).1 h).2.2
theorem putF_ok {f : F} (h : f.Ok) (hm : mayF f = true) {c : Nat} (hc : c < 256) : (putF f c).Ok :=
  ⟨setB_ok h.b _ hc, by have := mayF.n0 hm; show _ ≤ f.n + 1; omega, by have := mayF.n16 hm; show f.n + 1 ≤ _; omega⟩
theorem takeF_ok {f : F} (h : f.Ok) (hm : mayF f = true) : (takeF f).Ok :=
  ⟨moved_ok h.b, by have := mayF.n0 hm; show _ ≤ f.n - 1; omega, by have := mayF.n16 hm; show f.n - 1 ≤ _; omega⟩
theorem putF_may {f : F} (hm : mayF f = true) (hn : f.n ≠ 16) (c : Nat) : mayF (putF f c) = true := by
  obtain ⟨h0, h1, h2⟩ := (mayF_iff f).1 hm
  refine (mayF_iff _).2 ⟨by show 0 ≤ f.n + 1; omega, by show f.n + 1 ≤ 16; omega, fun i hi hn => ?_⟩
  have hn' : f.n + 1 ≤ (i : Int) := hn
  show setB f.b f.n.toNat c i = 0
  unfold setB
  rw [if_neg (by omega)]
  exact h2 i hi (by omega)
theorem takeF_may {f : F} (hm : mayF f = true) (hn : f.n ≠ 0) : mayF (takeF f) = true := by
  obtain ⟨h0, h1, h2⟩ := (mayF_iff f).1 hm
  refine (mayF_iff _).2 ⟨by show 0 ≤ f.n - 1; omega, by show f.n - 1 ≤ 16; omega, fun i hi hn => ?_⟩
  have hn' : f.n - 1 ≤ (i : Int) := hn
  show moved f.b i = 0
  unfold moved
  split
  · exact h2 _ (by omega) (by omega)
  · rfl
theorem asksN_lt (s : U) : asksN s < 256 := by
  unfold asksN
  split
  · decide
  · split
    · decide
    · split <;> decide
theorem statN_lt (s : U) : statN s < 256 := by
  unfold statN
  split <;> split <;> split <;> decide
end Go.Proofs.Ythopfecjnbfnmaa
