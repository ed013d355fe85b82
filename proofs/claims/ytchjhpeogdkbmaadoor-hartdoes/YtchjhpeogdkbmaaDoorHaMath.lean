/-
  A hart as plain numbers, and what each instruction makes of it.
-/
import Derived.Test.YtchjhpeogdkbmaaDoorCsMath
import Derived.Test.YtchjhpeogdkbmaaDoorHInDec
import Derived.Test.YtchjhpeogdkbmaaDoorHAluHolds
namespace Go.Proofs.YtchjhpeogdkbmaaDoor
open Go.RowKit
set_option linter.unusedVariables false

/-- A hart. -/
structure H where
  pc : Nat
  x : Nat → Nat
  wt : Bool
  c : S8
structure H.Ok (h : H) : Prop where
  pc : h.pc < 4294967296
  x : ∀ i, h.x i < 4294967296
  c : h.c.Ok
/-- A hart as cells. -/
def H.cells (h : H) : Array Value := #[.int .u32 (h.pc : Nat), .int .u32 (h.x 0 : Nat), .int .u32 (h.x 1 : Nat), .int .u32 (h.x 2 : Nat), .int .u32 (h.x 3 : Nat), .int .u32 (h.x 4 : Nat), .int .u32 (h.x 5 : Nat), .int .u32 (h.x 6 : Nat), .int .u32 (h.x 7 : Nat), .int .u32 (h.x 8 : Nat), .int .u32 (h.x 9 : Nat), .int .u32 (h.x 10 : Nat), .int .u32 (h.x 11 : Nat), .int .u32 (h.x 12 : Nat), .int .u32 (h.x 13 : Nat), .int .u32 (h.x 14 : Nat), .int .u32 (h.x 15 : Nat), .int .u32 (h.x 16 : Nat), .int .u32 (h.x 17 : Nat), .int .u32 (h.x 18 : Nat), .int .u32 (h.x 19 : Nat), .int .u32 (h.x 20 : Nat), .int .u32 (h.x 21 : Nat), .int .u32 (h.x 22 : Nat), .int .u32 (h.x 23 : Nat), .int .u32 (h.x 24 : Nat), .int .u32 (h.x 25 : Nat), .int .u32 (h.x 26 : Nat), .int .u32 (h.x 27 : Nat), .int .u32 (h.x 28 : Nat), .int .u32 (h.x 29 : Nat), .int .u32 (h.x 30 : Nat), .int .u32 (h.x 31 : Nat), .bool h.wt, .int .u32 (h.c.st : Nat), .int .u32 (h.c.en : Nat), .int .u32 (h.c.ve : Nat), .int .u32 (h.c.sc : Nat), .int .u32 (h.c.ep : Nat), .int .u32 (h.c.ca : Nat), .int .u32 (h.c.va : Nat), .int .u64 (h.c.ct : Nat)]

/-- What an instruction asks for. -/
structure A6 where
  kind : Int
  pl : Nat
  n : Int
  sg : Bool
  rd : Int
  va : Nat
def A6.cells (a : A6) : Array Value := #[.int .i64 a.kind, .int .u32 (a.pl : Nat), .int .i64 a.n, .bool a.sg, .int .i64 a.rd, .int .u32 (a.va : Nat)]
def noA : A6 := ⟨0, 0, 0, false, 0, 0⟩

def trapH (h : H) (ca va : Nat) : H := ⟨trapTo h.c.ve ca, h.x, h.wt, trapN h.c ca va h.pc⟩
def upCt (s : S8) : S8 := ⟨s.st, s.en, s.ve, s.sc, s.ep, s.ca, s.va, (s.ct + 1) % 18446744073709551616⟩
def goH (h : H) (to : Nat) : H := if to % 4 = 0 then ⟨to, h.x, h.wt, upCt h.c⟩ else trapH h 0 to
def nextH (h : H) : H := goH h ((h.pc + 4) % 4294967296)
def setX (x : Nat → Nat) (r v : Nat) : Nat → Nat := fun i => if i = r then v else x i
def writeH (h : H) (r v : Nat) : H := if r = 0 then h else ⟨h.pc, setX h.x r v, h.wt, h.c⟩
def immN (n : Int) : Nat := (n % 4294967296).toNat
def jumpH (h : H) (rd to : Nat) : H := if to % 4 = 0 then goH (writeH h rd ((h.pc + 4) % 4294967296)) to else trapH h 0 to

theorem immN_lt (n : Int) : immN n < 4294967296 := by unfold immN; omega
theorem immN_cast (n : Int) : ((immN n : Nat) : Int) = n % 4294967296 := by unfold immN; omega
theorem upCt_ok {s : S8} (h : s.Ok) : (upCt s).Ok := ⟨h.st, h.en, h.ve, h.sc, h.ep, h.ca, h.va, Nat.mod_lt _ (by decide)⟩
theorem trapH_ok {h : H} (ok : h.Ok) {ca va : Nat} (h1 : ca < 4294967296) (h2 : va < 4294967296) : (trapH h ca va).Ok := ⟨trapTo_lt _ _ ok.c.ve, ok.x, trapN_ok ok.c h1 h2 ok.pc⟩
theorem goH_ok {h : H} (ok : h.Ok) {to : Nat} (ht : to < 4294967296) : (goH h to).Ok := by
  unfold goH; split
  · exact ⟨ht, ok.x, upCt_ok ok.c⟩
  · exact trapH_ok ok (by decide) ht
theorem nextH_ok {h : H} (ok : h.Ok) : (nextH h).Ok := goH_ok ok (Nat.mod_lt _ (by decide))
theorem setX_lt {x : Nat → Nat} (hx : ∀ i, x i < 4294967296) (r : Nat) {v : Nat} (hv : v < 4294967296) (i : Nat) : setX x r v i < 4294967296 := by
  unfold setX; split
  · exact hv
  · exact hx i
theorem writeH_ok {h : H} (ok : h.Ok) (r : Nat) {v : Nat} (hv : v < 4294967296) : (writeH h r v).Ok := by
  unfold writeH; split
  · exact ok
  · exact ⟨ok.pc, setX_lt ok.x r hv, ok.c⟩
theorem jumpH_ok {h : H} (ok : h.Ok) (rd : Nat) {to : Nat} (ht : to < 4294967296) : (jumpH h rd to).Ok := by
  unfold jumpH; split
  · exact goH_ok (writeH_ok ok rd (Nat.mod_lt _ (by decide))) ht
  · exact trapH_ok ok (by decide) ht

/-- The bytes that a load or a store has, by its place in the list. -/
def widL : List Nat := [1, 2, 4, 1, 2]
def widN (j : Nat) : Nat := widL.getD j 1
def onL : List Nat := [0, 3, 4, 5, 8, 9, 2, 6, 7]
def onN (j : Nat) : Nat := onL.getD j 0
def loadAt_ (h : H) (i : I6) : Nat := (h.x i.rs1.toNat + immN i.imm) % 4294967296
def loadH (h : H) (op : Nat) (i : I6) : H × A6 :=
  if loadAt_ h i % widN (op - 10) = 0 then (h, ⟨1, loadAt_ h i, widN (op - 10), decide (op ≤ 12), i.rd, 0⟩) else (trapH h 4 (loadAt_ h i), noA)
def storeH (h : H) (op : Nat) (i : I6) : H × A6 :=
  if loadAt_ h i % widN (op - 15) = 0 then (h, ⟨2, loadAt_ h i, widN (op - 15), false, 0, h.x i.rs2.toNat⟩) else (trapH h 6 (loadAt_ h i), noA)
def mixN (op old v : Nat) : Nat :=
  if op = 52 ∨ op = 55 then old ||| v else if op = 53 ∨ op = 56 then old &&& (4294967295 - v) else v
def swapsB (op : Nat) : Bool := decide (op = 51) || decide (op = 54)
def withC (h : H) (c : S8) : H := ⟨h.pc, h.x, h.wt, c⟩
def ctlV (h : H) (op : Nat) (i : I6) : Nat := if 54 ≤ op then i.rs1.toNat else h.x i.rs1.toNat
def ctlR (h : H) (op : Nat) (i : I6) (lines : Nat) : Option Nat := if swapsB op = true ∧ i.rd = 0 then some 0 else readN h.c i.csr lines
def controlH (h : H) (op : Nat) (i : I6) (v lines : Nat) : H :=
  match ctlR h op i lines with
  | none => trapH h 2 v
  | some old =>
    if swapsB op = true ∨ i.rs1 ≠ 0 then
      if (writeN h.c i.csr (mixN op old (ctlV h op i))).2 = 0 then nextH (writeH (withC h (writeN h.c i.csr (mixN op old (ctlV h op i))).1) i.rd.toNat old) else trapH h 2 v
    else nextH (writeH h i.rd.toNat old)
def withinH (h : H) (op : Nat) (i : I6) : H :=
  if op = 0 then nextH (writeH h i.rd.toNat (immN i.imm))
  else if op = 1 then nextH (writeH h i.rd.toNat ((immN i.imm + h.pc) % 4294967296))
  else if op = 2 then jumpH h i.rd.toNat ((h.pc + immN i.imm) % 4294967296)
  else if op = 3 then jumpH h i.rd.toNat ((h.x i.rs1.toNat + immN i.imm) % 4294967296 &&& 4294967294)
  else if op < 10 then (if holdsN (op - 4) (h.x i.rs1.toNat) (h.x i.rs2.toNat) then goH h ((h.pc + immN i.imm) % 4294967296) else nextH h)
  else if op < 27 then nextH (writeH h i.rd.toNat (doN (onN (op - 18)) (h.x i.rs1.toNat) (immN i.imm)))
  else if op < 45 then nextH (writeH h i.rd.toNat (doN (op - 27) (h.x i.rs1.toNat) (h.x i.rs2.toNat)))
  else if op < 47 then nextH h
  else if op = 47 then trapH h 11 0
  else if op = 48 then trapH h 3 h.pc
  else if op = 49 then goH (withC h (retN h.c)) h.c.ep
  else nextH ⟨h.pc, h.x, true, h.c⟩
def doOp (h : H) (op : Nat) (i : I6) (v lines : Nat) : H × A6 :=
  if kindN op = 76 then loadH h op i
  else if kindN op = 83 then storeH h op i
  else if kindN op = 67 then (controlH h op i v lines, noA)
  else (withinH h op i, noA)
/-- A hart that does an instruction, and what that asks for. -/
def doH (h : H) (v lines : Nat) : H × A6 :=
  match decOp v with
  | none => (trapH h 2 v, noA)
  | some op => doOp h op (toldN op v) v lines
end Go.Proofs.YtchjhpeogdkbmaaDoor
