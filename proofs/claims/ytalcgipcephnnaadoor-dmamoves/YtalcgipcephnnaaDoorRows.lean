/-
  NARROWER THAN 'FOR EVERY INPUT', by the rows' own cells (each row's printed sentence says how): DmaRegs: laid · DmaTicks: laid · DmaHolds: laid · DmaMoves: laid · DmaRound: laid · DmaStops: laid.
  DERIVED. THE GIVEN ROWS OF THIS SEAT. 6 by the template 'for every input the law returns true; each argument reads behind the call as it read before'; 0 by the template 'total and deterministic' (their statements: YtalcgipcephnnaaDoorTotals.lean).
  GIVEN WITH THE SEED: the statements are not yours to turn. If you find one false, say at which input.
  Laid BY PROGRAM, IN A SANDBOX (cutbox-rows.mjs): the forced cells as the released guide's own fill.sh prints them over the translation f361484263790b84… (all of the seat's roots in one cut). By AI agents, Wed Nov 11 2026. No macro, syntax, notation, axiom, sorry.
-/
import Derived.Test.YtalcgipcephnnaaDoorChecked
import GoSem.Claim
import GoSem.ClaimJoined
import GoSem.ClaimMapViews
import Derived.JoinedTies
import Derived.KernelRfl
namespace Go.Proofs.YtalcgipcephnnaaDoor
/- THE CELL 'sum', in the pinned program and in every row, IS THE sha256 OF THE DUMP (.gsa) THAT YtalcgipcephnnaaDoorProg.lean LOADS. Nothing in Lean hashes anything: it is a label: what it is worth is what the hold of that sum in a sandbox is worth. -/
noncomputable def Tryd.pinned : Pinned := { name := "ytalcgipcephnnaadoor", sum := "f361484263790b84e46e55f72cc8187ecea6454187e95df9acc6041fbc411886", checked := Tryd.checked }
namespace Rows
def none {H : Type} : Left H := { results := [], args := [] }

/- WHAT THE LISTED PACKAGE-LEVEL VARIABLES READ AS WHEN THE CALL BEGINS. Each datum BY PROGRAM (the guide's laid-datum.mjs) off the statement by which the dump's own 'gosem.cut.vars' lays the variable. In a bare row this is a premise. The card (YtalcgipcephnnaaDoorCards.lean) ties it to the program's text. -/
def laid_errors_errorType {H : Type} : DataW H := .iface "internal/reflectlite.rtype" (.agg [.ptr (.lit (.string [101, 114, 114, 111, 114]))])
def laid_pinnace_bus_areas {H : Type} : DataW H := .agg [.agg [.lit (.int .u32 0), .lit (.int .u32 0), .lit (.int .i64 0)], .agg [.lit (.int .u32 33554432), .lit (.int .u32 65536), .lit (.int .i64 4)], .agg [.lit (.int .u32 201326592), .lit (.int .u32 4194304), .lit (.int .i64 4)], .agg [.lit (.int .u32 268435456), .lit (.int .u32 8), .lit (.int .i64 1)], .agg [.lit (.int .u32 268500992), .lit (.int .u32 256), .lit (.int .i64 4)], .agg [.lit (.int .u32 268566528), .lit (.int .u32 512), .lit (.int .i64 4)], .agg [.lit (.int .u32 268632064), .lit (.int .u32 512), .lit (.int .i64 4)], .agg [.lit (.int .u32 2147483648), .lit (.int .u32 0), .lit (.int .i64 7)]]

/-- 'pinnacelaw12.DmaRegs': WHATEVER THE INPUT: true; the input reads as it did. -/
def dmaRegsSpec : ChangeSpec := { name := "dmaRegs", fn := fun _ => fun
  | [d1, d2, d3] => { results := [.lit (.bool true)], args := [d1, d2, d3] }
  | _ => none }
def dmaRegsRow : OpenClaim := { program := "ytalcgipcephnnaadoor", sum := "f361484263790b84e46e55f72cc8187ecea6454187e95df9acc6041fbc411886", func := "pinnace/pinnacelaw12.DmaRegs", spec := "dmaRegs", inPlace := ["internal/reflectlite.ValueOf", "(internal/reflectlite.Value).Type", "(internal/reflectlite.Value).IsNil", "internal/reflectlite.TypeOf", "(internal/reflectlite.Value).Elem", "(internal/reflectlite.Value).Set", "sync/atomic.AddInt64", "sync/atomic.LoadUint32", "(*internal/sync.Mutex).Lock", "internal/race.Disable", "sync/atomic.CompareAndSwapInt32", "internal/race.Enable", "internal/race.Acquire", "(*internal/sync.Mutex).lockSlow", "internal/sync.runtime_canSpin", "internal/sync.runtime_doSpin", "internal/sync.throw", "internal/sync.runtime_nanotime", "internal/sync.runtime_SemacquireMutex", "sync/atomic.AddInt32", "(*internal/sync.Mutex).Unlock", "internal/race.ReleaseMerge", "(*internal/sync.Mutex).unlockSlow", "internal/sync.fatal", "internal/sync.runtime_Semrelease", "sync/atomic.StoreUint32"], unfollowed := true, recurses := true, named := ["pinnace/bus.areas", "errors.errorType"], apart := false, laid := [("errors.errorType", laid_errors_errorType), ("pinnace/bus.areas", laid_pinnace_bus_areas)] }
def DmaRegsSaid : Prop := dmaRegsRow.holds Tryd.pinned (OpenSpec.ofChange dmaRegsSpec)

/-- ITS FALSE NEIGHBOUR: 'it returns false'. Refute it at one input. -/
def dmaRegsWrong : ChangeSpec := { name := "dmaRegs", fn := fun _ => fun
  | [d1, d2, d3] => { results := [.lit (.bool false)], args := [d1, d2, d3] }
  | _ => none }
def DmaRegsWrongFalsely : Prop := dmaRegsRow.holds Tryd.pinned (OpenSpec.ofChange dmaRegsWrong)

/-- 'pinnacelaw12.DmaTicks': WHATEVER THE INPUT: true; the input reads as it did. -/
def dmaTicksSpec : ChangeSpec := { name := "dmaTicks", fn := fun _ => fun
  | [d1, d2, d3] => { results := [.lit (.bool true)], args := [d1, d2, d3] }
  | _ => none }
def dmaTicksRow : OpenClaim := { program := "ytalcgipcephnnaadoor", sum := "f361484263790b84e46e55f72cc8187ecea6454187e95df9acc6041fbc411886", func := "pinnace/pinnacelaw12.DmaTicks", spec := "dmaTicks", inPlace := ["sync/atomic.AddInt64", "sync/atomic.LoadUint32", "(*internal/sync.Mutex).Lock", "internal/race.Disable", "sync/atomic.CompareAndSwapInt32", "internal/race.Enable", "internal/race.Acquire", "(*internal/sync.Mutex).lockSlow", "internal/sync.runtime_canSpin", "internal/sync.runtime_doSpin", "internal/sync.throw", "internal/sync.runtime_nanotime", "internal/sync.runtime_SemacquireMutex", "sync/atomic.AddInt32", "(*internal/sync.Mutex).Unlock", "internal/race.ReleaseMerge", "(*internal/sync.Mutex).unlockSlow", "internal/sync.fatal", "internal/sync.runtime_Semrelease", "sync/atomic.StoreUint32"], unfollowed := true, recurses := true, named := ["pinnace/bus.areas"], apart := false, laid := [("pinnace/bus.areas", laid_pinnace_bus_areas)] }
def DmaTicksSaid : Prop := dmaTicksRow.holds Tryd.pinned (OpenSpec.ofChange dmaTicksSpec)

/-- ITS FALSE NEIGHBOUR: 'it returns false'. Refute it at one input. -/
def dmaTicksWrong : ChangeSpec := { name := "dmaTicks", fn := fun _ => fun
  | [d1, d2, d3] => { results := [.lit (.bool false)], args := [d1, d2, d3] }
  | _ => none }
def DmaTicksWrongFalsely : Prop := dmaTicksRow.holds Tryd.pinned (OpenSpec.ofChange dmaTicksWrong)

/-- 'pinnacelaw12.DmaHolds': WHATEVER THE INPUT: true; the input reads as it did. -/
def dmaHoldsSpec : ChangeSpec := { name := "dmaHolds", fn := fun _ => fun
  | [d1, d2] => { results := [.lit (.bool true)], args := [d1, d2] }
  | _ => none }
def dmaHoldsRow : OpenClaim := { program := "ytalcgipcephnnaadoor", sum := "f361484263790b84e46e55f72cc8187ecea6454187e95df9acc6041fbc411886", func := "pinnace/pinnacelaw12.DmaHolds", spec := "dmaHolds", inPlace := ["sync/atomic.AddInt64", "sync/atomic.LoadUint32", "(*internal/sync.Mutex).Lock", "internal/race.Disable", "sync/atomic.CompareAndSwapInt32", "internal/race.Enable", "internal/race.Acquire", "(*internal/sync.Mutex).lockSlow", "internal/sync.runtime_canSpin", "internal/sync.runtime_doSpin", "internal/sync.throw", "internal/sync.runtime_nanotime", "internal/sync.runtime_SemacquireMutex", "sync/atomic.AddInt32", "(*internal/sync.Mutex).Unlock", "internal/race.ReleaseMerge", "(*internal/sync.Mutex).unlockSlow", "internal/sync.fatal", "internal/sync.runtime_Semrelease", "sync/atomic.StoreUint32", "sync/atomic.LoadInt64", "sync/atomic.StoreInt64"], unfollowed := true, recurses := true, named := ["pinnace/bus.areas"], apart := false, laid := [("pinnace/bus.areas", laid_pinnace_bus_areas)] }
def DmaHoldsSaid : Prop := dmaHoldsRow.holds Tryd.pinned (OpenSpec.ofChange dmaHoldsSpec)

/-- ITS FALSE NEIGHBOUR: 'it returns false'. Refute it at one input. -/
def dmaHoldsWrong : ChangeSpec := { name := "dmaHolds", fn := fun _ => fun
  | [d1, d2] => { results := [.lit (.bool false)], args := [d1, d2] }
  | _ => none }
def DmaHoldsWrongFalsely : Prop := dmaHoldsRow.holds Tryd.pinned (OpenSpec.ofChange dmaHoldsWrong)

/-- 'pinnacelaw12.DmaMoves': WHATEVER THE INPUT: true; the input reads as it did. -/
def dmaMovesSpec : ChangeSpec := { name := "dmaMoves", fn := fun _ => fun
  | [d] => { results := [.lit (.bool true)], args := [d] }
  | _ => none }
def dmaMovesRow : OpenClaim := { program := "ytalcgipcephnnaadoor", sum := "f361484263790b84e46e55f72cc8187ecea6454187e95df9acc6041fbc411886", func := "pinnace/pinnacelaw12.DmaMoves", spec := "dmaMoves", inPlace := ["sync/atomic.AddInt64", "sync/atomic.LoadUint32", "(*internal/sync.Mutex).Lock", "internal/race.Disable", "sync/atomic.CompareAndSwapInt32", "internal/race.Enable", "internal/race.Acquire", "(*internal/sync.Mutex).lockSlow", "internal/sync.runtime_canSpin", "internal/sync.runtime_doSpin", "internal/sync.throw", "internal/sync.runtime_nanotime", "internal/sync.runtime_SemacquireMutex", "sync/atomic.AddInt32", "(*internal/sync.Mutex).Unlock", "internal/race.ReleaseMerge", "(*internal/sync.Mutex).unlockSlow", "internal/sync.fatal", "internal/sync.runtime_Semrelease", "sync/atomic.StoreUint32"], unfollowed := true, recurses := true, named := ["pinnace/bus.areas"], apart := false, laid := [("pinnace/bus.areas", laid_pinnace_bus_areas)] }
def DmaMovesSaid : Prop := dmaMovesRow.holds Tryd.pinned (OpenSpec.ofChange dmaMovesSpec)

/-- ITS FALSE NEIGHBOUR: 'it returns false'. Refute it at one input. -/
def dmaMovesWrong : ChangeSpec := { name := "dmaMoves", fn := fun _ => fun
  | [d] => { results := [.lit (.bool false)], args := [d] }
  | _ => none }
def DmaMovesWrongFalsely : Prop := dmaMovesRow.holds Tryd.pinned (OpenSpec.ofChange dmaMovesWrong)

/-- 'pinnacelaw12.DmaRound': WHATEVER THE INPUT: true; the input reads as it did. -/
def dmaRoundSpec : ChangeSpec := { name := "dmaRound", fn := fun _ => fun
  | [d1, d2] => { results := [.lit (.bool true)], args := [d1, d2] }
  | _ => none }
def dmaRoundRow : OpenClaim := { program := "ytalcgipcephnnaadoor", sum := "f361484263790b84e46e55f72cc8187ecea6454187e95df9acc6041fbc411886", func := "pinnace/pinnacelaw12.DmaRound", spec := "dmaRound", inPlace := ["sync/atomic.AddInt64", "sync/atomic.LoadUint32", "(*internal/sync.Mutex).Lock", "internal/race.Disable", "sync/atomic.CompareAndSwapInt32", "internal/race.Enable", "internal/race.Acquire", "(*internal/sync.Mutex).lockSlow", "internal/sync.runtime_canSpin", "internal/sync.runtime_doSpin", "internal/sync.throw", "internal/sync.runtime_nanotime", "internal/sync.runtime_SemacquireMutex", "sync/atomic.AddInt32", "(*internal/sync.Mutex).Unlock", "internal/race.ReleaseMerge", "(*internal/sync.Mutex).unlockSlow", "internal/sync.fatal", "internal/sync.runtime_Semrelease", "sync/atomic.StoreUint32"], unfollowed := true, recurses := true, named := ["pinnace/bus.areas"], apart := false, laid := [("pinnace/bus.areas", laid_pinnace_bus_areas)] }
def DmaRoundSaid : Prop := dmaRoundRow.holds Tryd.pinned (OpenSpec.ofChange dmaRoundSpec)

/-- ITS FALSE NEIGHBOUR: 'it returns false'. Refute it at one input. -/
def dmaRoundWrong : ChangeSpec := { name := "dmaRound", fn := fun _ => fun
  | [d1, d2] => { results := [.lit (.bool false)], args := [d1, d2] }
  | _ => none }
def DmaRoundWrongFalsely : Prop := dmaRoundRow.holds Tryd.pinned (OpenSpec.ofChange dmaRoundWrong)

/-- 'pinnacelaw12.DmaStops': WHATEVER THE INPUT: true; the input reads as it did. -/
def dmaStopsSpec : ChangeSpec := { name := "dmaStops", fn := fun _ => fun
  | [d1, d2, d3] => { results := [.lit (.bool true)], args := [d1, d2, d3] }
  | _ => none }
def dmaStopsRow : OpenClaim := { program := "ytalcgipcephnnaadoor", sum := "f361484263790b84e46e55f72cc8187ecea6454187e95df9acc6041fbc411886", func := "pinnace/pinnacelaw12.DmaStops", spec := "dmaStops", inPlace := ["sync/atomic.AddInt64", "sync/atomic.LoadUint32", "(*internal/sync.Mutex).Lock", "internal/race.Disable", "sync/atomic.CompareAndSwapInt32", "internal/race.Enable", "internal/race.Acquire", "(*internal/sync.Mutex).lockSlow", "internal/sync.runtime_canSpin", "internal/sync.runtime_doSpin", "internal/sync.throw", "internal/sync.runtime_nanotime", "internal/sync.runtime_SemacquireMutex", "sync/atomic.AddInt32", "(*internal/sync.Mutex).Unlock", "internal/race.ReleaseMerge", "(*internal/sync.Mutex).unlockSlow", "internal/sync.fatal", "internal/sync.runtime_Semrelease", "sync/atomic.StoreUint32", "sync/atomic.LoadInt64", "sync/atomic.StoreInt64"], unfollowed := true, recurses := true, named := ["pinnace/bus.areas"], apart := false, laid := [("pinnace/bus.areas", laid_pinnace_bus_areas)] }
def DmaStopsSaid : Prop := dmaStopsRow.holds Tryd.pinned (OpenSpec.ofChange dmaStopsSpec)

/-- ITS FALSE NEIGHBOUR: 'it returns false'. Refute it at one input. -/
def dmaStopsWrong : ChangeSpec := { name := "dmaStops", fn := fun _ => fun
  | [d1, d2, d3] => { results := [.lit (.bool false)], args := [d1, d2, d3] }
  | _ => none }
def DmaStopsWrongFalsely : Prop := dmaStopsRow.holds Tryd.pinned (OpenSpec.ofChange dmaStopsWrong)

/- THE SECOND FORM. 'bulk': how many values and letters a reading holds, each counted each time it is reached (what is shared counts as often as it is met; a slice's spare places count too). A statement '..UptoSaid' is the law's where the arguments, and the package variables that the reading takes, are together of bulk at most 1048576: NARROWER than '..Said'. Prove '..Said' where nothing that the law and all that it calls make is longer than what came in: it says more and counts as full. Else prove '..UptoSaid'. A law counts once. -/
mutual
def uptoBulk {H : Type} : DataW H → Nat
  | .lit (.string bytes) => bytes.length + 1
  | .lit _ => 1
  | .nil => 1
  | .ptr d => uptoBulk d + 1
  | .slice elems spare => uptoBulkAll elems + uptoBulkAll spare + 1
  | .agg parts => uptoBulkAll parts + 1
  | .iface _ d => uptoBulk d + 1
  | .map entries => uptoBulkEntries entries + 1
  | .held _ => 1
def uptoBulkAll {H : Type} : List (DataW H) → Nat
  | [] => 0
  | d :: r => uptoBulk d + uptoBulkAll r
def uptoBulkEntries {H : Type} : List (Lit × DataW H) → Nat
  | [] => 0
  | x :: r => uptoBulkEntry x + uptoBulkEntries r
def uptoBulkEntry {H : Type} : Lit × DataW H → Nat
  | (.string bytes, d) => bytes.length + uptoBulk d + 1
  | (_, d) => uptoBulk d + 1
 end
def uptoSmall : (H : Type) → List (DataW H) → Bool := fun _ ds => decide (uptoBulkAll ds ≤ 1048576)
def OpenSpec.upto (s : _root_.Go.ChangeSpec) : _root_.Go.OpenSpec := { _root_.Go.OpenSpec.ofChange s with cond := some uptoSmall }

/-- 'pinnacelaw12.DmaRegs', WHERE WHAT IT READS IS OF BULK AT MOST 1048576: true; the input reads as it did. -/
def dmaRegsUptoRow : OpenClaim := { program := "ytalcgipcephnnaadoor", sum := "f361484263790b84e46e55f72cc8187ecea6454187e95df9acc6041fbc411886", func := "pinnace/pinnacelaw12.DmaRegs", spec := "dmaRegs", inPlace := ["internal/reflectlite.ValueOf", "(internal/reflectlite.Value).Type", "(internal/reflectlite.Value).IsNil", "internal/reflectlite.TypeOf", "(internal/reflectlite.Value).Elem", "(internal/reflectlite.Value).Set", "sync/atomic.AddInt64", "sync/atomic.LoadUint32", "(*internal/sync.Mutex).Lock", "internal/race.Disable", "sync/atomic.CompareAndSwapInt32", "internal/race.Enable", "internal/race.Acquire", "(*internal/sync.Mutex).lockSlow", "internal/sync.runtime_canSpin", "internal/sync.runtime_doSpin", "internal/sync.throw", "internal/sync.runtime_nanotime", "internal/sync.runtime_SemacquireMutex", "sync/atomic.AddInt32", "(*internal/sync.Mutex).Unlock", "internal/race.ReleaseMerge", "(*internal/sync.Mutex).unlockSlow", "internal/sync.fatal", "internal/sync.runtime_Semrelease", "sync/atomic.StoreUint32"], unfollowed := true, recurses := true, named := ["pinnace/bus.areas", "errors.errorType"], apart := false, laid := [("errors.errorType", laid_errors_errorType), ("pinnace/bus.areas", laid_pinnace_bus_areas)], narrowed := true }
def DmaRegsUptoSaid : Prop := dmaRegsUptoRow.holds Tryd.pinned (OpenSpec.upto dmaRegsSpec)

/-- 'pinnacelaw12.DmaTicks', WHERE WHAT IT READS IS OF BULK AT MOST 1048576: true; the input reads as it did. -/
def dmaTicksUptoRow : OpenClaim := { program := "ytalcgipcephnnaadoor", sum := "f361484263790b84e46e55f72cc8187ecea6454187e95df9acc6041fbc411886", func := "pinnace/pinnacelaw12.DmaTicks", spec := "dmaTicks", inPlace := ["sync/atomic.AddInt64", "sync/atomic.LoadUint32", "(*internal/sync.Mutex).Lock", "internal/race.Disable", "sync/atomic.CompareAndSwapInt32", "internal/race.Enable", "internal/race.Acquire", "(*internal/sync.Mutex).lockSlow", "internal/sync.runtime_canSpin", "internal/sync.runtime_doSpin", "internal/sync.throw", "internal/sync.runtime_nanotime", "internal/sync.runtime_SemacquireMutex", "sync/atomic.AddInt32", "(*internal/sync.Mutex).Unlock", "internal/race.ReleaseMerge", "(*internal/sync.Mutex).unlockSlow", "internal/sync.fatal", "internal/sync.runtime_Semrelease", "sync/atomic.StoreUint32"], unfollowed := true, recurses := true, named := ["pinnace/bus.areas"], apart := false, laid := [("pinnace/bus.areas", laid_pinnace_bus_areas)], narrowed := true }
def DmaTicksUptoSaid : Prop := dmaTicksUptoRow.holds Tryd.pinned (OpenSpec.upto dmaTicksSpec)

/-- 'pinnacelaw12.DmaHolds', WHERE WHAT IT READS IS OF BULK AT MOST 1048576: true; the input reads as it did. -/
def dmaHoldsUptoRow : OpenClaim := { program := "ytalcgipcephnnaadoor", sum := "f361484263790b84e46e55f72cc8187ecea6454187e95df9acc6041fbc411886", func := "pinnace/pinnacelaw12.DmaHolds", spec := "dmaHolds", inPlace := ["sync/atomic.AddInt64", "sync/atomic.LoadUint32", "(*internal/sync.Mutex).Lock", "internal/race.Disable", "sync/atomic.CompareAndSwapInt32", "internal/race.Enable", "internal/race.Acquire", "(*internal/sync.Mutex).lockSlow", "internal/sync.runtime_canSpin", "internal/sync.runtime_doSpin", "internal/sync.throw", "internal/sync.runtime_nanotime", "internal/sync.runtime_SemacquireMutex", "sync/atomic.AddInt32", "(*internal/sync.Mutex).Unlock", "internal/race.ReleaseMerge", "(*internal/sync.Mutex).unlockSlow", "internal/sync.fatal", "internal/sync.runtime_Semrelease", "sync/atomic.StoreUint32", "sync/atomic.LoadInt64", "sync/atomic.StoreInt64"], unfollowed := true, recurses := true, named := ["pinnace/bus.areas"], apart := false, laid := [("pinnace/bus.areas", laid_pinnace_bus_areas)], narrowed := true }
def DmaHoldsUptoSaid : Prop := dmaHoldsUptoRow.holds Tryd.pinned (OpenSpec.upto dmaHoldsSpec)

/-- 'pinnacelaw12.DmaMoves', WHERE WHAT IT READS IS OF BULK AT MOST 1048576: true; the input reads as it did. -/
def dmaMovesUptoRow : OpenClaim := { program := "ytalcgipcephnnaadoor", sum := "f361484263790b84e46e55f72cc8187ecea6454187e95df9acc6041fbc411886", func := "pinnace/pinnacelaw12.DmaMoves", spec := "dmaMoves", inPlace := ["sync/atomic.AddInt64", "sync/atomic.LoadUint32", "(*internal/sync.Mutex).Lock", "internal/race.Disable", "sync/atomic.CompareAndSwapInt32", "internal/race.Enable", "internal/race.Acquire", "(*internal/sync.Mutex).lockSlow", "internal/sync.runtime_canSpin", "internal/sync.runtime_doSpin", "internal/sync.throw", "internal/sync.runtime_nanotime", "internal/sync.runtime_SemacquireMutex", "sync/atomic.AddInt32", "(*internal/sync.Mutex).Unlock", "internal/race.ReleaseMerge", "(*internal/sync.Mutex).unlockSlow", "internal/sync.fatal", "internal/sync.runtime_Semrelease", "sync/atomic.StoreUint32"], unfollowed := true, recurses := true, named := ["pinnace/bus.areas"], apart := false, laid := [("pinnace/bus.areas", laid_pinnace_bus_areas)], narrowed := true }
def DmaMovesUptoSaid : Prop := dmaMovesUptoRow.holds Tryd.pinned (OpenSpec.upto dmaMovesSpec)

/-- 'pinnacelaw12.DmaRound', WHERE WHAT IT READS IS OF BULK AT MOST 1048576: true; the input reads as it did. -/
def dmaRoundUptoRow : OpenClaim := { program := "ytalcgipcephnnaadoor", sum := "f361484263790b84e46e55f72cc8187ecea6454187e95df9acc6041fbc411886", func := "pinnace/pinnacelaw12.DmaRound", spec := "dmaRound", inPlace := ["sync/atomic.AddInt64", "sync/atomic.LoadUint32", "(*internal/sync.Mutex).Lock", "internal/race.Disable", "sync/atomic.CompareAndSwapInt32", "internal/race.Enable", "internal/race.Acquire", "(*internal/sync.Mutex).lockSlow", "internal/sync.runtime_canSpin", "internal/sync.runtime_doSpin", "internal/sync.throw", "internal/sync.runtime_nanotime", "internal/sync.runtime_SemacquireMutex", "sync/atomic.AddInt32", "(*internal/sync.Mutex).Unlock", "internal/race.ReleaseMerge", "(*internal/sync.Mutex).unlockSlow", "internal/sync.fatal", "internal/sync.runtime_Semrelease", "sync/atomic.StoreUint32"], unfollowed := true, recurses := true, named := ["pinnace/bus.areas"], apart := false, laid := [("pinnace/bus.areas", laid_pinnace_bus_areas)], narrowed := true }
def DmaRoundUptoSaid : Prop := dmaRoundUptoRow.holds Tryd.pinned (OpenSpec.upto dmaRoundSpec)

/-- 'pinnacelaw12.DmaStops', WHERE WHAT IT READS IS OF BULK AT MOST 1048576: true; the input reads as it did. -/
def dmaStopsUptoRow : OpenClaim := { program := "ytalcgipcephnnaadoor", sum := "f361484263790b84e46e55f72cc8187ecea6454187e95df9acc6041fbc411886", func := "pinnace/pinnacelaw12.DmaStops", spec := "dmaStops", inPlace := ["sync/atomic.AddInt64", "sync/atomic.LoadUint32", "(*internal/sync.Mutex).Lock", "internal/race.Disable", "sync/atomic.CompareAndSwapInt32", "internal/race.Enable", "internal/race.Acquire", "(*internal/sync.Mutex).lockSlow", "internal/sync.runtime_canSpin", "internal/sync.runtime_doSpin", "internal/sync.throw", "internal/sync.runtime_nanotime", "internal/sync.runtime_SemacquireMutex", "sync/atomic.AddInt32", "(*internal/sync.Mutex).Unlock", "internal/race.ReleaseMerge", "(*internal/sync.Mutex).unlockSlow", "internal/sync.fatal", "internal/sync.runtime_Semrelease", "sync/atomic.StoreUint32", "sync/atomic.LoadInt64", "sync/atomic.StoreInt64"], unfollowed := true, recurses := true, named := ["pinnace/bus.areas"], apart := false, laid := [("pinnace/bus.areas", laid_pinnace_bus_areas)], narrowed := true }
def DmaStopsUptoSaid : Prop := dmaStopsUptoRow.holds Tryd.pinned (OpenSpec.upto dmaStopsSpec)

end Rows
end Go.Proofs.YtalcgipcephnnaaDoor
