/-
  NARROWER THAN 'FOR EVERY INPUT', by the rows' own cells (each row's printed sentence says how): BlkPolls: laid · BlkFinishes: laid · BlkHolds: laid · BlkReads: laid · BlkWrites: laid.
  DERIVED. THE GIVEN ROWS OF THIS SEAT. 5 by the template 'for every input the law returns true; each argument reads behind the call as it read before'; 0 by the template 'total and deterministic' (their statements: YtaaiockiojejeaaGreatDoorTotals.lean).
  GIVEN WITH THE SEED: the statements are not yours to turn. If you find one false, say at which input.
  Laid BY PROGRAM, IN A SANDBOX (cutbox-rows.mjs): the forced cells as the released guide's own fill.sh prints them over the translation 65983cc7ce875617… (all of the seat's roots in one cut). By AI agents, Wed Nov 11 2026. No macro, syntax, notation, axiom, sorry.
-/
import Derived.Test.YtaaiockiojejeaaGreatDoorChecked
import GoSem.Claim
import GoSem.ClaimJoined
import GoSem.ClaimMapViews
import Derived.JoinedTies
import Derived.KernelRfl
namespace Go.Proofs.YtaaiockiojejeaaGreatDoor
/- THE CELL 'sum', in the pinned program and in every row, IS THE sha256 OF THE DUMP (.gsa) THAT YtaaiockiojejeaaGreatDoorProg.lean LOADS. Nothing in Lean hashes anything: it is a label: what it is worth is what the hold of that sum in a sandbox is worth. -/
noncomputable def Tryz.pinned : Pinned := { name := "ytaaiockiojejeaagreatdoor", sum := "65983cc7ce8756174b939997a0001b0e9d73d5e7496feee8df50d28a03b4fa97", checked := Tryz.checked }
namespace Rows
def none {H : Type} : Left H := { results := [], args := [] }

/- WHAT THE LISTED PACKAGE-LEVEL VARIABLES READ AS WHEN THE CALL BEGINS. Each datum BY PROGRAM (the guide's laid-datum.mjs) off the statement by which the dump's own 'gosem.cut.vars' lays the variable. In a bare row this is a premise. The card (YtaaiockiojejeaaGreatDoorCards.lean) ties it to the program's text. -/
def laid_pinnace_bus_areas {H : Type} : DataW H := .agg [.agg [.lit (.int .u32 0), .lit (.int .u32 0), .lit (.int .i64 0)], .agg [.lit (.int .u32 33554432), .lit (.int .u32 65536), .lit (.int .i64 4)], .agg [.lit (.int .u32 201326592), .lit (.int .u32 4194304), .lit (.int .i64 4)], .agg [.lit (.int .u32 268435456), .lit (.int .u32 8), .lit (.int .i64 1)], .agg [.lit (.int .u32 268500992), .lit (.int .u32 256), .lit (.int .i64 4)], .agg [.lit (.int .u32 268566528), .lit (.int .u32 512), .lit (.int .i64 4)], .agg [.lit (.int .u32 268632064), .lit (.int .u32 512), .lit (.int .i64 4)], .agg [.lit (.int .u32 2147483648), .lit (.int .u32 0), .lit (.int .i64 7)]]
def laid_errors_errorType {H : Type} : DataW H := .iface "internal/reflectlite.rtype" (.agg [.ptr (.lit (.string [101, 114, 114, 111, 114]))])
def laid_pinnace_virtio_offered {H : Type} : DataW H := .agg [.lit (.int .u32 0), .lit (.int .u32 1)]

/-- 'pinnacelaw15.BlkPolls': WHATEVER THE INPUT: true; the input reads as it did. -/
def blkPollsSpec : ChangeSpec := { name := "blkPolls", fn := fun _ => fun
  | [d1, d2] => { results := [.lit (.bool true)], args := [d1, d2] }
  | _ => none }
def blkPollsRow : OpenClaim := { program := "ytaaiockiojejeaagreatdoor", sum := "65983cc7ce8756174b939997a0001b0e9d73d5e7496feee8df50d28a03b4fa97", func := "pinnace/pinnacelaw15.BlkPolls", spec := "blkPolls", inPlace := ["sync/atomic.AddInt64", "sync/atomic.LoadUint32", "(*internal/sync.Mutex).Lock", "internal/race.Disable", "sync/atomic.CompareAndSwapInt32", "internal/race.Enable", "internal/race.Acquire", "(*internal/sync.Mutex).lockSlow", "internal/sync.runtime_canSpin", "internal/sync.runtime_doSpin", "internal/sync.throw", "internal/sync.runtime_nanotime", "internal/sync.runtime_SemacquireMutex", "sync/atomic.AddInt32", "(*internal/sync.Mutex).Unlock", "internal/race.ReleaseMerge", "(*internal/sync.Mutex).unlockSlow", "internal/sync.fatal", "internal/sync.runtime_Semrelease", "sync/atomic.StoreUint32"], unfollowed := true, recurses := true, named := ["pinnace/bus.areas"], apart := false, laid := [("pinnace/bus.areas", laid_pinnace_bus_areas)] }
def BlkPollsSaid : Prop := blkPollsRow.holds Tryz.pinned (OpenSpec.ofChange blkPollsSpec)

/-- ITS FALSE NEIGHBOUR: 'it returns false'. Refute it at one input. -/
def blkPollsWrong : ChangeSpec := { name := "blkPolls", fn := fun _ => fun
  | [d1, d2] => { results := [.lit (.bool false)], args := [d1, d2] }
  | _ => none }
def BlkPollsWrongFalsely : Prop := blkPollsRow.holds Tryz.pinned (OpenSpec.ofChange blkPollsWrong)

/-- 'pinnacelaw15.BlkFinishes': WHATEVER THE INPUT: true; the input reads as it did. -/
def blkFinishesSpec : ChangeSpec := { name := "blkFinishes", fn := fun _ => fun
  | [d1, d2, d3] => { results := [.lit (.bool true)], args := [d1, d2, d3] }
  | _ => none }
def blkFinishesRow : OpenClaim := { program := "ytaaiockiojejeaagreatdoor", sum := "65983cc7ce8756174b939997a0001b0e9d73d5e7496feee8df50d28a03b4fa97", func := "pinnace/pinnacelaw15.BlkFinishes", spec := "blkFinishes", inPlace := ["sync/atomic.AddInt64", "sync/atomic.LoadUint32", "(*internal/sync.Mutex).Lock", "internal/race.Disable", "sync/atomic.CompareAndSwapInt32", "internal/race.Enable", "internal/race.Acquire", "(*internal/sync.Mutex).lockSlow", "internal/sync.runtime_canSpin", "internal/sync.runtime_doSpin", "internal/sync.throw", "internal/sync.runtime_nanotime", "internal/sync.runtime_SemacquireMutex", "sync/atomic.AddInt32", "(*internal/sync.Mutex).Unlock", "internal/race.ReleaseMerge", "(*internal/sync.Mutex).unlockSlow", "internal/sync.fatal", "internal/sync.runtime_Semrelease", "sync/atomic.StoreUint32", "internal/reflectlite.ValueOf", "(internal/reflectlite.Value).Type", "(internal/reflectlite.Value).IsNil", "internal/reflectlite.TypeOf", "(internal/reflectlite.Value).Elem", "(internal/reflectlite.Value).Set"], unfollowed := true, recurses := true, named := ["pinnace/bus.areas", "errors.errorType"], apart := false, laid := [("errors.errorType", laid_errors_errorType), ("pinnace/bus.areas", laid_pinnace_bus_areas)] }
def BlkFinishesSaid : Prop := blkFinishesRow.holds Tryz.pinned (OpenSpec.ofChange blkFinishesSpec)

/-- ITS FALSE NEIGHBOUR: 'it returns false'. Refute it at one input. -/
def blkFinishesWrong : ChangeSpec := { name := "blkFinishes", fn := fun _ => fun
  | [d1, d2, d3] => { results := [.lit (.bool false)], args := [d1, d2, d3] }
  | _ => none }
def BlkFinishesWrongFalsely : Prop := blkFinishesRow.holds Tryz.pinned (OpenSpec.ofChange blkFinishesWrong)

/-- 'pinnacelaw15.BlkHolds': WHATEVER THE INPUT: true; the input reads as it did. -/
def blkHoldsSpec : ChangeSpec := { name := "blkHolds", fn := fun _ => fun
  | [d1, d2, d3] => { results := [.lit (.bool true)], args := [d1, d2, d3] }
  | _ => none }
def blkHoldsRow : OpenClaim := { program := "ytaaiockiojejeaagreatdoor", sum := "65983cc7ce8756174b939997a0001b0e9d73d5e7496feee8df50d28a03b4fa97", func := "pinnace/pinnacelaw15.BlkHolds", spec := "blkHolds", inPlace := ["sync/atomic.AddInt64", "sync/atomic.LoadUint32", "(*internal/sync.Mutex).Lock", "internal/race.Disable", "sync/atomic.CompareAndSwapInt32", "internal/race.Enable", "internal/race.Acquire", "(*internal/sync.Mutex).lockSlow", "internal/sync.runtime_canSpin", "internal/sync.runtime_doSpin", "internal/sync.throw", "internal/sync.runtime_nanotime", "internal/sync.runtime_SemacquireMutex", "sync/atomic.AddInt32", "(*internal/sync.Mutex).Unlock", "internal/race.ReleaseMerge", "(*internal/sync.Mutex).unlockSlow", "internal/sync.fatal", "internal/sync.runtime_Semrelease", "sync/atomic.StoreUint32", "internal/reflectlite.ValueOf", "(internal/reflectlite.Value).Type", "(internal/reflectlite.Value).IsNil", "internal/reflectlite.TypeOf", "(internal/reflectlite.Value).Elem", "(internal/reflectlite.Value).Set"], unfollowed := true, recurses := true, named := ["pinnace/bus.areas", "pinnace/virtio.offered", "errors.errorType"], apart := false, laid := [("errors.errorType", laid_errors_errorType), ("pinnace/bus.areas", laid_pinnace_bus_areas), ("pinnace/virtio.offered", laid_pinnace_virtio_offered)] }
def BlkHoldsSaid : Prop := blkHoldsRow.holds Tryz.pinned (OpenSpec.ofChange blkHoldsSpec)

/-- ITS FALSE NEIGHBOUR: 'it returns false'. Refute it at one input. -/
def blkHoldsWrong : ChangeSpec := { name := "blkHolds", fn := fun _ => fun
  | [d1, d2, d3] => { results := [.lit (.bool false)], args := [d1, d2, d3] }
  | _ => none }
def BlkHoldsWrongFalsely : Prop := blkHoldsRow.holds Tryz.pinned (OpenSpec.ofChange blkHoldsWrong)

/-- 'pinnacelaw15.BlkReads': WHATEVER THE INPUT: true; the input reads as it did. -/
def blkReadsSpec : ChangeSpec := { name := "blkReads", fn := fun _ => fun
  | [d1, d2, d3] => { results := [.lit (.bool true)], args := [d1, d2, d3] }
  | _ => none }
def blkReadsRow : OpenClaim := { program := "ytaaiockiojejeaagreatdoor", sum := "65983cc7ce8756174b939997a0001b0e9d73d5e7496feee8df50d28a03b4fa97", func := "pinnace/pinnacelaw15.BlkReads", spec := "blkReads", inPlace := ["sync/atomic.AddInt64", "sync/atomic.LoadUint32", "(*internal/sync.Mutex).Lock", "internal/race.Disable", "sync/atomic.CompareAndSwapInt32", "internal/race.Enable", "internal/race.Acquire", "(*internal/sync.Mutex).lockSlow", "internal/sync.runtime_canSpin", "internal/sync.runtime_doSpin", "internal/sync.throw", "internal/sync.runtime_nanotime", "internal/sync.runtime_SemacquireMutex", "sync/atomic.AddInt32", "(*internal/sync.Mutex).Unlock", "internal/race.ReleaseMerge", "(*internal/sync.Mutex).unlockSlow", "internal/sync.fatal", "internal/sync.runtime_Semrelease", "sync/atomic.StoreUint32"], unfollowed := true, recurses := true, named := ["pinnace/bus.areas"], apart := false, laid := [("pinnace/bus.areas", laid_pinnace_bus_areas)] }
def BlkReadsSaid : Prop := blkReadsRow.holds Tryz.pinned (OpenSpec.ofChange blkReadsSpec)

/-- ITS FALSE NEIGHBOUR: 'it returns false'. Refute it at one input. -/
def blkReadsWrong : ChangeSpec := { name := "blkReads", fn := fun _ => fun
  | [d1, d2, d3] => { results := [.lit (.bool false)], args := [d1, d2, d3] }
  | _ => none }
def BlkReadsWrongFalsely : Prop := blkReadsRow.holds Tryz.pinned (OpenSpec.ofChange blkReadsWrong)

/-- 'pinnacelaw15.BlkWrites': WHATEVER THE INPUT: true; the input reads as it did. -/
def blkWritesSpec : ChangeSpec := { name := "blkWrites", fn := fun _ => fun
  | [d1, d2, d3] => { results := [.lit (.bool true)], args := [d1, d2, d3] }
  | _ => none }
def blkWritesRow : OpenClaim := { program := "ytaaiockiojejeaagreatdoor", sum := "65983cc7ce8756174b939997a0001b0e9d73d5e7496feee8df50d28a03b4fa97", func := "pinnace/pinnacelaw15.BlkWrites", spec := "blkWrites", inPlace := ["sync/atomic.AddInt64", "sync/atomic.LoadUint32", "(*internal/sync.Mutex).Lock", "internal/race.Disable", "sync/atomic.CompareAndSwapInt32", "internal/race.Enable", "internal/race.Acquire", "(*internal/sync.Mutex).lockSlow", "internal/sync.runtime_canSpin", "internal/sync.runtime_doSpin", "internal/sync.throw", "internal/sync.runtime_nanotime", "internal/sync.runtime_SemacquireMutex", "sync/atomic.AddInt32", "(*internal/sync.Mutex).Unlock", "internal/race.ReleaseMerge", "(*internal/sync.Mutex).unlockSlow", "internal/sync.fatal", "internal/sync.runtime_Semrelease", "sync/atomic.StoreUint32"], unfollowed := true, recurses := true, named := ["pinnace/bus.areas"], apart := false, laid := [("pinnace/bus.areas", laid_pinnace_bus_areas)] }
def BlkWritesSaid : Prop := blkWritesRow.holds Tryz.pinned (OpenSpec.ofChange blkWritesSpec)

/-- ITS FALSE NEIGHBOUR: 'it returns false'. Refute it at one input. -/
def blkWritesWrong : ChangeSpec := { name := "blkWrites", fn := fun _ => fun
  | [d1, d2, d3] => { results := [.lit (.bool false)], args := [d1, d2, d3] }
  | _ => none }
def BlkWritesWrongFalsely : Prop := blkWritesRow.holds Tryz.pinned (OpenSpec.ofChange blkWritesWrong)

/- THE SECOND FORM. 'bulk': how many values and letters a reading holds, each counted each time it is reached (what is shared counts as often as it is met; a slice's spare places count too). A statement '..UptoSaid' is the law's where the arguments, and the package variables that the reading takes, are together of bulk at most 1048576: NARROWER than '..Said'. Prove '..Said' where nothing that the law and all that it calls make is longer than what came in: it says more and counts as full. Else prove '..UptoSaid'. A law counts once. -/
mutual
def uptoBulk {H : Type} : DataW H → Nat
  | .lit (.string bytes) => bytes.length + 1
  | .lit _ => 1
  | .nil => 1
  | .ptr d => uptoBulk d + 1
  | .slice elems spare => uptoBulkAll elems + uptoBulkAll spare + 1
  | .agg parts => uptoBulkAll parts + 1
  | .iface _ d => uptoBulk d + 1
  | .map entries => uptoBulkEntries entries + 1
  | .held _ => 1
def uptoBulkAll {H : Type} : List (DataW H) → Nat
  | [] => 0
  | d :: r => uptoBulk d + uptoBulkAll r
def uptoBulkEntries {H : Type} : List (Lit × DataW H) → Nat
  | [] => 0
  | x :: r => uptoBulkEntry x + uptoBulkEntries r
def uptoBulkEntry {H : Type} : Lit × DataW H → Nat
  | (.string bytes, d) => bytes.length + uptoBulk d + 1
  | (_, d) => uptoBulk d + 1
 end
def uptoSmall : (H : Type) → List (DataW H) → Bool := fun _ ds => decide (uptoBulkAll ds ≤ 1048576)
def OpenSpec.upto (s : _root_.Go.ChangeSpec) : _root_.Go.OpenSpec := { _root_.Go.OpenSpec.ofChange s with cond := some uptoSmall }

/-- 'pinnacelaw15.BlkPolls', WHERE WHAT IT READS IS OF BULK AT MOST 1048576: true; the input reads as it did. -/
def blkPollsUptoRow : OpenClaim := { program := "ytaaiockiojejeaagreatdoor", sum := "65983cc7ce8756174b939997a0001b0e9d73d5e7496feee8df50d28a03b4fa97", func := "pinnace/pinnacelaw15.BlkPolls", spec := "blkPolls", inPlace := ["sync/atomic.AddInt64", "sync/atomic.LoadUint32", "(*internal/sync.Mutex).Lock", "internal/race.Disable", "sync/atomic.CompareAndSwapInt32", "internal/race.Enable", "internal/race.Acquire", "(*internal/sync.Mutex).lockSlow", "internal/sync.runtime_canSpin", "internal/sync.runtime_doSpin", "internal/sync.throw", "internal/sync.runtime_nanotime", "internal/sync.runtime_SemacquireMutex", "sync/atomic.AddInt32", "(*internal/sync.Mutex).Unlock", "internal/race.ReleaseMerge", "(*internal/sync.Mutex).unlockSlow", "internal/sync.fatal", "internal/sync.runtime_Semrelease", "sync/atomic.StoreUint32"], unfollowed := true, recurses := true, named := ["pinnace/bus.areas"], apart := false, laid := [("pinnace/bus.areas", laid_pinnace_bus_areas)], narrowed := true }
def BlkPollsUptoSaid : Prop := blkPollsUptoRow.holds Tryz.pinned (OpenSpec.upto blkPollsSpec)

/-- 'pinnacelaw15.BlkFinishes', WHERE WHAT IT READS IS OF BULK AT MOST 1048576: true; the input reads as it did. -/
def blkFinishesUptoRow : OpenClaim := { program := "ytaaiockiojejeaagreatdoor", sum := "65983cc7ce8756174b939997a0001b0e9d73d5e7496feee8df50d28a03b4fa97", func := "pinnace/pinnacelaw15.BlkFinishes", spec := "blkFinishes", inPlace := ["sync/atomic.AddInt64", "sync/atomic.LoadUint32", "(*internal/sync.Mutex).Lock", "internal/race.Disable", "sync/atomic.CompareAndSwapInt32", "internal/race.Enable", "internal/race.Acquire", "(*internal/sync.Mutex).lockSlow", "internal/sync.runtime_canSpin", "internal/sync.runtime_doSpin", "internal/sync.throw", "internal/sync.runtime_nanotime", "internal/sync.runtime_SemacquireMutex", "sync/atomic.AddInt32", "(*internal/sync.Mutex).Unlock", "internal/race.ReleaseMerge", "(*internal/sync.Mutex).unlockSlow", "internal/sync.fatal", "internal/sync.runtime_Semrelease", "sync/atomic.StoreUint32", "internal/reflectlite.ValueOf", "(internal/reflectlite.Value).Type", "(internal/reflectlite.Value).IsNil", "internal/reflectlite.TypeOf", "(internal/reflectlite.Value).Elem", "(internal/reflectlite.Value).Set"], unfollowed := true, recurses := true, named := ["pinnace/bus.areas", "errors.errorType"], apart := false, laid := [("errors.errorType", laid_errors_errorType), ("pinnace/bus.areas", laid_pinnace_bus_areas)], narrowed := true }
def BlkFinishesUptoSaid : Prop := blkFinishesUptoRow.holds Tryz.pinned (OpenSpec.upto blkFinishesSpec)

/-- 'pinnacelaw15.BlkHolds', WHERE WHAT IT READS IS OF BULK AT MOST 1048576: true; the input reads as it did. -/
def blkHoldsUptoRow : OpenClaim := { program := "ytaaiockiojejeaagreatdoor", sum := "65983cc7ce8756174b939997a0001b0e9d73d5e7496feee8df50d28a03b4fa97", func := "pinnace/pinnacelaw15.BlkHolds", spec := "blkHolds", inPlace := ["sync/atomic.AddInt64", "sync/atomic.LoadUint32", "(*internal/sync.Mutex).Lock", "internal/race.Disable", "sync/atomic.CompareAndSwapInt32", "internal/race.Enable", "internal/race.Acquire", "(*internal/sync.Mutex).lockSlow", "internal/sync.runtime_canSpin", "internal/sync.runtime_doSpin", "internal/sync.throw", "internal/sync.runtime_nanotime", "internal/sync.runtime_SemacquireMutex", "sync/atomic.AddInt32", "(*internal/sync.Mutex).Unlock", "internal/race.ReleaseMerge", "(*internal/sync.Mutex).unlockSlow", "internal/sync.fatal", "internal/sync.runtime_Semrelease", "sync/atomic.StoreUint32", "internal/reflectlite.ValueOf", "(internal/reflectlite.Value).Type", "(internal/reflectlite.Value).IsNil", "internal/reflectlite.TypeOf", "(internal/reflectlite.Value).Elem", "(internal/reflectlite.Value).Set"], unfollowed := true, recurses := true, named := ["pinnace/bus.areas", "pinnace/virtio.offered", "errors.errorType"], apart := false, laid := [("errors.errorType", laid_errors_errorType), ("pinnace/bus.areas", laid_pinnace_bus_areas), ("pinnace/virtio.offered", laid_pinnace_virtio_offered)], narrowed := true }
def BlkHoldsUptoSaid : Prop := blkHoldsUptoRow.holds Tryz.pinned (OpenSpec.upto blkHoldsSpec)

/-- 'pinnacelaw15.BlkReads', WHERE WHAT IT READS IS OF BULK AT MOST 1048576: true; the input reads as it did. -/
def blkReadsUptoRow : OpenClaim := { program := "ytaaiockiojejeaagreatdoor", sum := "65983cc7ce8756174b939997a0001b0e9d73d5e7496feee8df50d28a03b4fa97", func := "pinnace/pinnacelaw15.BlkReads", spec := "blkReads", inPlace := ["sync/atomic.AddInt64", "sync/atomic.LoadUint32", "(*internal/sync.Mutex).Lock", "internal/race.Disable", "sync/atomic.CompareAndSwapInt32", "internal/race.Enable", "internal/race.Acquire", "(*internal/sync.Mutex).lockSlow", "internal/sync.runtime_canSpin", "internal/sync.runtime_doSpin", "internal/sync.throw", "internal/sync.runtime_nanotime", "internal/sync.runtime_SemacquireMutex", "sync/atomic.AddInt32", "(*internal/sync.Mutex).Unlock", "internal/race.ReleaseMerge", "(*internal/sync.Mutex).unlockSlow", "internal/sync.fatal", "internal/sync.runtime_Semrelease", "sync/atomic.StoreUint32"], unfollowed := true, recurses := true, named := ["pinnace/bus.areas"], apart := false, laid := [("pinnace/bus.areas", laid_pinnace_bus_areas)], narrowed := true }
def BlkReadsUptoSaid : Prop := blkReadsUptoRow.holds Tryz.pinned (OpenSpec.upto blkReadsSpec)

/-- 'pinnacelaw15.BlkWrites', WHERE WHAT IT READS IS OF BULK AT MOST 1048576: true; the input reads as it did. -/
def blkWritesUptoRow : OpenClaim := { program := "ytaaiockiojejeaagreatdoor", sum := "65983cc7ce8756174b939997a0001b0e9d73d5e7496feee8df50d28a03b4fa97", func := "pinnace/pinnacelaw15.BlkWrites", spec := "blkWrites", inPlace := ["sync/atomic.AddInt64", "sync/atomic.LoadUint32", "(*internal/sync.Mutex).Lock", "internal/race.Disable", "sync/atomic.CompareAndSwapInt32", "internal/race.Enable", "internal/race.Acquire", "(*internal/sync.Mutex).lockSlow", "internal/sync.runtime_canSpin", "internal/sync.runtime_doSpin", "internal/sync.throw", "internal/sync.runtime_nanotime", "internal/sync.runtime_SemacquireMutex", "sync/atomic.AddInt32", "(*internal/sync.Mutex).Unlock", "internal/race.ReleaseMerge", "(*internal/sync.Mutex).unlockSlow", "internal/sync.fatal", "internal/sync.runtime_Semrelease", "sync/atomic.StoreUint32"], unfollowed := true, recurses := true, named := ["pinnace/bus.areas"], apart := false, laid := [("pinnace/bus.areas", laid_pinnace_bus_areas)], narrowed := true }
def BlkWritesUptoSaid : Prop := blkWritesUptoRow.holds Tryz.pinned (OpenSpec.upto blkWritesSpec)

end Rows
end Go.Proofs.YtaaiockiojejeaaGreatDoor
