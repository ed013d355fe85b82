/-
  sync.Once's Do of a memory, and mem's look at a page that was never made.
-/
import Derived.Test.YtghpjibjhaomoaaGreatDoorJMeLook
import Derived.Tactics2
import Derived.Defers
import Derived.Laws.Pointers
import Derived.Laws.LoneSync
import Derived.RegionTactic
import Derived.RegionCalls
import Derived.ChangeAlike
namespace Go.Proofs.YtghpjibjhaomoaaGreatDoor
open Go.RowKit
set_option linter.unusedVariables false

/-- A pointer as one of no type: the same place, where something stands there. -/
theorem ptr_seen {P : Program} {src dst t : TypeId} (hs : P.underlying src = some (.pointer t)) (hd : P.underlying dst = some .unsafePointer) (hn : (P.info? t).map (fun i => decide (i.size = 0)) = some false) {a : Addr} {v : Value} {w : World} (hc : w.cell? a = some v) :
    (convert src dst (.pointer (some a))).run P w = .ok (.pointer (some a)) w := by
  obtain ⟨e, n, h1, h2, _⟩ := World.shape?_of_cell? hc
  obtain ⟨i, hi, hz⟩ := Option.map_eq_some_iff.1 hn
  have h3 : i.size ≠ 0 := by simpa using hz
  have h4 : ¬ n ≤ a.off := by omega
  simp [convert, Conv.unsafePointer, Conv.seenAt, viewAt, cellsIn, sizeOf, typeInfo, run_underlying hs, run_underlying hd, hi, h3, h1, h4, Result.andThen]
theorem o_disable (w : World) : (callFunc 95 #[]).run Tryz.prog w = .ok (.value (.tuple #[])) w := run_call_mark0 Tryz.func95 (by kernel_rfl) (by kernel_rfl) (by kernel_rfl) .disable (by kernel_rfl) w
theorem o_enable (w : World) : (callFunc 97 #[]).run Tryz.prog w = .ok (.value (.tuple #[])) w := run_call_mark0 Tryz.func97 (by kernel_rfl) (by kernel_rfl) (by kernel_rfl) .enable (by kernel_rfl) w
theorem o_acquire (a : Addr) (w : World) : (callFunc 98 #[.pointer (some a)]).run Tryz.prog w = .ok (.value (.tuple #[])) w := run_call_marked Tryz.func98 (by kernel_rfl) (by kernel_rfl) (by kernel_rfl) .acquire (by kernel_rfl) a w
theorem o_merge (a : Addr) (w : World) : (callFunc 100 #[.pointer (some a)]).run Tryz.prog w = .ok (.value (.tuple #[])) w := run_call_marked Tryz.func100 (by kernel_rfl) (by kernel_rfl) (by kernel_rfl) .releaseMerge (by kernel_rfl) a w

theorem store_deferred (a : Addr) (x : Value) (u : FrameMode) (w : World) (hc : w.cell? a = some x) (hz : w.frozen? a = false) :
    CallsD Tryz.prog 89 #[.pointer (some a), .bool true] u w fun e u' w' => u' = u ∧ (e = .returned (.tuple #[]) ∧ w' = w.drew.setCell a (.int .u32 1)) := by
  have hc' : w.drew.cell? a = some x := by go_simp
  have hz' : w.drew.frozen? a = false := by go_simp
  have hst := run_call_store (P := Tryz.prog) Tryz.func93 (by kernel_rfl) (by kernel_rfl) (by kernel_rfl) (by kernel_rfl) (k := .u32) (y := 1) hc' hz'
  go_enter_d Tryz.func89, Tryz.ntmps89
  go_wp2
  go_region_calls
  all_goals (go_end0; exact ⟨rfl, rfl⟩)
set_option maxRecDepth 100000 in
theorem unlock_deferred (a : Addr) (u : FrameMode) (w : World) (hc : w.cell? a = some (.int .i32 1)) (hz : w.frozen? a = false) :
    CallsD Tryz.prog 88 #[.pointer (some a)] u w fun e u' w' => u' = u ∧ (e = .returned (.tuple #[]) ∧ w' = w.setCell a (.int .i32 0)) := by
  have hd := o_disable
  have he := o_enable
  have hr := o_merge
  have hadd := run_call_add (P := Tryz.prog) Tryz.func101 (by kernel_rfl) (by kernel_rfl) (by kernel_rfl) .i32 (by kernel_rfl) (y := -1) (s := 0) hc hz (by simp [go_sem]; rfl)
  have hcv := ptr_seen (P := Tryz.prog) (src := 197) (dst := 137) Tryz.underlying197 Tryz.underlying137 (by kernel_rfl) hc
  go_enter_d Tryz.func88, Tryz.ntmps88
  go_wp2
  go_end0
  go_wp2
  go_end0
  exact ⟨rfl, rfl⟩
set_option maxRecDepth 100000 in
theorem lock_free (a : Addr) (w : World) (hc : w.cell? a = some (.int .i32 0)) (hz : w.frozen? a = false) :
    Calls Tryz.prog 87 #[.pointer (some a)] w fun e w' => e = .returned (.tuple #[]) ∧ w' = w.setCell a (.int .i32 1) := by
  have hd := o_disable
  have he := o_enable
  have ha := o_acquire
  have hcas := run_call_cas_hit (P := Tryz.prog) Tryz.func96 (by kernel_rfl) (by kernel_rfl) (by kernel_rfl) .i32 (by kernel_rfl) (y := 1) hc hz
  have hc' : (w.setCell a (.int .i32 1)).cell? a = some (.int .i32 1) := World.cell?_setCell_same w a _ hc
  have hcv := ptr_seen (P := Tryz.prog) (src := 197) (dst := 137) Tryz.underlying197 Tryz.underlying137 (by kernel_rfl) hc'
  go_enter Tryz.func87, Tryz.ntmps87
  go_wp2
  first | go_end0 | (simp only [Exit.inBlock, Exit.then]; refine bodyPost_ret (results_none rfl _ _ _) rfl ?_) | refine bodyPost_ret (results_none rfl _ _ _) rfl ?_
  go_wp2
  go_end0
  exact ⟨rfl, rfl⟩
end Go.Proofs.YtghpjibjhaomoaaGreatDoor
namespace Go.Proofs.YtghpjibjhaomoaaGreatDoor
open Go.RowKit
set_option linter.unusedVariables false
attribute [local go_sem ↓] Go.wp_at_zero Go.wp_at_succ

set_option maxRecDepth 100000 in
theorem bool_load (a : Addr) (n : Nat) (w : World) (hc : w.cell? a = some (.int .u32 (n : Nat))) :
    Calls Tryz.prog 82 #[.pointer (some a)] w fun e w' => e = .returned (.bool (!decide (n = 0))) ∧ w' = w := by
  have hl := run_call_load (P := Tryz.prog) Tryz.func86 (by kernel_rfl) (by kernel_rfl) (by kernel_rfl) .u32 (by kernel_rfl) (w := w) (a := a) (x := (n : Nat)) hc
  by_cases h : n = 0
  · subst h
    go_enter Tryz.func82, Tryz.ntmps82
    go_wp2
    go_ret
    exact ⟨rfl, rfl⟩
  · have t : (((n : Nat) : Int) != 0) = true := by simp; omega
    rw [decide_eq_false h]
    go_enter Tryz.func82, Tryz.ntmps82
    go_wp2
    go_ret
    exact ⟨rfl, rfl⟩
/-- What stays when the page of noughts is made. -/
structure Made (b : Nat) (w w' : World) : Prop where
  size : w'.heap.size = w.heap.size + 1
  row : ∀ g, g ≠ b → g < w.heap.size → w'.heap[g]? = w.heap[g]?
  bel : ∀ B w0, B ≤ b → Below B w0 w → Below B w0 w'
  page : HoldsAt w' w.heap.size 4096 5 (fun _ => .int .u8 0)
set_option maxRecDepth 100000 in
set_option maxHeartbeats 2000000 in
theorem slow_first (b P D n dc : Nat) (wr : Int) (nv : Value) (pl : Addr) (hpb : ¬ b = pl.block) (w : World) (hr : RowAt w b (ramV P D n dc wr nv 0) 131) (hp : w.cell? pl = some (.pointer (some ⟨b, 0, none⟩))) :
    Calls Tryz.prog 83 #[.pointer (some ⟨b, 3, none⟩), .func (.func 71) #[] #[.pointer (some pl)]] w fun e w' => e = .returned (.tuple #[]) ∧
      RowAt w' b (ramV P D n dc wr (.slice (some ⟨w.heap.size, 0, none⟩) 4096 4096) 1) 131 ∧ Made b w w' := by
  have h3 : w.cell? ⟨b, 3, none⟩ = some (.int .u32 0) := hr.cell 3
  have h4 : w.cell? ⟨b, 4, none⟩ = some (.int .i32 0) := hr.cell 4
  have h6 : w.cell? ⟨b, 6, none⟩ = some nv := hr.cell 6
  have lb := lt_of_cell h3
  have f3 := hr.thaw 3
  have f4 := hr.thaw 4
  have f6 := hr.thaw 6
  have hp1 : (w.setCell ⟨b, 4, none⟩ (.int .i32 1)).cell? pl = some (.pointer (some ⟨b, 0, none⟩)) := (World.cell?_setCell_other _ ⟨b, 4, none⟩ pl _ (fun h => hpb (by rw [← h]))).trans hp
  have h61 : (w.setCell ⟨b, 4, none⟩ (.int .i32 1)).cell? ⟨b, 6, none⟩ = some nv := (World.cell?_setCell_other _ ⟨b, 4, none⟩ ⟨b, 6, none⟩ _ (by simp)).trans h6
  have hnot : ∀ (x : Bool) (w : World), (Op.unary .not (.bool x)).run Tryz.prog w = .ok (.bool (!x)) w := fun _ _ => rfl
  have hm : ∀ w : World, (Instr.makeSlice 28 (.int .i64 4096) (.int .i64 4096)).run Tryz.prog w = .ok (.slice (some ⟨w.heap.size, 0, none⟩) 4096 4096) (w.alloc newPage) :=
    run_make_row' (P := Tryz.prog) 28 5 (.int .u8 0) 1 Tryz.underlying28 (by kernel_rfl) rfl .i64 .i64 4096 (by omega) (by omega)
  have HLd := hide (bool_load ⟨b, 3, none⟩ 0 (w.setCell ⟨b, 4, none⟩ (.int .i32 1)) ((World.cell?_setCell_other _ ⟨b, 4, none⟩ ⟨b, 3, none⟩ _ (by simp)).trans h3))
  have lp := World.block_lt_of_cell? w pl hp
  have HR := hide hr
  clear hr
  have HPg : Hid (∀ W : World, RowAt W w.heap.size (madeCells #[.int .u8 0] 4096) 5 → HoldsAt W w.heap.size 4096 5 (fun _ => .int .u8 0)) := hide (fun W h => HoldsAt.made h)
  have HO : Hid (newPage = .cells (madeCells #[.int .u8 0] 4096) 5) := hide rfl
  generalize newPage = O at *
  go_enter_defers Tryz.func83, Tryz.ntmps83
  go_wp2_with (first | (go_at_call 87; refine (lock_free ⟨b, 4, none⟩ _ (by go_simp) (by go_simp)).mono ?_; rintro e w' ⟨rfl, rfl⟩) | (go_at_call 82; refine HLd.out.mono ?_; rintro e w' ⟨rfl, rfl⟩))
  go_wp2
  go_region
  all_goals (go_end0; go_wp2)
  have hV : RowAt (((w.setCell ⟨b, 4, none⟩ (.int .i32 1)).setCell ⟨b, 6, none⟩ (.slice (some ⟨w.heap.size, 0, none⟩) 4096 4096)).alloc O).drew b #[.slice (some ⟨P, 0, none⟩) n n, .slice (some ⟨D, 0, none⟩) n dc, .int .i64 wr, .int .u32 0, .int .i32 1, .int .u32 0, .slice (some ⟨w.heap.size, 0, none⟩) 4096 4096] 131 :=
    (((HR.out.put 4 _).put 6 _).al _).dr
  have hVz : (((w.setCell ⟨b, 4, none⟩ (.int .i32 1)).setCell ⟨b, 6, none⟩ (.slice (some ⟨w.heap.size, 0, none⟩) 4096 4096)).alloc O).drew.heap.size = w.heap.size + 1 := by simp
  have hVo : ∀ g, g ≠ b → g < w.heap.size → (((w.setCell ⟨b, 4, none⟩ (.int .i32 1)).setCell ⟨b, 6, none⟩ (.slice (some ⟨w.heap.size, 0, none⟩) 4096 4096)).alloc O).drew.heap[g]? = w.heap[g]? := fun g hg hl =>
    (Below.heap_alloc _ _ _ (by simpa using hl)).trans ((Below.heap_setCell _ _ _ _ hg).trans (Below.heap_setCell _ _ _ _ hg))
  have hVb : ∀ B w0, B ≤ b → Below B w0 w → Below B w0 (((w.setCell ⟨b, 4, none⟩ (.int .i32 1)).setCell ⟨b, 6, none⟩ (.slice (some ⟨w.heap.size, 0, none⟩) 4096 4096)).alloc O).drew := fun B w0 hB h =>
    (((h.setCell hB _).setCell hB _).alloc (by simp; omega) _).drew
  have hVp : RowAt (((w.setCell ⟨b, 4, none⟩ (.int .i32 1)).setCell ⟨b, 6, none⟩ (.slice (some ⟨w.heap.size, 0, none⟩) 4096 4096)).alloc O).drew w.heap.size (madeCells #[.int .u8 0] 4096) 5 := by
    rw [HO.out]
    exact (RowAt.new _ _ _ _ (by simp)).dr
  generalize (((w.setCell ⟨b, 4, none⟩ (.int .i32 1)).setCell ⟨b, 6, none⟩ (.slice (some ⟨w.heap.size, 0, none⟩) 4096 4096)).alloc O).drew = V at *
  refine leaves_cons (f := 89) (args := #[.pointer (some ⟨b, 3, none⟩), .bool true]) (by simp) (by simp [go_sem]) ?_
  refine (store_deferred ⟨b, 3, none⟩ (.int .u32 0) .returning _ (hV.cell 3) (hV.thaw 3)).mono ?_
  rintro e u' w'' ⟨rfl, rfl, rfl⟩
  have hV2 : RowAt (V.drew.setCell ⟨b, 3, none⟩ (.int .u32 1)) b #[.slice (some ⟨P, 0, none⟩) n n, .slice (some ⟨D, 0, none⟩) n dc, .int .i64 wr, .int .u32 1, .int .i32 1, .int .u32 0, .slice (some ⟨w.heap.size, 0, none⟩) 4096 4096] 131 := hV.dr.put 3 _
  refine leaves_cons (f := 88) (args := #[.pointer (some ⟨b, 4, none⟩)]) (by simp [settle]) (by simp [go_sem]) ?_
  refine (unlock_deferred ⟨b, 4, none⟩ _ _ (hV2.cell 4) (hV2.thaw 4)).mono ?_
  rintro e u' w'' ⟨rfl, rfl, rfl⟩
  have key : RowAt ((V.drew.setCell ⟨b, 3, none⟩ (.int .u32 1)).setCell ⟨b, 4, none⟩ (.int .i32 0)) b (ramV P D n dc wr (.slice (some ⟨w.heap.size, 0, none⟩) 4096 4096) 1) 131 := hV2.put 4 _
  have made : Made b w ((V.drew.setCell ⟨b, 3, none⟩ (.int .u32 1)).setCell ⟨b, 4, none⟩ (.int .i32 0)) :=
    ⟨by simpa using hVz, fun g hg hl => (Below.heap_setCell _ _ _ _ hg).trans ((Below.heap_setCell _ _ _ _ hg).trans (hVo g hg hl)), fun B w0 hB h => ((hVb B w0 hB h).drew.setCell hB _).setCell hB _,
      HPg.out _ ((hVp.dr.far (by omega) _ _).far (by omega) _ _)⟩
  clear hV hVz hVo hVb hVp hV2
  simp [Leaves, settle, results, Tryz.results83]
  exact ⟨key, made⟩
end Go.Proofs.YtghpjibjhaomoaaGreatDoor
namespace Go.Proofs.YtghpjibjhaomoaaGreatDoor
open Go.RowKit
set_option linter.unusedVariables false
attribute [local go_sem ↓] Go.wp_at_zero Go.wp_at_succ

set_option maxRecDepth 100000 in
set_option maxHeartbeats 1000000 in
theorem do_first (b P D n dc : Nat) (wr : Int) (nv : Value) (pl : Addr) (hpb : ¬ b = pl.block) (w : World) (hr : RowAt w b (ramV P D n dc wr nv 0) 131) (hp : w.cell? pl = some (.pointer (some ⟨b, 0, none⟩))) :
    Calls Tryz.prog 70 #[.pointer (some ⟨b, 3, none⟩), .func (.func 71) #[] #[.pointer (some pl)]] w fun e w' => e = .returned (.tuple #[]) ∧
      RowAt w' b (ramV P D n dc wr (.slice (some ⟨w.heap.size, 0, none⟩) 4096 4096) 1) 131 ∧ Made b w w' := by
  have HS := hide (slow_first b P D n dc wr nv pl hpb w hr hp)
  have HLd := hide (bool_load ⟨b, 3, none⟩ 0 w (hr.cell 3))
  have c3 : w.cell? ⟨b, 3, none⟩ = some (.int .u32 0) := hr.cell 3
  have hnot : ∀ (x : Bool) (w : World), (Op.unary .not (.bool x)).run Tryz.prog w = .ok (.bool (!x)) w := fun _ _ => rfl
  clear hr hp
  go_enter Tryz.func70, Tryz.ntmps70
  go_wp2_with (first | (go_at_call 82; refine HLd.out.mono ?_; rintro e w' ⟨rfl, rfl⟩) | (go_at_call 83; refine HS.out.mono ?_; rintro e w' ⟨rfl, hr2, hm2⟩))
  go_end0
  exact ⟨rfl, hr2, hm2⟩
set_option maxRecDepth 100000 in
set_option maxHeartbeats 1000000 in
theorem do_again (b P D n dc : Nat) (wr : Int) (nv : Value) (f : Value) (w : World) (hr : RowAt w b (ramV P D n dc wr nv 1) 131) :
    Calls Tryz.prog 70 #[.pointer (some ⟨b, 3, none⟩), f] w fun e w' => e = .returned (.tuple #[]) ∧ w' = w := by
  have HLd := hide (bool_load ⟨b, 3, none⟩ 1 w (hr.cell 3))
  have c3 : w.cell? ⟨b, 3, none⟩ = some (.int .u32 1) := hr.cell 3
  have hnot : ∀ (x : Bool) (w : World), (Op.unary .not (.bool x)).run Tryz.prog w = .ok (.bool (!x)) w := fun _ _ => rfl
  clear hr
  go_enter Tryz.func70, Tryz.ntmps70
  go_wp2_with (first | (go_at_call 82; refine HLd.out.mono ?_; rintro e w' ⟨rfl, rfl⟩))
  go_end0
  exact ⟨rfl, rfl⟩
set_option maxHeartbeats 1000000 in
theorem look_again (b P D n dc p Z : Nat) (wr : Int) (hp : p < n) (hn : n ≤ 16384) (w : World)
    (hr : RowAt w b (ramV P D n dc wr (.slice (some ⟨Z, 0, none⟩) 4096 4096) 1) 131) (cp : w.cell? ⟨P, p, none⟩ = some (.slice none 0 0)) :
    Calls Tryz.prog 50 #[.pointer (some ⟨b, 0, none⟩), .int .i64 p] w fun e w' => e = .returned (.slice (some ⟨Z, 0, none⟩) 4096 4096) ∧ Below w.heap.size w w' := by
  have i0 : (0 : Int) ≤ (p : Int) := by omega
  have i9 : (p : Int) < (n : Int) := by omega
  have c0 : w.cell? ⟨b, 0, none⟩ = some (.slice (some ⟨P, 0, none⟩) n n) := hr.cell 0
  have c3 : w.cell? ⟨b, 3, none⟩ = some (.int .u32 1) := hr.cell 3
  have c6 : w.cell? ⟨b, 6, none⟩ = some (.slice (some ⟨Z, 0, none⟩) 4096 4096) := hr.cell 6
  have lb := lt_of_cell c0
  have lP := lt_of_cell cp
  have hq := fun w => Lib.run_eql_slice_nil (P := Tryz.prog) w 28 5 none 0 0 0 0 Tryz.underlying28
  have HD := hide (fun f w h => do_again b P D n dc wr (.slice (some ⟨Z, 0, none⟩) 4096 4096) f w h)
  have HR := hide hr
  clear hr
  go_enter Tryz.func50, Tryz.ntmps50
  go_wp2_with (go_at_call 70; refine (HD.out _ _ (HR.out.al _)).mono ?_; rintro e w' ⟨rfl, rfl⟩)
  go_ret
  exact ⟨rfl, below_one _ _⟩
end Go.Proofs.YtghpjibjhaomoaaGreatDoor
