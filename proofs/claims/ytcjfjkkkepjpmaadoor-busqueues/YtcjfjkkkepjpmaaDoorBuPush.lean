/-
  Queues of writes that wait: what bus.Push answers.
-/
import Derived.Test.YtcjfjkkkepjpmaaDoorBuApp
import Derived.Test.YtcjfjkkkepjpmaaDoorRes
import Derived.Deep.DrawnRows
import Derived.Deep.AppendSrc
import Derived.Deep.RegionWith
namespace Go.Proofs.YtcjfjkkkepjpmaaDoor
open Go.RowKit
set_option linter.unusedVariables false
attribute [local go_sem ↓] Go.wp_at_zero Go.wp_at_succ

theorem size_queue : (Tryd.prog.info? 42).map (·.size) = some 1 := by kernel_rfl
set_option maxHeartbeats 1000000 in
set_option maxRecDepth 100000 in
theorem push_ok (a : Option Addr) (l : List Pst) (hl : l.length < 8) (cap : Nat) (p : Pst) (hp : p.Ok) (w : World) (hq : QAt w a l) (hA : AreasAt w) (hc : checkQ l = true) (hm : mayP p = true) (hcap : l.length ≤ cap) :
    Calls Tryd.prog 15 #[.agg #[.slice a l.length cap], .agg p.cells] w fun e w' => ∃ g c, e = .returned (.tuple #[.agg #[.slice (some ⟨g, 0, none⟩) (l.length + 1) c], .nilIface]) ∧ l.length + 1 ≤ c ∧ QAt w' (some ⟨g, 0, none⟩) (l ++ [p]) ∧ Below w.heap.size w w' ∧ w.heap.size ≤ g := by
  obtain ⟨dev, pa, n, v⟩ := p
  have HC : Hid (∀ w', Below w.heap.size w w' → Calls Tryd.prog 20 #[.agg #[.slice a l.length cap]] w' fun e w'' => e = .returned .nilIface ∧ Below w'.heap.size w' w'') := hide (fun w' hb => by
    have := check_any a l (by omega) cap w' (hq.bl hb) (hA.bl hb)
    rw [hc] at this
    exact this)
  have HM : Hid (∀ w', Below w.heap.size w w' → Calls Tryd.prog 28 #[.agg #[.int .i64 dev, .int .u32 (pa : Nat), .int .i64 n, .int .u32 (v : Nat)]] w' fun e w'' => e = .returned (.bool true) ∧ Below w'.heap.size w' w'') := hide (fun w' hb => by
    have := may_any ⟨dev, pa, n, v⟩ hp w' (hA.bl hb)
    rw [hm] at this
    exact this)
  have HQ := hide hq
  have HP := hide hp
  show Calls Tryd.prog 15 #[.agg #[.slice a l.length cap], .agg #[.int .i64 dev, .int .u32 (pa : Nat), .int .i64 n, .int .u32 (v : Nat)]] w _
  generalize hN : l.length = N at *
  have HN := hide hN
  have h8 : ((N : Int) == 8) = false := by simp; omega
  clear hq hA hc hm hN hp
  go_enter Tryd.func15, Tryd.ntmps15
  go_wp2_with (fail)
  obtain ⟨W0, hW0⟩ : ∃ W0, ((w.alloc (.cells #[.slice a N cap] 42)).alloc (.cells #[.int .i64 dev, .int .u32 (pa : Nat), .int .i64 n, .int .u32 (v : Nat)] 46)).alloc (.cells #[.slice none 0 0] 42) = W0 := ⟨_, rfl⟩
  have R0 := hide (hW0 ▸ ((RowAt.new w w.heap.size #[.slice a N cap] 42 rfl).al _).al _)
  have R1 := hide (hW0 ▸ (RowAt.new (w.alloc (.cells #[.slice a N cap] 42)) (w.heap.size + 1) #[.int .i64 dev, .int .u32 (pa : Nat), .int .i64 n, .int .u32 (v : Nat)] 46 (by simp)).al _)
  have R2 := hide (hW0 ▸ RowAt.new ((w.alloc (.cells #[.slice a N cap] 42)).alloc (.cells #[.int .i64 dev, .int .u32 (pa : Nat), .int .i64 n, .int .u32 (v : Nat)] 46)) (w.heap.size + 1 + 1) #[.slice none 0 0] 42 (by simp))
  have B0 : Hid (Below w.heap.size w W0) := hW0 ▸ below_three w _ _ _
  rw [hW0]
  clear hW0
  refine (HC.out _ B0.out).mono ?_
  rintro e W1 ⟨rfl, hb⟩
  replace R0 := hide (R0.out.bl hb)
  replace R1 := hide (R1.out.bl hb)
  replace R2 := hide (R2.out.bl hb)
  have B1 := hide (below_bl rfl B0.out hb)
  clear hb B0
  have c0 : W1.cell? ⟨w.heap.size + 1, 0, none⟩ = some (.int .i64 dev) := R1.out.cell 0
  have c1 : W1.cell? ⟨w.heap.size + 1, 1, none⟩ = some (.int .u32 (pa : Nat)) := R1.out.cell 1
  have c2 : W1.cell? ⟨w.heap.size + 1, 2, none⟩ = some (.int .i64 n) := R1.out.cell 2
  have c3 : W1.cell? ⟨w.heap.size + 1, 3, none⟩ = some (.int .u32 (v : Nat)) := R1.out.cell 3
  go_wp2_with (fail)
  clear c0 c1 c2 c3
  refine (HM.out _ B1.out).mono ?_
  rintro e W2 ⟨rfl, hb⟩
  replace R0 := hide (R0.out.bl hb)
  replace R1 := hide (R1.out.bl hb)
  replace R2 := hide (R2.out.bl hb)
  have B2 := hide (below_bl rfl B1.out hb)
  clear hb B1
  have c0 : W2.cell? ⟨w.heap.size + 1, 0, none⟩ = some (.int .i64 dev) := R1.out.cell 0
  have c1 : W2.cell? ⟨w.heap.size + 1, 1, none⟩ = some (.int .u32 (pa : Nat)) := R1.out.cell 1
  have c2 : W2.cell? ⟨w.heap.size + 1, 2, none⟩ = some (.int .i64 n) := R1.out.cell 2
  have c3 : W2.cell? ⟨w.heap.size + 1, 3, none⟩ = some (.int .u32 (v : Nat)) := R1.out.cell 3
  have d0 : W2.cell? ⟨w.heap.size, 0, none⟩ = some (.slice a N cap) := R0.out.cell 0
  have r0 : W2.cell? ⟨w.heap.size + 1 + 1, 0, none⟩ = some (.slice none 0 0) := R2.out.cell 0
  have r1 : W2.frozen? ⟨w.heap.size + 1 + 1, 0, none⟩ = false := R2.out.thaw 0
  go_wp2_with (fail)
  obtain ⟨X, hX⟩ : ∃ X, (W2.alloc (.cells #[.int .i64 dev, .int .u32 (pa : Nat), .int .i64 n, .int .u32 (v : Nat)] 46)).drew = X := ⟨_, rfl⟩
  have hbX : Below w.heap.size w X := hX ▸ (B2.out.alloc B2.out.size _).drew
  have hrX : RowAt X W2.heap.size #[.int .i64 dev, .int .u32 (pa : Nat), .int .i64 n, .int .u32 (v : Nat)] 46 := hX ▸ (RowAt.new W2 _ _ _ rfl).dr
  obtain ⟨G, cs, hap, hG, hcs⟩ := app_any X a l N ⟨W2.heap.size, 0, none⟩ 1 1 [⟨dev, pa, n, v⟩] rfl (by omega) (by rw [HN.out]; omega) (by rw [HN.out]; omega) (by rw [HN.out]; omega) (HQ.out.bl hbX).lies (fun j u hj => by
    rw [Addr.add_lit, Nat.zero_add, hrX.cell]
    rw [← Array.getElem?_toList]
    exact hj)
  rw [HN.out] at hap hG
  rw [← hX] at hap
  have HAP := hide hap
  have HG := hide hG
  have HCS := hide hcs
  clear hap hG hcs hX hbX hrX X
  have hlt := R2.out.lt
  have d0' : ∀ o, (W2.alloc o).cell? ⟨w.heap.size, 0, none⟩ = some (.slice a N cap) := fun o => (R0.out.al o).cell 0
  have r0' : ∀ o1 o2, ((W2.alloc o1).alloc o2).cell? ⟨w.heap.size + 1 + 1, 0, none⟩ = some (.slice none 0 0) := fun o1 o2 => ((R2.out.al o1).al o2).cell 0
  have r1' : ∀ o1 o2, ((W2.alloc o1).alloc o2).frozen? ⟨w.heap.size + 1 + 1, 0, none⟩ = false := fun o1 o2 => ((R2.out.al o1).al o2).thaw 0
  go_region_law (refine step_app rfl _ _ rfl rfl _ _ rfl rfl _ _ _ HAP.out ?_)
  all_goals
    go_simp
    go_wp2
    refine bodyPost_ret (results_cell_tmp_row Tryd.results15 _ _ (w.heap.size + 1 + 1) _ _ _ _ rfl (((R2.out.al _).dr.dr.al _).put 0 _) Tryd.underlying42 rfl size_queue) rfl ?_
    refine ⟨W2.heap.size + 1, G, rfl, HG.out, ⟨fun q hq => ?_, .inr ⟨_, rfl, ?_⟩⟩, ?_, by have := B2.out.size; omega⟩
    · rcases List.mem_append.1 hq with hq | hq
      · exact HQ.out.ok q hq
      · rw [List.mem_singleton.1 hq]; exact HP.out
    · exact posts_of_row ((RowAt.new _ _ _ _ (by simp)).far (by omega) 0 _) HCS.out
    · exact ((((B2.out.alloc B2.out.size _).drew).drew).alloc (by have := B2.out.size; simp; omega) _).setCell (p := ⟨w.heap.size + 1 + 1, 0, none⟩) (by show w.heap.size ≤ w.heap.size + 1 + 1; omega) _

set_option maxHeartbeats 1000000 in
set_option maxRecDepth 100000 in
theorem push_badC (a : Option Addr) (l : List Pst) (hl : l.length ≤ 1000) (cap : Nat) (p : Pst) (hp : p.Ok) (w : World) (hq : QAt w a l) (hA : AreasAt w) (hc : checkQ l = false) (hcap : l.length ≤ cap) :
    Calls Tryd.prog 15 #[.agg #[.slice a l.length cap], .agg p.cells] w fun e w' => e = .returned (.tuple #[.agg #[.slice none 0 0], .iface 61 (.int .i64 1)]) ∧ Below w.heap.size w w' := by
  obtain ⟨dev, pa, n, v⟩ := p
  have HC : Hid (∀ w', Below w.heap.size w w' → Calls Tryd.prog 20 #[.agg #[.slice a l.length cap]] w' fun e w'' => e = .returned (.iface 61 (.int .i64 1)) ∧ Below w'.heap.size w' w'') := hide (fun w' hb => by
    have := check_any a l hl cap w' (hq.bl hb) (hA.bl hb)
    rw [hc] at this
    exact this)
  have HQ := hide hq
  have HP := hide hp
  show Calls Tryd.prog 15 #[.agg #[.slice a l.length cap], .agg #[.int .i64 dev, .int .u32 (pa : Nat), .int .i64 n, .int .u32 (v : Nat)]] w _
  generalize hN : l.length = N at *
  have HN := hide hN
  clear hq hA hc hN hp
  go_enter Tryd.func15, Tryd.ntmps15
  go_wp2_with (fail)
  obtain ⟨W0, hW0⟩ : ∃ W0, ((w.alloc (.cells #[.slice a N cap] 42)).alloc (.cells #[.int .i64 dev, .int .u32 (pa : Nat), .int .i64 n, .int .u32 (v : Nat)] 46)).alloc (.cells #[.slice none 0 0] 42) = W0 := ⟨_, rfl⟩
  have R0 := hide (hW0 ▸ ((RowAt.new w w.heap.size #[.slice a N cap] 42 rfl).al _).al _)
  have R1 := hide (hW0 ▸ (RowAt.new (w.alloc (.cells #[.slice a N cap] 42)) (w.heap.size + 1) #[.int .i64 dev, .int .u32 (pa : Nat), .int .i64 n, .int .u32 (v : Nat)] 46 (by simp)).al _)
  have R2 := hide (hW0 ▸ RowAt.new ((w.alloc (.cells #[.slice a N cap] 42)).alloc (.cells #[.int .i64 dev, .int .u32 (pa : Nat), .int .i64 n, .int .u32 (v : Nat)] 46)) (w.heap.size + 1 + 1) #[.slice none 0 0] 42 (by simp))
  have B0 : Hid (Below w.heap.size w W0) := hW0 ▸ below_three w _ _ _
  rw [hW0]
  clear hW0
  refine (HC.out _ B0.out).mono ?_
  rintro e W1 ⟨rfl, hb⟩
  replace R0 := hide (R0.out.bl hb)
  replace R1 := hide (R1.out.bl hb)
  replace R2 := hide (R2.out.bl hb)
  have B1 := hide (below_bl rfl B0.out hb)
  clear hb B0
  have r0 : W1.cell? ⟨w.heap.size + 1 + 1, 0, none⟩ = some (.slice none 0 0) := R2.out.cell 0
  have r1 : W1.frozen? ⟨w.heap.size + 1 + 1, 0, none⟩ = false := R2.out.thaw 0
  go_wp2
  refine bodyPost_ret (results_cell_tmp_row Tryd.results15 _ _ (w.heap.size + 1 + 1) _ _ _ _ rfl (R2.out.put 0 _) Tryd.underlying42 rfl size_queue) rfl ?_
  exact ⟨rfl, B1.out.setCell (p := ⟨w.heap.size + 1 + 1, 0, none⟩) (by show w.heap.size ≤ w.heap.size + 1 + 1; omega) _⟩

set_option maxHeartbeats 1000000 in
set_option maxRecDepth 100000 in
theorem push_badM (a : Option Addr) (l : List Pst) (hl : l.length ≤ 1000) (cap : Nat) (p : Pst) (hp : p.Ok) (w : World) (hq : QAt w a l) (hA : AreasAt w) (hc : checkQ l = true) (hm : mayP p = false) (hcap : l.length ≤ cap) :
    Calls Tryd.prog 15 #[.agg #[.slice a l.length cap], .agg p.cells] w fun e w' => e = .returned (.tuple #[.agg #[.slice none 0 0], .iface 61 (.int .i64 1)]) ∧ Below w.heap.size w w' := by
  obtain ⟨dev, pa, n, v⟩ := p
  have HC : Hid (∀ w', Below w.heap.size w w' → Calls Tryd.prog 20 #[.agg #[.slice a l.length cap]] w' fun e w'' => e = .returned .nilIface ∧ Below w'.heap.size w' w'') := hide (fun w' hb => by
    have := check_any a l hl cap w' (hq.bl hb) (hA.bl hb)
    rw [hc] at this
    exact this)
  have HM : Hid (∀ w', Below w.heap.size w w' → Calls Tryd.prog 28 #[.agg #[.int .i64 dev, .int .u32 (pa : Nat), .int .i64 n, .int .u32 (v : Nat)]] w' fun e w'' => e = .returned (.bool false) ∧ Below w'.heap.size w' w'') := hide (fun w' hb => by
    have := may_any ⟨dev, pa, n, v⟩ hp w' (hA.bl hb)
    rw [hm] at this
    exact this)
  have HQ := hide hq
  have HP := hide hp
  show Calls Tryd.prog 15 #[.agg #[.slice a l.length cap], .agg #[.int .i64 dev, .int .u32 (pa : Nat), .int .i64 n, .int .u32 (v : Nat)]] w _
  generalize hN : l.length = N at *
  have HN := hide hN
  clear hq hA hc hm hN hp
  go_enter Tryd.func15, Tryd.ntmps15
  go_wp2_with (fail)
  obtain ⟨W0, hW0⟩ : ∃ W0, ((w.alloc (.cells #[.slice a N cap] 42)).alloc (.cells #[.int .i64 dev, .int .u32 (pa : Nat), .int .i64 n, .int .u32 (v : Nat)] 46)).alloc (.cells #[.slice none 0 0] 42) = W0 := ⟨_, rfl⟩
  have R0 := hide (hW0 ▸ ((RowAt.new w w.heap.size #[.slice a N cap] 42 rfl).al _).al _)
  have R1 := hide (hW0 ▸ (RowAt.new (w.alloc (.cells #[.slice a N cap] 42)) (w.heap.size + 1) #[.int .i64 dev, .int .u32 (pa : Nat), .int .i64 n, .int .u32 (v : Nat)] 46 (by simp)).al _)
  have R2 := hide (hW0 ▸ RowAt.new ((w.alloc (.cells #[.slice a N cap] 42)).alloc (.cells #[.int .i64 dev, .int .u32 (pa : Nat), .int .i64 n, .int .u32 (v : Nat)] 46)) (w.heap.size + 1 + 1) #[.slice none 0 0] 42 (by simp))
  have B0 : Hid (Below w.heap.size w W0) := hW0 ▸ below_three w _ _ _
  rw [hW0]
  clear hW0
  refine (HC.out _ B0.out).mono ?_
  rintro e W1 ⟨rfl, hb⟩
  replace R0 := hide (R0.out.bl hb)
  replace R1 := hide (R1.out.bl hb)
  replace R2 := hide (R2.out.bl hb)
  have B1 := hide (below_bl rfl B0.out hb)
  clear hb B0
  have c0 : W1.cell? ⟨w.heap.size + 1, 0, none⟩ = some (.int .i64 dev) := R1.out.cell 0
  have c1 : W1.cell? ⟨w.heap.size + 1, 1, none⟩ = some (.int .u32 (pa : Nat)) := R1.out.cell 1
  have c2 : W1.cell? ⟨w.heap.size + 1, 2, none⟩ = some (.int .i64 n) := R1.out.cell 2
  have c3 : W1.cell? ⟨w.heap.size + 1, 3, none⟩ = some (.int .u32 (v : Nat)) := R1.out.cell 3
  go_wp2_with (fail)
  clear c0 c1 c2 c3
  refine (HM.out _ B1.out).mono ?_
  rintro e W2 ⟨rfl, hb⟩
  replace R0 := hide (R0.out.bl hb)
  replace R1 := hide (R1.out.bl hb)
  replace R2 := hide (R2.out.bl hb)
  have B2 := hide (below_bl rfl B1.out hb)
  clear hb B1
  have d0 : W2.cell? ⟨w.heap.size, 0, none⟩ = some (.slice a N cap) := R0.out.cell 0
  have r0 : W2.cell? ⟨w.heap.size + 1 + 1, 0, none⟩ = some (.slice none 0 0) := R2.out.cell 0
  have r1 : W2.frozen? ⟨w.heap.size + 1 + 1, 0, none⟩ = false := R2.out.thaw 0
  go_wp2
  refine bodyPost_ret (results_cell_tmp_row Tryd.results15 _ _ (w.heap.size + 1 + 1) _ _ _ _ rfl (R2.out.put 0 _) Tryd.underlying42 rfl size_queue) rfl ?_
  exact ⟨rfl, B2.out.setCell (p := ⟨w.heap.size + 1 + 1, 0, none⟩) (by show w.heap.size ≤ w.heap.size + 1 + 1; omega) _⟩

set_option maxHeartbeats 1000000 in
set_option maxRecDepth 100000 in
theorem push_full (a : Option Addr) (l : List Pst) (hl : l.length ≤ 1000) (cap : Nat) (p : Pst) (hp : p.Ok) (w : World) (hq : QAt w a l) (hA : AreasAt w) (hc : checkQ l = true) (hm : mayP p = true) (h8l : l.length = 8) (hcap : l.length ≤ cap) :
    Calls Tryd.prog 15 #[.agg #[.slice a l.length cap], .agg p.cells] w fun e w' => e = .returned (.tuple #[.agg #[.slice none 0 0], .iface 61 (.int .i64 10)]) ∧ Below w.heap.size w w' := by
  obtain ⟨dev, pa, n, v⟩ := p
  have HC : Hid (∀ w', Below w.heap.size w w' → Calls Tryd.prog 20 #[.agg #[.slice a l.length cap]] w' fun e w'' => e = .returned .nilIface ∧ Below w'.heap.size w' w'') := hide (fun w' hb => by
    have := check_any a l hl cap w' (hq.bl hb) (hA.bl hb)
    rw [hc] at this
    exact this)
  have HM : Hid (∀ w', Below w.heap.size w w' → Calls Tryd.prog 28 #[.agg #[.int .i64 dev, .int .u32 (pa : Nat), .int .i64 n, .int .u32 (v : Nat)]] w' fun e w'' => e = .returned (.bool true) ∧ Below w'.heap.size w' w'') := hide (fun w' hb => by
    have := may_any ⟨dev, pa, n, v⟩ hp w' (hA.bl hb)
    rw [hm] at this
    exact this)
  have HQ := hide hq
  have HP := hide hp
  show Calls Tryd.prog 15 #[.agg #[.slice a l.length cap], .agg #[.int .i64 dev, .int .u32 (pa : Nat), .int .i64 n, .int .u32 (v : Nat)]] w _
  generalize hN : l.length = N at *
  have HN := hide hN
  have h8 : ((N : Int) == 8) = true := by simp; omega
  clear hq hA hc hm hN hp h8l
  go_enter Tryd.func15, Tryd.ntmps15
  go_wp2_with (fail)
  obtain ⟨W0, hW0⟩ : ∃ W0, ((w.alloc (.cells #[.slice a N cap] 42)).alloc (.cells #[.int .i64 dev, .int .u32 (pa : Nat), .int .i64 n, .int .u32 (v : Nat)] 46)).alloc (.cells #[.slice none 0 0] 42) = W0 := ⟨_, rfl⟩
  have R0 := hide (hW0 ▸ ((RowAt.new w w.heap.size #[.slice a N cap] 42 rfl).al _).al _)
  have R1 := hide (hW0 ▸ (RowAt.new (w.alloc (.cells #[.slice a N cap] 42)) (w.heap.size + 1) #[.int .i64 dev, .int .u32 (pa : Nat), .int .i64 n, .int .u32 (v : Nat)] 46 (by simp)).al _)
  have R2 := hide (hW0 ▸ RowAt.new ((w.alloc (.cells #[.slice a N cap] 42)).alloc (.cells #[.int .i64 dev, .int .u32 (pa : Nat), .int .i64 n, .int .u32 (v : Nat)] 46)) (w.heap.size + 1 + 1) #[.slice none 0 0] 42 (by simp))
  have B0 : Hid (Below w.heap.size w W0) := hW0 ▸ below_three w _ _ _
  rw [hW0]
  clear hW0
  refine (HC.out _ B0.out).mono ?_
  rintro e W1 ⟨rfl, hb⟩
  replace R0 := hide (R0.out.bl hb)
  replace R1 := hide (R1.out.bl hb)
  replace R2 := hide (R2.out.bl hb)
  have B1 := hide (below_bl rfl B0.out hb)
  clear hb B0
  have c0 : W1.cell? ⟨w.heap.size + 1, 0, none⟩ = some (.int .i64 dev) := R1.out.cell 0
  have c1 : W1.cell? ⟨w.heap.size + 1, 1, none⟩ = some (.int .u32 (pa : Nat)) := R1.out.cell 1
  have c2 : W1.cell? ⟨w.heap.size + 1, 2, none⟩ = some (.int .i64 n) := R1.out.cell 2
  have c3 : W1.cell? ⟨w.heap.size + 1, 3, none⟩ = some (.int .u32 (v : Nat)) := R1.out.cell 3
  go_wp2_with (fail)
  clear c0 c1 c2 c3
  refine (HM.out _ B1.out).mono ?_
  rintro e W2 ⟨rfl, hb⟩
  replace R0 := hide (R0.out.bl hb)
  replace R1 := hide (R1.out.bl hb)
  replace R2 := hide (R2.out.bl hb)
  have B2 := hide (below_bl rfl B1.out hb)
  clear hb B1
  have d0 : W2.cell? ⟨w.heap.size, 0, none⟩ = some (.slice a N cap) := R0.out.cell 0
  have r0 : W2.cell? ⟨w.heap.size + 1 + 1, 0, none⟩ = some (.slice none 0 0) := R2.out.cell 0
  have r1 : W2.frozen? ⟨w.heap.size + 1 + 1, 0, none⟩ = false := R2.out.thaw 0
  go_wp2
  refine bodyPost_ret (results_cell_tmp_row Tryd.results15 _ _ (w.heap.size + 1 + 1) _ _ _ _ rfl (R2.out.put 0 _) Tryd.underlying42 rfl size_queue) rfl ?_
  exact ⟨rfl, B2.out.setCell (p := ⟨w.heap.size + 1 + 1, 0, none⟩) (by show w.heap.size ≤ w.heap.size + 1 + 1; omega) _⟩


def pushE (l : List Pst) (p : Pst) : Nat := if checkQ l = true ∧ mayP p = true then (if l.length = 8 then 10 else 0) else 1
def pushL (l : List Pst) (p : Pst) : List Pst := if pushE l p = 0 then l ++ [p] else []
/-- What Push answers: a list that lies as it should, and the error. -/
theorem push_any (a : Option Addr) (l : List Pst) (hl : l.length ≤ 1000) (cap : Nat) (p : Pst) (hp : p.Ok) (w : World) (hq : QAt w a l) (hA : AreasAt w) (hcap : l.length ≤ cap) :
    Calls Tryd.prog 15 #[.agg #[.slice a l.length cap], .agg p.cells] w fun e w' => ∃ a' c, e = .returned (.tuple #[.agg #[.slice a' (pushL l p).length c], errB (pushE l p)]) ∧ (pushL l p).length ≤ c ∧ QAt w' a' (pushL l p) ∧ Below w.heap.size w w' ∧ (∀ g o s, a' = some ⟨g, o, s⟩ → w.heap.size ≤ g) := by
  have nil : ∀ (k : Nat), pushE l p = k → k ≠ 0 → ∀ e w', e = Ending.returned (.tuple #[.agg #[.slice none 0 0], .iface 61 (.int .i64 (k : Nat))]) ∧ Below w.heap.size w w' → ∃ a' c, e = .returned (.tuple #[.agg #[.slice a' (pushL l p).length c], errB (pushE l p)]) ∧ (pushL l p).length ≤ c ∧ QAt w' a' (pushL l p) ∧ Below w.heap.size w w' ∧ (∀ g o s, a' = some ⟨g, o, s⟩ → w.heap.size ≤ g) := by
    rintro k hE hk e w' ⟨rfl, hb⟩
    have hL : pushL l p = [] := by unfold pushL; rw [hE, if_neg hk]
    rw [hL, hE]
    exact ⟨none, 0, by unfold errB; rw [if_neg hk]; rfl, Nat.le_refl _, ⟨fun q hq => (by cases hq), .inl rfl⟩, hb, fun _ _ _ e => by cases e⟩
  by_cases hc : checkQ l = true
  · have h8 : l.length ≤ 8 := by
      unfold checkQ at hc
      rw [Bool.and_eq_true] at hc
      exact of_decide_eq_true hc.1
    by_cases hm : mayP p = true
    · by_cases h9 : l.length = 8
      · exact (push_full a l hl cap p hp w hq hA hc hm h9 hcap).mono (nil 10 (by unfold pushE; rw [if_pos ⟨hc, hm⟩, if_pos h9]) (by decide))
      · have hE : pushE l p = 0 := by unfold pushE; rw [if_pos ⟨hc, hm⟩, if_neg h9]
        have hL : pushL l p = l ++ [p] := by unfold pushL; rw [hE, if_pos rfl]
        rw [hE, hL]
        refine (push_ok a l (by omega) cap p hp w hq hA hc hm hcap).mono ?_
        rintro e w' ⟨g, c, rfl, h1, h2, h3, h4⟩
        exact ⟨some ⟨g, 0, none⟩, c, by rw [List.length_append]; rfl, by rw [List.length_append]; exact h1, h2, h3, fun _ _ _ e => by injection e with e; injection e with e; omega⟩
    · exact (push_badM a l hl cap p hp w hq hA hc (by simpa using hm) hcap).mono (nil 1 (by unfold pushE; rw [if_neg (fun h => hm h.2)]) (by decide))
  · exact (push_badC a l hl cap p hp w hq hA (by simpa using hc) hcap).mono (nil 1 (by unfold pushE; rw [if_neg (fun h => hc h.1)]) (by decide))
end Go.Proofs.YtcjfjkkkepjpmaaDoor
