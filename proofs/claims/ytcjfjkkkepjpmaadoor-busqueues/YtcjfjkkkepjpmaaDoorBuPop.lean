/-
  Queues of writes that wait: what bus.Pop answers.
-/
import Derived.Test.YtcjfjkkkepjpmaaDoorBuPush
import Derived.Laws.ResultCell
import Derived.Deep.RegionHeldLaw
namespace Go.Proofs.YtcjfjkkkepjpmaaDoor
open Go.RowKit
set_option linter.unusedVariables false
attribute [local go_sem ↓] Go.wp_at_zero Go.wp_at_succ

theorem results_cct_row {P : Program} {fn : Func} {p q u : Tmp} {ty ty2 : TypeId} (h : fn.results = #[.cell p ty, .cell q ty2, .tmp u]) (tmps : Array Value) (w : World) (g g2 : Nat) (t t2 : TypeId) (cs cs2 : Array Value) (fr fr2 : Nat × Nat) (d d2 : TypeDesc)
    (hp : tmps.getD p undef = .pointer (some ⟨g, 0, none⟩)) (hg : w.heap[g]? = some (.cells cs t fr)) (hu : P.underlying ty = some d) (hd : (match d with | .struct _ | .array _ _ => true | _ => false) = true) (hi : (P.info? ty).map (·.size) = some cs.size)
    (hp2 : tmps.getD q undef = .pointer (some ⟨g2, 0, none⟩)) (hg2 : w.heap[g2]? = some (.cells cs2 t2 fr2)) (hu2 : P.underlying ty2 = some d2) (hd2 : (match d2 with | .struct _ | .array _ _ => true | _ => false) = true) (hi2 : (P.info? ty2).map (·.size) = some cs2.size) :
    (results fn tmps).run P w = .ok (.tuple #[.agg cs, .agg cs2, tmps.getD u undef]) w := by
  have hp' : tmps[p]?.getD undef = .pointer (some ⟨g, 0, none⟩) := by simpa using hp
  have hp2' : tmps[q]?.getD undef = .pointer (some ⟨g2, 0, none⟩) := by simpa using hp2
  simp [results, h, hp', hp2', asAddr, run_loadVar_row w g t ty cs fr d hg hu hd hi, run_loadVar_row w g2 t2 ty2 cs2 fr2 d2 hg2 hu2 hd2 hi2]
theorem size_post : (Tryd.prog.info? 46).map (·.size) = some 4 := by kernel_rfl

/-- An append of none to none. -/
theorem step_app0 {ops : Array Oper} {o : Oper} {a : Act} {w : World} {K : Act → World → Prop} {Q : Exit → Act → World → Prop} {E : Prop}
    (hg : o.guard = none) (s x : Operand) (hop : o.op = Op.call { callee := Callee.builtin Builtin.append, args := #[s, x], argTypes := #[40, 40] }) (hty : o.type = 40)
    (ad : Addr) (c : Nat) (hs : a.eval s = .slice none 0 0) (hx : a.eval x = .slice (some ad) 0 c)
    (hK : K (a.put o.dst (.slice none 0 0)) w) :
    if Region.wanted o (yielded ops a.tmps) = true then Oper.wp Tryd.prog o a w K Q else E := by
  have hw : Region.wanted o (yielded ops a.tmps) = true := by simp [Region.wanted, hg]
  rw [if_pos hw]
  obtain ⟨i0, hi, hz, hsz, hby⟩ := info_parts (P := Tryd.prog) (e := 46) (z := .agg #[.int .i64 0, .int .u32 0, .int .i64 0, .int .u32 0]) (size := 4) (bytes := 32) (by kernel_rfl)
  have hrun : (Builtin.append_ #[40, 40] 40 #[.slice none 0 0, .slice (some ad) 0 c]).run Tryd.prog w = .ok (.slice none 0 0) w := by
    have hf := run_firstCells_some (P := Tryd.prog) w 4 0 ad 0 c [] rfl (fun j u h => by simp at h)
    simp [Builtin.append_, run_underlying Tryd.underlying40, sizeOf, typeInfo, hi, hsz, Builtin.lenOf, hf]
  unfold Oper.wp
  simp [execOp, hop, hty, resolve, invoke, builtin, hs, hx, hrun, Result.andThen]
  exact hK

theorem stored5 {W : World} {b1 b2 : Nat} {t1 t2 : TypeId} {q0 z0 z1 z2 z3 : Value} (R1 : RowAt W b1 #[q0] t1) (R2 : RowAt W b2 #[z0, z1, z2, z3] t2) (hne : b1 ≠ b2) (v x0 x1 x2 x3 : Value) :
    RowAt (((((W.setCell ⟨b1, 0, none⟩ v).setCell ⟨b2, 0, none⟩ x0).setCell ⟨b2, 1, none⟩ x1).setCell ⟨b2, 2, none⟩ x2).setCell ⟨b2, 3, none⟩ x3) b1 #[v] t1 ∧ RowAt (((((W.setCell ⟨b1, 0, none⟩ v).setCell ⟨b2, 0, none⟩ x0).setCell ⟨b2, 1, none⟩ x1).setCell ⟨b2, 2, none⟩ x2).setCell ⟨b2, 3, none⟩ x3) b2 #[x0, x1, x2, x3] t2 :=
  ⟨((((R1.put 0 v).far hne 0 x0).far hne 1 x1).far hne 2 x2).far hne 3 x3, ((((R2.far (fun e => hne e.symm) 0 v).put 0 x0).put 1 x1).put 2 x2).put 3 x3⟩
theorem keep5 {W : World} {b1 b2 g j : Nat} {u : Value} (h : W.cell? ⟨g, j, none⟩ = some u) (h1 : b1 ≠ g) (h2 : b2 ≠ g) (v x0 x1 x2 x3 : Value) : (((((W.setCell ⟨b1, 0, none⟩ v).setCell ⟨b2, 0, none⟩ x0).setCell ⟨b2, 1, none⟩ x1).setCell ⟨b2, 2, none⟩ x2).setCell ⟨b2, 3, none⟩ x3).cell? ⟨g, j, none⟩ = some u := by
  rw [World.cell?_setCell_far _ _ _ _ h2, World.cell?_setCell_far _ _ _ _ h2, World.cell?_setCell_far _ _ _ _ h2, World.cell?_setCell_far _ _ _ _ h2, World.cell?_setCell_far _ _ _ _ h1]
  exact h
theorem below5 {W w : World} {B b1 b2 : Nat} (h : Below B w W) (h1 : B ≤ b1) (h2 : B ≤ b2) (v x0 x1 x2 x3 : Value) : Below B w (((((W.setCell ⟨b1, 0, none⟩ v).setCell ⟨b2, 0, none⟩ x0).setCell ⟨b2, 1, none⟩ x1).setCell ⟨b2, 2, none⟩ x2).setCell ⟨b2, 3, none⟩ x3) :=
  ((((h.setCell (p := ⟨b1, 0, none⟩) h1 v).setCell (p := ⟨b2, 0, none⟩) h2 x0).setCell (p := ⟨b2, 1, none⟩) h2 x1).setCell (p := ⟨b2, 2, none⟩) h2 x2).setCell (p := ⟨b2, 3, none⟩) h2 x3
theorem far5 {W : World} {b1 b2 g : Nat} {t : TypeId} {cs : Array Value} (h : RowAt W g cs t) (h1 : g ≠ b1) (h2 : g ≠ b2) (v x0 x1 x2 x3 : Value) : RowAt (((((W.setCell ⟨b1, 0, none⟩ v).setCell ⟨b2, 0, none⟩ x0).setCell ⟨b2, 1, none⟩ x1).setCell ⟨b2, 2, none⟩ x2).setCell ⟨b2, 3, none⟩ x3) g cs t :=
  ((((h.far h1 0 v).far h2 0 x0).far h2 1 x1).far h2 2 x2).far h2 3 x3

set_option maxHeartbeats 1000000 in
set_option maxRecDepth 100000 in
theorem pop_bad (a : Option Addr) (l : List Pst) (hl : l.length ≤ 1000) (cap : Nat) (w : World) (hq : QAt w a l) (hA : AreasAt w) (hc : checkQ l = false) :
    Calls Tryd.prog 17 #[.agg #[.slice a l.length cap]] w fun e w' => e = .returned (.tuple #[.agg #[.slice none 0 0], .agg #[.int .i64 0, .int .u32 0, .int .i64 0, .int .u32 0], .iface 61 (.int .i64 1)]) ∧ Below w.heap.size w w' := by
  have HC : Hid (∀ w', Below w.heap.size w w' → Calls Tryd.prog 20 #[.agg #[.slice a l.length cap]] w' fun e w'' => e = .returned (.iface 61 (.int .i64 1)) ∧ Below w'.heap.size w' w'') := hide (fun w' hb => by
    have := check_any a l hl cap w' (hq.bl hb) (hA.bl hb)
    rw [hc] at this
    exact this)
  have HQ := hide hq
  generalize hN : l.length = N at *
  have HN := hide hN
  clear hq hA hc hN
  go_enter Tryd.func17, Tryd.ntmps17
  go_wp2_with (fail)
  obtain ⟨W0, hW0⟩ : ∃ W0, ((w.alloc (.cells #[.slice a N cap] 42)).alloc (.cells #[.slice none 0 0] 42)).alloc (.cells #[.int .i64 0, .int .u32 0, .int .i64 0, .int .u32 0] 46) = W0 := ⟨_, rfl⟩
  have R0 := hide (hW0 ▸ ((RowAt.new w w.heap.size #[.slice a N cap] 42 rfl).al _).al _)
  have R1 := hide (hW0 ▸ (RowAt.new (w.alloc (.cells #[.slice a N cap] 42)) (w.heap.size + 1) #[.slice none 0 0] 42 (by simp)).al _)
  have R2 := hide (hW0 ▸ RowAt.new ((w.alloc (.cells #[.slice a N cap] 42)).alloc (.cells #[.slice none 0 0] 42)) (w.heap.size + 1 + 1) #[.int .i64 0, .int .u32 0, .int .i64 0, .int .u32 0] 46 (by simp))
  have B0 : Hid (Below w.heap.size w W0) := hW0 ▸ below_three w _ _ _
  rw [hW0]
  clear hW0
  refine (HC.out _ B0.out).mono ?_
  rintro e W1 ⟨rfl, hb⟩
  replace R0 := hide (R0.out.bl hb)
  replace R1 := hide (R1.out.bl hb)
  replace R2 := hide (R2.out.bl hb)
  have B1 := hide (below_bl rfl B0.out hb)
  clear hb B0
  have d0 : W1.cell? ⟨w.heap.size, 0, none⟩ = some (.slice a N cap) := R0.out.cell 0
  have r0 : W1.cell? ⟨w.heap.size + 1, 0, none⟩ = some (.slice none 0 0) := R1.out.cell 0
  have r1 : W1.frozen? ⟨w.heap.size + 1, 0, none⟩ = false := R1.out.thaw 0
  have p0 : W1.cell? ⟨w.heap.size + 1 + 1, 0, none⟩ = some (.int .i64 0) := R2.out.cell 0
  have p1 : W1.cell? ⟨w.heap.size + 1 + 1, 1, none⟩ = some (.int .u32 0) := R2.out.cell 1
  have p2 : W1.cell? ⟨w.heap.size + 1 + 1, 2, none⟩ = some (.int .i64 0) := R2.out.cell 2
  have p3 : W1.cell? ⟨w.heap.size + 1 + 1, 3, none⟩ = some (.int .u32 0) := R2.out.cell 3
  have f0 : ∀ j, W1.frozen? ⟨w.heap.size + 1 + 1, j, none⟩ = false := fun j => R2.out.thaw j
  go_wp2
  refine bodyPost_ret (results_cct_row Tryd.results17 _ _ (w.heap.size + 1) (w.heap.size + 1 + 1) _ _ _ _ _ _ _ _ rfl (stored5 R1.out R2.out (by omega) _ _ _ _ _).1 Tryd.underlying42 rfl size_queue rfl (stored5 R1.out R2.out (by omega) _ _ _ _ _).2 Tryd.underlying46 rfl size_post) rfl ?_
  exact ⟨rfl, below5 B1.out (by omega) (by omega) _ _ _ _ _⟩
set_option maxHeartbeats 1000000 in
set_option maxRecDepth 100000 in
theorem pop_none (a : Option Addr) (l : List Pst) (hl : l.length ≤ 1000) (cap : Nat) (w : World) (hq : QAt w a l) (hA : AreasAt w) (hc : checkQ l = true) (h0l : l.length = 0) :
    Calls Tryd.prog 17 #[.agg #[.slice a l.length cap]] w fun e w' => e = .returned (.tuple #[.agg #[.slice none 0 0], .agg #[.int .i64 0, .int .u32 0, .int .i64 0, .int .u32 0], .iface 61 (.int .i64 8)]) ∧ Below w.heap.size w w' := by
  have HC : Hid (∀ w', Below w.heap.size w w' → Calls Tryd.prog 20 #[.agg #[.slice a l.length cap]] w' fun e w'' => e = .returned (.nilIface) ∧ Below w'.heap.size w' w'') := hide (fun w' hb => by
    have := check_any a l hl cap w' (hq.bl hb) (hA.bl hb)
    rw [hc] at this
    exact this)
  have HQ := hide hq
  generalize hN : l.length = N at *
  have HN := hide hN
  have hz : ((N : Int) == 0) = true := by simp; omega
  clear hq hA hc hN h0l
  go_enter Tryd.func17, Tryd.ntmps17
  go_wp2_with (fail)
  obtain ⟨W0, hW0⟩ : ∃ W0, ((w.alloc (.cells #[.slice a N cap] 42)).alloc (.cells #[.slice none 0 0] 42)).alloc (.cells #[.int .i64 0, .int .u32 0, .int .i64 0, .int .u32 0] 46) = W0 := ⟨_, rfl⟩
  have R0 := hide (hW0 ▸ ((RowAt.new w w.heap.size #[.slice a N cap] 42 rfl).al _).al _)
  have R1 := hide (hW0 ▸ (RowAt.new (w.alloc (.cells #[.slice a N cap] 42)) (w.heap.size + 1) #[.slice none 0 0] 42 (by simp)).al _)
  have R2 := hide (hW0 ▸ RowAt.new ((w.alloc (.cells #[.slice a N cap] 42)).alloc (.cells #[.slice none 0 0] 42)) (w.heap.size + 1 + 1) #[.int .i64 0, .int .u32 0, .int .i64 0, .int .u32 0] 46 (by simp))
  have B0 : Hid (Below w.heap.size w W0) := hW0 ▸ below_three w _ _ _
  rw [hW0]
  clear hW0
  refine (HC.out _ B0.out).mono ?_
  rintro e W1 ⟨rfl, hb⟩
  replace R0 := hide (R0.out.bl hb)
  replace R1 := hide (R1.out.bl hb)
  replace R2 := hide (R2.out.bl hb)
  have B1 := hide (below_bl rfl B0.out hb)
  clear hb B0
  have d0 : W1.cell? ⟨w.heap.size, 0, none⟩ = some (.slice a N cap) := R0.out.cell 0
  have r0 : W1.cell? ⟨w.heap.size + 1, 0, none⟩ = some (.slice none 0 0) := R1.out.cell 0
  have r1 : W1.frozen? ⟨w.heap.size + 1, 0, none⟩ = false := R1.out.thaw 0
  have p0 : W1.cell? ⟨w.heap.size + 1 + 1, 0, none⟩ = some (.int .i64 0) := R2.out.cell 0
  have p1 : W1.cell? ⟨w.heap.size + 1 + 1, 1, none⟩ = some (.int .u32 0) := R2.out.cell 1
  have p2 : W1.cell? ⟨w.heap.size + 1 + 1, 2, none⟩ = some (.int .i64 0) := R2.out.cell 2
  have p3 : W1.cell? ⟨w.heap.size + 1 + 1, 3, none⟩ = some (.int .u32 0) := R2.out.cell 3
  have f0 : ∀ j, W1.frozen? ⟨w.heap.size + 1 + 1, j, none⟩ = false := fun j => R2.out.thaw j
  go_wp2
  refine bodyPost_ret (results_cct_row Tryd.results17 _ _ (w.heap.size + 1) (w.heap.size + 1 + 1) _ _ _ _ _ _ _ _ rfl (stored5 R1.out R2.out (by omega) _ _ _ _ _).1 Tryd.underlying42 rfl size_queue rfl (stored5 R1.out R2.out (by omega) _ _ _ _ _).2 Tryd.underlying46 rfl size_post) rfl ?_
  exact ⟨rfl, below5 B1.out (by omega) (by omega) _ _ _ _ _⟩
set_option maxHeartbeats 2000000 in
set_option maxRecDepth 100000 in
theorem pop_one (g : Nat) (p : Pst) (l : List Pst) (hl0 : l = []) (hl : (p :: l).length ≤ 8) (cap : Nat) (hcap : (p :: l).length ≤ cap) (w : World) (hq : QAt w (some ⟨g, 0, none⟩) (p :: l)) (hp : PostsAt g (p :: l) w) (hA : AreasAt w) (hc : checkQ (p :: l) = true) :
    Calls Tryd.prog 17 #[.agg #[.slice (some ⟨g, 0, none⟩) (p :: l).length cap]] w fun e w' => ∃ a' c, e = .returned (.tuple #[.agg #[.slice a' l.length c], .agg p.cells, .nilIface]) ∧ l.length ≤ c ∧ QAt w' a' l ∧ Below w.heap.size w w' ∧ (∀ g o s, a' = some ⟨g, o, s⟩ → w.heap.size ≤ g) := by
  have HC : Hid (∀ w', Below w.heap.size w w' → Calls Tryd.prog 20 #[.agg #[.slice (some ⟨g, 0, none⟩) (p :: l).length cap]] w' fun e w'' => e = .returned .nilIface ∧ Below w'.heap.size w' w'') := hide (fun w' hb => by
    have := check_any (some ⟨g, 0, none⟩) (p :: l) (by omega) cap w' (hq.bl hb) (hA.bl hb)
    rw [hc] at this
    exact this)
  have HQ := hide hq
  have HPs := hide hp
  obtain ⟨dev, pa, n, v⟩ := p
  show Calls Tryd.prog 17 #[.agg #[.slice (some ⟨g, 0, none⟩) (Pst.mk dev pa n v :: l).length cap]] w fun e w' => ∃ a' c, e = .returned (.tuple #[.agg #[.slice a' l.length c], .agg #[.int .i64 dev, .int .u32 (pa : Nat), .int .i64 n, .int .u32 (v : Nat)], .nilIface]) ∧ l.length ≤ c ∧ QAt w' a' l ∧ Below w.heap.size w w' ∧ (∀ g o s, a' = some ⟨g, o, s⟩ → w.heap.size ≤ g)
  generalize hN : (Pst.mk dev pa n v :: l).length = N at *
  have hN1 : N = l.length + 1 := by rw [← hN]; rfl
  have HN := hide hN1
  have hz : ((N : Int) == 0) = false := by simp; omega
  obtain ⟨a, ha⟩ : ∃ a, (some ⟨g, 0, none⟩ : Option Addr) = a := ⟨_, rfl⟩
  clear hA hc hN hq hp hN1
  clear ha
  go_enter Tryd.func17, Tryd.ntmps17
  go_wp2_with (fail)
  obtain ⟨W0, hW0⟩ : ∃ W0, ((w.alloc (.cells #[.slice (some ⟨g, 0, none⟩) N cap] 42)).alloc (.cells #[.slice none 0 0] 42)).alloc (.cells #[.int .i64 0, .int .u32 0, .int .i64 0, .int .u32 0] 46) = W0 := ⟨_, rfl⟩
  have R0 := hide (hW0 ▸ ((RowAt.new w w.heap.size #[.slice (some ⟨g, 0, none⟩) N cap] 42 rfl).al _).al _)
  have R1 := hide (hW0 ▸ (RowAt.new (w.alloc (.cells #[.slice (some ⟨g, 0, none⟩) N cap] 42)) (w.heap.size + 1) #[.slice none 0 0] 42 (by simp)).al _)
  have R2 := hide (hW0 ▸ RowAt.new ((w.alloc (.cells #[.slice (some ⟨g, 0, none⟩) N cap] 42)).alloc (.cells #[.slice none 0 0] 42)) (w.heap.size + 1 + 1) #[.int .i64 0, .int .u32 0, .int .i64 0, .int .u32 0] 46 (by simp))
  have B0 : Hid (Below w.heap.size w W0) := hW0 ▸ below_three w _ _ _
  rw [hW0]
  clear hW0
  refine (HC.out _ B0.out).mono ?_
  rintro e W1 ⟨rfl, hb⟩
  replace R0 := hide (R0.out.bl hb)
  replace R1 := hide (R1.out.bl hb)
  replace R2 := hide (R2.out.bl hb)
  have B1 := hide (below_bl rfl B0.out hb)
  clear hb B0
  have d0 : W1.cell? ⟨w.heap.size, 0, none⟩ = some (.slice (some ⟨g, 0, none⟩) N cap) := R0.out.cell 0
  have r0 : W1.cell? ⟨w.heap.size + 1, 0, none⟩ = some (.slice none 0 0) := R1.out.cell 0
  have r1 : W1.frozen? ⟨w.heap.size + 1, 0, none⟩ = false := R1.out.thaw 0
  have p0 : W1.cell? ⟨w.heap.size + 1 + 1, 0, none⟩ = some (.int .i64 0) := R2.out.cell 0
  have p1 : W1.cell? ⟨w.heap.size + 1 + 1, 1, none⟩ = some (.int .u32 0) := R2.out.cell 1
  have p2 : W1.cell? ⟨w.heap.size + 1 + 1, 2, none⟩ = some (.int .i64 0) := R2.out.cell 2
  have p3 : W1.cell? ⟨w.heap.size + 1 + 1, 3, none⟩ = some (.int .u32 0) := R2.out.cell 3
  have f0 : ∀ j, W1.frozen? ⟨w.heap.size + 1 + 1, j, none⟩ = false := fun j => R2.out.thaw j
  obtain ⟨g0, g1, g2, g3⟩ := (HPs.out.bl B1.out) 0 ⟨dev, pa, n, v⟩ rfl
  simp only [Nat.zero_mul, Nat.zero_add] at g0 g1 g2 g3
  have hlg0 : g < w.heap.size := block_lt_of_cell (HPs.out 0 ⟨dev, pa, n, v⟩ rfl).1
  have s0 : ∀ u, (W1.setCell ⟨w.heap.size + 1, 0, none⟩ u).cell? ⟨g, 0, none⟩ = some (.int .i64 dev) := fun u => (World.cell?_setCell_other _ _ _ _ (by intro e; injection e; omega)).trans g0
  have s1 : ∀ u, (W1.setCell ⟨w.heap.size + 1, 0, none⟩ u).cell? ⟨g, 1, none⟩ = some (.int .u32 (pa : Nat)) := fun u => (World.cell?_setCell_other _ _ _ _ (by intro e; injection e; omega)).trans g1
  have s2 : ∀ u, (W1.setCell ⟨w.heap.size + 1, 0, none⟩ u).cell? ⟨g, 2, none⟩ = some (.int .i64 n) := fun u => (World.cell?_setCell_other _ _ _ _ (by intro e; injection e; omega)).trans g2
  have s3 : ∀ u, (W1.setCell ⟨w.heap.size + 1, 0, none⟩ u).cell? ⟨g, 3, none⟩ = some (.int .u32 (v : Nat)) := fun u => (World.cell?_setCell_other _ _ _ _ (by intro e; injection e; omega)).trans g3
  go_wp2_with (fail)
  have hN1 := HN.out
  subst hl0
  obtain rfl : N = 1 := hN1
  clear HN
  by_cases hc1 : cap = 1
  all_goals
    have hne1 : w.heap.size + 1 ≠ g := by omega
    have hne2 : w.heap.size + 1 + 1 ≠ g := by omega
    go_region_held_law (fun w' => w'.cell? ⟨w.heap.size, 0, none⟩ = some (.slice (some ⟨g, 0, none⟩) 1 cap) ∧ w'.cell? ⟨g, 0, none⟩ = some (.int .i64 dev) ∧ w'.cell? ⟨g, 1, none⟩ = some (.int .u32 (pa : Nat)) ∧ w'.cell? ⟨g, 2, none⟩ = some (.int .i64 n) ∧ w'.cell? ⟨g, 3, none⟩ = some (.int .u32 (v : Nat))) (first | (go_keep; done) | exact ⟨cellD (keep5 d0 (by omega) (by omega) _ _ _ _ _), cellD (keep5 g0 (by omega) (by omega) _ _ _ _ _), cellD (keep5 g1 (by omega) (by omega) _ _ _ _ _), cellD (keep5 g2 (by omega) (by omega) _ _ _ _ _), cellD (keep5 g3 (by omega) (by omega) _ _ _ _ _)⟩) (refine step_app0 rfl _ _ rfl rfl _ _ rfl rfl ?_)
    all_goals
      go_simp
      go_wp2
      obtain ⟨F, hF⟩ : ∃ F, (((((W1.setCell ⟨w.heap.size + 1, 0, none⟩ (.slice none 0 0)).setCell ⟨w.heap.size + 1 + 1, 0, none⟩ (.int .i64 dev)).setCell ⟨w.heap.size + 1 + 1, 1, none⟩ (.int .u32 (pa : Nat))).setCell ⟨w.heap.size + 1 + 1, 2, none⟩ (.int .i64 n)).setCell ⟨w.heap.size + 1 + 1, 3, none⟩ (.int .u32 (v : Nat))).drew = F := ⟨_, rfl⟩
      have RQ : RowAt F (w.heap.size + 1) #[.slice none 0 0] 42 := hF ▸ (stored5 R1.out R2.out (by omega) (.slice none 0 0) (.int .i64 dev) (.int .u32 (pa : Nat)) (.int .i64 n) (.int .u32 (v : Nat))).1.dr
      have RP : RowAt F (w.heap.size + 1 + 1) #[.int .i64 dev, .int .u32 (pa : Nat), .int .i64 n, .int .u32 (v : Nat)] 46 := hF ▸ (stored5 R1.out R2.out (by omega) (.slice none 0 0) (.int .i64 dev) (.int .u32 (pa : Nat)) (.int .i64 n) (.int .u32 (v : Nat))).2.dr
      have BF : Below w.heap.size w F := hF ▸ (below5 B1.out (by omega) (by omega) (.slice none 0 0) (.int .i64 dev) (.int .u32 (pa : Nat)) (.int .i64 n) (.int .u32 (v : Nat))).drew
      rw [hF]
      clear hF
      refine bodyPost_ret (results_cct_row Tryd.results17 _ _ (w.heap.size + 1) (w.heap.size + 1 + 1) _ _ _ _ _ _ _ _ rfl RQ Tryd.underlying42 rfl size_queue rfl RP Tryd.underlying46 rfl size_post) rfl ?_
      exact ⟨none, 0, rfl, Nat.le_refl _, ⟨fun q hq => (by cases hq), .inl rfl⟩, BF, fun _ _ _ e => by cases e⟩

set_option maxHeartbeats 2000000 in
set_option maxRecDepth 100000 in
theorem pop_more (g : Nat) (p : Pst) (l : List Pst) (hl0 : 0 < l.length) (hl : (p :: l).length ≤ 8) (cap : Nat) (hcap : (p :: l).length ≤ cap) (w : World) (hq : QAt w (some ⟨g, 0, none⟩) (p :: l)) (hp : PostsAt g (p :: l) w) (hA : AreasAt w) (hc : checkQ (p :: l) = true) :
    Calls Tryd.prog 17 #[.agg #[.slice (some ⟨g, 0, none⟩) (p :: l).length cap]] w fun e w' => ∃ a' c, e = .returned (.tuple #[.agg #[.slice a' l.length c], .agg p.cells, .nilIface]) ∧ l.length ≤ c ∧ QAt w' a' l ∧ Below w.heap.size w w' ∧ (∀ g o s, a' = some ⟨g, o, s⟩ → w.heap.size ≤ g) := by
  have HC : Hid (∀ w', Below w.heap.size w w' → Calls Tryd.prog 20 #[.agg #[.slice (some ⟨g, 0, none⟩) (p :: l).length cap]] w' fun e w'' => e = .returned .nilIface ∧ Below w'.heap.size w' w'') := hide (fun w' hb => by
    have := check_any (some ⟨g, 0, none⟩) (p :: l) (by omega) cap w' (hq.bl hb) (hA.bl hb)
    rw [hc] at this
    exact this)
  have HQ := hide hq
  have HPs := hide hp
  obtain ⟨dev, pa, n, v⟩ := p
  show Calls Tryd.prog 17 #[.agg #[.slice (some ⟨g, 0, none⟩) (Pst.mk dev pa n v :: l).length cap]] w fun e w' => ∃ a' c, e = .returned (.tuple #[.agg #[.slice a' l.length c], .agg #[.int .i64 dev, .int .u32 (pa : Nat), .int .i64 n, .int .u32 (v : Nat)], .nilIface]) ∧ l.length ≤ c ∧ QAt w' a' l ∧ Below w.heap.size w w' ∧ (∀ g o s, a' = some ⟨g, o, s⟩ → w.heap.size ≤ g)
  generalize hN : (Pst.mk dev pa n v :: l).length = N at *
  have hN1 : N = l.length + 1 := by rw [← hN]; rfl
  have HN := hide hN1
  have hz : ((N : Int) == 0) = false := by simp; omega
  obtain ⟨a, ha⟩ : ∃ a, (some ⟨g, 0, none⟩ : Option Addr) = a := ⟨_, rfl⟩
  clear hA hc hN hq hp hN1
  clear ha
  go_enter Tryd.func17, Tryd.ntmps17
  go_wp2_with (fail)
  obtain ⟨W0, hW0⟩ : ∃ W0, ((w.alloc (.cells #[.slice (some ⟨g, 0, none⟩) N cap] 42)).alloc (.cells #[.slice none 0 0] 42)).alloc (.cells #[.int .i64 0, .int .u32 0, .int .i64 0, .int .u32 0] 46) = W0 := ⟨_, rfl⟩
  have R0 := hide (hW0 ▸ ((RowAt.new w w.heap.size #[.slice (some ⟨g, 0, none⟩) N cap] 42 rfl).al _).al _)
  have R1 := hide (hW0 ▸ (RowAt.new (w.alloc (.cells #[.slice (some ⟨g, 0, none⟩) N cap] 42)) (w.heap.size + 1) #[.slice none 0 0] 42 (by simp)).al _)
  have R2 := hide (hW0 ▸ RowAt.new ((w.alloc (.cells #[.slice (some ⟨g, 0, none⟩) N cap] 42)).alloc (.cells #[.slice none 0 0] 42)) (w.heap.size + 1 + 1) #[.int .i64 0, .int .u32 0, .int .i64 0, .int .u32 0] 46 (by simp))
  have B0 : Hid (Below w.heap.size w W0) := hW0 ▸ below_three w _ _ _
  rw [hW0]
  clear hW0
  refine (HC.out _ B0.out).mono ?_
  rintro e W1 ⟨rfl, hb⟩
  replace R0 := hide (R0.out.bl hb)
  replace R1 := hide (R1.out.bl hb)
  replace R2 := hide (R2.out.bl hb)
  have B1 := hide (below_bl rfl B0.out hb)
  clear hb B0
  have d0 : W1.cell? ⟨w.heap.size, 0, none⟩ = some (.slice (some ⟨g, 0, none⟩) N cap) := R0.out.cell 0
  have r0 : W1.cell? ⟨w.heap.size + 1, 0, none⟩ = some (.slice none 0 0) := R1.out.cell 0
  have r1 : W1.frozen? ⟨w.heap.size + 1, 0, none⟩ = false := R1.out.thaw 0
  have p0 : W1.cell? ⟨w.heap.size + 1 + 1, 0, none⟩ = some (.int .i64 0) := R2.out.cell 0
  have p1 : W1.cell? ⟨w.heap.size + 1 + 1, 1, none⟩ = some (.int .u32 0) := R2.out.cell 1
  have p2 : W1.cell? ⟨w.heap.size + 1 + 1, 2, none⟩ = some (.int .i64 0) := R2.out.cell 2
  have p3 : W1.cell? ⟨w.heap.size + 1 + 1, 3, none⟩ = some (.int .u32 0) := R2.out.cell 3
  have f0 : ∀ j, W1.frozen? ⟨w.heap.size + 1 + 1, j, none⟩ = false := fun j => R2.out.thaw j
  obtain ⟨g0, g1, g2, g3⟩ := (HPs.out.bl B1.out) 0 ⟨dev, pa, n, v⟩ rfl
  simp only [Nat.zero_mul, Nat.zero_add] at g0 g1 g2 g3
  have hlg0 : g < w.heap.size := block_lt_of_cell (HPs.out 0 ⟨dev, pa, n, v⟩ rfl).1
  have s0 : ∀ u, (W1.setCell ⟨w.heap.size + 1, 0, none⟩ u).cell? ⟨g, 0, none⟩ = some (.int .i64 dev) := fun u => (World.cell?_setCell_other _ _ _ _ (by intro e; injection e; omega)).trans g0
  have s1 : ∀ u, (W1.setCell ⟨w.heap.size + 1, 0, none⟩ u).cell? ⟨g, 1, none⟩ = some (.int .u32 (pa : Nat)) := fun u => (World.cell?_setCell_other _ _ _ _ (by intro e; injection e; omega)).trans g1
  have s2 : ∀ u, (W1.setCell ⟨w.heap.size + 1, 0, none⟩ u).cell? ⟨g, 2, none⟩ = some (.int .i64 n) := fun u => (World.cell?_setCell_other _ _ _ _ (by intro e; injection e; omega)).trans g2
  have s3 : ∀ u, (W1.setCell ⟨w.heap.size + 1, 0, none⟩ u).cell? ⟨g, 3, none⟩ = some (.int .u32 (v : Nat)) := fun u => (World.cell?_setCell_other _ _ _ _ (by intro e; injection e; omega)).trans g3
  go_wp2_with (fail)
  have hN1 := HN.out
  have hlg : g < w.heap.size := block_lt_of_cell (HPs.out 0 ⟨dev, pa, n, v⟩ rfl).1
  obtain ⟨G, cs, hap, hG, hcs⟩ := app_any W1.drew none [] 0 ⟨g, 4, none⟩ l.length (cap - 1) l rfl hl0 (by simp; omega) (Nat.le_refl _) (Nat.le_refl _) (.inl rfl) (fun j u hj => by
    rw [Addr.add_lit]
    have := posts_cells (HPs.out.bl B1.out) (4 + j) u (by
      have e : postCells (Pst.mk dev pa n v :: l) = (Pst.mk dev pa n v).cells.toList ++ postCells l := rfl
      rw [e, List.getElem?_append_right (by simp [Pst.cells])]
      simpa [Pst.cells] using hj)
    exact this)
  have h4 : 0 + ([] : List Pst).length = 0 := rfl
  obtain ⟨k, hk⟩ : ∃ k, l.length = k := ⟨_, rfl⟩
  rw [hk] at hap hG
  have hk1 : N = k + 1 := by rw [hN1, hk]
  subst hk1
  have HAP : Hid (AppOk W1.drew (.slice none 0 0) (.slice (some ⟨g, 4, none⟩) k (cap - 1)) (0 + k) G cs) := hide hap
  have HG : Hid (0 + k ≤ G) := hide hG
  have HCS := hide hcs
  have HK := hide hk
  clear hap hG hcs hk hN1 HN
  have d0' : ∀ o, (W1.alloc o).cell? ⟨w.heap.size, 0, none⟩ = some (.slice (some ⟨g, 0, none⟩) (k + 1) cap) := fun o => cellA d0 o
  have g0' : ∀ o, (W1.alloc o).cell? ⟨g, 0, none⟩ = some (.int .i64 dev) := fun o => cellA g0 o
  have g1' : ∀ o, (W1.alloc o).cell? ⟨g, 1, none⟩ = some (.int .u32 (pa : Nat)) := fun o => cellA g1 o
  have g2' : ∀ o, (W1.alloc o).cell? ⟨g, 2, none⟩ = some (.int .i64 n) := fun o => cellA g2 o
  have g3' : ∀ o, (W1.alloc o).cell? ⟨g, 3, none⟩ = some (.int .u32 (v : Nat)) := fun o => cellA g3 o
  have s0' : ∀ o u, ((W1.alloc o).setCell ⟨w.heap.size + 1, 0, none⟩ u).cell? ⟨g, 0, none⟩ = some (.int .i64 dev) := fun o u => (World.cell?_setCell_other _ _ _ _ (by intro e; injection e; omega)).trans (g0' o)
  have s1' : ∀ o u, ((W1.alloc o).setCell ⟨w.heap.size + 1, 0, none⟩ u).cell? ⟨g, 1, none⟩ = some (.int .u32 (pa : Nat)) := fun o u => (World.cell?_setCell_other _ _ _ _ (by intro e; injection e; omega)).trans (g1' o)
  have s2' : ∀ o u, ((W1.alloc o).setCell ⟨w.heap.size + 1, 0, none⟩ u).cell? ⟨g, 2, none⟩ = some (.int .i64 n) := fun o u => (World.cell?_setCell_other _ _ _ _ (by intro e; injection e; omega)).trans (g2' o)
  have s3' : ∀ o u, ((W1.alloc o).setCell ⟨w.heap.size + 1, 0, none⟩ u).cell? ⟨g, 3, none⟩ = some (.int .u32 (v : Nat)) := fun o u => (World.cell?_setCell_other _ _ _ _ (by intro e; injection e; omega)).trans (g3' o)
  have r0' : ∀ o, (W1.alloc o).cell? ⟨w.heap.size + 1, 0, none⟩ = some (.slice none 0 0) := fun o => cellA r0 o
  have r1' : ∀ o, (W1.alloc o).frozen? ⟨w.heap.size + 1, 0, none⟩ = false := fun o => (R1.out.al o).thaw 0
  have p0' : ∀ o, (W1.alloc o).cell? ⟨w.heap.size + 1 + 1, 0, none⟩ = some (.int .i64 0) := fun o => cellA p0 o
  have p1' : ∀ o, (W1.alloc o).cell? ⟨w.heap.size + 1 + 1, 1, none⟩ = some (.int .u32 0) := fun o => cellA p1 o
  have p2' : ∀ o, (W1.alloc o).cell? ⟨w.heap.size + 1 + 1, 2, none⟩ = some (.int .i64 0) := fun o => cellA p2 o
  have p3' : ∀ o, (W1.alloc o).cell? ⟨w.heap.size + 1 + 1, 3, none⟩ = some (.int .u32 0) := fun o => cellA p3 o
  have f0' : ∀ o j, (W1.alloc o).frozen? ⟨w.heap.size + 1 + 1, j, none⟩ = false := fun o j => (R2.out.al o).thaw j
  have t1 : 1 ≤ (k : Int) + 1 := by omega
  have t2 : ¬ cap = 1 := by have := HK.out; omega
  have hne1 : w.heap.size + 1 ≠ g := by omega
  have hne2 : w.heap.size + 1 + 1 ≠ g := by omega
  go_region_held_law (fun w' => w'.cell? ⟨w.heap.size, 0, none⟩ = some (.slice (some ⟨g, 0, none⟩) (k + 1) cap) ∧ w'.cell? ⟨g, 0, none⟩ = some (.int .i64 dev) ∧ w'.cell? ⟨g, 1, none⟩ = some (.int .u32 (pa : Nat)) ∧ w'.cell? ⟨g, 2, none⟩ = some (.int .i64 n) ∧ w'.cell? ⟨g, 3, none⟩ = some (.int .u32 (v : Nat))) (first | (go_keep; done) | exact ⟨cellD (cellD (keep5 (d0' _) (by omega) (by omega) _ _ _ _ _)), cellD (cellD (keep5 (g0' _) (by omega) (by omega) _ _ _ _ _)), cellD (cellD (keep5 (g1' _) (by omega) (by omega) _ _ _ _ _)), cellD (cellD (keep5 (g2' _) (by omega) (by omega) _ _ _ _ _)), cellD (cellD (keep5 (g3' _) (by omega) (by omega) _ _ _ _ _))⟩) (refine step_app rfl _ _ rfl rfl _ _ rfl rfl _ _ _ HAP.out ?_)
  all_goals
    go_simp
    go_wp2
    obtain ⟨F, hF⟩ : ∃ F, ((((((W1.alloc (.cells cs 46)).setCell ⟨w.heap.size + 1, 0, none⟩ (.slice (some ⟨W1.heap.size, 0, none⟩) k G)).setCell ⟨w.heap.size + 1 + 1, 0, none⟩ (.int .i64 dev)).setCell ⟨w.heap.size + 1 + 1, 1, none⟩ (.int .u32 (pa : Nat))).setCell ⟨w.heap.size + 1 + 1, 2, none⟩ (.int .i64 n)).setCell ⟨w.heap.size + 1 + 1, 3, none⟩ (.int .u32 (v : Nat))).drew.drew = F := ⟨_, rfl⟩
    have RQ : RowAt F (w.heap.size + 1) #[.slice (some ⟨W1.heap.size, 0, none⟩) k G] 42 := hF ▸ (stored5 (R1.out.al (.cells cs 46)) (R2.out.al (.cells cs 46)) (by omega) (.slice (some ⟨W1.heap.size, 0, none⟩) k G) (.int .i64 dev) (.int .u32 (pa : Nat)) (.int .i64 n) (.int .u32 (v : Nat))).1.dr.dr
    have RP : RowAt F (w.heap.size + 1 + 1) #[.int .i64 dev, .int .u32 (pa : Nat), .int .i64 n, .int .u32 (v : Nat)] 46 := hF ▸ (stored5 (R1.out.al (.cells cs 46)) (R2.out.al (.cells cs 46)) (by omega) (.slice (some ⟨W1.heap.size, 0, none⟩) k G) (.int .i64 dev) (.int .u32 (pa : Nat)) (.int .i64 n) (.int .u32 (v : Nat))).2.dr.dr
    have BF : Below w.heap.size w F := hF ▸ (below5 (B1.out.alloc B1.out.size (.cells cs 46)) (by omega) (by omega) (.slice (some ⟨W1.heap.size, 0, none⟩) k G) (.int .i64 dev) (.int .u32 (pa : Nat)) (.int .i64 n) (.int .u32 (v : Nat))).drew.drew
    have RN : RowAt F W1.heap.size cs 46 := hF ▸ (far5 (RowAt.new W1 W1.heap.size cs 46 rfl) (by have := R2.out.lt; omega) (by have := R2.out.lt; omega) (.slice (some ⟨W1.heap.size, 0, none⟩) k G) (.int .i64 dev) (.int .u32 (pa : Nat)) (.int .i64 n) (.int .u32 (v : Nat))).dr.dr
    rw [hF]
    clear hF
    refine bodyPost_ret (results_cct_row Tryd.results17 _ _ (w.heap.size + 1) (w.heap.size + 1 + 1) _ _ _ _ _ _ _ _ rfl RQ Tryd.underlying42 rfl size_queue rfl RP Tryd.underlying46 rfl size_post) rfl ?_
    exact ⟨some ⟨W1.heap.size, 0, none⟩, G, by rw [HK.out]; rfl, by rw [HK.out]; have := HG.out; omega, ⟨fun q hq => HQ.out.ok q (List.mem_cons_of_mem _ hq), .inr ⟨_, rfl, posts_of_row RN HCS.out⟩⟩, BF, fun _ _ _ e => by injection e with e; injection e with e; have := B1.out.size; omega⟩

def zeroP : Pst := ⟨0, 0, 0, 0⟩
def popE (l : List Pst) : Nat := if checkQ l = true then (if l = [] then 8 else 0) else 1
def popL (l : List Pst) : List Pst := if popE l = 0 then l.tail else []
def popP (l : List Pst) : Pst := if popE l = 0 then l.headD zeroP else zeroP
/-- What Pop answers. -/
theorem pop_any (a : Option Addr) (l : List Pst) (hl : l.length ≤ 1000) (cap : Nat) (w : World) (hq : QAt w a l) (hA : AreasAt w) (hcap : l.length ≤ cap) :
    Calls Tryd.prog 17 #[.agg #[.slice a l.length cap]] w fun e w' => ∃ a' c, e = .returned (.tuple #[.agg #[.slice a' (popL l).length c], .agg (popP l).cells, errB (popE l)]) ∧ (popL l).length ≤ c ∧ QAt w' a' (popL l) ∧ Below w.heap.size w w' ∧ (∀ g o s, a' = some ⟨g, o, s⟩ → w.heap.size ≤ g) := by
  have nil : ∀ (k : Nat), popE l = k → k ≠ 0 → ∀ e w', e = Ending.returned (.tuple #[.agg #[.slice none 0 0], .agg #[.int .i64 0, .int .u32 0, .int .i64 0, .int .u32 0], .iface 61 (.int .i64 (k : Nat))]) ∧ Below w.heap.size w w' → ∃ a' c, e = .returned (.tuple #[.agg #[.slice a' (popL l).length c], .agg (popP l).cells, errB (popE l)]) ∧ (popL l).length ≤ c ∧ QAt w' a' (popL l) ∧ Below w.heap.size w w' ∧ (∀ g o s, a' = some ⟨g, o, s⟩ → w.heap.size ≤ g) := by
    rintro k hE hk e w' ⟨rfl, hb⟩
    have hL : popL l = [] := by unfold popL; rw [hE, if_neg hk]
    have hP : popP l = zeroP := by unfold popP; rw [hE, if_neg hk]
    rw [hL, hE, hP]
    exact ⟨none, 0, by unfold errB; rw [if_neg hk]; rfl, Nat.le_refl _, ⟨fun q hq => (by cases hq), .inl rfl⟩, hb, fun _ _ _ e => by cases e⟩
  by_cases hc : checkQ l = true
  · cases l with
    | nil => exact (pop_none a [] (by simp) cap w hq hA hc rfl).mono (nil 8 rfl (by decide))
    | cons p t =>
      have hE : popE (p :: t) = 0 := by unfold popE; rw [if_pos hc, if_neg (by simp)]
      have hL : popL (p :: t) = t := by unfold popL; rw [hE, if_pos rfl]; rfl
      have hP : popP (p :: t) = p := by unfold popP; rw [hE, if_pos rfl]; rfl
      have h8 : (p :: t).length ≤ 8 := by
        have hc' := hc
        unfold checkQ at hc'
        rw [Bool.and_eq_true] at hc'
        exact of_decide_eq_true hc'.1
      rw [hE, hL, hP]
      rcases hq.lies with h | ⟨g, rfl, hp⟩
      · cases h
      · by_cases ht : t = []
        · exact pop_one g p t ht h8 cap hcap w hq hp hA hc
        · exact pop_more g p t (List.length_pos_iff.2 ht) h8 cap hcap w hq hp hA hc
  · exact (pop_bad a l hl cap w hq hA (by simpa using hc)).mono (nil 1 (by unfold popE; rw [if_neg hc]) (by decide))
end Go.Proofs.YtcjfjkkkepjpmaaDoor
