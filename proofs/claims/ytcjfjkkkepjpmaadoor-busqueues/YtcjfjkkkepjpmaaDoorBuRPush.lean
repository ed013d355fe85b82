/-
  Queues of writes that wait: what the document's Push answers.
-/
import Derived.Test.YtcjfjkkkepjpmaaDoorBuRCheck
import Derived.Test.YtcjfjkkkepjpmaaDoorBuPush
import Derived.Deep.RegionHeldLaw
namespace Go.Proofs.YtcjfjkkkepjpmaaDoor
open Go.RowKit
set_option linter.unusedVariables false
attribute [local go_sem ↓] Go.wp_at_zero Go.wp_at_succ

theorem rposts_cells {b off : Nat} {l : List Pst} {w : World} (h : RPosts b off l w) : ∀ (j : Nat) (u : Value), (postCells l)[j]? = some u → w.cell? ⟨b, off + j, none⟩ = some u := by
  intro j u hj
  have hlt : j < (postCells l).length := (List.getElem?_eq_some_iff.1 hj).1
  rw [postCells_len] at hlt
  have hq : j / 4 < l.length := by omega
  obtain ⟨h0, h1, h2, h3⟩ := h (j / 4) _ (List.getElem?_eq_getElem hq)
  obtain ⟨k0, k1, k2, k3⟩ := postCells_at l (j / 4) _ (List.getElem?_eq_getElem hq)
  obtain e | e | e | e : j = j / 4 * 4 ∨ j = j / 4 * 4 + 1 ∨ j = j / 4 * 4 + 2 ∨ j = j / 4 * 4 + 3 := by omega
  · rw [e] at hj ⊢; rw [k0] at hj; rw [h0]; exact hj
  · rw [e] at hj ⊢; rw [k1] at hj; rw [← Nat.add_assoc, h1]; exact hj
  · rw [e] at hj ⊢; rw [k2] at hj; rw [← Nat.add_assoc, h2]; exact hj
  · rw [e] at hj ⊢; rw [k3] at hj; rw [← Nat.add_assoc, h3]; exact hj
theorem rposts_of_row {g : Nat} {l : List Pst} {w : World} {cs : Array Value} {t : TypeId} (h : RowAt w g cs t) (hc : ∀ (j : Nat) (u : Value), (postCells l)[j]? = some u → cs[j]? = some u) : RPosts g 0 l w := by
  intro j p hp
  obtain ⟨k0, k1, k2, k3⟩ := postCells_at l j p hp
  simp only [Nat.zero_add]
  rw [h.cell, h.cell, h.cell, h.cell]
  exact ⟨hc _ _ k0, hc _ _ k1, hc _ _ k2, hc _ _ k3⟩

def RAppOk (X : World) (v x : Value) (n G : Nat) (cs : Array Value) : Prop :=
  (Builtin.append_ #[35, 35] 35 #[v, x]).run Tryd.prog X = .ok (.slice (some ⟨X.heap.size, 0, none⟩) n G) (X.drew.alloc (.cells cs 39))
theorem rapp_any (X : World) (a : Option Addr) (l : List Pst) (s : Addr) (p : Pst) (hl : l.length < 8)
    (hold : l = [] ∨ ∃ b off, a = some ⟨b, off, none⟩ ∧ RPosts b off l X) (hsrc : ∀ (j : Nat) (u : Value), (postCells [p])[j]? = some u → X.cell? (s.add j) = some u) :
    ∃ G cs, RAppOk X (.slice a l.length l.length) (.slice (some s) 1 1) (l.length + 1) G cs ∧ l.length + 1 ≤ G ∧ ∀ (j : Nat) (u : Value), (postCells (l ++ [p]))[j]? = some u → cs[j]? = some u := by
  obtain ⟨i0, hi, hz, hs, hby⟩ := info_parts (P := Tryd.prog) (e := 39) (z := .agg #[.int .i64 0, .int .u32 0, .int .i64 0, .int .u32 0]) (size := 4) (bytes := 32) (by kernel_rfl)
  have hf : (Builtin.firstCells i0.size l.length (.slice a l.length l.length)).run Tryd.prog X.drew = .ok (postCells l).toArray X.drew := by
    rw [hs]
    rcases hold with rfl | ⟨b, off, rfl, hp⟩
    · cases a with
      | none => exact run_firstCells_none _ _ _ _ _
      | some ad => exact run_firstCells_some _ 4 0 ad 0 0 [] rfl (fun j u h => by simp at h)
    · refine run_firstCells_some _ 4 _ ⟨b, off, none⟩ _ _ (postCells l) (postCells_len l) (fun j u h => ?_)
      rw [Addr.add_lit]
      exact rposts_cells hp j u h
  have hS : Src Tryd.prog i0.size 35 (.slice (some s) 1 1) 1 (postCells [p]) X := Src.ofSlice X Tryd.underlying35 s 1 1 (postCells [p]) (by rw [postCells_len, hs]; rfl) hsrc (postCells_one [p])
  have hN : Builtin.nextslicecap (l.length + 1) l.length * i0.bytes ≤ 281474976710656 := by
    rw [hby]
    exact cap_small l.length (by omega) l.length (Nat.le_refl _)
  refine ⟨_, _, run_append_grow_src (P := Tryd.prog) X 35 35 35 39 i0 _ Tryd.underlying35 hi hz a l.length l.length (postCells l) hf _ 1 (postCells [p]) hS (by omega) (by omega) hN, grownCap_ge _ _ _ _, fun j u h => ?_⟩
  have hlt : j < (postCells l ++ postCells [p]).length := by rw [← postCells_app]; exact (List.getElem?_eq_some_iff.1 h).1
  rw [Array.getElem?_append_left (by simpa using hlt)]
  rw [List.getElem?_toArray, ← postCells_app]
  exact h
theorem step_rapp {ops : Array Oper} {o : Oper} {a : Act} {w : World} {K : Act → World → Prop} {Q : Exit → Act → World → Prop} {E : Prop}
    (hg : o.guard = none) (s x : Operand) (hop : o.op = Op.call { callee := Callee.builtin Builtin.append, args := #[s, x], argTypes := #[35, 35] }) (hty : o.type = 35)
    (vs vx : Value) (hs : a.eval s = vs) (hx : a.eval x = vx) (n G : Nat) (cs : Array Value) (h : RAppOk w vs vx n G cs)
    (hK : K (a.put o.dst (.slice (some ⟨w.heap.size, 0, none⟩) n G)) (w.drew.alloc (.cells cs 39))) :
    if Region.wanted o (yielded ops a.tmps) = true then Oper.wp Tryd.prog o a w K Q else E := by
  have hw : Region.wanted o (yielded ops a.tmps) = true := by simp [Region.wanted, hg]
  rw [if_pos hw]
  have hrun : (Builtin.append_ #[35, 35] 35 #[vs, vx]).run Tryd.prog w = .ok (.slice (some ⟨w.heap.size, 0, none⟩) n G) (w.drew.alloc (.cells cs 39)) := h
  unfold Oper.wp
  simp [execOp, hop, hty, resolve, invoke, builtin, hs, hx, hrun, Result.andThen]
  exact hK
theorem keepF {W : World} {o1 o2 : Obj} {b j x : Nat} {u v : Value} (h : W.cell? ⟨b, j, none⟩ = some u) (hne : x ≠ b) : (((W.alloc o1).alloc o2).setCell ⟨x, 0, none⟩ v).drew.drew.cell? ⟨b, j, none⟩ = some u :=
  cellD (cellD ((World.cell?_setCell_far _ _ _ _ hne).trans (cellA (cellA h o1) o2)))
theorem size_rqueue : (Tryd.prog.info? 37).map (·.size) = some 1 := by kernel_rfl
set_option maxHeartbeats 1000000 in
set_option maxRecDepth 100000 in
theorem rpush_ok (a : Option Addr) (l : List Pst) (hl : l.length < 8) (cap : Nat) (p : Pst) (hp : p.Ok) (w : World) (hq : RQAt w a l) (hc : checkQ l = true) (hm : mayP p = true) (hcap : l.length ≤ cap) :
    Calls Tryd.prog 16 #[.agg #[.slice a l.length cap], .agg p.cells] w fun e w' => ∃ g c, e = .returned (.tuple #[.agg #[.slice (some ⟨g, 0, none⟩) (l.length + 1) c], .int .i64 0]) ∧ l.length + 1 ≤ c ∧ RQAt w' (some ⟨g, 0, none⟩) (l ++ [p]) ∧ Below w.heap.size w w' ∧ w.heap.size ≤ g := by
  obtain ⟨dev, pa, n, v⟩ := p
  have HC : Hid (∀ w', Below w.heap.size w w' → Calls Tryd.prog 21 #[.agg #[.slice a l.length cap]] w' fun e w'' => e = .returned (.int .i64 0) ∧ Below w'.heap.size w' w'') := hide (fun w' hb => by
    have := rcheck_any a l (by omega) cap w' (hq.bl hb)
    rw [hc] at this
    exact this)
  have HM : Hid (∀ w', Below w.heap.size w w' → Calls Tryd.prog 29 #[.agg #[.int .i64 dev, .int .u32 (pa : Nat), .int .i64 n, .int .u32 (v : Nat)]] w' fun e w'' => e = .returned (.bool true) ∧ Below w'.heap.size w' w'') := hide (fun w' hb => by
    have := rmay_any ⟨dev, pa, n, v⟩ hp w'
    rw [hm] at this
    exact this)
  have HQ := hide hq
  have HP := hide hp
  show Calls Tryd.prog 16 #[.agg #[.slice a l.length cap], .agg #[.int .i64 dev, .int .u32 (pa : Nat), .int .i64 n, .int .u32 (v : Nat)]] w _
  generalize hN : l.length = N at *
  have HN := hide hN
  have h8 : ¬ 7 < (N : Int) := by omega
  clear hq hc hm hN hp
  go_enter Tryd.func16, Tryd.ntmps16
  go_wp2_with (fail)
  obtain ⟨W0, hW0⟩ : ∃ W0, ((w.alloc (.cells #[.slice a N cap] 37)).alloc (.cells #[.int .i64 dev, .int .u32 (pa : Nat), .int .i64 n, .int .u32 (v : Nat)] 39)).alloc (.cells #[.slice none 0 0] 37) = W0 := ⟨_, rfl⟩
  have R0 := hide (hW0 ▸ ((RowAt.new w w.heap.size #[.slice a N cap] 37 rfl).al _).al _)
  have R1 := hide (hW0 ▸ (RowAt.new (w.alloc (.cells #[.slice a N cap] 37)) (w.heap.size + 1) #[.int .i64 dev, .int .u32 (pa : Nat), .int .i64 n, .int .u32 (v : Nat)] 39 (by simp)).al _)
  have R2 := hide (hW0 ▸ RowAt.new ((w.alloc (.cells #[.slice a N cap] 37)).alloc (.cells #[.int .i64 dev, .int .u32 (pa : Nat), .int .i64 n, .int .u32 (v : Nat)] 39)) (w.heap.size + 1 + 1) #[.slice none 0 0] 37 (by simp))
  have B0 : Hid (Below w.heap.size w W0) := hW0 ▸ below_three w _ _ _
  rw [hW0]
  clear hW0
  refine (HC.out _ B0.out).mono ?_
  rintro e W1 ⟨rfl, hb⟩
  replace R0 := hide (R0.out.bl hb)
  replace R1 := hide (R1.out.bl hb)
  replace R2 := hide (R2.out.bl hb)
  have B1 := hide (below_bl rfl B0.out hb)
  clear hb B0
  have c0 : W1.cell? ⟨w.heap.size + 1, 0, none⟩ = some (.int .i64 dev) := R1.out.cell 0
  have c1 : W1.cell? ⟨w.heap.size + 1, 1, none⟩ = some (.int .u32 (pa : Nat)) := R1.out.cell 1
  have c2 : W1.cell? ⟨w.heap.size + 1, 2, none⟩ = some (.int .i64 n) := R1.out.cell 2
  have c3 : W1.cell? ⟨w.heap.size + 1, 3, none⟩ = some (.int .u32 (v : Nat)) := R1.out.cell 3
  go_wp2_with (fail)
  clear c0 c1 c2 c3
  refine (HM.out _ B1.out).mono ?_
  rintro e W2 ⟨rfl, hb⟩
  replace R0 := hide (R0.out.bl hb)
  replace R1 := hide (R1.out.bl hb)
  replace R2 := hide (R2.out.bl hb)
  have B2 := hide (below_bl rfl B1.out hb)
  clear hb B1
  have c0 : W2.cell? ⟨w.heap.size + 1, 0, none⟩ = some (.int .i64 dev) := R1.out.cell 0
  have c1 : W2.cell? ⟨w.heap.size + 1, 1, none⟩ = some (.int .u32 (pa : Nat)) := R1.out.cell 1
  have c2 : W2.cell? ⟨w.heap.size + 1, 2, none⟩ = some (.int .i64 n) := R1.out.cell 2
  have c3 : W2.cell? ⟨w.heap.size + 1, 3, none⟩ = some (.int .u32 (v : Nat)) := R1.out.cell 3
  have d0 : W2.cell? ⟨w.heap.size, 0, none⟩ = some (.slice a N cap) := R0.out.cell 0
  have r0 : W2.cell? ⟨w.heap.size + 1 + 1, 0, none⟩ = some (.slice none 0 0) := R2.out.cell 0
  have r1 : W2.frozen? ⟨w.heap.size + 1 + 1, 0, none⟩ = false := R2.out.thaw 0
  go_wp2_with (fail)
  obtain ⟨X, hX⟩ : ∃ X, (W2.alloc (.cells #[.int .i64 dev, .int .u32 (pa : Nat), .int .i64 n, .int .u32 (v : Nat)] 39)).drew = X := ⟨_, rfl⟩
  have hbX : Below w.heap.size w X := hX ▸ (B2.out.alloc B2.out.size _).drew
  have hrX : RowAt X W2.heap.size #[.int .i64 dev, .int .u32 (pa : Nat), .int .i64 n, .int .u32 (v : Nat)] 39 := hX ▸ (RowAt.new W2 _ _ _ rfl).dr
  obtain ⟨G, cs, hap, hG, hcs⟩ := rapp_any X a l ⟨W2.heap.size, 0, none⟩ ⟨dev, pa, n, v⟩ (by rw [HN.out]; exact hl) (HQ.out.bl hbX).lies (fun j u hj => by
    rw [Addr.add_lit, Nat.zero_add, hrX.cell]
    rw [← Array.getElem?_toList]
    exact hj)
  rw [HN.out] at hap hG
  rw [← hX] at hap
  have HAP := hide hap
  have HG := hide hG
  have HCS := hide hcs
  clear hap hG hcs hX hbX hrX X
  have d0' : ∀ o, (W2.alloc o).cell? ⟨w.heap.size, 0, none⟩ = some (.slice a N cap) := fun o => (R0.out.al o).cell 0
  have r0' : ∀ o1 o2, ((W2.alloc o1).alloc o2).cell? ⟨w.heap.size + 1 + 1, 0, none⟩ = some (.slice none 0 0) := fun o1 o2 => ((R2.out.al o1).al o2).cell 0
  have r1' : ∀ o1 o2, ((W2.alloc o1).alloc o2).frozen? ⟨w.heap.size + 1 + 1, 0, none⟩ = false := fun o1 o2 => ((R2.out.al o1).al o2).thaw 0
  go_region_held_law (fun w' => w'.cell? ⟨w.heap.size, 0, none⟩ = some (.slice a N cap) ∧ w'.cell? ⟨w.heap.size + 1, 0, none⟩ = some (.int .i64 dev) ∧ w'.cell? ⟨w.heap.size + 1, 1, none⟩ = some (.int .u32 (pa : Nat)) ∧ w'.cell? ⟨w.heap.size + 1, 2, none⟩ = some (.int .i64 n) ∧ w'.cell? ⟨w.heap.size + 1, 3, none⟩ = some (.int .u32 (v : Nat))) (first | (go_keep; done) | exact ⟨keepF d0 (by omega), keepF c0 (by omega), keepF c1 (by omega), keepF c2 (by omega), keepF c3 (by omega)⟩) (refine step_rapp rfl _ _ rfl rfl _ _ rfl rfl _ _ _ HAP.out ?_)
  all_goals
    go_simp
    go_wp2
    obtain ⟨F, hF⟩ : ∃ F, (((W2.alloc (.cells #[.int .i64 dev, .int .u32 (pa : Nat), .int .i64 n, .int .u32 (v : Nat)] 39)).alloc (.cells cs 39)).setCell ⟨w.heap.size + 1 + 1, 0, none⟩ (.slice (some ⟨W2.heap.size + 1, 0, none⟩) (N + 1) G)).drew.drew = F := ⟨_, rfl⟩
    have RQ : RowAt F (w.heap.size + 1 + 1) #[.slice (some ⟨W2.heap.size + 1, 0, none⟩) (N + 1) G] 37 := hF ▸ ((((R2.out.al (.cells #[.int .i64 dev, .int .u32 (pa : Nat), .int .i64 n, .int .u32 (v : Nat)] 39)).al (.cells cs 39)).put 0 (.slice (some ⟨W2.heap.size + 1, 0, none⟩) (N + 1) G)).dr).dr
    have RN : RowAt F (W2.heap.size + 1) cs 39 := hF ▸ (((RowAt.new (W2.alloc (.cells #[.int .i64 dev, .int .u32 (pa : Nat), .int .i64 n, .int .u32 (v : Nat)] 39)) (W2.heap.size + 1) cs 39 (by simp)).far (by have := R2.out.lt; omega) 0 (.slice (some ⟨W2.heap.size + 1, 0, none⟩) (N + 1) G)).dr).dr
    have BF : Below w.heap.size w F := hF ▸ ((((B2.out.alloc B2.out.size (.cells #[.int .i64 dev, .int .u32 (pa : Nat), .int .i64 n, .int .u32 (v : Nat)] 39)).alloc (by have := B2.out.size; simp; omega) (.cells cs 39)).setCell (p := ⟨w.heap.size + 1 + 1, 0, none⟩) (by show w.heap.size ≤ w.heap.size + 1 + 1; omega) (.slice (some ⟨W2.heap.size + 1, 0, none⟩) (N + 1) G)).drew).drew
    rw [hF]
    clear hF
    refine bodyPost_ret (results_cell_tmp_row Tryd.results16 _ _ (w.heap.size + 1 + 1) _ _ _ _ rfl RQ Tryd.underlying37 rfl size_rqueue) rfl ?_
    exact ⟨W2.heap.size + 1, G, rfl, HG.out, ⟨fun q hq => by
      rcases List.mem_append.1 hq with hq | hq
      · exact HQ.out.ok q hq
      · rw [List.mem_singleton.1 hq]; exact HP.out, .inr ⟨_, _, rfl, rposts_of_row RN HCS.out⟩⟩, BF, by have := B2.out.size; omega⟩

set_option maxHeartbeats 1000000 in
set_option maxRecDepth 100000 in
theorem rpush_badC (a : Option Addr) (l : List Pst) (hl : l.length ≤ 1000) (cap : Nat) (p : Pst) (hp : p.Ok) (w : World) (hq : RQAt w a l) (hc : checkQ l = false) (hcap : l.length ≤ cap) :
    Calls Tryd.prog 16 #[.agg #[.slice a l.length cap], .agg p.cells] w fun e w' => e = .returned (.tuple #[.agg #[.slice none 0 0], .int .i64 1]) ∧ Below w.heap.size w w' := by
  obtain ⟨dev, pa, n, v⟩ := p
  have HC : Hid (∀ w', Below w.heap.size w w' → Calls Tryd.prog 21 #[.agg #[.slice a l.length cap]] w' fun e w'' => e = .returned (.int .i64 1) ∧ Below w'.heap.size w' w'') := hide (fun w' hb => by
    have := rcheck_any a l (by omega) cap w' (hq.bl hb)
    rw [hc] at this
    exact this)
  have HQ := hide hq
  have HP := hide hp
  show Calls Tryd.prog 16 #[.agg #[.slice a l.length cap], .agg #[.int .i64 dev, .int .u32 (pa : Nat), .int .i64 n, .int .u32 (v : Nat)]] w _
  generalize hN : l.length = N at *
  have HN := hide hN
  clear hq hc hN hp
  go_enter Tryd.func16, Tryd.ntmps16
  go_wp2_with (fail)
  obtain ⟨W0, hW0⟩ : ∃ W0, ((w.alloc (.cells #[.slice a N cap] 37)).alloc (.cells #[.int .i64 dev, .int .u32 (pa : Nat), .int .i64 n, .int .u32 (v : Nat)] 39)).alloc (.cells #[.slice none 0 0] 37) = W0 := ⟨_, rfl⟩
  have R0 := hide (hW0 ▸ ((RowAt.new w w.heap.size #[.slice a N cap] 37 rfl).al _).al _)
  have R1 := hide (hW0 ▸ (RowAt.new (w.alloc (.cells #[.slice a N cap] 37)) (w.heap.size + 1) #[.int .i64 dev, .int .u32 (pa : Nat), .int .i64 n, .int .u32 (v : Nat)] 39 (by simp)).al _)
  have R2 := hide (hW0 ▸ RowAt.new ((w.alloc (.cells #[.slice a N cap] 37)).alloc (.cells #[.int .i64 dev, .int .u32 (pa : Nat), .int .i64 n, .int .u32 (v : Nat)] 39)) (w.heap.size + 1 + 1) #[.slice none 0 0] 37 (by simp))
  have B0 : Hid (Below w.heap.size w W0) := hW0 ▸ below_three w _ _ _
  rw [hW0]
  clear hW0
  refine (HC.out _ B0.out).mono ?_
  rintro e W1 ⟨rfl, hb⟩
  replace R0 := hide (R0.out.bl hb)
  replace R1 := hide (R1.out.bl hb)
  replace R2 := hide (R2.out.bl hb)
  have B1 := hide (below_bl rfl B0.out hb)
  clear hb B0
  have r0 : W1.cell? ⟨w.heap.size + 1 + 1, 0, none⟩ = some (.slice none 0 0) := R2.out.cell 0
  have r1 : W1.frozen? ⟨w.heap.size + 1 + 1, 0, none⟩ = false := R2.out.thaw 0
  go_wp2
  refine bodyPost_ret (results_cell_tmp_row Tryd.results16 _ _ (w.heap.size + 1 + 1) _ _ _ _ rfl (R2.out.put 0 _) Tryd.underlying37 rfl size_rqueue) rfl ?_
  exact ⟨rfl, B1.out.setCell (p := ⟨w.heap.size + 1 + 1, 0, none⟩) (by show w.heap.size ≤ w.heap.size + 1 + 1; omega) _⟩

set_option maxHeartbeats 1000000 in
set_option maxRecDepth 100000 in
theorem rpush_badM (a : Option Addr) (l : List Pst) (hl : l.length ≤ 1000) (cap : Nat) (p : Pst) (hp : p.Ok) (w : World) (hq : RQAt w a l) (hc : checkQ l = true) (hm : mayP p = false) (hcap : l.length ≤ cap) :
    Calls Tryd.prog 16 #[.agg #[.slice a l.length cap], .agg p.cells] w fun e w' => e = .returned (.tuple #[.agg #[.slice none 0 0], .int .i64 1]) ∧ Below w.heap.size w w' := by
  obtain ⟨dev, pa, n, v⟩ := p
  have HC : Hid (∀ w', Below w.heap.size w w' → Calls Tryd.prog 21 #[.agg #[.slice a l.length cap]] w' fun e w'' => e = .returned (.int .i64 0) ∧ Below w'.heap.size w' w'') := hide (fun w' hb => by
    have := rcheck_any a l (by omega) cap w' (hq.bl hb)
    rw [hc] at this
    exact this)
  have HM : Hid (∀ w', Below w.heap.size w w' → Calls Tryd.prog 29 #[.agg #[.int .i64 dev, .int .u32 (pa : Nat), .int .i64 n, .int .u32 (v : Nat)]] w' fun e w'' => e = .returned (.bool false) ∧ Below w'.heap.size w' w'') := hide (fun w' hb => by
    have := rmay_any ⟨dev, pa, n, v⟩ hp w'
    rw [hm] at this
    exact this)
  have HQ := hide hq
  have HP := hide hp
  show Calls Tryd.prog 16 #[.agg #[.slice a l.length cap], .agg #[.int .i64 dev, .int .u32 (pa : Nat), .int .i64 n, .int .u32 (v : Nat)]] w _
  generalize hN : l.length = N at *
  have HN := hide hN
  clear hq hc hm hN hp
  go_enter Tryd.func16, Tryd.ntmps16
  go_wp2_with (fail)
  obtain ⟨W0, hW0⟩ : ∃ W0, ((w.alloc (.cells #[.slice a N cap] 37)).alloc (.cells #[.int .i64 dev, .int .u32 (pa : Nat), .int .i64 n, .int .u32 (v : Nat)] 39)).alloc (.cells #[.slice none 0 0] 37) = W0 := ⟨_, rfl⟩
  have R0 := hide (hW0 ▸ ((RowAt.new w w.heap.size #[.slice a N cap] 37 rfl).al _).al _)
  have R1 := hide (hW0 ▸ (RowAt.new (w.alloc (.cells #[.slice a N cap] 37)) (w.heap.size + 1) #[.int .i64 dev, .int .u32 (pa : Nat), .int .i64 n, .int .u32 (v : Nat)] 39 (by simp)).al _)
  have R2 := hide (hW0 ▸ RowAt.new ((w.alloc (.cells #[.slice a N cap] 37)).alloc (.cells #[.int .i64 dev, .int .u32 (pa : Nat), .int .i64 n, .int .u32 (v : Nat)] 39)) (w.heap.size + 1 + 1) #[.slice none 0 0] 37 (by simp))
  have B0 : Hid (Below w.heap.size w W0) := hW0 ▸ below_three w _ _ _
  rw [hW0]
  clear hW0
  refine (HC.out _ B0.out).mono ?_
  rintro e W1 ⟨rfl, hb⟩
  replace R0 := hide (R0.out.bl hb)
  replace R1 := hide (R1.out.bl hb)
  replace R2 := hide (R2.out.bl hb)
  have B1 := hide (below_bl rfl B0.out hb)
  clear hb B0
  have c0 : W1.cell? ⟨w.heap.size + 1, 0, none⟩ = some (.int .i64 dev) := R1.out.cell 0
  have c1 : W1.cell? ⟨w.heap.size + 1, 1, none⟩ = some (.int .u32 (pa : Nat)) := R1.out.cell 1
  have c2 : W1.cell? ⟨w.heap.size + 1, 2, none⟩ = some (.int .i64 n) := R1.out.cell 2
  have c3 : W1.cell? ⟨w.heap.size + 1, 3, none⟩ = some (.int .u32 (v : Nat)) := R1.out.cell 3
  go_wp2_with (fail)
  clear c0 c1 c2 c3
  refine (HM.out _ B1.out).mono ?_
  rintro e W2 ⟨rfl, hb⟩
  replace R0 := hide (R0.out.bl hb)
  replace R1 := hide (R1.out.bl hb)
  replace R2 := hide (R2.out.bl hb)
  have B2 := hide (below_bl rfl B1.out hb)
  clear hb B1
  have d0 : W2.cell? ⟨w.heap.size, 0, none⟩ = some (.slice a N cap) := R0.out.cell 0
  have r0 : W2.cell? ⟨w.heap.size + 1 + 1, 0, none⟩ = some (.slice none 0 0) := R2.out.cell 0
  have r1 : W2.frozen? ⟨w.heap.size + 1 + 1, 0, none⟩ = false := R2.out.thaw 0
  go_wp2
  refine bodyPost_ret (results_cell_tmp_row Tryd.results16 _ _ (w.heap.size + 1 + 1) _ _ _ _ rfl (R2.out.put 0 _) Tryd.underlying37 rfl size_rqueue) rfl ?_
  exact ⟨rfl, B2.out.setCell (p := ⟨w.heap.size + 1 + 1, 0, none⟩) (by show w.heap.size ≤ w.heap.size + 1 + 1; omega) _⟩

set_option maxHeartbeats 1000000 in
set_option maxRecDepth 100000 in
theorem rpush_full (a : Option Addr) (l : List Pst) (hl : l.length ≤ 1000) (cap : Nat) (p : Pst) (hp : p.Ok) (w : World) (hq : RQAt w a l) (hc : checkQ l = true) (hm : mayP p = true) (h8l : l.length = 8) (hcap : l.length ≤ cap) :
    Calls Tryd.prog 16 #[.agg #[.slice a l.length cap], .agg p.cells] w fun e w' => e = .returned (.tuple #[.agg #[.slice none 0 0], .int .i64 10]) ∧ Below w.heap.size w w' := by
  obtain ⟨dev, pa, n, v⟩ := p
  have HC : Hid (∀ w', Below w.heap.size w w' → Calls Tryd.prog 21 #[.agg #[.slice a l.length cap]] w' fun e w'' => e = .returned (.int .i64 0) ∧ Below w'.heap.size w' w'') := hide (fun w' hb => by
    have := rcheck_any a l (by omega) cap w' (hq.bl hb)
    rw [hc] at this
    exact this)
  have HM : Hid (∀ w', Below w.heap.size w w' → Calls Tryd.prog 29 #[.agg #[.int .i64 dev, .int .u32 (pa : Nat), .int .i64 n, .int .u32 (v : Nat)]] w' fun e w'' => e = .returned (.bool true) ∧ Below w'.heap.size w' w'') := hide (fun w' hb => by
    have := rmay_any ⟨dev, pa, n, v⟩ hp w'
    rw [hm] at this
    exact this)
  have HQ := hide hq
  have HP := hide hp
  show Calls Tryd.prog 16 #[.agg #[.slice a l.length cap], .agg #[.int .i64 dev, .int .u32 (pa : Nat), .int .i64 n, .int .u32 (v : Nat)]] w _
  generalize hN : l.length = N at *
  have HN := hide hN
  have h8 : 7 < (N : Int) := by omega
  clear hq hc hm hN hp h8l
  go_enter Tryd.func16, Tryd.ntmps16
  go_wp2_with (fail)
  obtain ⟨W0, hW0⟩ : ∃ W0, ((w.alloc (.cells #[.slice a N cap] 37)).alloc (.cells #[.int .i64 dev, .int .u32 (pa : Nat), .int .i64 n, .int .u32 (v : Nat)] 39)).alloc (.cells #[.slice none 0 0] 37) = W0 := ⟨_, rfl⟩
  have R0 := hide (hW0 ▸ ((RowAt.new w w.heap.size #[.slice a N cap] 37 rfl).al _).al _)
  have R1 := hide (hW0 ▸ (RowAt.new (w.alloc (.cells #[.slice a N cap] 37)) (w.heap.size + 1) #[.int .i64 dev, .int .u32 (pa : Nat), .int .i64 n, .int .u32 (v : Nat)] 39 (by simp)).al _)
  have R2 := hide (hW0 ▸ RowAt.new ((w.alloc (.cells #[.slice a N cap] 37)).alloc (.cells #[.int .i64 dev, .int .u32 (pa : Nat), .int .i64 n, .int .u32 (v : Nat)] 39)) (w.heap.size + 1 + 1) #[.slice none 0 0] 37 (by simp))
  have B0 : Hid (Below w.heap.size w W0) := hW0 ▸ below_three w _ _ _
  rw [hW0]
  clear hW0
  refine (HC.out _ B0.out).mono ?_
  rintro e W1 ⟨rfl, hb⟩
  replace R0 := hide (R0.out.bl hb)
  replace R1 := hide (R1.out.bl hb)
  replace R2 := hide (R2.out.bl hb)
  have B1 := hide (below_bl rfl B0.out hb)
  clear hb B0
  have c0 : W1.cell? ⟨w.heap.size + 1, 0, none⟩ = some (.int .i64 dev) := R1.out.cell 0
  have c1 : W1.cell? ⟨w.heap.size + 1, 1, none⟩ = some (.int .u32 (pa : Nat)) := R1.out.cell 1
  have c2 : W1.cell? ⟨w.heap.size + 1, 2, none⟩ = some (.int .i64 n) := R1.out.cell 2
  have c3 : W1.cell? ⟨w.heap.size + 1, 3, none⟩ = some (.int .u32 (v : Nat)) := R1.out.cell 3
  go_wp2_with (fail)
  clear c0 c1 c2 c3
  refine (HM.out _ B1.out).mono ?_
  rintro e W2 ⟨rfl, hb⟩
  replace R0 := hide (R0.out.bl hb)
  replace R1 := hide (R1.out.bl hb)
  replace R2 := hide (R2.out.bl hb)
  have B2 := hide (below_bl rfl B1.out hb)
  clear hb B1
  have d0 : W2.cell? ⟨w.heap.size, 0, none⟩ = some (.slice a N cap) := R0.out.cell 0
  have r0 : W2.cell? ⟨w.heap.size + 1 + 1, 0, none⟩ = some (.slice none 0 0) := R2.out.cell 0
  have r1 : W2.frozen? ⟨w.heap.size + 1 + 1, 0, none⟩ = false := R2.out.thaw 0
  go_wp2
  refine bodyPost_ret (results_cell_tmp_row Tryd.results16 _ _ (w.heap.size + 1 + 1) _ _ _ _ rfl (R2.out.put 0 _) Tryd.underlying37 rfl size_rqueue) rfl ?_
  exact ⟨rfl, B2.out.setCell (p := ⟨w.heap.size + 1 + 1, 0, none⟩) (by show w.heap.size ≤ w.heap.size + 1 + 1; omega) _⟩


/-- What the document's Push answers: a list that lies as it should, and the error. -/
theorem rpush_any (a : Option Addr) (l : List Pst) (hl : l.length ≤ 1000) (cap : Nat) (p : Pst) (hp : p.Ok) (w : World) (hq : RQAt w a l) (hcap : l.length ≤ cap) :
    Calls Tryd.prog 16 #[.agg #[.slice a l.length cap], .agg p.cells] w fun e w' => ∃ a' c, e = .returned (.tuple #[.agg #[.slice a' (pushL l p).length c], .int .i64 (pushE l p : Nat)]) ∧ (pushL l p).length ≤ c ∧ RQAt w' a' (pushL l p) ∧ Below w.heap.size w w' ∧ (∀ g o s, a' = some ⟨g, o, s⟩ → w.heap.size ≤ g) := by
  have nil : ∀ (k : Nat), pushE l p = k → k ≠ 0 → ∀ e w', e = Ending.returned (.tuple #[.agg #[.slice none 0 0], .int .i64 (k : Nat)]) ∧ Below w.heap.size w w' → ∃ a' c, e = .returned (.tuple #[.agg #[.slice a' (pushL l p).length c], .int .i64 (pushE l p : Nat)]) ∧ (pushL l p).length ≤ c ∧ RQAt w' a' (pushL l p) ∧ Below w.heap.size w w' ∧ (∀ g o s, a' = some ⟨g, o, s⟩ → w.heap.size ≤ g) := by
    rintro k hE hk e w' ⟨rfl, hb⟩
    have hL : pushL l p = [] := by unfold pushL; rw [hE, if_neg hk]
    rw [hL, hE]
    exact ⟨none, 0, rfl, Nat.le_refl _, ⟨fun q hq => (by cases hq), .inl rfl⟩, hb, fun _ _ _ e => by cases e⟩
  by_cases hc : checkQ l = true
  · have h8 : l.length ≤ 8 := by
      unfold checkQ at hc
      rw [Bool.and_eq_true] at hc
      exact of_decide_eq_true hc.1
    by_cases hm : mayP p = true
    · by_cases h9 : l.length = 8
      · exact (rpush_full a l hl cap p hp w hq hc hm h9 hcap).mono (nil 10 (by unfold pushE; rw [if_pos ⟨hc, hm⟩, if_pos h9]) (by decide))
      · have hE : pushE l p = 0 := by unfold pushE; rw [if_pos ⟨hc, hm⟩, if_neg h9]
        have hL : pushL l p = l ++ [p] := by unfold pushL; rw [hE, if_pos rfl]
        rw [hE, hL]
        refine (rpush_ok a l (by omega) cap p hp w hq hc hm hcap).mono ?_
        rintro e w' ⟨g, c, rfl, h1, h2, h3, h4⟩
        exact ⟨some ⟨g, 0, none⟩, c, by rw [List.length_append]; rfl, by rw [List.length_append]; exact h1, h2, h3, fun _ _ _ e => by injection e with e; injection e with e; omega⟩
    · exact (rpush_badM a l hl cap p hp w hq hc (by simpa using hm) hcap).mono (nil 1 (by unfold pushE; rw [if_neg (fun h => hm h.2)]) (by decide))
  · exact (rpush_badC a l hl cap p hp w hq (by simpa using hc) hcap).mono (nil 1 (by unfold pushE; rw [if_neg (fun h => hc h.1)]) (by decide))
end Go.Proofs.YtcjfjkkkepjpmaaDoor
