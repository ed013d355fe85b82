/-
  Queues of writes that wait: what the document's Pop answers.
-/
import Derived.Test.YtcjfjkkkepjpmaaDoorBuRPush
import Derived.Test.YtcjfjkkkepjpmaaDoorBuPop
namespace Go.Proofs.YtcjfjkkkepjpmaaDoor
open Go.RowKit
set_option linter.unusedVariables false
attribute [local go_sem ↓] Go.wp_at_zero Go.wp_at_succ

theorem size_rpost : (Tryd.prog.info? 39).map (·.size) = some 4 := by kernel_rfl
set_option maxHeartbeats 1000000 in
set_option maxRecDepth 100000 in
theorem rpop_bad (a : Option Addr) (l : List Pst) (hl : l.length ≤ 1000) (cap : Nat) (w : World) (hq : RQAt w a l) (hc : checkQ l = false) :
    Calls Tryd.prog 18 #[.agg #[.slice a l.length cap]] w fun e w' => e = .returned (.tuple #[.agg #[.slice none 0 0], .agg #[.int .i64 0, .int .u32 0, .int .i64 0, .int .u32 0], .int .i64 1]) ∧ Below w.heap.size w w' := by
  have HC : Hid (∀ w', Below w.heap.size w w' → Calls Tryd.prog 21 #[.agg #[.slice a l.length cap]] w' fun e w'' => e = .returned (.int .i64 1) ∧ Below w'.heap.size w' w'') := hide (fun w' hb => by
    have := rcheck_any a l (by omega) cap w' (hq.bl hb)
    rw [hc] at this
    exact this)
  have HQ := hide hq
  generalize hN : l.length = N at *
  have HN := hide hN
  clear hq hc hN
  go_enter Tryd.func18, Tryd.ntmps18
  go_wp2_with (fail)
  obtain ⟨W0, hW0⟩ : ∃ W0, ((w.alloc (.cells #[.slice a N cap] 37)).alloc (.cells #[.slice none 0 0] 37)).alloc (.cells #[.int .i64 0, .int .u32 0, .int .i64 0, .int .u32 0] 39) = W0 := ⟨_, rfl⟩
  have R0 := hide (hW0 ▸ ((RowAt.new w w.heap.size #[.slice a N cap] 37 rfl).al _).al _)
  have R1 := hide (hW0 ▸ (RowAt.new (w.alloc (.cells #[.slice a N cap] 37)) (w.heap.size + 1) #[.slice none 0 0] 37 (by simp)).al _)
  have R2 := hide (hW0 ▸ RowAt.new ((w.alloc (.cells #[.slice a N cap] 37)).alloc (.cells #[.slice none 0 0] 37)) (w.heap.size + 1 + 1) #[.int .i64 0, .int .u32 0, .int .i64 0, .int .u32 0] 39 (by simp))
  have B0 : Hid (Below w.heap.size w W0) := hW0 ▸ below_three w _ _ _
  rw [hW0]
  clear hW0
  refine (HC.out _ B0.out).mono ?_
  rintro e W1 ⟨rfl, hb⟩
  replace R0 := hide (R0.out.bl hb)
  replace R1 := hide (R1.out.bl hb)
  replace R2 := hide (R2.out.bl hb)
  have B1 := hide (below_bl rfl B0.out hb)
  clear hb B0
  have d0 : W1.cell? ⟨w.heap.size, 0, none⟩ = some (.slice a N cap) := R0.out.cell 0
  have r0 : W1.cell? ⟨w.heap.size + 1, 0, none⟩ = some (.slice none 0 0) := R1.out.cell 0
  have r1 : W1.frozen? ⟨w.heap.size + 1, 0, none⟩ = false := R1.out.thaw 0
  have p0 : W1.cell? ⟨w.heap.size + 1 + 1, 0, none⟩ = some (.int .i64 0) := R2.out.cell 0
  have p1 : W1.cell? ⟨w.heap.size + 1 + 1, 1, none⟩ = some (.int .u32 0) := R2.out.cell 1
  have p2 : W1.cell? ⟨w.heap.size + 1 + 1, 2, none⟩ = some (.int .i64 0) := R2.out.cell 2
  have p3 : W1.cell? ⟨w.heap.size + 1 + 1, 3, none⟩ = some (.int .u32 0) := R2.out.cell 3
  have f0 : ∀ j, W1.frozen? ⟨w.heap.size + 1 + 1, j, none⟩ = false := fun j => R2.out.thaw j
  go_wp2
  refine bodyPost_ret (results_cct_row Tryd.results18 _ _ (w.heap.size + 1) (w.heap.size + 1 + 1) _ _ _ _ _ _ _ _ rfl (stored5 R1.out R2.out (by omega) _ _ _ _ _).1 Tryd.underlying37 rfl size_rqueue rfl (stored5 R1.out R2.out (by omega) _ _ _ _ _).2 Tryd.underlying39 rfl size_rpost) rfl ?_
  exact ⟨rfl, below5 B1.out (by omega) (by omega) _ _ _ _ _⟩
set_option maxHeartbeats 1000000 in
set_option maxRecDepth 100000 in
theorem rpop_none (a : Option Addr) (l : List Pst) (hl : l.length ≤ 1000) (cap : Nat) (w : World) (hq : RQAt w a l) (hc : checkQ l = true) (h0l : l.length = 0) :
    Calls Tryd.prog 18 #[.agg #[.slice a l.length cap]] w fun e w' => e = .returned (.tuple #[.agg #[.slice none 0 0], .agg #[.int .i64 0, .int .u32 0, .int .i64 0, .int .u32 0], .int .i64 8]) ∧ Below w.heap.size w w' := by
  have HC : Hid (∀ w', Below w.heap.size w w' → Calls Tryd.prog 21 #[.agg #[.slice a l.length cap]] w' fun e w'' => e = .returned (.int .i64 0) ∧ Below w'.heap.size w' w'') := hide (fun w' hb => by
    have := rcheck_any a l (by omega) cap w' (hq.bl hb)
    rw [hc] at this
    exact this)
  have HQ := hide hq
  generalize hN : l.length = N at *
  have HN := hide hN
  have hz : ((N : Int) == 0) = true := by simp; omega
  clear hq hc hN h0l
  go_enter Tryd.func18, Tryd.ntmps18
  go_wp2_with (fail)
  obtain ⟨W0, hW0⟩ : ∃ W0, ((w.alloc (.cells #[.slice a N cap] 37)).alloc (.cells #[.slice none 0 0] 37)).alloc (.cells #[.int .i64 0, .int .u32 0, .int .i64 0, .int .u32 0] 39) = W0 := ⟨_, rfl⟩
  have R0 := hide (hW0 ▸ ((RowAt.new w w.heap.size #[.slice a N cap] 37 rfl).al _).al _)
  have R1 := hide (hW0 ▸ (RowAt.new (w.alloc (.cells #[.slice a N cap] 37)) (w.heap.size + 1) #[.slice none 0 0] 37 (by simp)).al _)
  have R2 := hide (hW0 ▸ RowAt.new ((w.alloc (.cells #[.slice a N cap] 37)).alloc (.cells #[.slice none 0 0] 37)) (w.heap.size + 1 + 1) #[.int .i64 0, .int .u32 0, .int .i64 0, .int .u32 0] 39 (by simp))
  have B0 : Hid (Below w.heap.size w W0) := hW0 ▸ below_three w _ _ _
  rw [hW0]
  clear hW0
  refine (HC.out _ B0.out).mono ?_
  rintro e W1 ⟨rfl, hb⟩
  replace R0 := hide (R0.out.bl hb)
  replace R1 := hide (R1.out.bl hb)
  replace R2 := hide (R2.out.bl hb)
  have B1 := hide (below_bl rfl B0.out hb)
  clear hb B0
  have d0 : W1.cell? ⟨w.heap.size, 0, none⟩ = some (.slice a N cap) := R0.out.cell 0
  have r0 : W1.cell? ⟨w.heap.size + 1, 0, none⟩ = some (.slice none 0 0) := R1.out.cell 0
  have r1 : W1.frozen? ⟨w.heap.size + 1, 0, none⟩ = false := R1.out.thaw 0
  have p0 : W1.cell? ⟨w.heap.size + 1 + 1, 0, none⟩ = some (.int .i64 0) := R2.out.cell 0
  have p1 : W1.cell? ⟨w.heap.size + 1 + 1, 1, none⟩ = some (.int .u32 0) := R2.out.cell 1
  have p2 : W1.cell? ⟨w.heap.size + 1 + 1, 2, none⟩ = some (.int .i64 0) := R2.out.cell 2
  have p3 : W1.cell? ⟨w.heap.size + 1 + 1, 3, none⟩ = some (.int .u32 0) := R2.out.cell 3
  have f0 : ∀ j, W1.frozen? ⟨w.heap.size + 1 + 1, j, none⟩ = false := fun j => R2.out.thaw j
  go_wp2
  refine bodyPost_ret (results_cct_row Tryd.results18 _ _ (w.heap.size + 1) (w.heap.size + 1 + 1) _ _ _ _ _ _ _ _ rfl (stored5 R1.out R2.out (by omega) _ _ _ _ _).1 Tryd.underlying37 rfl size_rqueue rfl (stored5 R1.out R2.out (by omega) _ _ _ _ _).2 Tryd.underlying39 rfl size_rpost) rfl ?_
  exact ⟨rfl, below5 B1.out (by omega) (by omega) _ _ _ _ _⟩

theorem rposts_tail {b off : Nat} {p : Pst} {t : List Pst} {w : World} (h : RPosts b off (p :: t) w) : RPosts b (off + 4) t w := fun j q hq => by
  obtain ⟨h0, h1, h2, h3⟩ := h (j + 1) q (by simpa using hq)
  have e : off + 4 + j * 4 = off + (j + 1) * 4 := by omega
  rw [e]
  exact ⟨h0, h1, h2, h3⟩

set_option maxHeartbeats 2000000 in
set_option maxRecDepth 100000 in
theorem rpop_ok (g off : Nat) (p : Pst) (l : List Pst) (hl : (p :: l).length ≤ 8) (cap : Nat) (hcap : (p :: l).length ≤ cap) (w : World) (hq : RQAt w (some ⟨g, off, none⟩) (p :: l)) (hp : RPosts g off (p :: l) w) (hc : checkQ (p :: l) = true) :
    Calls Tryd.prog 18 #[.agg #[.slice (some ⟨g, off, none⟩) (p :: l).length cap]] w fun e w' => ∃ a' c, e = .returned (.tuple #[.agg #[.slice a' l.length c], .agg p.cells, .int .i64 0]) ∧ l.length ≤ c ∧ RQAt w' a' l ∧ Below w.heap.size w w' := by
  have HC : Hid (∀ w', Below w.heap.size w w' → Calls Tryd.prog 21 #[.agg #[.slice (some ⟨g, off, none⟩) (p :: l).length cap]] w' fun e w'' => e = .returned (.int .i64 0) ∧ Below w'.heap.size w' w'') := hide (fun w' hb => by
    have := rcheck_any (some ⟨g, off, none⟩) (p :: l) (by omega) cap w' (hq.bl hb)
    rw [hc] at this
    exact this)
  have HQ := hide hq
  have HPs := hide hp
  obtain ⟨dev, pa, n, v⟩ := p
  show Calls Tryd.prog 18 #[.agg #[.slice (some ⟨g, off, none⟩) (Pst.mk dev pa n v :: l).length cap]] w fun e w' => ∃ a' c, e = .returned (.tuple #[.agg #[.slice a' l.length c], .agg #[.int .i64 dev, .int .u32 (pa : Nat), .int .i64 n, .int .u32 (v : Nat)], .int .i64 0]) ∧ l.length ≤ c ∧ RQAt w' a' l ∧ Below w.heap.size w w'
  generalize hN : (Pst.mk dev pa n v :: l).length = N at *
  have hN1 : N = l.length + 1 := by rw [← hN]; rfl
  obtain ⟨k, hk⟩ : ∃ k, l.length = k := ⟨_, rfl⟩
  rw [hk] at hN1
  subst hN1
  have HK := hide hk
  have hz : (((k + 1 : Nat) : Int) == 0) = false := by simp; omega
  have hlg : g < w.heap.size := block_lt_of_cell (HPs.out 0 ⟨dev, pa, n, v⟩ rfl).1
  clear hc hN hq hp hk
  go_enter Tryd.func18, Tryd.ntmps18
  go_wp2_with (fail)
  obtain ⟨W0, hW0⟩ : ∃ W0, ((w.alloc (.cells #[.slice (some ⟨g, off, none⟩) (k + 1) cap] 37)).alloc (.cells #[.slice none 0 0] 37)).alloc (.cells #[.int .i64 0, .int .u32 0, .int .i64 0, .int .u32 0] 39) = W0 := ⟨_, rfl⟩
  have R0 := hide (hW0 ▸ ((RowAt.new w w.heap.size #[.slice (some ⟨g, off, none⟩) (k + 1) cap] 37 rfl).al _).al _)
  have R1 := hide (hW0 ▸ (RowAt.new (w.alloc (.cells #[.slice (some ⟨g, off, none⟩) (k + 1) cap] 37)) (w.heap.size + 1) #[.slice none 0 0] 37 (by simp)).al _)
  have R2 := hide (hW0 ▸ RowAt.new ((w.alloc (.cells #[.slice (some ⟨g, off, none⟩) (k + 1) cap] 37)).alloc (.cells #[.slice none 0 0] 37)) (w.heap.size + 1 + 1) #[.int .i64 0, .int .u32 0, .int .i64 0, .int .u32 0] 39 (by simp))
  have B0 : Hid (Below w.heap.size w W0) := hW0 ▸ below_three w _ _ _
  rw [hW0]
  clear hW0
  refine (HC.out _ B0.out).mono ?_
  rintro e W1 ⟨rfl, hb⟩
  replace R0 := hide (R0.out.bl hb)
  replace R1 := hide (R1.out.bl hb)
  replace R2 := hide (R2.out.bl hb)
  have B1 := hide (below_bl rfl B0.out hb)
  clear hb B0
  have d0 : W1.cell? ⟨w.heap.size, 0, none⟩ = some (.slice (some ⟨g, off, none⟩) (k + 1) cap) := R0.out.cell 0
  have r0 : W1.cell? ⟨w.heap.size + 1, 0, none⟩ = some (.slice none 0 0) := R1.out.cell 0
  have r1 : W1.frozen? ⟨w.heap.size + 1, 0, none⟩ = false := R1.out.thaw 0
  have p0 : W1.cell? ⟨w.heap.size + 1 + 1, 0, none⟩ = some (.int .i64 0) := R2.out.cell 0
  have p1 : W1.cell? ⟨w.heap.size + 1 + 1, 1, none⟩ = some (.int .u32 0) := R2.out.cell 1
  have p2 : W1.cell? ⟨w.heap.size + 1 + 1, 2, none⟩ = some (.int .i64 0) := R2.out.cell 2
  have p3 : W1.cell? ⟨w.heap.size + 1 + 1, 3, none⟩ = some (.int .u32 0) := R2.out.cell 3
  have f0 : ∀ j, W1.frozen? ⟨w.heap.size + 1 + 1, j, none⟩ = false := fun j => R2.out.thaw j
  obtain ⟨g0, g1, g2, g3⟩ := (HPs.out.bl B1.out) 0 ⟨dev, pa, n, v⟩ rfl
  simp only [Nat.zero_mul, Nat.add_zero] at g0 g1 g2 g3
  have t1 : 1 ≤ (k : Int) + 1 := by omega
  go_wp2_with (fail)
  have hne1 : w.heap.size + 1 ≠ g := by omega
  have hne2 : w.heap.size + 1 + 1 ≠ g := by omega
  by_cases hc1 : cap = 1
  · subst hc1
    obtain rfl : k = 0 := by omega
    go_region_held_law (fun w' => w'.cell? ⟨w.heap.size, 0, none⟩ = some (.slice (some ⟨g, off, none⟩) (0 + 1) 1) ∧ w'.cell? ⟨g, off, none⟩ = some (.int .i64 dev) ∧ w'.cell? ⟨g, off + 1, none⟩ = some (.int .u32 (pa : Nat)) ∧ w'.cell? ⟨g, off + 2, none⟩ = some (.int .i64 n) ∧ w'.cell? ⟨g, off + 3, none⟩ = some (.int .u32 (v : Nat))) (first | (go_keep; done) | exact ⟨cellD (keep5 d0 (by omega) (by omega) _ _ _ _ _), cellD (keep5 g0 (by omega) (by omega) _ _ _ _ _), cellD (keep5 g1 (by omega) (by omega) _ _ _ _ _), cellD (keep5 g2 (by omega) (by omega) _ _ _ _ _), cellD (keep5 g3 (by omega) (by omega) _ _ _ _ _)⟩) (fail)
    all_goals
      go_simp
      go_wp2
      obtain ⟨F, hF⟩ : ∃ F, (((((W1.setCell ⟨w.heap.size + 1, 0, none⟩ (.slice (some ⟨g, off, none⟩) 0 0)).setCell ⟨w.heap.size + 1 + 1, 0, none⟩ (.int .i64 dev)).setCell ⟨w.heap.size + 1 + 1, 1, none⟩ (.int .u32 (pa : Nat))).setCell ⟨w.heap.size + 1 + 1, 2, none⟩ (.int .i64 n)).setCell ⟨w.heap.size + 1 + 1, 3, none⟩ (.int .u32 (v : Nat))).drew = F := ⟨_, rfl⟩
      have RQ : RowAt F (w.heap.size + 1) #[.slice (some ⟨g, off, none⟩) 0 0] 37 := hF ▸ (stored5 R1.out R2.out (by omega) (.slice (some ⟨g, off, none⟩) 0 0) (.int .i64 dev) (.int .u32 (pa : Nat)) (.int .i64 n) (.int .u32 (v : Nat))).1.dr
      have RP : RowAt F (w.heap.size + 1 + 1) #[.int .i64 dev, .int .u32 (pa : Nat), .int .i64 n, .int .u32 (v : Nat)] 39 := hF ▸ (stored5 R1.out R2.out (by omega) (.slice (some ⟨g, off, none⟩) 0 0) (.int .i64 dev) (.int .u32 (pa : Nat)) (.int .i64 n) (.int .u32 (v : Nat))).2.dr
      have BF : Below w.heap.size w F := hF ▸ (below5 B1.out (by omega) (by omega) (.slice (some ⟨g, off, none⟩) 0 0) (.int .i64 dev) (.int .u32 (pa : Nat)) (.int .i64 n) (.int .u32 (v : Nat))).drew
      rw [hF]
      clear hF
      refine bodyPost_ret (results_cct_row Tryd.results18 _ _ (w.heap.size + 1) (w.heap.size + 1 + 1) _ _ _ _ _ _ _ _ rfl RQ Tryd.underlying37 rfl size_rqueue rfl RP Tryd.underlying39 rfl size_rpost) rfl ?_
      exact ⟨some ⟨g, off, none⟩, 0, by rw [HK.out]; rfl, by rw [HK.out]; exact Nat.le_refl _, ⟨fun q hq => HQ.out.ok q (List.mem_cons_of_mem _ hq), .inl (List.length_eq_zero_iff.1 HK.out)⟩, BF⟩
  · go_region_held_law (fun w' => w'.cell? ⟨w.heap.size, 0, none⟩ = some (.slice (some ⟨g, off, none⟩) (k + 1) cap) ∧ w'.cell? ⟨g, off, none⟩ = some (.int .i64 dev) ∧ w'.cell? ⟨g, off + 1, none⟩ = some (.int .u32 (pa : Nat)) ∧ w'.cell? ⟨g, off + 2, none⟩ = some (.int .i64 n) ∧ w'.cell? ⟨g, off + 3, none⟩ = some (.int .u32 (v : Nat))) (first | (go_keep; done) | exact ⟨cellD (keep5 d0 (by omega) (by omega) _ _ _ _ _), cellD (keep5 g0 (by omega) (by omega) _ _ _ _ _), cellD (keep5 g1 (by omega) (by omega) _ _ _ _ _), cellD (keep5 g2 (by omega) (by omega) _ _ _ _ _), cellD (keep5 g3 (by omega) (by omega) _ _ _ _ _)⟩) (fail)
    all_goals
      go_simp
      go_wp2
      obtain ⟨F, hF⟩ : ∃ F, (((((W1.setCell ⟨w.heap.size + 1, 0, none⟩ (.slice (some ⟨g, off + 4, none⟩) k (cap - 1))).setCell ⟨w.heap.size + 1 + 1, 0, none⟩ (.int .i64 dev)).setCell ⟨w.heap.size + 1 + 1, 1, none⟩ (.int .u32 (pa : Nat))).setCell ⟨w.heap.size + 1 + 1, 2, none⟩ (.int .i64 n)).setCell ⟨w.heap.size + 1 + 1, 3, none⟩ (.int .u32 (v : Nat))).drew = F := ⟨_, rfl⟩
      have RQ : RowAt F (w.heap.size + 1) #[.slice (some ⟨g, off + 4, none⟩) k (cap - 1)] 37 := hF ▸ (stored5 R1.out R2.out (by omega) (.slice (some ⟨g, off + 4, none⟩) k (cap - 1)) (.int .i64 dev) (.int .u32 (pa : Nat)) (.int .i64 n) (.int .u32 (v : Nat))).1.dr
      have RP : RowAt F (w.heap.size + 1 + 1) #[.int .i64 dev, .int .u32 (pa : Nat), .int .i64 n, .int .u32 (v : Nat)] 39 := hF ▸ (stored5 R1.out R2.out (by omega) (.slice (some ⟨g, off + 4, none⟩) k (cap - 1)) (.int .i64 dev) (.int .u32 (pa : Nat)) (.int .i64 n) (.int .u32 (v : Nat))).2.dr
      have BF : Below w.heap.size w F := hF ▸ (below5 B1.out (by omega) (by omega) (.slice (some ⟨g, off + 4, none⟩) k (cap - 1)) (.int .i64 dev) (.int .u32 (pa : Nat)) (.int .i64 n) (.int .u32 (v : Nat))).drew
      rw [hF]
      clear hF
      refine bodyPost_ret (results_cct_row Tryd.results18 _ _ (w.heap.size + 1) (w.heap.size + 1 + 1) _ _ _ _ _ _ _ _ rfl RQ Tryd.underlying37 rfl size_rqueue rfl RP Tryd.underlying39 rfl size_rpost) rfl ?_
      exact ⟨some ⟨g, off + 4, none⟩, cap - 1, by rw [HK.out]; rfl, by rw [HK.out]; omega, ⟨fun q hq => HQ.out.ok q (List.mem_cons_of_mem _ hq), .inr ⟨_, _, rfl, (rposts_tail HPs.out).bl BF⟩⟩, BF⟩

/-- What the document's Pop answers. -/
theorem rpop_any (a : Option Addr) (l : List Pst) (hl : l.length ≤ 1000) (cap : Nat) (w : World) (hq : RQAt w a l) (hcap : l.length ≤ cap) :
    Calls Tryd.prog 18 #[.agg #[.slice a l.length cap]] w fun e w' => ∃ a' c, e = .returned (.tuple #[.agg #[.slice a' (popL l).length c], .agg (popP l).cells, .int .i64 (popE l : Nat)]) ∧ (popL l).length ≤ c ∧ RQAt w' a' (popL l) ∧ Below w.heap.size w w' := by
  have nil : ∀ (k : Nat), popE l = k → k ≠ 0 → ∀ e w', e = Ending.returned (.tuple #[.agg #[.slice none 0 0], .agg #[.int .i64 0, .int .u32 0, .int .i64 0, .int .u32 0], .int .i64 (k : Nat)]) ∧ Below w.heap.size w w' → ∃ a' c, e = .returned (.tuple #[.agg #[.slice a' (popL l).length c], .agg (popP l).cells, .int .i64 (popE l : Nat)]) ∧ (popL l).length ≤ c ∧ RQAt w' a' (popL l) ∧ Below w.heap.size w w' := by
    rintro k hE hk e w' ⟨rfl, hb⟩
    have hL : popL l = [] := by unfold popL; rw [hE, if_neg hk]
    have hP : popP l = zeroP := by unfold popP; rw [hE, if_neg hk]
    rw [hL, hE, hP]
    exact ⟨none, 0, rfl, Nat.le_refl _, ⟨fun q hq => (by cases hq), .inl rfl⟩, hb⟩
  by_cases hc : checkQ l = true
  · cases l with
    | nil => exact (rpop_none a [] (by simp) cap w hq hc rfl).mono (nil 8 rfl (by decide))
    | cons p t =>
      have hE : popE (p :: t) = 0 := by unfold popE; rw [if_pos hc, if_neg (by simp)]
      have hL : popL (p :: t) = t := by unfold popL; rw [hE, if_pos rfl]; rfl
      have hP : popP (p :: t) = p := by unfold popP; rw [hE, if_pos rfl]; rfl
      have h8 : (p :: t).length ≤ 8 := by
        have hc' := hc
        unfold checkQ at hc'
        rw [Bool.and_eq_true] at hc'
        exact of_decide_eq_true hc'.1
      rw [hE, hL, hP]
      rcases hq.lies with h | ⟨b, off, rfl, hp⟩
      · cases h
      · exact rpop_ok b off p t h8 cap hcap w hq hp hc
  · exact (rpop_bad a l hl cap w hq (by simpa using hc)).mono (nil 1 (by unfold popE; rw [if_neg hc]) (by decide))
end Go.Proofs.YtcjfjkkkepjpmaaDoor
