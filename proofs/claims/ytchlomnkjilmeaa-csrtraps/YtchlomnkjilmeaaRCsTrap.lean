/-
  What the document's Trap answers.
-/
import Derived.Test.YtchlomnkjilmeaaRCsBut
import Derived.Test.YtchlomnkjilmeaaRCsRow
import Derived.Deep.RegionWith
import Derived.Deep.DrawnRows
namespace Go.Proofs.Ytchlomnkjilmeaa
open Go.RowKit
set_option linter.unusedVariables false

theorem rset_ex (a : Nat) (ha : a < 4294967296) (lo x : Nat) (hx : x < 4294967296) (w : World) :
    Calls Try.prog 12 #[.int .u32 a, .int .i64 lo, .int .i64 1, .int .u32 x] w fun e w' => e = .returned (.int .u32 (setOne a lo x : Nat)) ∧ ∃ o o', w' = (w.alloc o).alloc o' := by
  unfold setOne
  exact refset_ex a ha lo 1 (by omega) (by omega) x hx w
theorem rfld_ex (v : Nat) (hv : v < 4294967296) (lo : Nat) (w : World) :
    Calls Try.prog 13 #[.int .u32 v, .int .i64 lo, .int .i64 1] w fun e w' => e = .returned (.int .u32 (fldOne v lo : Nat)) ∧ ∃ o o', w' = (w.alloc o).alloc o' := by
  unfold fldOne
  exact reffield_ex v hv lo 1 w
theorem but2_at (v : Nat) (hv : v < 4294967296) (w : World) (b : Nat) (t : TypeId) (h : RowAt w b #[.int .i64 0, .int .i64 1] t) :
    Calls Try.prog 11 #[.int .u32 v, .slice (some ⟨b, 0, none⟩) 2 2] w fun e w' => e = .returned (.int .u32 (v &&& 4294967292 : Nat)) ∧ Below w.heap.size w w' := by
  have hi : IntsAt w b [0, 1] := ⟨h.lt, fun j hj => by
    rw [h.cell j]
    match j, hj with
    | 0, _ => rfl
    | 1, _ => rfl⟩
  have h := rbut_any v hv [0, 1] (by decide) b w hi
  rw [but2 v hv] at h
  exact h
theorem size_rstate : (Try.prog.info? 25).map (·.size) = some 8 := by kernel_rfl
attribute [local go_sem ↓] Go.wp_at_zero Go.wp_at_succ

set_option maxHeartbeats 2000000 in
theorem rtrap_a (st en ve sc ep ca va ct pc pe x f r vv z v to : Int) (w : World)
    (HE : Hid (∀ w b t, RowAt w b #[.int .i64 0, .int .i64 1] t → Calls Try.prog 11 #[.int .u32 pc, .slice (some ⟨b, 0, none⟩) 2 2] w fun e w' => e = .returned (.int .u32 pe) ∧ Below w.heap.size w w'))
    (HV : Hid (∀ w b t, RowAt w b #[.int .i64 0, .int .i64 1] t → Calls Try.prog 11 #[.int .u32 ve, .slice (some ⟨b, 0, none⟩) 2 2] w fun e w' => e = .returned (.int .u32 vv) ∧ Below w.heap.size w w'))
    (HF : Hid (∀ w, Calls Try.prog 13 #[.int .u32 st, .int .i64 3, .int .i64 1] w fun e w' => e = .returned (.int .u32 f) ∧ ∃ o o', w' = (w.alloc o).alloc o'))
    (HS : Hid (∀ w, Calls Try.prog 12 #[.int .u32 st, .int .i64 7, .int .i64 1, .int .u32 f] w fun e w' => e = .returned (.int .u32 x) ∧ ∃ o o', w' = (w.alloc o).alloc o'))
    (HS2 : Hid (∀ w, Calls Try.prog 12 #[.int .u32 x, .int .i64 3, .int .i64 1, .int .u32 0] w fun e w' => e = .returned (.int .u32 r) ∧ ∃ o o', w' = (w.alloc o).alloc o'))
    (e1 : (ve % 2 == 1) = false) (e2 : to = vv) (t0 : 0 ≤ ve) :
    Calls Try.prog 6 #[.agg #[.int .u32 st, .int .u32 en, .int .u32 ve, .int .u32 sc, .int .u32 ep, .int .u32 ca, .int .u32 va, .int .u64 ct], .int .u32 z, .int .u32 v, .int .u32 pc] w fun e w' => e = .returned (.tuple #[.agg #[.int .u32 r, .int .u32 en, .int .u32 ve, .int .u32 sc, .int .u32 pe, .int .u32 z, .int .u32 v, .int .u64 ct], .int .u32 to]) ∧ Below w.heap.size w w' := by
  have E2 := hide e2
  clear e2
  go_enter Try.func6, Try.ntmps6
  go_wp2_with (fail)
  obtain ⟨W, hW⟩ : ∃ X, ((w.alloc (.cells #[.int .u32 st, .int .u32 en, .int .u32 ve, .int .u32 sc, .int .u32 ep, .int .u32 ca, .int .u32 va, .int .u64 ct] 25)).alloc (.cells #[.int .u32 0, .int .u32 0, .int .u32 0, .int .u32 0, .int .u32 0, .int .u32 0, .int .u32 0, .int .u64 0] 25)).alloc (.cells #[.int .i64 0, .int .i64 1] 3) = X := ⟨_, rfl⟩
  have hR : RowAt W w.heap.size #[.int .u32 st, .int .u32 en, .int .u32 ve, .int .u32 sc, .int .u32 ep, .int .u32 ca, .int .u32 va, .int .u64 ct] 25 := hW ▸ ((RowAt.new w _ _ _ rfl).al _).al _
  have hZ : RowAt W (w.heap.size + 1) #[.int .u32 0, .int .u32 0, .int .u32 0, .int .u32 0, .int .u32 0, .int .u32 0, .int .u32 0, .int .u64 0] 25 := hW ▸ (RowAt.new _ _ _ _ (by simp)).al _
  have hI : RowAt W (w.heap.size + 1 + 1) #[.int .i64 0, .int .i64 1] 3 := hW ▸ RowAt.new _ _ _ _ (by simp)
  have hB : Below w.heap.size w W := hW ▸ below_three _ _ _ _
  have HR := hide hR
  have HZ := hide hZ
  have HB := hide hB
  rw [hW]
  clear hW hR hZ hB
  refine (HE.out _ _ _ hI).mono ?_
  rintro e w1 ⟨rfl, hb1⟩
  have hR1 := HR.out.bl hb1
  have hZ1 := HZ.out.bl hb1
  have HB1 := hide (below_bl rfl HB.out hb1)
  have l1 := hZ1.lt
  have l1' := hR1.lt
  have t4 := hR1.thaw 4
  have t5 := hR1.thaw 5
  have t6 := hR1.thaw 6
  have c4 : w1.cell? ⟨w.heap.size, 4, none⟩ = some (.int .u32 ep) := hR1.cell 4
  have c5 : w1.cell? ⟨w.heap.size, 5, none⟩ = some (.int .u32 ca) := hR1.cell 5
  have c6 : w1.cell? ⟨w.heap.size, 6, none⟩ = some (.int .u32 va) := hR1.cell 6
  have HR1 := hide hR1
  have HZ1 := hide hZ1
  clear HR HZ HB hI hb1 hR1 hZ1
  go_wp2_with (fail)
  obtain ⟨X, hX⟩ : ∃ X, ((w1.setCell ⟨w.heap.size, 4, none⟩ (.int .u32 pe)).setCell ⟨w.heap.size, 5, none⟩ (.int .u32 z)).setCell ⟨w.heap.size, 6, none⟩ (.int .u32 v) = X := ⟨_, rfl⟩
  have hRX : RowAt X w.heap.size #[.int .u32 st, .int .u32 en, .int .u32 ve, .int .u32 sc, .int .u32 pe, .int .u32 z, .int .u32 v, .int .u64 ct] 25 := hX ▸ HR1.out.put456 _ _ _
  have hZX : RowAt X (w.heap.size + 1) #[.int .u32 0, .int .u32 0, .int .u32 0, .int .u32 0, .int .u32 0, .int .u32 0, .int .u32 0, .int .u64 0] 25 := hX ▸ ((HZ1.out.far (by omega) 4 _).far (by omega) 5 _).far (by omega) 6 _
  have HBX : Hid (Below w.heap.size w X) := hX ▸ ((HB1.out.setCell (p := ⟨w.heap.size, 4, none⟩) (Nat.le_refl _) _).setCell (p := ⟨w.heap.size, 5, none⟩) (Nat.le_refl _) _).setCell (p := ⟨w.heap.size, 6, none⟩) (Nat.le_refl _) _
  have lX := hZX.lt
  have lX' := hRX.lt
  have lX1 : w.heap.size < X.heap.size + 1 := by omega
  have lX2 : w.heap.size < X.heap.size + 1 + 1 := by omega
  have lX3 : w.heap.size < X.heap.size + 1 + 1 + 1 := by omega
  have t0 := hRX.thaw 0
  have c0 : X.cell? ⟨w.heap.size, 0, none⟩ = some (.int .u32 st) := hRX.cell 0
  have HRX := hide hRX
  have HZX := hide hZX
  rw [hX]
  clear hX HR1 HZ1 HB1 hRX hZX l1 l1' t4 t5 t6 c4 c5 c6
  go_region_with (first | (go_at_call 13; refine (HF.out _).mono ?_; rintro e w2 ⟨rfl, o1, o2, rfl⟩) | (go_at_call 12; refine (HS.out _).mono ?_; rintro e w3 ⟨rfl, o3, o4, rfl⟩))
  all_goals
    obtain ⟨Y, hY⟩ : ∃ Y, ((((X.setCell ⟨w.heap.size, 0, none⟩ (.int .u32 x)).alloc o1).alloc o2).alloc o3).alloc o4 = Y := ⟨_, rfl⟩
    have hRY : RowAt Y w.heap.size #[.int .u32 x, .int .u32 en, .int .u32 ve, .int .u32 sc, .int .u32 pe, .int .u32 z, .int .u32 v, .int .u64 ct] 25 := hY ▸ ((((HRX.out.put 0 _).al _).al _).al _).al _
    have hZY : RowAt Y (w.heap.size + 1) #[.int .u32 0, .int .u32 0, .int .u32 0, .int .u32 0, .int .u32 0, .int .u32 0, .int .u32 0, .int .u64 0] 25 := hY ▸ ((((HZX.out.far (by omega) 0 _).al _).al _).al _).al _
    have HBY : Hid (Below w.heap.size w Y) := by
      rw [← hY]
      have h1 := HBX.out.setCell (p := ⟨w.heap.size, 0, none⟩) (Nat.le_refl _) (.int .u32 x)
      have h2 := h1.size
      exact ((((h1.alloc h2 _).alloc (by simp; omega) _).alloc (by simp; omega) _).alloc (by simp; omega) _)
    have lY := hZY.lt
    have lY' := hRY.lt
    have tY := hRY.thaw 0
    have cY : Y.cell? ⟨w.heap.size, 0, none⟩ = some (.int .u32 x) := hRY.cell 0
    have c2 : Y.cell? ⟨w.heap.size, 2, none⟩ = some (.int .u32 ve) := hRY.cell 2
    have HRY := hide hRY
    have HZY := hide hZY
    rw [hY]
    clear hY hRY hZY HRX HZX HBX lX lX' lX1 lX2 lX3 t0 c0
    go_wp2_with (first | (go_at_call 12; refine (HS2.out _).mono ?_; rintro e w4 ⟨rfl, o5, o6, rfl⟩))
    obtain ⟨V, hV⟩ : ∃ V, ((((Y.setCell ⟨w.heap.size, 0, none⟩ (.int .u32 r)).alloc o5).alloc o6).alloc (.cells #[.int .i64 0, .int .i64 1] 3)).drew = V := ⟨_, rfl⟩
    have HRV : Hid (RowAt V w.heap.size #[.int .u32 r, .int .u32 en, .int .u32 ve, .int .u32 sc, .int .u32 pe, .int .u32 z, .int .u32 v, .int .u64 ct] 25) := hV ▸ ((((HRY.out.put 0 _).al _).al _).al _).dr
    have HZV : Hid (RowAt V (w.heap.size + 1) #[.int .u32 0, .int .u32 0, .int .u32 0, .int .u32 0, .int .u32 0, .int .u32 0, .int .u32 0, .int .u64 0] 25) := hV ▸ ((((HZY.out.far (by omega) 0 _).al _).al _).al _).dr
    have hIV : RowAt V (Y.heap.size + 1 + 1) #[.int .i64 0, .int .i64 1] 3 := hV ▸ (RowAt.new _ _ _ _ (by simp)).dr
    have HBV : Hid (Below w.heap.size w V) := by
      rw [← hV]
      have h1 := HBY.out.setCell (p := ⟨w.heap.size, 0, none⟩) (Nat.le_refl _) (.int .u32 r)
      have h2 := h1.size
      exact (((h1.alloc h2 _).alloc (by simp; omega) _).alloc (by simp; omega) _).drew
    rw [hV]
    clear hV HRY HZY HBY
    refine (HV.out _ _ _ hIV).mono ?_
    rintro e w5 ⟨rfl, hb5⟩
    have hR5 := HRV.out.bl hb5
    have hZ5 := HZV.out.bl hb5
    have HB5 := hide (below_bl rfl HBV.out hb5)
    clear hIV hb5 HRV HZV HBV lY lY' tY cY c2
    have c0 : w5.cell? ⟨w.heap.size, 0, none⟩ = some (.int .u32 r) := hR5.cell 0
    have c1 : w5.cell? ⟨w.heap.size, 1, none⟩ = some (.int .u32 en) := hR5.cell 1
    have c2 : w5.cell? ⟨w.heap.size, 2, none⟩ = some (.int .u32 ve) := hR5.cell 2
    have c3 : w5.cell? ⟨w.heap.size, 3, none⟩ = some (.int .u32 sc) := hR5.cell 3
    have c4 : w5.cell? ⟨w.heap.size, 4, none⟩ = some (.int .u32 pe) := hR5.cell 4
    have c5 : w5.cell? ⟨w.heap.size, 5, none⟩ = some (.int .u32 z) := hR5.cell 5
    have c6 : w5.cell? ⟨w.heap.size, 6, none⟩ = some (.int .u32 v) := hR5.cell 6
    have c7 : w5.cell? ⟨w.heap.size, 7, none⟩ = some (.int .u64 ct) := hR5.cell 7
    have z0 : w5.cell? ⟨w.heap.size + 1, 0, none⟩ = some (.int .u32 0) := hZ5.cell 0
    have f0 := hZ5.thaw 0
    have z1 : w5.cell? ⟨w.heap.size + 1, 1, none⟩ = some (.int .u32 0) := hZ5.cell 1
    have f1 := hZ5.thaw 1
    have z2 : w5.cell? ⟨w.heap.size + 1, 2, none⟩ = some (.int .u32 0) := hZ5.cell 2
    have f2 := hZ5.thaw 2
    have z3 : w5.cell? ⟨w.heap.size + 1, 3, none⟩ = some (.int .u32 0) := hZ5.cell 3
    have f3 := hZ5.thaw 3
    have z4 : w5.cell? ⟨w.heap.size + 1, 4, none⟩ = some (.int .u32 0) := hZ5.cell 4
    have f4 := hZ5.thaw 4
    have z5 : w5.cell? ⟨w.heap.size + 1, 5, none⟩ = some (.int .u32 0) := hZ5.cell 5
    have f5 := hZ5.thaw 5
    have z6 : w5.cell? ⟨w.heap.size + 1, 6, none⟩ = some (.int .u32 0) := hZ5.cell 6
    have f6 := hZ5.thaw 6
    have z7 : w5.cell? ⟨w.heap.size + 1, 7, none⟩ = some (.int .u64 0) := hZ5.cell 7
    have f7 := hZ5.thaw 7
    have HF5 := hide (hZ5.put8 (.int .u32 r) (.int .u32 en) (.int .u32 ve) (.int .u32 sc) (.int .u32 pe) (.int .u32 z) (.int .u32 v) (.int .u64 ct))
    have HG5 := hide (below_put8 HB5.out (Nat.le_succ _) (.int .u32 r) (.int .u32 en) (.int .u32 ve) (.int .u32 sc) (.int .u32 pe) (.int .u32 z) (.int .u32 v) (.int .u64 ct))
    clear hR5 hZ5
    go_wp2
    have hF := HF5.out
    have hG := HG5.out
    clear HF5 HG5
    generalize ((((((((w5.setCell ⟨w.heap.size + 1, 0, none⟩ (.int .u32 r)).setCell ⟨w.heap.size + 1, 1, none⟩ (.int .u32 en)).setCell ⟨w.heap.size + 1, 2, none⟩ (.int .u32 ve)).setCell ⟨w.heap.size + 1, 3, none⟩ (.int .u32 sc)).setCell ⟨w.heap.size + 1, 4, none⟩ (.int .u32 pe)).setCell ⟨w.heap.size + 1, 5, none⟩ (.int .u32 z)).setCell ⟨w.heap.size + 1, 6, none⟩ (.int .u32 v)).setCell ⟨w.heap.size + 1, 7, none⟩ (.int .u64 ct)) = Q at hF hG ⊢
    refine bodyPost_ret (results_cell_tmp_row Try.results6 _ _ (w.heap.size + 1) _ _ _ _ rfl hF Try.underlying25 rfl size_rstate) rfl ?_
    exact ⟨ret_two rfl E2.out.symm, hG⟩
set_option maxHeartbeats 2000000 in
theorem rtrap_b (st en ve sc ep ca va ct pc pe x f r vv z v to : Int) (w : World)
    (HE : Hid (∀ w b t, RowAt w b #[.int .i64 0, .int .i64 1] t → Calls Try.prog 11 #[.int .u32 pc, .slice (some ⟨b, 0, none⟩) 2 2] w fun e w' => e = .returned (.int .u32 pe) ∧ Below w.heap.size w w'))
    (HV : Hid (∀ w b t, RowAt w b #[.int .i64 0, .int .i64 1] t → Calls Try.prog 11 #[.int .u32 ve, .slice (some ⟨b, 0, none⟩) 2 2] w fun e w' => e = .returned (.int .u32 vv) ∧ Below w.heap.size w w'))
    (HF : Hid (∀ w, Calls Try.prog 13 #[.int .u32 st, .int .i64 3, .int .i64 1] w fun e w' => e = .returned (.int .u32 f) ∧ ∃ o o', w' = (w.alloc o).alloc o'))
    (HS : Hid (∀ w, Calls Try.prog 12 #[.int .u32 st, .int .i64 7, .int .i64 1, .int .u32 f] w fun e w' => e = .returned (.int .u32 x) ∧ ∃ o o', w' = (w.alloc o).alloc o'))
    (HS2 : Hid (∀ w, Calls Try.prog 12 #[.int .u32 x, .int .i64 3, .int .i64 1, .int .u32 0] w fun e w' => e = .returned (.int .u32 r) ∧ ∃ o o', w' = (w.alloc o).alloc o'))
    (e1 : (ve % 2 == 1) = true) (e3 : (2147483648 ≤ z) = False) (e2 : to = vv) (t0 : 0 ≤ ve) :
    Calls Try.prog 6 #[.agg #[.int .u32 st, .int .u32 en, .int .u32 ve, .int .u32 sc, .int .u32 ep, .int .u32 ca, .int .u32 va, .int .u64 ct], .int .u32 z, .int .u32 v, .int .u32 pc] w fun e w' => e = .returned (.tuple #[.agg #[.int .u32 r, .int .u32 en, .int .u32 ve, .int .u32 sc, .int .u32 pe, .int .u32 z, .int .u32 v, .int .u64 ct], .int .u32 to]) ∧ Below w.heap.size w w' := by
  have E2 := hide e2
  clear e2
  go_enter Try.func6, Try.ntmps6
  go_wp2_with (fail)
  obtain ⟨W, hW⟩ : ∃ X, ((w.alloc (.cells #[.int .u32 st, .int .u32 en, .int .u32 ve, .int .u32 sc, .int .u32 ep, .int .u32 ca, .int .u32 va, .int .u64 ct] 25)).alloc (.cells #[.int .u32 0, .int .u32 0, .int .u32 0, .int .u32 0, .int .u32 0, .int .u32 0, .int .u32 0, .int .u64 0] 25)).alloc (.cells #[.int .i64 0, .int .i64 1] 3) = X := ⟨_, rfl⟩
  have hR : RowAt W w.heap.size #[.int .u32 st, .int .u32 en, .int .u32 ve, .int .u32 sc, .int .u32 ep, .int .u32 ca, .int .u32 va, .int .u64 ct] 25 := hW ▸ ((RowAt.new w _ _ _ rfl).al _).al _
  have hZ : RowAt W (w.heap.size + 1) #[.int .u32 0, .int .u32 0, .int .u32 0, .int .u32 0, .int .u32 0, .int .u32 0, .int .u32 0, .int .u64 0] 25 := hW ▸ (RowAt.new _ _ _ _ (by simp)).al _
  have hI : RowAt W (w.heap.size + 1 + 1) #[.int .i64 0, .int .i64 1] 3 := hW ▸ RowAt.new _ _ _ _ (by simp)
  have hB : Below w.heap.size w W := hW ▸ below_three _ _ _ _
  have HR := hide hR
  have HZ := hide hZ
  have HB := hide hB
  rw [hW]
  clear hW hR hZ hB
  refine (HE.out _ _ _ hI).mono ?_
  rintro e w1 ⟨rfl, hb1⟩
  have hR1 := HR.out.bl hb1
  have hZ1 := HZ.out.bl hb1
  have HB1 := hide (below_bl rfl HB.out hb1)
  have l1 := hZ1.lt
  have l1' := hR1.lt
  have t4 := hR1.thaw 4
  have t5 := hR1.thaw 5
  have t6 := hR1.thaw 6
  have c4 : w1.cell? ⟨w.heap.size, 4, none⟩ = some (.int .u32 ep) := hR1.cell 4
  have c5 : w1.cell? ⟨w.heap.size, 5, none⟩ = some (.int .u32 ca) := hR1.cell 5
  have c6 : w1.cell? ⟨w.heap.size, 6, none⟩ = some (.int .u32 va) := hR1.cell 6
  have HR1 := hide hR1
  have HZ1 := hide hZ1
  clear HR HZ HB hI hb1 hR1 hZ1
  go_wp2_with (fail)
  obtain ⟨X, hX⟩ : ∃ X, ((w1.setCell ⟨w.heap.size, 4, none⟩ (.int .u32 pe)).setCell ⟨w.heap.size, 5, none⟩ (.int .u32 z)).setCell ⟨w.heap.size, 6, none⟩ (.int .u32 v) = X := ⟨_, rfl⟩
  have hRX : RowAt X w.heap.size #[.int .u32 st, .int .u32 en, .int .u32 ve, .int .u32 sc, .int .u32 pe, .int .u32 z, .int .u32 v, .int .u64 ct] 25 := hX ▸ HR1.out.put456 _ _ _
  have hZX : RowAt X (w.heap.size + 1) #[.int .u32 0, .int .u32 0, .int .u32 0, .int .u32 0, .int .u32 0, .int .u32 0, .int .u32 0, .int .u64 0] 25 := hX ▸ ((HZ1.out.far (by omega) 4 _).far (by omega) 5 _).far (by omega) 6 _
  have HBX : Hid (Below w.heap.size w X) := hX ▸ ((HB1.out.setCell (p := ⟨w.heap.size, 4, none⟩) (Nat.le_refl _) _).setCell (p := ⟨w.heap.size, 5, none⟩) (Nat.le_refl _) _).setCell (p := ⟨w.heap.size, 6, none⟩) (Nat.le_refl _) _
  have lX := hZX.lt
  have lX' := hRX.lt
  have lX1 : w.heap.size < X.heap.size + 1 := by omega
  have lX2 : w.heap.size < X.heap.size + 1 + 1 := by omega
  have lX3 : w.heap.size < X.heap.size + 1 + 1 + 1 := by omega
  have t0 := hRX.thaw 0
  have c0 : X.cell? ⟨w.heap.size, 0, none⟩ = some (.int .u32 st) := hRX.cell 0
  have HRX := hide hRX
  have HZX := hide hZX
  rw [hX]
  clear hX HR1 HZ1 HB1 hRX hZX l1 l1' t4 t5 t6 c4 c5 c6
  go_region_with (first | (go_at_call 13; refine (HF.out _).mono ?_; rintro e w2 ⟨rfl, o1, o2, rfl⟩) | (go_at_call 12; refine (HS.out _).mono ?_; rintro e w3 ⟨rfl, o3, o4, rfl⟩))
  all_goals
    obtain ⟨Y, hY⟩ : ∃ Y, ((((X.setCell ⟨w.heap.size, 0, none⟩ (.int .u32 x)).alloc o1).alloc o2).alloc o3).alloc o4 = Y := ⟨_, rfl⟩
    have hRY : RowAt Y w.heap.size #[.int .u32 x, .int .u32 en, .int .u32 ve, .int .u32 sc, .int .u32 pe, .int .u32 z, .int .u32 v, .int .u64 ct] 25 := hY ▸ ((((HRX.out.put 0 _).al _).al _).al _).al _
    have hZY : RowAt Y (w.heap.size + 1) #[.int .u32 0, .int .u32 0, .int .u32 0, .int .u32 0, .int .u32 0, .int .u32 0, .int .u32 0, .int .u64 0] 25 := hY ▸ ((((HZX.out.far (by omega) 0 _).al _).al _).al _).al _
    have HBY : Hid (Below w.heap.size w Y) := by
      rw [← hY]
      have h1 := HBX.out.setCell (p := ⟨w.heap.size, 0, none⟩) (Nat.le_refl _) (.int .u32 x)
      have h2 := h1.size
      exact ((((h1.alloc h2 _).alloc (by simp; omega) _).alloc (by simp; omega) _).alloc (by simp; omega) _)
    have lY := hZY.lt
    have lY' := hRY.lt
    have tY := hRY.thaw 0
    have cY : Y.cell? ⟨w.heap.size, 0, none⟩ = some (.int .u32 x) := hRY.cell 0
    have c2 : Y.cell? ⟨w.heap.size, 2, none⟩ = some (.int .u32 ve) := hRY.cell 2
    have HRY := hide hRY
    have HZY := hide hZY
    rw [hY]
    clear hY hRY hZY HRX HZX HBX lX lX' lX1 lX2 lX3 t0 c0
    go_wp2_with (first | (go_at_call 12; refine (HS2.out _).mono ?_; rintro e w4 ⟨rfl, o5, o6, rfl⟩))
    obtain ⟨V, hV⟩ : ∃ V, ((((Y.setCell ⟨w.heap.size, 0, none⟩ (.int .u32 r)).alloc o5).alloc o6).alloc (.cells #[.int .i64 0, .int .i64 1] 3)).drew = V := ⟨_, rfl⟩
    have HRV : Hid (RowAt V w.heap.size #[.int .u32 r, .int .u32 en, .int .u32 ve, .int .u32 sc, .int .u32 pe, .int .u32 z, .int .u32 v, .int .u64 ct] 25) := hV ▸ ((((HRY.out.put 0 _).al _).al _).al _).dr
    have HZV : Hid (RowAt V (w.heap.size + 1) #[.int .u32 0, .int .u32 0, .int .u32 0, .int .u32 0, .int .u32 0, .int .u32 0, .int .u32 0, .int .u64 0] 25) := hV ▸ ((((HZY.out.far (by omega) 0 _).al _).al _).al _).dr
    have hIV : RowAt V (Y.heap.size + 1 + 1) #[.int .i64 0, .int .i64 1] 3 := hV ▸ (RowAt.new _ _ _ _ (by simp)).dr
    have HBV : Hid (Below w.heap.size w V) := by
      rw [← hV]
      have h1 := HBY.out.setCell (p := ⟨w.heap.size, 0, none⟩) (Nat.le_refl _) (.int .u32 r)
      have h2 := h1.size
      exact (((h1.alloc h2 _).alloc (by simp; omega) _).alloc (by simp; omega) _).drew
    rw [hV]
    clear hV HRY HZY HBY
    refine (HV.out _ _ _ hIV).mono ?_
    rintro e w5 ⟨rfl, hb5⟩
    have hR5 := HRV.out.bl hb5
    have hZ5 := HZV.out.bl hb5
    have HB5 := hide (below_bl rfl HBV.out hb5)
    clear hIV hb5 HRV HZV HBV lY lY' tY cY c2
    have c0 : w5.cell? ⟨w.heap.size, 0, none⟩ = some (.int .u32 r) := hR5.cell 0
    have c1 : w5.cell? ⟨w.heap.size, 1, none⟩ = some (.int .u32 en) := hR5.cell 1
    have c2 : w5.cell? ⟨w.heap.size, 2, none⟩ = some (.int .u32 ve) := hR5.cell 2
    have c3 : w5.cell? ⟨w.heap.size, 3, none⟩ = some (.int .u32 sc) := hR5.cell 3
    have c4 : w5.cell? ⟨w.heap.size, 4, none⟩ = some (.int .u32 pe) := hR5.cell 4
    have c5 : w5.cell? ⟨w.heap.size, 5, none⟩ = some (.int .u32 z) := hR5.cell 5
    have c6 : w5.cell? ⟨w.heap.size, 6, none⟩ = some (.int .u32 v) := hR5.cell 6
    have c7 : w5.cell? ⟨w.heap.size, 7, none⟩ = some (.int .u64 ct) := hR5.cell 7
    have z0 : w5.cell? ⟨w.heap.size + 1, 0, none⟩ = some (.int .u32 0) := hZ5.cell 0
    have f0 := hZ5.thaw 0
    have z1 : w5.cell? ⟨w.heap.size + 1, 1, none⟩ = some (.int .u32 0) := hZ5.cell 1
    have f1 := hZ5.thaw 1
    have z2 : w5.cell? ⟨w.heap.size + 1, 2, none⟩ = some (.int .u32 0) := hZ5.cell 2
    have f2 := hZ5.thaw 2
    have z3 : w5.cell? ⟨w.heap.size + 1, 3, none⟩ = some (.int .u32 0) := hZ5.cell 3
    have f3 := hZ5.thaw 3
    have z4 : w5.cell? ⟨w.heap.size + 1, 4, none⟩ = some (.int .u32 0) := hZ5.cell 4
    have f4 := hZ5.thaw 4
    have z5 : w5.cell? ⟨w.heap.size + 1, 5, none⟩ = some (.int .u32 0) := hZ5.cell 5
    have f5 := hZ5.thaw 5
    have z6 : w5.cell? ⟨w.heap.size + 1, 6, none⟩ = some (.int .u32 0) := hZ5.cell 6
    have f6 := hZ5.thaw 6
    have z7 : w5.cell? ⟨w.heap.size + 1, 7, none⟩ = some (.int .u64 0) := hZ5.cell 7
    have f7 := hZ5.thaw 7
    have HF5 := hide (hZ5.put8 (.int .u32 r) (.int .u32 en) (.int .u32 ve) (.int .u32 sc) (.int .u32 pe) (.int .u32 z) (.int .u32 v) (.int .u64 ct))
    have HG5 := hide (below_put8 HB5.out (Nat.le_succ _) (.int .u32 r) (.int .u32 en) (.int .u32 ve) (.int .u32 sc) (.int .u32 pe) (.int .u32 z) (.int .u32 v) (.int .u64 ct))
    clear hR5 hZ5
    go_wp2
    have hF := HF5.out
    have hG := HG5.out
    clear HF5 HG5
    generalize ((((((((w5.setCell ⟨w.heap.size + 1, 0, none⟩ (.int .u32 r)).setCell ⟨w.heap.size + 1, 1, none⟩ (.int .u32 en)).setCell ⟨w.heap.size + 1, 2, none⟩ (.int .u32 ve)).setCell ⟨w.heap.size + 1, 3, none⟩ (.int .u32 sc)).setCell ⟨w.heap.size + 1, 4, none⟩ (.int .u32 pe)).setCell ⟨w.heap.size + 1, 5, none⟩ (.int .u32 z)).setCell ⟨w.heap.size + 1, 6, none⟩ (.int .u32 v)).setCell ⟨w.heap.size + 1, 7, none⟩ (.int .u64 ct)) = Q at hF hG ⊢
    refine bodyPost_ret (results_cell_tmp_row Try.results6 _ _ (w.heap.size + 1) _ _ _ _ rfl hF Try.underlying25 rfl size_rstate) rfl ?_
    exact ⟨ret_two rfl E2.out.symm, hG⟩
set_option maxHeartbeats 2000000 in
theorem rtrap_c (st en ve sc ep ca va ct pc pe x f r vv z v to : Int) (w : World)
    (HE : Hid (∀ w b t, RowAt w b #[.int .i64 0, .int .i64 1] t → Calls Try.prog 11 #[.int .u32 pc, .slice (some ⟨b, 0, none⟩) 2 2] w fun e w' => e = .returned (.int .u32 pe) ∧ Below w.heap.size w w'))
    (HV : Hid (∀ w b t, RowAt w b #[.int .i64 0, .int .i64 1] t → Calls Try.prog 11 #[.int .u32 ve, .slice (some ⟨b, 0, none⟩) 2 2] w fun e w' => e = .returned (.int .u32 vv) ∧ Below w.heap.size w w'))
    (HF : Hid (∀ w, Calls Try.prog 13 #[.int .u32 st, .int .i64 3, .int .i64 1] w fun e w' => e = .returned (.int .u32 f) ∧ ∃ o o', w' = (w.alloc o).alloc o'))
    (HS : Hid (∀ w, Calls Try.prog 12 #[.int .u32 st, .int .i64 7, .int .i64 1, .int .u32 f] w fun e w' => e = .returned (.int .u32 x) ∧ ∃ o o', w' = (w.alloc o).alloc o'))
    (HS2 : Hid (∀ w, Calls Try.prog 12 #[.int .u32 x, .int .i64 3, .int .i64 1, .int .u32 0] w fun e w' => e = .returned (.int .u32 r) ∧ ∃ o o', w' = (w.alloc o).alloc o'))
    (e1 : (ve % 2 == 1) = true) (e3 : 2147483648 ≤ z) (e4 : z ≤ 4294967295) (e2 : to = (vv + 4 * (z - 2147483648) % 4294967296) % 4294967296) (t0 : 0 ≤ ve) :
    Calls Try.prog 6 #[.agg #[.int .u32 st, .int .u32 en, .int .u32 ve, .int .u32 sc, .int .u32 ep, .int .u32 ca, .int .u32 va, .int .u64 ct], .int .u32 z, .int .u32 v, .int .u32 pc] w fun e w' => e = .returned (.tuple #[.agg #[.int .u32 r, .int .u32 en, .int .u32 ve, .int .u32 sc, .int .u32 pe, .int .u32 z, .int .u32 v, .int .u64 ct], .int .u32 to]) ∧ Below w.heap.size w w' := by
  have E2 := hide e2
  clear e2
  go_enter Try.func6, Try.ntmps6
  go_wp2_with (fail)
  obtain ⟨W, hW⟩ : ∃ X, ((w.alloc (.cells #[.int .u32 st, .int .u32 en, .int .u32 ve, .int .u32 sc, .int .u32 ep, .int .u32 ca, .int .u32 va, .int .u64 ct] 25)).alloc (.cells #[.int .u32 0, .int .u32 0, .int .u32 0, .int .u32 0, .int .u32 0, .int .u32 0, .int .u32 0, .int .u64 0] 25)).alloc (.cells #[.int .i64 0, .int .i64 1] 3) = X := ⟨_, rfl⟩
  have hR : RowAt W w.heap.size #[.int .u32 st, .int .u32 en, .int .u32 ve, .int .u32 sc, .int .u32 ep, .int .u32 ca, .int .u32 va, .int .u64 ct] 25 := hW ▸ ((RowAt.new w _ _ _ rfl).al _).al _
  have hZ : RowAt W (w.heap.size + 1) #[.int .u32 0, .int .u32 0, .int .u32 0, .int .u32 0, .int .u32 0, .int .u32 0, .int .u32 0, .int .u64 0] 25 := hW ▸ (RowAt.new _ _ _ _ (by simp)).al _
  have hI : RowAt W (w.heap.size + 1 + 1) #[.int .i64 0, .int .i64 1] 3 := hW ▸ RowAt.new _ _ _ _ (by simp)
  have hB : Below w.heap.size w W := hW ▸ below_three _ _ _ _
  have HR := hide hR
  have HZ := hide hZ
  have HB := hide hB
  rw [hW]
  clear hW hR hZ hB
  refine (HE.out _ _ _ hI).mono ?_
  rintro e w1 ⟨rfl, hb1⟩
  have hR1 := HR.out.bl hb1
  have hZ1 := HZ.out.bl hb1
  have HB1 := hide (below_bl rfl HB.out hb1)
  have l1 := hZ1.lt
  have l1' := hR1.lt
  have t4 := hR1.thaw 4
  have t5 := hR1.thaw 5
  have t6 := hR1.thaw 6
  have c4 : w1.cell? ⟨w.heap.size, 4, none⟩ = some (.int .u32 ep) := hR1.cell 4
  have c5 : w1.cell? ⟨w.heap.size, 5, none⟩ = some (.int .u32 ca) := hR1.cell 5
  have c6 : w1.cell? ⟨w.heap.size, 6, none⟩ = some (.int .u32 va) := hR1.cell 6
  have HR1 := hide hR1
  have HZ1 := hide hZ1
  clear HR HZ HB hI hb1 hR1 hZ1
  go_wp2_with (fail)
  obtain ⟨X, hX⟩ : ∃ X, ((w1.setCell ⟨w.heap.size, 4, none⟩ (.int .u32 pe)).setCell ⟨w.heap.size, 5, none⟩ (.int .u32 z)).setCell ⟨w.heap.size, 6, none⟩ (.int .u32 v) = X := ⟨_, rfl⟩
  have hRX : RowAt X w.heap.size #[.int .u32 st, .int .u32 en, .int .u32 ve, .int .u32 sc, .int .u32 pe, .int .u32 z, .int .u32 v, .int .u64 ct] 25 := hX ▸ HR1.out.put456 _ _ _
  have hZX : RowAt X (w.heap.size + 1) #[.int .u32 0, .int .u32 0, .int .u32 0, .int .u32 0, .int .u32 0, .int .u32 0, .int .u32 0, .int .u64 0] 25 := hX ▸ ((HZ1.out.far (by omega) 4 _).far (by omega) 5 _).far (by omega) 6 _
  have HBX : Hid (Below w.heap.size w X) := hX ▸ ((HB1.out.setCell (p := ⟨w.heap.size, 4, none⟩) (Nat.le_refl _) _).setCell (p := ⟨w.heap.size, 5, none⟩) (Nat.le_refl _) _).setCell (p := ⟨w.heap.size, 6, none⟩) (Nat.le_refl _) _
  have lX := hZX.lt
  have lX' := hRX.lt
  have lX1 : w.heap.size < X.heap.size + 1 := by omega
  have lX2 : w.heap.size < X.heap.size + 1 + 1 := by omega
  have lX3 : w.heap.size < X.heap.size + 1 + 1 + 1 := by omega
  have t0 := hRX.thaw 0
  have c0 : X.cell? ⟨w.heap.size, 0, none⟩ = some (.int .u32 st) := hRX.cell 0
  have HRX := hide hRX
  have HZX := hide hZX
  rw [hX]
  clear hX HR1 HZ1 HB1 hRX hZX l1 l1' t4 t5 t6 c4 c5 c6
  go_region_with (first | (go_at_call 13; refine (HF.out _).mono ?_; rintro e w2 ⟨rfl, o1, o2, rfl⟩) | (go_at_call 12; refine (HS.out _).mono ?_; rintro e w3 ⟨rfl, o3, o4, rfl⟩))
  all_goals
    obtain ⟨Y, hY⟩ : ∃ Y, ((((X.setCell ⟨w.heap.size, 0, none⟩ (.int .u32 x)).alloc o1).alloc o2).alloc o3).alloc o4 = Y := ⟨_, rfl⟩
    have hRY : RowAt Y w.heap.size #[.int .u32 x, .int .u32 en, .int .u32 ve, .int .u32 sc, .int .u32 pe, .int .u32 z, .int .u32 v, .int .u64 ct] 25 := hY ▸ ((((HRX.out.put 0 _).al _).al _).al _).al _
    have hZY : RowAt Y (w.heap.size + 1) #[.int .u32 0, .int .u32 0, .int .u32 0, .int .u32 0, .int .u32 0, .int .u32 0, .int .u32 0, .int .u64 0] 25 := hY ▸ ((((HZX.out.far (by omega) 0 _).al _).al _).al _).al _
    have HBY : Hid (Below w.heap.size w Y) := by
      rw [← hY]
      have h1 := HBX.out.setCell (p := ⟨w.heap.size, 0, none⟩) (Nat.le_refl _) (.int .u32 x)
      have h2 := h1.size
      exact ((((h1.alloc h2 _).alloc (by simp; omega) _).alloc (by simp; omega) _).alloc (by simp; omega) _)
    have lY := hZY.lt
    have lY' := hRY.lt
    have tY := hRY.thaw 0
    have cY : Y.cell? ⟨w.heap.size, 0, none⟩ = some (.int .u32 x) := hRY.cell 0
    have c2 : Y.cell? ⟨w.heap.size, 2, none⟩ = some (.int .u32 ve) := hRY.cell 2
    have HRY := hide hRY
    have HZY := hide hZY
    rw [hY]
    clear hY hRY hZY HRX HZX HBX lX lX' lX1 lX2 lX3 t0 c0
    go_wp2_with (first | (go_at_call 12; refine (HS2.out _).mono ?_; rintro e w4 ⟨rfl, o5, o6, rfl⟩))
    obtain ⟨V, hV⟩ : ∃ V, ((((Y.setCell ⟨w.heap.size, 0, none⟩ (.int .u32 r)).alloc o5).alloc o6).alloc (.cells #[.int .i64 0, .int .i64 1] 3)).drew = V := ⟨_, rfl⟩
    have HRV : Hid (RowAt V w.heap.size #[.int .u32 r, .int .u32 en, .int .u32 ve, .int .u32 sc, .int .u32 pe, .int .u32 z, .int .u32 v, .int .u64 ct] 25) := hV ▸ ((((HRY.out.put 0 _).al _).al _).al _).dr
    have HZV : Hid (RowAt V (w.heap.size + 1) #[.int .u32 0, .int .u32 0, .int .u32 0, .int .u32 0, .int .u32 0, .int .u32 0, .int .u32 0, .int .u64 0] 25) := hV ▸ ((((HZY.out.far (by omega) 0 _).al _).al _).al _).dr
    have hIV : RowAt V (Y.heap.size + 1 + 1) #[.int .i64 0, .int .i64 1] 3 := hV ▸ (RowAt.new _ _ _ _ (by simp)).dr
    have HBV : Hid (Below w.heap.size w V) := by
      rw [← hV]
      have h1 := HBY.out.setCell (p := ⟨w.heap.size, 0, none⟩) (Nat.le_refl _) (.int .u32 r)
      have h2 := h1.size
      exact (((h1.alloc h2 _).alloc (by simp; omega) _).alloc (by simp; omega) _).drew
    rw [hV]
    clear hV HRY HZY HBY
    refine (HV.out _ _ _ hIV).mono ?_
    rintro e w5 ⟨rfl, hb5⟩
    have hR5 := HRV.out.bl hb5
    have hZ5 := HZV.out.bl hb5
    have HB5 := hide (below_bl rfl HBV.out hb5)
    clear hIV hb5 HRV HZV HBV lY lY' tY cY c2
    have c0 : w5.cell? ⟨w.heap.size, 0, none⟩ = some (.int .u32 r) := hR5.cell 0
    have c1 : w5.cell? ⟨w.heap.size, 1, none⟩ = some (.int .u32 en) := hR5.cell 1
    have c2 : w5.cell? ⟨w.heap.size, 2, none⟩ = some (.int .u32 ve) := hR5.cell 2
    have c3 : w5.cell? ⟨w.heap.size, 3, none⟩ = some (.int .u32 sc) := hR5.cell 3
    have c4 : w5.cell? ⟨w.heap.size, 4, none⟩ = some (.int .u32 pe) := hR5.cell 4
    have c5 : w5.cell? ⟨w.heap.size, 5, none⟩ = some (.int .u32 z) := hR5.cell 5
    have c6 : w5.cell? ⟨w.heap.size, 6, none⟩ = some (.int .u32 v) := hR5.cell 6
    have c7 : w5.cell? ⟨w.heap.size, 7, none⟩ = some (.int .u64 ct) := hR5.cell 7
    have z0 : w5.cell? ⟨w.heap.size + 1, 0, none⟩ = some (.int .u32 0) := hZ5.cell 0
    have f0 := hZ5.thaw 0
    have z1 : w5.cell? ⟨w.heap.size + 1, 1, none⟩ = some (.int .u32 0) := hZ5.cell 1
    have f1 := hZ5.thaw 1
    have z2 : w5.cell? ⟨w.heap.size + 1, 2, none⟩ = some (.int .u32 0) := hZ5.cell 2
    have f2 := hZ5.thaw 2
    have z3 : w5.cell? ⟨w.heap.size + 1, 3, none⟩ = some (.int .u32 0) := hZ5.cell 3
    have f3 := hZ5.thaw 3
    have z4 : w5.cell? ⟨w.heap.size + 1, 4, none⟩ = some (.int .u32 0) := hZ5.cell 4
    have f4 := hZ5.thaw 4
    have z5 : w5.cell? ⟨w.heap.size + 1, 5, none⟩ = some (.int .u32 0) := hZ5.cell 5
    have f5 := hZ5.thaw 5
    have z6 : w5.cell? ⟨w.heap.size + 1, 6, none⟩ = some (.int .u32 0) := hZ5.cell 6
    have f6 := hZ5.thaw 6
    have z7 : w5.cell? ⟨w.heap.size + 1, 7, none⟩ = some (.int .u64 0) := hZ5.cell 7
    have f7 := hZ5.thaw 7
    have HF5 := hide (hZ5.put8 (.int .u32 r) (.int .u32 en) (.int .u32 ve) (.int .u32 sc) (.int .u32 pe) (.int .u32 z) (.int .u32 v) (.int .u64 ct))
    have HG5 := hide (below_put8 HB5.out (Nat.le_succ _) (.int .u32 r) (.int .u32 en) (.int .u32 ve) (.int .u32 sc) (.int .u32 pe) (.int .u32 z) (.int .u32 v) (.int .u64 ct))
    clear hR5 hZ5
    go_wp2
    have hF := HF5.out
    have hG := HG5.out
    clear HF5 HG5
    generalize ((((((((w5.setCell ⟨w.heap.size + 1, 0, none⟩ (.int .u32 r)).setCell ⟨w.heap.size + 1, 1, none⟩ (.int .u32 en)).setCell ⟨w.heap.size + 1, 2, none⟩ (.int .u32 ve)).setCell ⟨w.heap.size + 1, 3, none⟩ (.int .u32 sc)).setCell ⟨w.heap.size + 1, 4, none⟩ (.int .u32 pe)).setCell ⟨w.heap.size + 1, 5, none⟩ (.int .u32 z)).setCell ⟨w.heap.size + 1, 6, none⟩ (.int .u32 v)).setCell ⟨w.heap.size + 1, 7, none⟩ (.int .u64 ct)) = Q at hF hG ⊢
    refine bodyPost_ret (results_cell_tmp_row Try.results6 _ _ (w.heap.size + 1) _ _ _ _ rfl hF Try.underlying25 rfl size_rstate) rfl ?_
    exact ⟨ret_two rfl E2.out.symm, hG⟩

theorem rtrap_any (s : S8) (hs : s.Ok) (cause value pc : Nat) (hc : cause < 4294967296) (hp : pc < 4294967296) (w : World) :
    Calls Try.prog 6 #[.agg s.cells, .int .u32 cause, .int .u32 value, .int .u32 pc] w fun e w' => e = .returned (.tuple #[.agg (trapN s cause value pc).cells, .int .u32 (trapTo s.ve cause : Nat)]) ∧ Below w.heap.size w w' := by
  obtain ⟨st, en, ve, sc, ep, ca, va, ct⟩ := s
  obtain ⟨h0, h1, h2, h3, h4, h5, h6, h7⟩ := hs
  dsimp only at h0 h2
  have HE := hide (but2_at pc hp)
  have HV := hide (but2_at ve h2)
  have HF := hide (rfld_ex st h0 3)
  have HS := hide (rset_ex st h0 7 (fldOne st 3) (fldOne_lt _ _))
  have HS2 := hide (rset_ex _ (setOne_lt st 7 (fldOne st 3)) 3 0 (by decide))
  rw [trap_st st h0] at HS2
  have HT := trap_to ve cause h2 hc
  by_cases k1 : ve % 2 = 1
  · by_cases k2 : 2147483648 ≤ cause
    · rw [if_pos ⟨k1, k2⟩] at HT
      exact rtrap_c st en ve sc ep ca va ct pc _ _ _ _ _ cause value _ w HE HV HF HS HS2 (by simp; omega) (by omega) (by omega) (by show ((trapTo ve cause : Nat) : Int) = _; rw [HT]; omega) (by omega)
    · rw [if_neg (fun h => k2 h.2)] at HT
      exact rtrap_b st en ve sc ep ca va ct pc _ _ _ _ _ cause value _ w HE HV HF HS HS2 (by simp; omega) (eq_false (by omega)) (by show ((trapTo ve cause : Nat) : Int) = _; rw [HT]) (by omega)
  · rw [if_neg (fun h => k1 h.1)] at HT
    exact rtrap_a st en ve sc ep ca va ct pc _ _ _ _ _ cause value _ w HE HV HF HS HS2 (by simp; omega) (by show ((trapTo ve cause : Nat) : Int) = _; rw [HT]) (by omega)
end Go.Proofs.Ytchlomnkjilmeaa
