/-
  CsrBack, walked.
-/
import Derived.Test.YtchlomnkjilmeaaCsRead
import Derived.Test.YtchlomnkjilmeaaCsWrite
import Derived.Test.YtchlomnkjilmeaaRCsRow
import Derived.Deep.RegionHeld3
import Derived.Deep.QuietTactic
import Derived.BigQuiet
namespace Go.Proofs.Ytchlomnkjilmeaa
open Go.RowKit
set_option linter.unusedVariables false

theorem cellA {w : World} {g j : Nat} {v : Value} (h : w.cell? ⟨g, j, none⟩ = some v) (o : Obj) : (w.alloc o).cell? ⟨g, j, none⟩ = some v := cell_bl (below_one _ _) h
theorem cellD {w : World} {g j : Nat} {v : Value} (h : w.cell? ⟨g, j, none⟩ = some v) : w.drew.cell? ⟨g, j, none⟩ = some v := h

set_option maxHeartbeats 2000000 in
set_option maxRecDepth 100000 in
theorem back_core (st en ve sc ep ca va ct u0 u1 u2 u3 u4 u5 u6 u7 v : Nat) (z0 z1 : Int) (i k : Nat) (ri rk hi a b c : Int) (w : World)
    (hi9 : i < 9) (hk9 : k < 9)
    (hri : (#[.int .i64 768, .int .i64 772, .int .i64 773, .int .i64 832, .int .i64 833, .int .i64 834, .int .i64 835, .int .i64 2816, .int .i64 2944] : Array Value)[i]? = some (.int .i64 ri)) (hrk : (#[.int .i64 768, .int .i64 772, .int .i64 773, .int .i64 832, .int .i64 833, .int .i64 834, .int .i64 835, .int .i64 2816, .int .i64 2944] : Array Value)[k]? = some (.int .i64 rk)) (hhi : (#[.int .u32 136, .int .u32 2184, .int .u32 4294967293, .int .u32 4294967295, .int .u32 4294967292, .int .u32 4294967295, .int .u32 4294967295, .int .u32 4294967295, .int .u32 4294967295] : Array Value)[i]? = some (.int .u32 hi))
    (hzi : Hid (wrap64 ((IntKind.u64.wrap z0).tmod 9) = (i : Int))) (hzk : Hid (wrap64 ((IntKind.u64.wrap z1).tmod 9) = (k : Int)))
    (HW : Hid (∀ w, Calls Try.prog 8 #[.agg #[.int .u32 st, .int .u32 en, .int .u32 ve, .int .u32 sc, .int .u32 ep, .int .u32 ca, .int .u32 va, .int .u64 ct], .int .i64 ri, .int .u32 v] w fun e w' => e = .returned (.tuple #[.agg #[.int .u32 u0, .int .u32 u1, .int .u32 u2, .int .u32 u3, .int .u32 u4, .int .u32 u5, .int .u32 u6, .int .u64 u7], .nilIface]) ∧ ∃ o o', w' = (w.alloc o).alloc o'))
    (H1 : Hid (∀ w, Calls Try.prog 9 #[.agg #[.int .u32 u0, .int .u32 u1, .int .u32 u2, .int .u32 u3, .int .u32 u4, .int .u32 u5, .int .u32 u6, .int .u64 u7], .int .i64 ri, .int .u32 0] w fun e w' => e = .returned (.tuple #[.int .u32 a, .nilIface]) ∧ Below w.heap.size w w'))
    (H2 : Hid (∀ w, Calls Try.prog 9 #[.agg #[.int .u32 u0, .int .u32 u1, .int .u32 u2, .int .u32 u3, .int .u32 u4, .int .u32 u5, .int .u32 u6, .int .u64 u7], .int .i64 rk, .int .u32 0] w fun e w' => e = .returned (.tuple #[.int .u32 b, .nilIface]) ∧ Below w.heap.size w w'))
    (H3 : Hid (∀ w, Calls Try.prog 9 #[.agg #[.int .u32 st, .int .u32 en, .int .u32 ve, .int .u32 sc, .int .u32 ep, .int .u32 ca, .int .u32 va, .int .u64 ct], .int .i64 rk, .int .u32 0] w fun e w' => e = .returned (.tuple #[.int .u32 c, .nilIface]) ∧ Below w.heap.size w w'))
    (zb qb : Bool) (ei : Hid (((i : Int) == 0) = zb)) (ek : Hid (((i : Int) == (k : Int)) = qb)) (ET : Hid (zb = true → (bits .andNot .u32 a 6144 == bits .and .u32 (v : Int) hi) = true)) (EF : Hid (zb = false → (a == bits .and .u32 (v : Int) hi) = true)) (EQ : Hid (qb = false → (b == c) = true)) :
    Calls Try.prog 4 #[.agg #[.int .u32 st, .int .u32 en, .int .u32 ve, .int .u32 sc, .int .u32 ep, .int .u32 ca, .int .u32 va, .int .u64 ct], .agg #[.int .i64 z0, .int .i64 z1], .int .u32 v] w fun e w' => e = .returned (.bool true) ∧ Below w.heap.size w w' := by
  have HS := hide (fun w => Calls.bel3 (sure_any w))
  go_enter Try.func4, Try.ntmps4
  go_wp2
  obtain ⟨W0, hW0⟩ : ∃ X, (((w.alloc (.cells #[.int .u32 st, .int .u32 en, .int .u32 ve, .int .u32 sc, .int .u32 ep, .int .u32 ca, .int .u32 va, .int .u64 ct] 25)).alloc (.cells #[.int .i64 z0, .int .i64 z1] 34)).alloc (.cells #[.int .i64 768, .int .i64 772, .int .i64 773, .int .i64 832, .int .i64 833, .int .i64 834, .int .i64 835, .int .i64 2816, .int .i64 2944] 3)).alloc (.cells #[.int .u32 136, .int .u32 2184, .int .u32 4294967293, .int .u32 4294967295, .int .u32 4294967292, .int .u32 4294967295, .int .u32 4294967295, .int .u32 4294967295, .int .u32 4294967295] 22) = X := ⟨_, rfl⟩
  have hR0 : RowAt W0 w.heap.size #[.int .u32 st, .int .u32 en, .int .u32 ve, .int .u32 sc, .int .u32 ep, .int .u32 ca, .int .u32 va, .int .u64 ct] 25 := hW0 ▸ (((RowAt.new w _ _ _ rfl).al _).al _).al _
  have hO0 : RowAt W0 (w.heap.size + 1) #[.int .i64 z0, .int .i64 z1] 34 := hW0 ▸ ((RowAt.new _ _ _ _ (by simp)).al _).al _
  have hA0 : RowAt W0 (w.heap.size + 1 + 1) #[.int .i64 768, .int .i64 772, .int .i64 773, .int .i64 832, .int .i64 833, .int .i64 834, .int .i64 835, .int .i64 2816, .int .i64 2944] 3 := hW0 ▸ (RowAt.new _ _ _ _ (by simp)).al _
  have hH0 : RowAt W0 (w.heap.size + 1 + 1 + 1) #[.int .u32 136, .int .u32 2184, .int .u32 4294967293, .int .u32 4294967295, .int .u32 4294967292, .int .u32 4294967295, .int .u32 4294967295, .int .u32 4294967295, .int .u32 4294967295] 22 := hW0 ▸ RowAt.new _ _ _ _ (by simp)
  have hB0 : Below w.heap.size w W0 := by
    rw [← hW0]
    repeat (first | exact Below.refl _ _ | refine Below.alloc ?_ (by simp <;> omega) _)
  have q0 : W0.cell? ⟨w.heap.size + 1, 0, none⟩ = some (.int .i64 z0) := hO0.cell 0
  have q1 : W0.cell? ⟨w.heap.size + 1, 1, none⟩ = some (.int .i64 z1) := hO0.cell 1
  have HR0 := hide hR0
  have HA0 := hide hA0
  have HH0 := hide hH0
  have HB0 := hide hB0
  rw [hW0]
  clear hW0 hR0 hO0 hA0 hH0 hB0
  go_quiet (fail)
  rw [hzi.out, hzk.out]
  obtain ⟨W, hW⟩ : ∃ X, W0.drewN nq = X := ⟨_, rfl⟩
  have hR : RowAt W w.heap.size #[.int .u32 st, .int .u32 en, .int .u32 ve, .int .u32 sc, .int .u32 ep, .int .u32 ca, .int .u32 va, .int .u64 ct] 25 := hW ▸ HR0.out.dn nq
  have hA : RowAt W (w.heap.size + 1 + 1) #[.int .i64 768, .int .i64 772, .int .i64 773, .int .i64 832, .int .i64 833, .int .i64 834, .int .i64 835, .int .i64 2816, .int .i64 2944] 3 := hW ▸ HA0.out.dn nq
  have hH : RowAt W (w.heap.size + 1 + 1 + 1) #[.int .u32 136, .int .u32 2184, .int .u32 4294967293, .int .u32 4294967295, .int .u32 4294967292, .int .u32 4294967295, .int .u32 4294967295, .int .u32 4294967295, .int .u32 4294967295] 22 := hW ▸ HH0.out.dn nq
  have hB : Below w.heap.size w W := hW ▸ below_drewN HB0.out nq
  rw [hW]
  clear hW HR0 HA0 HH0 HB0 q0 q1 hzi hzk
  have c0 : W.cell? ⟨w.heap.size, 0, none⟩ = some (.int .u32 (st : Nat)) := hR.cell 0
  have c1 : W.cell? ⟨w.heap.size, 1, none⟩ = some (.int .u32 (en : Nat)) := hR.cell 1
  have c2 : W.cell? ⟨w.heap.size, 2, none⟩ = some (.int .u32 (ve : Nat)) := hR.cell 2
  have c3 : W.cell? ⟨w.heap.size, 3, none⟩ = some (.int .u32 (sc : Nat)) := hR.cell 3
  have c4 : W.cell? ⟨w.heap.size, 4, none⟩ = some (.int .u32 (ep : Nat)) := hR.cell 4
  have c5 : W.cell? ⟨w.heap.size, 5, none⟩ = some (.int .u32 (ca : Nat)) := hR.cell 5
  have c6 : W.cell? ⟨w.heap.size, 6, none⟩ = some (.int .u32 (va : Nat)) := hR.cell 6
  have c7 : W.cell? ⟨w.heap.size, 7, none⟩ = some (.int .u64 (ct : Nat)) := hR.cell 7
  have HA := hide hA
  have HH := hide hH
  have HB := hide hB
  clear hA hH hB
  go_wp2
  obtain ⟨X, hX⟩ : ∃ X, W.alloc (.cells #[.int .u32 st, .int .u32 en, .int .u32 ve, .int .u32 sc, .int .u32 ep, .int .u32 ca, .int .u32 va, .int .u64 ct] 27) = X := ⟨_, rfl⟩
  have hRX : RowAt X W.heap.size #[.int .u32 st, .int .u32 en, .int .u32 ve, .int .u32 sc, .int .u32 ep, .int .u32 ca, .int .u32 va, .int .u64 ct] 27 := hX ▸ RowAt.new _ _ _ _ rfl
  have g1 : X.cell? ⟨w.heap.size + 1 + 1, i, none⟩ = some (.int .i64 ri) := ((hX ▸ HA.out.al _ : RowAt X (w.heap.size + 1 + 1) #[.int .i64 768, .int .i64 772, .int .i64 773, .int .i64 832, .int .i64 833, .int .i64 834, .int .i64 835, .int .i64 2816, .int .i64 2944] 3).cell i).trans hri
  have g2 : X.cell? ⟨w.heap.size + 1 + 1, k, none⟩ = some (.int .i64 rk) := ((hX ▸ HA.out.al _ : RowAt X (w.heap.size + 1 + 1) #[.int .i64 768, .int .i64 772, .int .i64 773, .int .i64 832, .int .i64 833, .int .i64 834, .int .i64 835, .int .i64 2816, .int .i64 2944] 3).cell k).trans hrk
  have g3 : X.cell? ⟨w.heap.size + 1 + 1 + 1, i, none⟩ = some (.int .u32 hi) := ((hX ▸ HH.out.al _ : RowAt X (w.heap.size + 1 + 1 + 1) #[.int .u32 136, .int .u32 2184, .int .u32 4294967293, .int .u32 4294967295, .int .u32 4294967292, .int .u32 4294967295, .int .u32 4294967295, .int .u32 4294967295, .int .u32 4294967295] 22).cell i).trans hhi
  have hBe : Below w.heap.size w X := hX ▸ HB.out.alloc HB.out.size _
  rw [hX]
  clear hX HA HH HB hR c0 c1 c2 c3 c4 c5 c6 c7 hri hrk hhi
  have c0 : X.cell? ⟨W.heap.size, 0, none⟩ = some (.int .u32 (st : Nat)) := hRX.cell 0
  have c1 : X.cell? ⟨W.heap.size, 1, none⟩ = some (.int .u32 (en : Nat)) := hRX.cell 1
  have c2 : X.cell? ⟨W.heap.size, 2, none⟩ = some (.int .u32 (ve : Nat)) := hRX.cell 2
  have c3 : X.cell? ⟨W.heap.size, 3, none⟩ = some (.int .u32 (sc : Nat)) := hRX.cell 3
  have c4 : X.cell? ⟨W.heap.size, 4, none⟩ = some (.int .u32 (ep : Nat)) := hRX.cell 4
  have c5 : X.cell? ⟨W.heap.size, 5, none⟩ = some (.int .u32 (ca : Nat)) := hRX.cell 5
  have c6 : X.cell? ⟨W.heap.size, 6, none⟩ = some (.int .u32 (va : Nat)) := hRX.cell 6
  have c7 : X.cell? ⟨W.heap.size, 7, none⟩ = some (.int .u64 (ct : Nat)) := hRX.cell 7
  have i0 : (0 : Int) ≤ (i : Int) := by omega
  have i9 : (i : Int) < 9 := by omega
  have k0 : (0 : Int) ≤ (k : Int) := by omega
  have k9 : (k : Int) < 9 := by omega
  have HBe := hide hBe
  have HRX := hide hRX
  clear hBe hRX
  have lX := HRX.out.lt
  go_region_held3 (fun w' => (w'.cell? ⟨W.heap.size, 0, none⟩ = some (.int .u32 (st : Nat)) ∧ w'.cell? ⟨W.heap.size, 1, none⟩ = some (.int .u32 (en : Nat)) ∧ w'.cell? ⟨W.heap.size, 2, none⟩ = some (.int .u32 (ve : Nat)) ∧ w'.cell? ⟨W.heap.size, 3, none⟩ = some (.int .u32 (sc : Nat)) ∧ w'.cell? ⟨W.heap.size, 4, none⟩ = some (.int .u32 (ep : Nat)) ∧ w'.cell? ⟨W.heap.size, 5, none⟩ = some (.int .u32 (ca : Nat)) ∧ w'.cell? ⟨W.heap.size, 6, none⟩ = some (.int .u32 (va : Nat)) ∧ w'.cell? ⟨W.heap.size, 7, none⟩ = some (.int .u64 (ct : Nat))) ∧ w'.cell? ⟨w.heap.size + 1 + 1, i, none⟩ = some (.int .i64 ri) ∧ w'.cell? ⟨w.heap.size + 1 + 1, k, none⟩ = some (.int .i64 rk) ∧ w'.cell? ⟨w.heap.size + 1 + 1 + 1, i, none⟩ = some (.int .u32 hi)) (((repeat' apply And.intro) <;> (repeat (first | assumption | refine cellA ?_ _ | refine cellD ?_))))
    (first | (go_at_call 8; refine (HW.out _).mono ?_; rintro e w6 ⟨rfl, o1, o2, rfl⟩))
  · obtain ⟨Y, hY⟩ : ∃ Y, (((X.alloc o1).alloc o2).alloc (.cells #[.int .u32 u0, .int .u32 u1, .int .u32 u2, .int .u32 u3, .int .u32 u4, .int .u32 u5, .int .u32 u6, .int .u64 u7] 27)).drew = Y := ⟨_, rfl⟩
    have hRY : RowAt Y W.heap.size #[.int .u32 st, .int .u32 en, .int .u32 ve, .int .u32 sc, .int .u32 ep, .int .u32 ca, .int .u32 va, .int .u64 ct] 27 := hY ▸ (((HRX.out.al _).al _).al _).dr
    have hUY : RowAt Y (X.heap.size + 1 + 1) #[.int .u32 u0, .int .u32 u1, .int .u32 u2, .int .u32 u3, .int .u32 u4, .int .u32 u5, .int .u32 u6, .int .u64 u7] 27 := hY ▸ (RowAt.new _ _ _ _ (by simp)).dr
    have y1 : Y.cell? ⟨w.heap.size + 1 + 1, i, none⟩ = some (.int .i64 ri) := hY ▸ cellD (cellA (cellA (cellA g1 _) _) _)
    have y2 : Y.cell? ⟨w.heap.size + 1 + 1, k, none⟩ = some (.int .i64 rk) := hY ▸ cellD (cellA (cellA (cellA g2 _) _) _)
    have y3 : Y.cell? ⟨w.heap.size + 1 + 1 + 1, i, none⟩ = some (.int .u32 hi) := hY ▸ cellD (cellA (cellA (cellA g3 _) _) _)
    have yB : Below w.heap.size w Y := by
      rw [← hY]
      have h1 := HBe.out
      have h2 := h1.size
      exact (((h1.alloc h2 _).alloc (by simp; omega) _).alloc (by simp; omega) _).drew
    rw [hY]
    clear hY HBe HRX g1 g2 g3 c0 c1 c2 c3 c4 c5 c6 c7
    have g1 := y1
    have g2 := y2
    have g3 := y3
    have hBe := yB
    clear y1 y2 y3 yB
    have c0 : Y.cell? ⟨W.heap.size, 0, none⟩ = some (.int .u32 (st : Nat)) := hRY.cell 0
    have c1 : Y.cell? ⟨W.heap.size, 1, none⟩ = some (.int .u32 (en : Nat)) := hRY.cell 1
    have c2 : Y.cell? ⟨W.heap.size, 2, none⟩ = some (.int .u32 (ve : Nat)) := hRY.cell 2
    have c3 : Y.cell? ⟨W.heap.size, 3, none⟩ = some (.int .u32 (sc : Nat)) := hRY.cell 3
    have c4 : Y.cell? ⟨W.heap.size, 4, none⟩ = some (.int .u32 (ep : Nat)) := hRY.cell 4
    have c5 : Y.cell? ⟨W.heap.size, 5, none⟩ = some (.int .u32 (ca : Nat)) := hRY.cell 5
    have c6 : Y.cell? ⟨W.heap.size, 6, none⟩ = some (.int .u32 (va : Nat)) := hRY.cell 6
    have c7 : Y.cell? ⟨W.heap.size, 7, none⟩ = some (.int .u64 (ct : Nat)) := hRY.cell 7
    have d0 : Y.cell? ⟨X.heap.size + 1 + 1, 0, none⟩ = some (.int .u32 (u0 : Nat)) := hUY.cell 0
    have d1 : Y.cell? ⟨X.heap.size + 1 + 1, 1, none⟩ = some (.int .u32 (u1 : Nat)) := hUY.cell 1
    have d2 : Y.cell? ⟨X.heap.size + 1 + 1, 2, none⟩ = some (.int .u32 (u2 : Nat)) := hUY.cell 2
    have d3 : Y.cell? ⟨X.heap.size + 1 + 1, 3, none⟩ = some (.int .u32 (u3 : Nat)) := hUY.cell 3
    have d4 : Y.cell? ⟨X.heap.size + 1 + 1, 4, none⟩ = some (.int .u32 (u4 : Nat)) := hUY.cell 4
    have d5 : Y.cell? ⟨X.heap.size + 1 + 1, 5, none⟩ = some (.int .u32 (u5 : Nat)) := hUY.cell 5
    have d6 : Y.cell? ⟨X.heap.size + 1 + 1, 6, none⟩ = some (.int .u32 (u6 : Nat)) := hUY.cell 6
    have d7 : Y.cell? ⟨X.heap.size + 1 + 1, 7, none⟩ = some (.int .u64 (u7 : Nat)) := hUY.cell 7
    clear hRY hUY
    have HK : Hid (∀ a b, Below a.heap.size a b → ((a.cell? ⟨W.heap.size, 0, none⟩ = some (.int .u32 (st : Nat)) ∧ a.cell? ⟨W.heap.size, 1, none⟩ = some (.int .u32 (en : Nat)) ∧ a.cell? ⟨W.heap.size, 2, none⟩ = some (.int .u32 (ve : Nat)) ∧ a.cell? ⟨W.heap.size, 3, none⟩ = some (.int .u32 (sc : Nat)) ∧ a.cell? ⟨W.heap.size, 4, none⟩ = some (.int .u32 (ep : Nat)) ∧ a.cell? ⟨W.heap.size, 5, none⟩ = some (.int .u32 (ca : Nat)) ∧ a.cell? ⟨W.heap.size, 6, none⟩ = some (.int .u32 (va : Nat)) ∧ a.cell? ⟨W.heap.size, 7, none⟩ = some (.int .u64 (ct : Nat))) ∧ (a.cell? ⟨X.heap.size + 1 + 1, 0, none⟩ = some (.int .u32 (u0 : Nat)) ∧ a.cell? ⟨X.heap.size + 1 + 1, 1, none⟩ = some (.int .u32 (u1 : Nat)) ∧ a.cell? ⟨X.heap.size + 1 + 1, 2, none⟩ = some (.int .u32 (u2 : Nat)) ∧ a.cell? ⟨X.heap.size + 1 + 1, 3, none⟩ = some (.int .u32 (u3 : Nat)) ∧ a.cell? ⟨X.heap.size + 1 + 1, 4, none⟩ = some (.int .u32 (u4 : Nat)) ∧ a.cell? ⟨X.heap.size + 1 + 1, 5, none⟩ = some (.int .u32 (u5 : Nat)) ∧ a.cell? ⟨X.heap.size + 1 + 1, 6, none⟩ = some (.int .u32 (u6 : Nat)) ∧ a.cell? ⟨X.heap.size + 1 + 1, 7, none⟩ = some (.int .u64 (u7 : Nat))) ∧ a.cell? ⟨w.heap.size + 1 + 1, i, none⟩ = some (.int .i64 ri) ∧ a.cell? ⟨w.heap.size + 1 + 1, k, none⟩ = some (.int .i64 rk) ∧ a.cell? ⟨w.heap.size + 1 + 1 + 1, i, none⟩ = some (.int .u32 hi) ∧ Below w.heap.size w a) → ((b.cell? ⟨W.heap.size, 0, none⟩ = some (.int .u32 (st : Nat)) ∧ b.cell? ⟨W.heap.size, 1, none⟩ = some (.int .u32 (en : Nat)) ∧ b.cell? ⟨W.heap.size, 2, none⟩ = some (.int .u32 (ve : Nat)) ∧ b.cell? ⟨W.heap.size, 3, none⟩ = some (.int .u32 (sc : Nat)) ∧ b.cell? ⟨W.heap.size, 4, none⟩ = some (.int .u32 (ep : Nat)) ∧ b.cell? ⟨W.heap.size, 5, none⟩ = some (.int .u32 (ca : Nat)) ∧ b.cell? ⟨W.heap.size, 6, none⟩ = some (.int .u32 (va : Nat)) ∧ b.cell? ⟨W.heap.size, 7, none⟩ = some (.int .u64 (ct : Nat))) ∧ (b.cell? ⟨X.heap.size + 1 + 1, 0, none⟩ = some (.int .u32 (u0 : Nat)) ∧ b.cell? ⟨X.heap.size + 1 + 1, 1, none⟩ = some (.int .u32 (u1 : Nat)) ∧ b.cell? ⟨X.heap.size + 1 + 1, 2, none⟩ = some (.int .u32 (u2 : Nat)) ∧ b.cell? ⟨X.heap.size + 1 + 1, 3, none⟩ = some (.int .u32 (u3 : Nat)) ∧ b.cell? ⟨X.heap.size + 1 + 1, 4, none⟩ = some (.int .u32 (u4 : Nat)) ∧ b.cell? ⟨X.heap.size + 1 + 1, 5, none⟩ = some (.int .u32 (u5 : Nat)) ∧ b.cell? ⟨X.heap.size + 1 + 1, 6, none⟩ = some (.int .u32 (u6 : Nat)) ∧ b.cell? ⟨X.heap.size + 1 + 1, 7, none⟩ = some (.int .u64 (u7 : Nat))) ∧ b.cell? ⟨w.heap.size + 1 + 1, i, none⟩ = some (.int .i64 ri) ∧ b.cell? ⟨w.heap.size + 1 + 1, k, none⟩ = some (.int .i64 rk) ∧ b.cell? ⟨w.heap.size + 1 + 1 + 1, i, none⟩ = some (.int .u32 hi) ∧ Below w.heap.size w b)) := fun a b hb ⟨⟨c0, c1, c2, c3, c4, c5, c6, c7⟩, ⟨d0, d1, d2, d3, d4, d5, d6, d7⟩, g1, g2, g3, hBe⟩ => ⟨⟨cell_bl hb c0, cell_bl hb c1, cell_bl hb c2, cell_bl hb c3, cell_bl hb c4, cell_bl hb c5, cell_bl hb c6, cell_bl hb c7⟩, ⟨cell_bl hb d0, cell_bl hb d1, cell_bl hb d2, cell_bl hb d3, cell_bl hb d4, cell_bl hb d5, cell_bl hb d6, cell_bl hb d7⟩, cell_bl hb g1, cell_bl hb g2, cell_bl hb g3, below_bl rfl hBe hb⟩
    have hBed := hBe.drew
    go_wp2_with (fail)
    go_region_held3 (fun w' => (w'.cell? ⟨W.heap.size, 0, none⟩ = some (.int .u32 (st : Nat)) ∧ w'.cell? ⟨W.heap.size, 1, none⟩ = some (.int .u32 (en : Nat)) ∧ w'.cell? ⟨W.heap.size, 2, none⟩ = some (.int .u32 (ve : Nat)) ∧ w'.cell? ⟨W.heap.size, 3, none⟩ = some (.int .u32 (sc : Nat)) ∧ w'.cell? ⟨W.heap.size, 4, none⟩ = some (.int .u32 (ep : Nat)) ∧ w'.cell? ⟨W.heap.size, 5, none⟩ = some (.int .u32 (ca : Nat)) ∧ w'.cell? ⟨W.heap.size, 6, none⟩ = some (.int .u32 (va : Nat)) ∧ w'.cell? ⟨W.heap.size, 7, none⟩ = some (.int .u64 (ct : Nat))) ∧ (w'.cell? ⟨X.heap.size + 1 + 1, 0, none⟩ = some (.int .u32 (u0 : Nat)) ∧ w'.cell? ⟨X.heap.size + 1 + 1, 1, none⟩ = some (.int .u32 (u1 : Nat)) ∧ w'.cell? ⟨X.heap.size + 1 + 1, 2, none⟩ = some (.int .u32 (u2 : Nat)) ∧ w'.cell? ⟨X.heap.size + 1 + 1, 3, none⟩ = some (.int .u32 (u3 : Nat)) ∧ w'.cell? ⟨X.heap.size + 1 + 1, 4, none⟩ = some (.int .u32 (u4 : Nat)) ∧ w'.cell? ⟨X.heap.size + 1 + 1, 5, none⟩ = some (.int .u32 (u5 : Nat)) ∧ w'.cell? ⟨X.heap.size + 1 + 1, 6, none⟩ = some (.int .u32 (u6 : Nat)) ∧ w'.cell? ⟨X.heap.size + 1 + 1, 7, none⟩ = some (.int .u64 (u7 : Nat))) ∧ w'.cell? ⟨w.heap.size + 1 + 1, i, none⟩ = some (.int .i64 ri) ∧ w'.cell? ⟨w.heap.size + 1 + 1, k, none⟩ = some (.int .i64 rk) ∧ w'.cell? ⟨w.heap.size + 1 + 1 + 1, i, none⟩ = some (.int .u32 hi) ∧ Below w.heap.size w w') (go_keep)
      (first | (go_at_call 9; refine (Calls.kept (S := fun v => (v.cell? ⟨W.heap.size, 0, none⟩ = some (.int .u32 (st : Nat)) ∧ v.cell? ⟨W.heap.size, 1, none⟩ = some (.int .u32 (en : Nat)) ∧ v.cell? ⟨W.heap.size, 2, none⟩ = some (.int .u32 (ve : Nat)) ∧ v.cell? ⟨W.heap.size, 3, none⟩ = some (.int .u32 (sc : Nat)) ∧ v.cell? ⟨W.heap.size, 4, none⟩ = some (.int .u32 (ep : Nat)) ∧ v.cell? ⟨W.heap.size, 5, none⟩ = some (.int .u32 (ca : Nat)) ∧ v.cell? ⟨W.heap.size, 6, none⟩ = some (.int .u32 (va : Nat)) ∧ v.cell? ⟨W.heap.size, 7, none⟩ = some (.int .u64 (ct : Nat))) ∧ (v.cell? ⟨X.heap.size + 1 + 1, 0, none⟩ = some (.int .u32 (u0 : Nat)) ∧ v.cell? ⟨X.heap.size + 1 + 1, 1, none⟩ = some (.int .u32 (u1 : Nat)) ∧ v.cell? ⟨X.heap.size + 1 + 1, 2, none⟩ = some (.int .u32 (u2 : Nat)) ∧ v.cell? ⟨X.heap.size + 1 + 1, 3, none⟩ = some (.int .u32 (u3 : Nat)) ∧ v.cell? ⟨X.heap.size + 1 + 1, 4, none⟩ = some (.int .u32 (u4 : Nat)) ∧ v.cell? ⟨X.heap.size + 1 + 1, 5, none⟩ = some (.int .u32 (u5 : Nat)) ∧ v.cell? ⟨X.heap.size + 1 + 1, 6, none⟩ = some (.int .u32 (u6 : Nat)) ∧ v.cell? ⟨X.heap.size + 1 + 1, 7, none⟩ = some (.int .u64 (u7 : Nat))) ∧ v.cell? ⟨w.heap.size + 1 + 1, i, none⟩ = some (.int .i64 ri) ∧ v.cell? ⟨w.heap.size + 1 + 1, k, none⟩ = some (.int .i64 rk) ∧ v.cell? ⟨w.heap.size + 1 + 1 + 1, i, none⟩ = some (.int .u32 hi) ∧ Below w.heap.size w v) HK.out ?_ (H1.out _)).mono ?_; (simp [*]); rintro e w6 ⟨rfl, ⟨c0, c1, c2, c3, c4, c5, c6, c7⟩, ⟨d0, d1, d2, d3, d4, d5, d6, d7⟩, g1, g2, g3, hBe⟩))
    go_wp2_with (fail)
    have hBed := hBe.drew
    go_region_held3 (fun w' => (w'.cell? ⟨W.heap.size, 0, none⟩ = some (.int .u32 (st : Nat)) ∧ w'.cell? ⟨W.heap.size, 1, none⟩ = some (.int .u32 (en : Nat)) ∧ w'.cell? ⟨W.heap.size, 2, none⟩ = some (.int .u32 (ve : Nat)) ∧ w'.cell? ⟨W.heap.size, 3, none⟩ = some (.int .u32 (sc : Nat)) ∧ w'.cell? ⟨W.heap.size, 4, none⟩ = some (.int .u32 (ep : Nat)) ∧ w'.cell? ⟨W.heap.size, 5, none⟩ = some (.int .u32 (ca : Nat)) ∧ w'.cell? ⟨W.heap.size, 6, none⟩ = some (.int .u32 (va : Nat)) ∧ w'.cell? ⟨W.heap.size, 7, none⟩ = some (.int .u64 (ct : Nat))) ∧ (w'.cell? ⟨X.heap.size + 1 + 1, 0, none⟩ = some (.int .u32 (u0 : Nat)) ∧ w'.cell? ⟨X.heap.size + 1 + 1, 1, none⟩ = some (.int .u32 (u1 : Nat)) ∧ w'.cell? ⟨X.heap.size + 1 + 1, 2, none⟩ = some (.int .u32 (u2 : Nat)) ∧ w'.cell? ⟨X.heap.size + 1 + 1, 3, none⟩ = some (.int .u32 (u3 : Nat)) ∧ w'.cell? ⟨X.heap.size + 1 + 1, 4, none⟩ = some (.int .u32 (u4 : Nat)) ∧ w'.cell? ⟨X.heap.size + 1 + 1, 5, none⟩ = some (.int .u32 (u5 : Nat)) ∧ w'.cell? ⟨X.heap.size + 1 + 1, 6, none⟩ = some (.int .u32 (u6 : Nat)) ∧ w'.cell? ⟨X.heap.size + 1 + 1, 7, none⟩ = some (.int .u64 (u7 : Nat))) ∧ w'.cell? ⟨w.heap.size + 1 + 1, i, none⟩ = some (.int .i64 ri) ∧ w'.cell? ⟨w.heap.size + 1 + 1, k, none⟩ = some (.int .i64 rk) ∧ w'.cell? ⟨w.heap.size + 1 + 1 + 1, i, none⟩ = some (.int .u32 hi) ∧ Below w.heap.size w w') (go_keep)
      (first | (go_at_call 9; refine (Calls.kept (S := fun v => (v.cell? ⟨W.heap.size, 0, none⟩ = some (.int .u32 (st : Nat)) ∧ v.cell? ⟨W.heap.size, 1, none⟩ = some (.int .u32 (en : Nat)) ∧ v.cell? ⟨W.heap.size, 2, none⟩ = some (.int .u32 (ve : Nat)) ∧ v.cell? ⟨W.heap.size, 3, none⟩ = some (.int .u32 (sc : Nat)) ∧ v.cell? ⟨W.heap.size, 4, none⟩ = some (.int .u32 (ep : Nat)) ∧ v.cell? ⟨W.heap.size, 5, none⟩ = some (.int .u32 (ca : Nat)) ∧ v.cell? ⟨W.heap.size, 6, none⟩ = some (.int .u32 (va : Nat)) ∧ v.cell? ⟨W.heap.size, 7, none⟩ = some (.int .u64 (ct : Nat))) ∧ (v.cell? ⟨X.heap.size + 1 + 1, 0, none⟩ = some (.int .u32 (u0 : Nat)) ∧ v.cell? ⟨X.heap.size + 1 + 1, 1, none⟩ = some (.int .u32 (u1 : Nat)) ∧ v.cell? ⟨X.heap.size + 1 + 1, 2, none⟩ = some (.int .u32 (u2 : Nat)) ∧ v.cell? ⟨X.heap.size + 1 + 1, 3, none⟩ = some (.int .u32 (u3 : Nat)) ∧ v.cell? ⟨X.heap.size + 1 + 1, 4, none⟩ = some (.int .u32 (u4 : Nat)) ∧ v.cell? ⟨X.heap.size + 1 + 1, 5, none⟩ = some (.int .u32 (u5 : Nat)) ∧ v.cell? ⟨X.heap.size + 1 + 1, 6, none⟩ = some (.int .u32 (u6 : Nat)) ∧ v.cell? ⟨X.heap.size + 1 + 1, 7, none⟩ = some (.int .u64 (u7 : Nat))) ∧ v.cell? ⟨w.heap.size + 1 + 1, i, none⟩ = some (.int .i64 ri) ∧ v.cell? ⟨w.heap.size + 1 + 1, k, none⟩ = some (.int .i64 rk) ∧ v.cell? ⟨w.heap.size + 1 + 1 + 1, i, none⟩ = some (.int .u32 hi) ∧ Below w.heap.size w v) HK.out ?_ (H2.out _)).mono ?_; (simp [*]); rintro e w7 ⟨rfl, ⟨c0, c1, c2, c3, c4, c5, c6, c7⟩, ⟨d0, d1, d2, d3, d4, d5, d6, d7⟩, g1, g2, g3, hBe⟩))
    go_wp2_with (fail)
    have hBed := hBe.drew
    go_region_held3 (fun w' => (w'.cell? ⟨W.heap.size, 0, none⟩ = some (.int .u32 (st : Nat)) ∧ w'.cell? ⟨W.heap.size, 1, none⟩ = some (.int .u32 (en : Nat)) ∧ w'.cell? ⟨W.heap.size, 2, none⟩ = some (.int .u32 (ve : Nat)) ∧ w'.cell? ⟨W.heap.size, 3, none⟩ = some (.int .u32 (sc : Nat)) ∧ w'.cell? ⟨W.heap.size, 4, none⟩ = some (.int .u32 (ep : Nat)) ∧ w'.cell? ⟨W.heap.size, 5, none⟩ = some (.int .u32 (ca : Nat)) ∧ w'.cell? ⟨W.heap.size, 6, none⟩ = some (.int .u32 (va : Nat)) ∧ w'.cell? ⟨W.heap.size, 7, none⟩ = some (.int .u64 (ct : Nat))) ∧ (w'.cell? ⟨X.heap.size + 1 + 1, 0, none⟩ = some (.int .u32 (u0 : Nat)) ∧ w'.cell? ⟨X.heap.size + 1 + 1, 1, none⟩ = some (.int .u32 (u1 : Nat)) ∧ w'.cell? ⟨X.heap.size + 1 + 1, 2, none⟩ = some (.int .u32 (u2 : Nat)) ∧ w'.cell? ⟨X.heap.size + 1 + 1, 3, none⟩ = some (.int .u32 (u3 : Nat)) ∧ w'.cell? ⟨X.heap.size + 1 + 1, 4, none⟩ = some (.int .u32 (u4 : Nat)) ∧ w'.cell? ⟨X.heap.size + 1 + 1, 5, none⟩ = some (.int .u32 (u5 : Nat)) ∧ w'.cell? ⟨X.heap.size + 1 + 1, 6, none⟩ = some (.int .u32 (u6 : Nat)) ∧ w'.cell? ⟨X.heap.size + 1 + 1, 7, none⟩ = some (.int .u64 (u7 : Nat))) ∧ w'.cell? ⟨w.heap.size + 1 + 1, i, none⟩ = some (.int .i64 ri) ∧ w'.cell? ⟨w.heap.size + 1 + 1, k, none⟩ = some (.int .i64 rk) ∧ w'.cell? ⟨w.heap.size + 1 + 1 + 1, i, none⟩ = some (.int .u32 hi) ∧ Below w.heap.size w w') (go_keep)
      (first | (go_at_call 9; refine (Calls.kept (S := fun v => (v.cell? ⟨W.heap.size, 0, none⟩ = some (.int .u32 (st : Nat)) ∧ v.cell? ⟨W.heap.size, 1, none⟩ = some (.int .u32 (en : Nat)) ∧ v.cell? ⟨W.heap.size, 2, none⟩ = some (.int .u32 (ve : Nat)) ∧ v.cell? ⟨W.heap.size, 3, none⟩ = some (.int .u32 (sc : Nat)) ∧ v.cell? ⟨W.heap.size, 4, none⟩ = some (.int .u32 (ep : Nat)) ∧ v.cell? ⟨W.heap.size, 5, none⟩ = some (.int .u32 (ca : Nat)) ∧ v.cell? ⟨W.heap.size, 6, none⟩ = some (.int .u32 (va : Nat)) ∧ v.cell? ⟨W.heap.size, 7, none⟩ = some (.int .u64 (ct : Nat))) ∧ (v.cell? ⟨X.heap.size + 1 + 1, 0, none⟩ = some (.int .u32 (u0 : Nat)) ∧ v.cell? ⟨X.heap.size + 1 + 1, 1, none⟩ = some (.int .u32 (u1 : Nat)) ∧ v.cell? ⟨X.heap.size + 1 + 1, 2, none⟩ = some (.int .u32 (u2 : Nat)) ∧ v.cell? ⟨X.heap.size + 1 + 1, 3, none⟩ = some (.int .u32 (u3 : Nat)) ∧ v.cell? ⟨X.heap.size + 1 + 1, 4, none⟩ = some (.int .u32 (u4 : Nat)) ∧ v.cell? ⟨X.heap.size + 1 + 1, 5, none⟩ = some (.int .u32 (u5 : Nat)) ∧ v.cell? ⟨X.heap.size + 1 + 1, 6, none⟩ = some (.int .u32 (u6 : Nat)) ∧ v.cell? ⟨X.heap.size + 1 + 1, 7, none⟩ = some (.int .u64 (u7 : Nat))) ∧ v.cell? ⟨w.heap.size + 1 + 1, i, none⟩ = some (.int .i64 ri) ∧ v.cell? ⟨w.heap.size + 1 + 1, k, none⟩ = some (.int .i64 rk) ∧ v.cell? ⟨w.heap.size + 1 + 1 + 1, i, none⟩ = some (.int .u32 hi) ∧ Below w.heap.size w v) HK.out ?_ (H3.out _)).mono ?_; (simp [*]); rintro e w8 ⟨rfl, ⟨c0, c1, c2, c3, c4, c5, c6, c7⟩, ⟨d0, d1, d2, d3, d4, d5, d6, d7⟩, g1, g2, g3, hBe⟩))
    have hei := ei.out
    have hek := ek.out
    cases zb
    · have e1 := EF.out rfl
      cases qb
      · have e2 := EQ.out rfl
        go_wp2_with (first | (go_at_call 7; refine (HS.out _).mono ?_; rintro e w9 ⟨rfl, hb9⟩))
        go_ret
        exact ⟨rfl, below_bl rfl hBe hb9⟩
      · skip
        go_wp2_with (first | (go_at_call 7; refine (HS.out _).mono ?_; rintro e w9 ⟨rfl, hb9⟩))
        go_ret
        exact ⟨rfl, below_bl rfl hBe hb9⟩
    · have e1 := ET.out rfl
      cases qb
      · have e2 := EQ.out rfl
        go_wp2_with (first | (go_at_call 7; refine (HS.out _).mono ?_; rintro e w9 ⟨rfl, hb9⟩))
        go_ret
        exact ⟨rfl, below_bl rfl hBe hb9⟩
      · skip
        go_wp2_with (first | (go_at_call 7; refine (HS.out _).mono ?_; rintro e w9 ⟨rfl, hb9⟩))
        go_ret
        exact ⟨rfl, below_bl rfl hBe hb9⟩
  · obtain ⟨Y, hY⟩ : ∃ Y, (((X.alloc (.cells #[.int .u32 u0, .int .u32 u1, .int .u32 u2, .int .u32 u3, .int .u32 u4, .int .u32 u5, .int .u32 u6, .int .u64 u7] 27)).alloc o1).alloc o2).drew = Y := ⟨_, rfl⟩
    have hRY : RowAt Y W.heap.size #[.int .u32 st, .int .u32 en, .int .u32 ve, .int .u32 sc, .int .u32 ep, .int .u32 ca, .int .u32 va, .int .u64 ct] 27 := hY ▸ (((HRX.out.al _).al _).al _).dr
    have hUY : RowAt Y (X.heap.size) #[.int .u32 u0, .int .u32 u1, .int .u32 u2, .int .u32 u3, .int .u32 u4, .int .u32 u5, .int .u32 u6, .int .u64 u7] 27 := hY ▸ (((RowAt.new _ _ _ _ rfl).al _).al _).dr
    have y1 : Y.cell? ⟨w.heap.size + 1 + 1, i, none⟩ = some (.int .i64 ri) := hY ▸ cellD (cellA (cellA (cellA g1 _) _) _)
    have y2 : Y.cell? ⟨w.heap.size + 1 + 1, k, none⟩ = some (.int .i64 rk) := hY ▸ cellD (cellA (cellA (cellA g2 _) _) _)
    have y3 : Y.cell? ⟨w.heap.size + 1 + 1 + 1, i, none⟩ = some (.int .u32 hi) := hY ▸ cellD (cellA (cellA (cellA g3 _) _) _)
    have yB : Below w.heap.size w Y := by
      rw [← hY]
      have h1 := HBe.out
      have h2 := h1.size
      exact (((h1.alloc h2 _).alloc (by simp; omega) _).alloc (by simp; omega) _).drew
    rw [hY]
    clear hY HBe HRX g1 g2 g3 c0 c1 c2 c3 c4 c5 c6 c7
    have g1 := y1
    have g2 := y2
    have g3 := y3
    have hBe := yB
    clear y1 y2 y3 yB
    have c0 : Y.cell? ⟨W.heap.size, 0, none⟩ = some (.int .u32 (st : Nat)) := hRY.cell 0
    have c1 : Y.cell? ⟨W.heap.size, 1, none⟩ = some (.int .u32 (en : Nat)) := hRY.cell 1
    have c2 : Y.cell? ⟨W.heap.size, 2, none⟩ = some (.int .u32 (ve : Nat)) := hRY.cell 2
    have c3 : Y.cell? ⟨W.heap.size, 3, none⟩ = some (.int .u32 (sc : Nat)) := hRY.cell 3
    have c4 : Y.cell? ⟨W.heap.size, 4, none⟩ = some (.int .u32 (ep : Nat)) := hRY.cell 4
    have c5 : Y.cell? ⟨W.heap.size, 5, none⟩ = some (.int .u32 (ca : Nat)) := hRY.cell 5
    have c6 : Y.cell? ⟨W.heap.size, 6, none⟩ = some (.int .u32 (va : Nat)) := hRY.cell 6
    have c7 : Y.cell? ⟨W.heap.size, 7, none⟩ = some (.int .u64 (ct : Nat)) := hRY.cell 7
    have d0 : Y.cell? ⟨X.heap.size, 0, none⟩ = some (.int .u32 (u0 : Nat)) := hUY.cell 0
    have d1 : Y.cell? ⟨X.heap.size, 1, none⟩ = some (.int .u32 (u1 : Nat)) := hUY.cell 1
    have d2 : Y.cell? ⟨X.heap.size, 2, none⟩ = some (.int .u32 (u2 : Nat)) := hUY.cell 2
    have d3 : Y.cell? ⟨X.heap.size, 3, none⟩ = some (.int .u32 (u3 : Nat)) := hUY.cell 3
    have d4 : Y.cell? ⟨X.heap.size, 4, none⟩ = some (.int .u32 (u4 : Nat)) := hUY.cell 4
    have d5 : Y.cell? ⟨X.heap.size, 5, none⟩ = some (.int .u32 (u5 : Nat)) := hUY.cell 5
    have d6 : Y.cell? ⟨X.heap.size, 6, none⟩ = some (.int .u32 (u6 : Nat)) := hUY.cell 6
    have d7 : Y.cell? ⟨X.heap.size, 7, none⟩ = some (.int .u64 (u7 : Nat)) := hUY.cell 7
    clear hRY hUY
    have HK : Hid (∀ a b, Below a.heap.size a b → ((a.cell? ⟨W.heap.size, 0, none⟩ = some (.int .u32 (st : Nat)) ∧ a.cell? ⟨W.heap.size, 1, none⟩ = some (.int .u32 (en : Nat)) ∧ a.cell? ⟨W.heap.size, 2, none⟩ = some (.int .u32 (ve : Nat)) ∧ a.cell? ⟨W.heap.size, 3, none⟩ = some (.int .u32 (sc : Nat)) ∧ a.cell? ⟨W.heap.size, 4, none⟩ = some (.int .u32 (ep : Nat)) ∧ a.cell? ⟨W.heap.size, 5, none⟩ = some (.int .u32 (ca : Nat)) ∧ a.cell? ⟨W.heap.size, 6, none⟩ = some (.int .u32 (va : Nat)) ∧ a.cell? ⟨W.heap.size, 7, none⟩ = some (.int .u64 (ct : Nat))) ∧ (a.cell? ⟨X.heap.size, 0, none⟩ = some (.int .u32 (u0 : Nat)) ∧ a.cell? ⟨X.heap.size, 1, none⟩ = some (.int .u32 (u1 : Nat)) ∧ a.cell? ⟨X.heap.size, 2, none⟩ = some (.int .u32 (u2 : Nat)) ∧ a.cell? ⟨X.heap.size, 3, none⟩ = some (.int .u32 (u3 : Nat)) ∧ a.cell? ⟨X.heap.size, 4, none⟩ = some (.int .u32 (u4 : Nat)) ∧ a.cell? ⟨X.heap.size, 5, none⟩ = some (.int .u32 (u5 : Nat)) ∧ a.cell? ⟨X.heap.size, 6, none⟩ = some (.int .u32 (u6 : Nat)) ∧ a.cell? ⟨X.heap.size, 7, none⟩ = some (.int .u64 (u7 : Nat))) ∧ a.cell? ⟨w.heap.size + 1 + 1, i, none⟩ = some (.int .i64 ri) ∧ a.cell? ⟨w.heap.size + 1 + 1, k, none⟩ = some (.int .i64 rk) ∧ a.cell? ⟨w.heap.size + 1 + 1 + 1, i, none⟩ = some (.int .u32 hi) ∧ Below w.heap.size w a) → ((b.cell? ⟨W.heap.size, 0, none⟩ = some (.int .u32 (st : Nat)) ∧ b.cell? ⟨W.heap.size, 1, none⟩ = some (.int .u32 (en : Nat)) ∧ b.cell? ⟨W.heap.size, 2, none⟩ = some (.int .u32 (ve : Nat)) ∧ b.cell? ⟨W.heap.size, 3, none⟩ = some (.int .u32 (sc : Nat)) ∧ b.cell? ⟨W.heap.size, 4, none⟩ = some (.int .u32 (ep : Nat)) ∧ b.cell? ⟨W.heap.size, 5, none⟩ = some (.int .u32 (ca : Nat)) ∧ b.cell? ⟨W.heap.size, 6, none⟩ = some (.int .u32 (va : Nat)) ∧ b.cell? ⟨W.heap.size, 7, none⟩ = some (.int .u64 (ct : Nat))) ∧ (b.cell? ⟨X.heap.size, 0, none⟩ = some (.int .u32 (u0 : Nat)) ∧ b.cell? ⟨X.heap.size, 1, none⟩ = some (.int .u32 (u1 : Nat)) ∧ b.cell? ⟨X.heap.size, 2, none⟩ = some (.int .u32 (u2 : Nat)) ∧ b.cell? ⟨X.heap.size, 3, none⟩ = some (.int .u32 (u3 : Nat)) ∧ b.cell? ⟨X.heap.size, 4, none⟩ = some (.int .u32 (u4 : Nat)) ∧ b.cell? ⟨X.heap.size, 5, none⟩ = some (.int .u32 (u5 : Nat)) ∧ b.cell? ⟨X.heap.size, 6, none⟩ = some (.int .u32 (u6 : Nat)) ∧ b.cell? ⟨X.heap.size, 7, none⟩ = some (.int .u64 (u7 : Nat))) ∧ b.cell? ⟨w.heap.size + 1 + 1, i, none⟩ = some (.int .i64 ri) ∧ b.cell? ⟨w.heap.size + 1 + 1, k, none⟩ = some (.int .i64 rk) ∧ b.cell? ⟨w.heap.size + 1 + 1 + 1, i, none⟩ = some (.int .u32 hi) ∧ Below w.heap.size w b)) := fun a b hb ⟨⟨c0, c1, c2, c3, c4, c5, c6, c7⟩, ⟨d0, d1, d2, d3, d4, d5, d6, d7⟩, g1, g2, g3, hBe⟩ => ⟨⟨cell_bl hb c0, cell_bl hb c1, cell_bl hb c2, cell_bl hb c3, cell_bl hb c4, cell_bl hb c5, cell_bl hb c6, cell_bl hb c7⟩, ⟨cell_bl hb d0, cell_bl hb d1, cell_bl hb d2, cell_bl hb d3, cell_bl hb d4, cell_bl hb d5, cell_bl hb d6, cell_bl hb d7⟩, cell_bl hb g1, cell_bl hb g2, cell_bl hb g3, below_bl rfl hBe hb⟩
    have hBed := hBe.drew
    go_wp2_with (fail)
    go_region_held3 (fun w' => (w'.cell? ⟨W.heap.size, 0, none⟩ = some (.int .u32 (st : Nat)) ∧ w'.cell? ⟨W.heap.size, 1, none⟩ = some (.int .u32 (en : Nat)) ∧ w'.cell? ⟨W.heap.size, 2, none⟩ = some (.int .u32 (ve : Nat)) ∧ w'.cell? ⟨W.heap.size, 3, none⟩ = some (.int .u32 (sc : Nat)) ∧ w'.cell? ⟨W.heap.size, 4, none⟩ = some (.int .u32 (ep : Nat)) ∧ w'.cell? ⟨W.heap.size, 5, none⟩ = some (.int .u32 (ca : Nat)) ∧ w'.cell? ⟨W.heap.size, 6, none⟩ = some (.int .u32 (va : Nat)) ∧ w'.cell? ⟨W.heap.size, 7, none⟩ = some (.int .u64 (ct : Nat))) ∧ (w'.cell? ⟨X.heap.size, 0, none⟩ = some (.int .u32 (u0 : Nat)) ∧ w'.cell? ⟨X.heap.size, 1, none⟩ = some (.int .u32 (u1 : Nat)) ∧ w'.cell? ⟨X.heap.size, 2, none⟩ = some (.int .u32 (u2 : Nat)) ∧ w'.cell? ⟨X.heap.size, 3, none⟩ = some (.int .u32 (u3 : Nat)) ∧ w'.cell? ⟨X.heap.size, 4, none⟩ = some (.int .u32 (u4 : Nat)) ∧ w'.cell? ⟨X.heap.size, 5, none⟩ = some (.int .u32 (u5 : Nat)) ∧ w'.cell? ⟨X.heap.size, 6, none⟩ = some (.int .u32 (u6 : Nat)) ∧ w'.cell? ⟨X.heap.size, 7, none⟩ = some (.int .u64 (u7 : Nat))) ∧ w'.cell? ⟨w.heap.size + 1 + 1, i, none⟩ = some (.int .i64 ri) ∧ w'.cell? ⟨w.heap.size + 1 + 1, k, none⟩ = some (.int .i64 rk) ∧ w'.cell? ⟨w.heap.size + 1 + 1 + 1, i, none⟩ = some (.int .u32 hi) ∧ Below w.heap.size w w') (go_keep)
      (first | (go_at_call 9; refine (Calls.kept (S := fun v => (v.cell? ⟨W.heap.size, 0, none⟩ = some (.int .u32 (st : Nat)) ∧ v.cell? ⟨W.heap.size, 1, none⟩ = some (.int .u32 (en : Nat)) ∧ v.cell? ⟨W.heap.size, 2, none⟩ = some (.int .u32 (ve : Nat)) ∧ v.cell? ⟨W.heap.size, 3, none⟩ = some (.int .u32 (sc : Nat)) ∧ v.cell? ⟨W.heap.size, 4, none⟩ = some (.int .u32 (ep : Nat)) ∧ v.cell? ⟨W.heap.size, 5, none⟩ = some (.int .u32 (ca : Nat)) ∧ v.cell? ⟨W.heap.size, 6, none⟩ = some (.int .u32 (va : Nat)) ∧ v.cell? ⟨W.heap.size, 7, none⟩ = some (.int .u64 (ct : Nat))) ∧ (v.cell? ⟨X.heap.size, 0, none⟩ = some (.int .u32 (u0 : Nat)) ∧ v.cell? ⟨X.heap.size, 1, none⟩ = some (.int .u32 (u1 : Nat)) ∧ v.cell? ⟨X.heap.size, 2, none⟩ = some (.int .u32 (u2 : Nat)) ∧ v.cell? ⟨X.heap.size, 3, none⟩ = some (.int .u32 (u3 : Nat)) ∧ v.cell? ⟨X.heap.size, 4, none⟩ = some (.int .u32 (u4 : Nat)) ∧ v.cell? ⟨X.heap.size, 5, none⟩ = some (.int .u32 (u5 : Nat)) ∧ v.cell? ⟨X.heap.size, 6, none⟩ = some (.int .u32 (u6 : Nat)) ∧ v.cell? ⟨X.heap.size, 7, none⟩ = some (.int .u64 (u7 : Nat))) ∧ v.cell? ⟨w.heap.size + 1 + 1, i, none⟩ = some (.int .i64 ri) ∧ v.cell? ⟨w.heap.size + 1 + 1, k, none⟩ = some (.int .i64 rk) ∧ v.cell? ⟨w.heap.size + 1 + 1 + 1, i, none⟩ = some (.int .u32 hi) ∧ Below w.heap.size w v) HK.out ?_ (H1.out _)).mono ?_; (simp [*]); rintro e w6 ⟨rfl, ⟨c0, c1, c2, c3, c4, c5, c6, c7⟩, ⟨d0, d1, d2, d3, d4, d5, d6, d7⟩, g1, g2, g3, hBe⟩))
    go_wp2_with (fail)
    have hBed := hBe.drew
    go_region_held3 (fun w' => (w'.cell? ⟨W.heap.size, 0, none⟩ = some (.int .u32 (st : Nat)) ∧ w'.cell? ⟨W.heap.size, 1, none⟩ = some (.int .u32 (en : Nat)) ∧ w'.cell? ⟨W.heap.size, 2, none⟩ = some (.int .u32 (ve : Nat)) ∧ w'.cell? ⟨W.heap.size, 3, none⟩ = some (.int .u32 (sc : Nat)) ∧ w'.cell? ⟨W.heap.size, 4, none⟩ = some (.int .u32 (ep : Nat)) ∧ w'.cell? ⟨W.heap.size, 5, none⟩ = some (.int .u32 (ca : Nat)) ∧ w'.cell? ⟨W.heap.size, 6, none⟩ = some (.int .u32 (va : Nat)) ∧ w'.cell? ⟨W.heap.size, 7, none⟩ = some (.int .u64 (ct : Nat))) ∧ (w'.cell? ⟨X.heap.size, 0, none⟩ = some (.int .u32 (u0 : Nat)) ∧ w'.cell? ⟨X.heap.size, 1, none⟩ = some (.int .u32 (u1 : Nat)) ∧ w'.cell? ⟨X.heap.size, 2, none⟩ = some (.int .u32 (u2 : Nat)) ∧ w'.cell? ⟨X.heap.size, 3, none⟩ = some (.int .u32 (u3 : Nat)) ∧ w'.cell? ⟨X.heap.size, 4, none⟩ = some (.int .u32 (u4 : Nat)) ∧ w'.cell? ⟨X.heap.size, 5, none⟩ = some (.int .u32 (u5 : Nat)) ∧ w'.cell? ⟨X.heap.size, 6, none⟩ = some (.int .u32 (u6 : Nat)) ∧ w'.cell? ⟨X.heap.size, 7, none⟩ = some (.int .u64 (u7 : Nat))) ∧ w'.cell? ⟨w.heap.size + 1 + 1, i, none⟩ = some (.int .i64 ri) ∧ w'.cell? ⟨w.heap.size + 1 + 1, k, none⟩ = some (.int .i64 rk) ∧ w'.cell? ⟨w.heap.size + 1 + 1 + 1, i, none⟩ = some (.int .u32 hi) ∧ Below w.heap.size w w') (go_keep)
      (first | (go_at_call 9; refine (Calls.kept (S := fun v => (v.cell? ⟨W.heap.size, 0, none⟩ = some (.int .u32 (st : Nat)) ∧ v.cell? ⟨W.heap.size, 1, none⟩ = some (.int .u32 (en : Nat)) ∧ v.cell? ⟨W.heap.size, 2, none⟩ = some (.int .u32 (ve : Nat)) ∧ v.cell? ⟨W.heap.size, 3, none⟩ = some (.int .u32 (sc : Nat)) ∧ v.cell? ⟨W.heap.size, 4, none⟩ = some (.int .u32 (ep : Nat)) ∧ v.cell? ⟨W.heap.size, 5, none⟩ = some (.int .u32 (ca : Nat)) ∧ v.cell? ⟨W.heap.size, 6, none⟩ = some (.int .u32 (va : Nat)) ∧ v.cell? ⟨W.heap.size, 7, none⟩ = some (.int .u64 (ct : Nat))) ∧ (v.cell? ⟨X.heap.size, 0, none⟩ = some (.int .u32 (u0 : Nat)) ∧ v.cell? ⟨X.heap.size, 1, none⟩ = some (.int .u32 (u1 : Nat)) ∧ v.cell? ⟨X.heap.size, 2, none⟩ = some (.int .u32 (u2 : Nat)) ∧ v.cell? ⟨X.heap.size, 3, none⟩ = some (.int .u32 (u3 : Nat)) ∧ v.cell? ⟨X.heap.size, 4, none⟩ = some (.int .u32 (u4 : Nat)) ∧ v.cell? ⟨X.heap.size, 5, none⟩ = some (.int .u32 (u5 : Nat)) ∧ v.cell? ⟨X.heap.size, 6, none⟩ = some (.int .u32 (u6 : Nat)) ∧ v.cell? ⟨X.heap.size, 7, none⟩ = some (.int .u64 (u7 : Nat))) ∧ v.cell? ⟨w.heap.size + 1 + 1, i, none⟩ = some (.int .i64 ri) ∧ v.cell? ⟨w.heap.size + 1 + 1, k, none⟩ = some (.int .i64 rk) ∧ v.cell? ⟨w.heap.size + 1 + 1 + 1, i, none⟩ = some (.int .u32 hi) ∧ Below w.heap.size w v) HK.out ?_ (H2.out _)).mono ?_; (simp [*]); rintro e w7 ⟨rfl, ⟨c0, c1, c2, c3, c4, c5, c6, c7⟩, ⟨d0, d1, d2, d3, d4, d5, d6, d7⟩, g1, g2, g3, hBe⟩))
    go_wp2_with (fail)
    have hBed := hBe.drew
    go_region_held3 (fun w' => (w'.cell? ⟨W.heap.size, 0, none⟩ = some (.int .u32 (st : Nat)) ∧ w'.cell? ⟨W.heap.size, 1, none⟩ = some (.int .u32 (en : Nat)) ∧ w'.cell? ⟨W.heap.size, 2, none⟩ = some (.int .u32 (ve : Nat)) ∧ w'.cell? ⟨W.heap.size, 3, none⟩ = some (.int .u32 (sc : Nat)) ∧ w'.cell? ⟨W.heap.size, 4, none⟩ = some (.int .u32 (ep : Nat)) ∧ w'.cell? ⟨W.heap.size, 5, none⟩ = some (.int .u32 (ca : Nat)) ∧ w'.cell? ⟨W.heap.size, 6, none⟩ = some (.int .u32 (va : Nat)) ∧ w'.cell? ⟨W.heap.size, 7, none⟩ = some (.int .u64 (ct : Nat))) ∧ (w'.cell? ⟨X.heap.size, 0, none⟩ = some (.int .u32 (u0 : Nat)) ∧ w'.cell? ⟨X.heap.size, 1, none⟩ = some (.int .u32 (u1 : Nat)) ∧ w'.cell? ⟨X.heap.size, 2, none⟩ = some (.int .u32 (u2 : Nat)) ∧ w'.cell? ⟨X.heap.size, 3, none⟩ = some (.int .u32 (u3 : Nat)) ∧ w'.cell? ⟨X.heap.size, 4, none⟩ = some (.int .u32 (u4 : Nat)) ∧ w'.cell? ⟨X.heap.size, 5, none⟩ = some (.int .u32 (u5 : Nat)) ∧ w'.cell? ⟨X.heap.size, 6, none⟩ = some (.int .u32 (u6 : Nat)) ∧ w'.cell? ⟨X.heap.size, 7, none⟩ = some (.int .u64 (u7 : Nat))) ∧ w'.cell? ⟨w.heap.size + 1 + 1, i, none⟩ = some (.int .i64 ri) ∧ w'.cell? ⟨w.heap.size + 1 + 1, k, none⟩ = some (.int .i64 rk) ∧ w'.cell? ⟨w.heap.size + 1 + 1 + 1, i, none⟩ = some (.int .u32 hi) ∧ Below w.heap.size w w') (go_keep)
      (first | (go_at_call 9; refine (Calls.kept (S := fun v => (v.cell? ⟨W.heap.size, 0, none⟩ = some (.int .u32 (st : Nat)) ∧ v.cell? ⟨W.heap.size, 1, none⟩ = some (.int .u32 (en : Nat)) ∧ v.cell? ⟨W.heap.size, 2, none⟩ = some (.int .u32 (ve : Nat)) ∧ v.cell? ⟨W.heap.size, 3, none⟩ = some (.int .u32 (sc : Nat)) ∧ v.cell? ⟨W.heap.size, 4, none⟩ = some (.int .u32 (ep : Nat)) ∧ v.cell? ⟨W.heap.size, 5, none⟩ = some (.int .u32 (ca : Nat)) ∧ v.cell? ⟨W.heap.size, 6, none⟩ = some (.int .u32 (va : Nat)) ∧ v.cell? ⟨W.heap.size, 7, none⟩ = some (.int .u64 (ct : Nat))) ∧ (v.cell? ⟨X.heap.size, 0, none⟩ = some (.int .u32 (u0 : Nat)) ∧ v.cell? ⟨X.heap.size, 1, none⟩ = some (.int .u32 (u1 : Nat)) ∧ v.cell? ⟨X.heap.size, 2, none⟩ = some (.int .u32 (u2 : Nat)) ∧ v.cell? ⟨X.heap.size, 3, none⟩ = some (.int .u32 (u3 : Nat)) ∧ v.cell? ⟨X.heap.size, 4, none⟩ = some (.int .u32 (u4 : Nat)) ∧ v.cell? ⟨X.heap.size, 5, none⟩ = some (.int .u32 (u5 : Nat)) ∧ v.cell? ⟨X.heap.size, 6, none⟩ = some (.int .u32 (u6 : Nat)) ∧ v.cell? ⟨X.heap.size, 7, none⟩ = some (.int .u64 (u7 : Nat))) ∧ v.cell? ⟨w.heap.size + 1 + 1, i, none⟩ = some (.int .i64 ri) ∧ v.cell? ⟨w.heap.size + 1 + 1, k, none⟩ = some (.int .i64 rk) ∧ v.cell? ⟨w.heap.size + 1 + 1 + 1, i, none⟩ = some (.int .u32 hi) ∧ Below w.heap.size w v) HK.out ?_ (H3.out _)).mono ?_; (simp [*]); rintro e w8 ⟨rfl, ⟨c0, c1, c2, c3, c4, c5, c6, c7⟩, ⟨d0, d1, d2, d3, d4, d5, d6, d7⟩, g1, g2, g3, hBe⟩))
    have hei := ei.out
    have hek := ek.out
    cases zb
    · have e1 := EF.out rfl
      cases qb
      · have e2 := EQ.out rfl
        go_wp2_with (first | (go_at_call 7; refine (HS.out _).mono ?_; rintro e w9 ⟨rfl, hb9⟩))
        go_ret
        exact ⟨rfl, below_bl rfl hBe hb9⟩
      · skip
        go_wp2_with (first | (go_at_call 7; refine (HS.out _).mono ?_; rintro e w9 ⟨rfl, hb9⟩))
        go_ret
        exact ⟨rfl, below_bl rfl hBe hb9⟩
    · have e1 := ET.out rfl
      cases qb
      · have e2 := EQ.out rfl
        go_wp2_with (first | (go_at_call 7; refine (HS.out _).mono ?_; rintro e w9 ⟨rfl, hb9⟩))
        go_ret
        exact ⟨rfl, below_bl rfl hBe hb9⟩
      · skip
        go_wp2_with (first | (go_at_call 7; refine (HS.out _).mono ?_; rintro e w9 ⟨rfl, hb9⟩))
        go_ret
        exact ⟨rfl, below_bl rfl hBe hb9⟩
end Go.Proofs.Ytchlomnkjilmeaa
