/-
  CsrReturns, walked.
-/
import Derived.Test.YtchlomnkjilmeaaDoorRCsAsks
import Derived.Test.YtchlomnkjilmeaaDoorRCsRet
import Derived.Test.YtchlomnkjilmeaaDoorCsRet
import Derived.Test.YtchlomnkjilmeaaDoorCsEq
namespace Go.Proofs.YtchlomnkjilmeaaDoor
open Go.RowKit
set_option linter.unusedVariables false

set_option maxHeartbeats 2000000 in
theorem returns_walk (s : S8) (hs : s.Ok) (l : Nat) (hl : l < 4294967296) (w : World) (hO : OrderAt w) :
    Calls Tryd.prog 5 #[.agg s.cells, .int .u32 l] w fun e w' => e = .returned (.bool true) ∧ Below w.heap.size w w' := by
  have HP := hide (return_any s hs)
  have HD := hide (rreturn_any s hs)
  have HA := hide (fun w h => Calls.bel1 (asks_any s hs l hl w h))
  have HR := hide (rasks_any s hs l hl)
  have HS := hide (fun w => Calls.bel3 (sure_any w))
  generalize retN s = u at *
  obtain ⟨st, en, ve, sc, ep, ca, va, ct⟩ := s
  obtain ⟨u0, u1, u2, u3, u4, u5, u6, u7⟩ := u
  simp only [S8.cells] at HA HR HP HD ⊢
  generalize asksN st en l = z at *
  have hE := eql_same u0 u1 u2 u3 u4 u5 u6 u7
  have HO := hide hO
  clear hs hl hO
  go_enter Tryd.func5, Tryd.ntmps5
  go_wp2_with (fail)
  refine (HP.out _).mono ?_
  rintro e w1 ⟨rfl, o1, o2, rfl⟩
  go_wp2_with (fail)
  obtain ⟨W, hW⟩ : ∃ W, ((((w.alloc (.cells #[.int .u32 st, .int .u32 en, .int .u32 ve, .int .u32 sc, .int .u32 ep, .int .u32 ca, .int .u32 va, .int .u64 ct] 25)).alloc o1).alloc o2).alloc (.cells #[.int .u32 u0, .int .u32 u1, .int .u32 u2, .int .u32 u3, .int .u32 u4, .int .u32 u5, .int .u32 u6, .int .u64 u7] 26)).drew = W := ⟨_, rfl⟩
  have hR : RowAt W (w.heap.size) #[.int .u32 st, .int .u32 en, .int .u32 ve, .int .u32 sc, .int .u32 ep, .int .u32 ca, .int .u32 va, .int .u64 ct] 25 := hW ▸ ((((RowAt.new w _ _ _ rfl).al _).al _).al _).dr
  have hX : RowAt W (w.heap.size + 1 + 1 + 1) #[.int .u32 u0, .int .u32 u1, .int .u32 u2, .int .u32 u3, .int .u32 u4, .int .u32 u5, .int .u32 u6, .int .u64 u7] 26 := hW ▸ (RowAt.new _ _ _ _ (by simp)).dr
  have HBe : Hid (Below w.heap.size w W) := by
    rw [← hW]
    refine Below.drew ?_
    repeat (first | exact Below.refl _ _ | refine Below.alloc ?_ (by simp <;> omega) _)
  have HR0 := hide hR
  have HX0 := hide hX
  rw [hW]
  clear hW hR hX
  refine (HD.out _).mono ?_
  rintro e w2 ⟨rfl, hb2⟩
  have hb2' : Below W.heap.size W w2 := hb2
  have HR2 := hide (HR0.out.bl hb2')
  have HX2 := hide (HX0.out.bl hb2')
  have HB2 := hide (below_bl rfl HBe.out hb2')
  clear hb2 hb2' HR0 HX0 HBe
  go_wp2_with (fail)
  obtain ⟨X, hX⟩ : ∃ X, w2.alloc (.cells #[.int .u32 u0, .int .u32 u1, .int .u32 u2, .int .u32 u3, .int .u32 u4, .int .u32 u5, .int .u32 u6, .int .u64 u7] 25) = X := ⟨_, rfl⟩
  have hR : RowAt X (w.heap.size) #[.int .u32 st, .int .u32 en, .int .u32 ve, .int .u32 sc, .int .u32 ep, .int .u32 ca, .int .u32 va, .int .u64 ct] 25 := hX ▸ HR2.out.al _
  have hX1 : RowAt X (w.heap.size + 1 + 1 + 1) #[.int .u32 u0, .int .u32 u1, .int .u32 u2, .int .u32 u3, .int .u32 u4, .int .u32 u5, .int .u32 u6, .int .u64 u7] 26 := hX ▸ HX2.out.al _
  have hX2 : RowAt X w2.heap.size #[.int .u32 u0, .int .u32 u1, .int .u32 u2, .int .u32 u3, .int .u32 u4, .int .u32 u5, .int .u32 u6, .int .u64 u7] 25 := hX ▸ RowAt.new _ _ _ _ rfl
  have hBe : Below w.heap.size w X := hX ▸ HB2.out.alloc HB2.out.size _
  have hOr : OrderAt X := HO.out.below hBe
  rw [hX]
  clear hX HR2 HX2 HB2 HO
  have c0 : X.cell? ⟨w.heap.size, 0, none⟩ = some (.int .u32 (st : Nat)) := hR.cell 0
  have c1 : X.cell? ⟨w.heap.size, 1, none⟩ = some (.int .u32 (en : Nat)) := hR.cell 1
  have c2 : X.cell? ⟨w.heap.size, 2, none⟩ = some (.int .u32 (ve : Nat)) := hR.cell 2
  have c3 : X.cell? ⟨w.heap.size, 3, none⟩ = some (.int .u32 (sc : Nat)) := hR.cell 3
  have c4 : X.cell? ⟨w.heap.size, 4, none⟩ = some (.int .u32 (ep : Nat)) := hR.cell 4
  have c5 : X.cell? ⟨w.heap.size, 5, none⟩ = some (.int .u32 (ca : Nat)) := hR.cell 5
  have c6 : X.cell? ⟨w.heap.size, 6, none⟩ = some (.int .u32 (va : Nat)) := hR.cell 6
  have c7 : X.cell? ⟨w.heap.size, 7, none⟩ = some (.int .u64 (ct : Nat)) := hR.cell 7
  have d0 : X.cell? ⟨w.heap.size + 1 + 1 + 1, 0, none⟩ = some (.int .u32 (u0 : Nat)) := hX1.cell 0
  have d1 : X.cell? ⟨w.heap.size + 1 + 1 + 1, 1, none⟩ = some (.int .u32 (u1 : Nat)) := hX1.cell 1
  have d2 : X.cell? ⟨w.heap.size + 1 + 1 + 1, 2, none⟩ = some (.int .u32 (u2 : Nat)) := hX1.cell 2
  have d3 : X.cell? ⟨w.heap.size + 1 + 1 + 1, 3, none⟩ = some (.int .u32 (u3 : Nat)) := hX1.cell 3
  have d4 : X.cell? ⟨w.heap.size + 1 + 1 + 1, 4, none⟩ = some (.int .u32 (u4 : Nat)) := hX1.cell 4
  have d5 : X.cell? ⟨w.heap.size + 1 + 1 + 1, 5, none⟩ = some (.int .u32 (u5 : Nat)) := hX1.cell 5
  have d6 : X.cell? ⟨w.heap.size + 1 + 1 + 1, 6, none⟩ = some (.int .u32 (u6 : Nat)) := hX1.cell 6
  have d7 : X.cell? ⟨w.heap.size + 1 + 1 + 1, 7, none⟩ = some (.int .u64 (u7 : Nat)) := hX1.cell 7
  have g0 : X.cell? ⟨w2.heap.size, 0, none⟩ = some (.int .u32 (u0 : Nat)) := hX2.cell 0
  have g1 : X.cell? ⟨w2.heap.size, 1, none⟩ = some (.int .u32 (u1 : Nat)) := hX2.cell 1
  have g2 : X.cell? ⟨w2.heap.size, 2, none⟩ = some (.int .u32 (u2 : Nat)) := hX2.cell 2
  have g3 : X.cell? ⟨w2.heap.size, 3, none⟩ = some (.int .u32 (u3 : Nat)) := hX2.cell 3
  have g4 : X.cell? ⟨w2.heap.size, 4, none⟩ = some (.int .u32 (u4 : Nat)) := hX2.cell 4
  have g5 : X.cell? ⟨w2.heap.size, 5, none⟩ = some (.int .u32 (u5 : Nat)) := hX2.cell 5
  have g6 : X.cell? ⟨w2.heap.size, 6, none⟩ = some (.int .u32 (u6 : Nat)) := hX2.cell 6
  have g7 : X.cell? ⟨w2.heap.size, 7, none⟩ = some (.int .u64 (u7 : Nat)) := hX2.cell 7
  clear hR hX1 hX2
  have HK : Hid (∀ a b, Below a.heap.size a b → ((a.cell? ⟨w.heap.size, 0, none⟩ = some (.int .u32 (st : Nat)) ∧ a.cell? ⟨w.heap.size, 1, none⟩ = some (.int .u32 (en : Nat)) ∧ a.cell? ⟨w.heap.size, 2, none⟩ = some (.int .u32 (ve : Nat)) ∧ a.cell? ⟨w.heap.size, 3, none⟩ = some (.int .u32 (sc : Nat)) ∧ a.cell? ⟨w.heap.size, 4, none⟩ = some (.int .u32 (ep : Nat)) ∧ a.cell? ⟨w.heap.size, 5, none⟩ = some (.int .u32 (ca : Nat)) ∧ a.cell? ⟨w.heap.size, 6, none⟩ = some (.int .u32 (va : Nat)) ∧ a.cell? ⟨w.heap.size, 7, none⟩ = some (.int .u64 (ct : Nat))) ∧ (a.cell? ⟨w.heap.size + 1 + 1 + 1, 0, none⟩ = some (.int .u32 (u0 : Nat)) ∧ a.cell? ⟨w.heap.size + 1 + 1 + 1, 1, none⟩ = some (.int .u32 (u1 : Nat)) ∧ a.cell? ⟨w.heap.size + 1 + 1 + 1, 2, none⟩ = some (.int .u32 (u2 : Nat)) ∧ a.cell? ⟨w.heap.size + 1 + 1 + 1, 3, none⟩ = some (.int .u32 (u3 : Nat)) ∧ a.cell? ⟨w.heap.size + 1 + 1 + 1, 4, none⟩ = some (.int .u32 (u4 : Nat)) ∧ a.cell? ⟨w.heap.size + 1 + 1 + 1, 5, none⟩ = some (.int .u32 (u5 : Nat)) ∧ a.cell? ⟨w.heap.size + 1 + 1 + 1, 6, none⟩ = some (.int .u32 (u6 : Nat)) ∧ a.cell? ⟨w.heap.size + 1 + 1 + 1, 7, none⟩ = some (.int .u64 (u7 : Nat))) ∧ (a.cell? ⟨w2.heap.size, 0, none⟩ = some (.int .u32 (u0 : Nat)) ∧ a.cell? ⟨w2.heap.size, 1, none⟩ = some (.int .u32 (u1 : Nat)) ∧ a.cell? ⟨w2.heap.size, 2, none⟩ = some (.int .u32 (u2 : Nat)) ∧ a.cell? ⟨w2.heap.size, 3, none⟩ = some (.int .u32 (u3 : Nat)) ∧ a.cell? ⟨w2.heap.size, 4, none⟩ = some (.int .u32 (u4 : Nat)) ∧ a.cell? ⟨w2.heap.size, 5, none⟩ = some (.int .u32 (u5 : Nat)) ∧ a.cell? ⟨w2.heap.size, 6, none⟩ = some (.int .u32 (u6 : Nat)) ∧ a.cell? ⟨w2.heap.size, 7, none⟩ = some (.int .u64 (u7 : Nat))) ∧ OrderAt a ∧ Below w.heap.size w a) → ((b.cell? ⟨w.heap.size, 0, none⟩ = some (.int .u32 (st : Nat)) ∧ b.cell? ⟨w.heap.size, 1, none⟩ = some (.int .u32 (en : Nat)) ∧ b.cell? ⟨w.heap.size, 2, none⟩ = some (.int .u32 (ve : Nat)) ∧ b.cell? ⟨w.heap.size, 3, none⟩ = some (.int .u32 (sc : Nat)) ∧ b.cell? ⟨w.heap.size, 4, none⟩ = some (.int .u32 (ep : Nat)) ∧ b.cell? ⟨w.heap.size, 5, none⟩ = some (.int .u32 (ca : Nat)) ∧ b.cell? ⟨w.heap.size, 6, none⟩ = some (.int .u32 (va : Nat)) ∧ b.cell? ⟨w.heap.size, 7, none⟩ = some (.int .u64 (ct : Nat))) ∧ (b.cell? ⟨w.heap.size + 1 + 1 + 1, 0, none⟩ = some (.int .u32 (u0 : Nat)) ∧ b.cell? ⟨w.heap.size + 1 + 1 + 1, 1, none⟩ = some (.int .u32 (u1 : Nat)) ∧ b.cell? ⟨w.heap.size + 1 + 1 + 1, 2, none⟩ = some (.int .u32 (u2 : Nat)) ∧ b.cell? ⟨w.heap.size + 1 + 1 + 1, 3, none⟩ = some (.int .u32 (u3 : Nat)) ∧ b.cell? ⟨w.heap.size + 1 + 1 + 1, 4, none⟩ = some (.int .u32 (u4 : Nat)) ∧ b.cell? ⟨w.heap.size + 1 + 1 + 1, 5, none⟩ = some (.int .u32 (u5 : Nat)) ∧ b.cell? ⟨w.heap.size + 1 + 1 + 1, 6, none⟩ = some (.int .u32 (u6 : Nat)) ∧ b.cell? ⟨w.heap.size + 1 + 1 + 1, 7, none⟩ = some (.int .u64 (u7 : Nat))) ∧ (b.cell? ⟨w2.heap.size, 0, none⟩ = some (.int .u32 (u0 : Nat)) ∧ b.cell? ⟨w2.heap.size, 1, none⟩ = some (.int .u32 (u1 : Nat)) ∧ b.cell? ⟨w2.heap.size, 2, none⟩ = some (.int .u32 (u2 : Nat)) ∧ b.cell? ⟨w2.heap.size, 3, none⟩ = some (.int .u32 (u3 : Nat)) ∧ b.cell? ⟨w2.heap.size, 4, none⟩ = some (.int .u32 (u4 : Nat)) ∧ b.cell? ⟨w2.heap.size, 5, none⟩ = some (.int .u32 (u5 : Nat)) ∧ b.cell? ⟨w2.heap.size, 6, none⟩ = some (.int .u32 (u6 : Nat)) ∧ b.cell? ⟨w2.heap.size, 7, none⟩ = some (.int .u64 (u7 : Nat))) ∧ OrderAt b ∧ Below w.heap.size w b)) := fun a b hb ⟨⟨c0, c1, c2, c3, c4, c5, c6, c7⟩, ⟨d0, d1, d2, d3, d4, d5, d6, d7⟩, ⟨g0, g1, g2, g3, g4, g5, g6, g7⟩, h2, h3⟩ => ⟨⟨cell_bl hb c0, cell_bl hb c1, cell_bl hb c2, cell_bl hb c3, cell_bl hb c4, cell_bl hb c5, cell_bl hb c6, cell_bl hb c7⟩, ⟨cell_bl hb d0, cell_bl hb d1, cell_bl hb d2, cell_bl hb d3, cell_bl hb d4, cell_bl hb d5, cell_bl hb d6, cell_bl hb d7⟩, ⟨cell_bl hb g0, cell_bl hb g1, cell_bl hb g2, cell_bl hb g3, cell_bl hb g4, cell_bl hb g5, cell_bl hb g6, cell_bl hb g7⟩, h2.below hb, below_bl rfl h3 hb⟩
  have hOrd : OrderAt X.drew := hOr
  have hBed := hBe.drew
  go_region_held3 (fun w' => (w'.cell? ⟨w.heap.size, 0, none⟩ = some (.int .u32 (st : Nat)) ∧ w'.cell? ⟨w.heap.size, 1, none⟩ = some (.int .u32 (en : Nat)) ∧ w'.cell? ⟨w.heap.size, 2, none⟩ = some (.int .u32 (ve : Nat)) ∧ w'.cell? ⟨w.heap.size, 3, none⟩ = some (.int .u32 (sc : Nat)) ∧ w'.cell? ⟨w.heap.size, 4, none⟩ = some (.int .u32 (ep : Nat)) ∧ w'.cell? ⟨w.heap.size, 5, none⟩ = some (.int .u32 (ca : Nat)) ∧ w'.cell? ⟨w.heap.size, 6, none⟩ = some (.int .u32 (va : Nat)) ∧ w'.cell? ⟨w.heap.size, 7, none⟩ = some (.int .u64 (ct : Nat))) ∧ (w'.cell? ⟨w.heap.size + 1 + 1 + 1, 0, none⟩ = some (.int .u32 (u0 : Nat)) ∧ w'.cell? ⟨w.heap.size + 1 + 1 + 1, 1, none⟩ = some (.int .u32 (u1 : Nat)) ∧ w'.cell? ⟨w.heap.size + 1 + 1 + 1, 2, none⟩ = some (.int .u32 (u2 : Nat)) ∧ w'.cell? ⟨w.heap.size + 1 + 1 + 1, 3, none⟩ = some (.int .u32 (u3 : Nat)) ∧ w'.cell? ⟨w.heap.size + 1 + 1 + 1, 4, none⟩ = some (.int .u32 (u4 : Nat)) ∧ w'.cell? ⟨w.heap.size + 1 + 1 + 1, 5, none⟩ = some (.int .u32 (u5 : Nat)) ∧ w'.cell? ⟨w.heap.size + 1 + 1 + 1, 6, none⟩ = some (.int .u32 (u6 : Nat)) ∧ w'.cell? ⟨w.heap.size + 1 + 1 + 1, 7, none⟩ = some (.int .u64 (u7 : Nat))) ∧ (w'.cell? ⟨w2.heap.size, 0, none⟩ = some (.int .u32 (u0 : Nat)) ∧ w'.cell? ⟨w2.heap.size, 1, none⟩ = some (.int .u32 (u1 : Nat)) ∧ w'.cell? ⟨w2.heap.size, 2, none⟩ = some (.int .u32 (u2 : Nat)) ∧ w'.cell? ⟨w2.heap.size, 3, none⟩ = some (.int .u32 (u3 : Nat)) ∧ w'.cell? ⟨w2.heap.size, 4, none⟩ = some (.int .u32 (u4 : Nat)) ∧ w'.cell? ⟨w2.heap.size, 5, none⟩ = some (.int .u32 (u5 : Nat)) ∧ w'.cell? ⟨w2.heap.size, 6, none⟩ = some (.int .u32 (u6 : Nat)) ∧ w'.cell? ⟨w2.heap.size, 7, none⟩ = some (.int .u64 (u7 : Nat))) ∧ OrderAt w' ∧ Below w.heap.size w w') (go_keep)
    (first | (go_at_call 17; refine (Calls.kept (S := fun v => (v.cell? ⟨w.heap.size, 0, none⟩ = some (.int .u32 (st : Nat)) ∧ v.cell? ⟨w.heap.size, 1, none⟩ = some (.int .u32 (en : Nat)) ∧ v.cell? ⟨w.heap.size, 2, none⟩ = some (.int .u32 (ve : Nat)) ∧ v.cell? ⟨w.heap.size, 3, none⟩ = some (.int .u32 (sc : Nat)) ∧ v.cell? ⟨w.heap.size, 4, none⟩ = some (.int .u32 (ep : Nat)) ∧ v.cell? ⟨w.heap.size, 5, none⟩ = some (.int .u32 (ca : Nat)) ∧ v.cell? ⟨w.heap.size, 6, none⟩ = some (.int .u32 (va : Nat)) ∧ v.cell? ⟨w.heap.size, 7, none⟩ = some (.int .u64 (ct : Nat))) ∧ (v.cell? ⟨w.heap.size + 1 + 1 + 1, 0, none⟩ = some (.int .u32 (u0 : Nat)) ∧ v.cell? ⟨w.heap.size + 1 + 1 + 1, 1, none⟩ = some (.int .u32 (u1 : Nat)) ∧ v.cell? ⟨w.heap.size + 1 + 1 + 1, 2, none⟩ = some (.int .u32 (u2 : Nat)) ∧ v.cell? ⟨w.heap.size + 1 + 1 + 1, 3, none⟩ = some (.int .u32 (u3 : Nat)) ∧ v.cell? ⟨w.heap.size + 1 + 1 + 1, 4, none⟩ = some (.int .u32 (u4 : Nat)) ∧ v.cell? ⟨w.heap.size + 1 + 1 + 1, 5, none⟩ = some (.int .u32 (u5 : Nat)) ∧ v.cell? ⟨w.heap.size + 1 + 1 + 1, 6, none⟩ = some (.int .u32 (u6 : Nat)) ∧ v.cell? ⟨w.heap.size + 1 + 1 + 1, 7, none⟩ = some (.int .u64 (u7 : Nat))) ∧ (v.cell? ⟨w2.heap.size, 0, none⟩ = some (.int .u32 (u0 : Nat)) ∧ v.cell? ⟨w2.heap.size, 1, none⟩ = some (.int .u32 (u1 : Nat)) ∧ v.cell? ⟨w2.heap.size, 2, none⟩ = some (.int .u32 (u2 : Nat)) ∧ v.cell? ⟨w2.heap.size, 3, none⟩ = some (.int .u32 (u3 : Nat)) ∧ v.cell? ⟨w2.heap.size, 4, none⟩ = some (.int .u32 (u4 : Nat)) ∧ v.cell? ⟨w2.heap.size, 5, none⟩ = some (.int .u32 (u5 : Nat)) ∧ v.cell? ⟨w2.heap.size, 6, none⟩ = some (.int .u32 (u6 : Nat)) ∧ v.cell? ⟨w2.heap.size, 7, none⟩ = some (.int .u64 (u7 : Nat))) ∧ OrderAt v ∧ Below w.heap.size w v) HK.out ?_ (HA.out _ (by assumption))).mono ?_; (simp [*]); rintro e w6 ⟨rfl, ⟨c0, c1, c2, c3, c4, c5, c6, c7⟩, ⟨d0, d1, d2, d3, d4, d5, d6, d7⟩, ⟨g0, g1, g2, g3, g4, g5, g6, g7⟩, hOr, hBe⟩) | (go_at_call 18; refine (Calls.kept (S := fun v => (v.cell? ⟨w.heap.size, 0, none⟩ = some (.int .u32 (st : Nat)) ∧ v.cell? ⟨w.heap.size, 1, none⟩ = some (.int .u32 (en : Nat)) ∧ v.cell? ⟨w.heap.size, 2, none⟩ = some (.int .u32 (ve : Nat)) ∧ v.cell? ⟨w.heap.size, 3, none⟩ = some (.int .u32 (sc : Nat)) ∧ v.cell? ⟨w.heap.size, 4, none⟩ = some (.int .u32 (ep : Nat)) ∧ v.cell? ⟨w.heap.size, 5, none⟩ = some (.int .u32 (ca : Nat)) ∧ v.cell? ⟨w.heap.size, 6, none⟩ = some (.int .u32 (va : Nat)) ∧ v.cell? ⟨w.heap.size, 7, none⟩ = some (.int .u64 (ct : Nat))) ∧ (v.cell? ⟨w.heap.size + 1 + 1 + 1, 0, none⟩ = some (.int .u32 (u0 : Nat)) ∧ v.cell? ⟨w.heap.size + 1 + 1 + 1, 1, none⟩ = some (.int .u32 (u1 : Nat)) ∧ v.cell? ⟨w.heap.size + 1 + 1 + 1, 2, none⟩ = some (.int .u32 (u2 : Nat)) ∧ v.cell? ⟨w.heap.size + 1 + 1 + 1, 3, none⟩ = some (.int .u32 (u3 : Nat)) ∧ v.cell? ⟨w.heap.size + 1 + 1 + 1, 4, none⟩ = some (.int .u32 (u4 : Nat)) ∧ v.cell? ⟨w.heap.size + 1 + 1 + 1, 5, none⟩ = some (.int .u32 (u5 : Nat)) ∧ v.cell? ⟨w.heap.size + 1 + 1 + 1, 6, none⟩ = some (.int .u32 (u6 : Nat)) ∧ v.cell? ⟨w.heap.size + 1 + 1 + 1, 7, none⟩ = some (.int .u64 (u7 : Nat))) ∧ (v.cell? ⟨w2.heap.size, 0, none⟩ = some (.int .u32 (u0 : Nat)) ∧ v.cell? ⟨w2.heap.size, 1, none⟩ = some (.int .u32 (u1 : Nat)) ∧ v.cell? ⟨w2.heap.size, 2, none⟩ = some (.int .u32 (u2 : Nat)) ∧ v.cell? ⟨w2.heap.size, 3, none⟩ = some (.int .u32 (u3 : Nat)) ∧ v.cell? ⟨w2.heap.size, 4, none⟩ = some (.int .u32 (u4 : Nat)) ∧ v.cell? ⟨w2.heap.size, 5, none⟩ = some (.int .u32 (u5 : Nat)) ∧ v.cell? ⟨w2.heap.size, 6, none⟩ = some (.int .u32 (u6 : Nat)) ∧ v.cell? ⟨w2.heap.size, 7, none⟩ = some (.int .u64 (u7 : Nat))) ∧ OrderAt v ∧ Below w.heap.size w v) HK.out ?_ (HR.out _)).mono ?_; (simp [*]); rintro e w6 ⟨rfl, ⟨c0, c1, c2, c3, c4, c5, c6, c7⟩, ⟨d0, d1, d2, d3, d4, d5, d6, d7⟩, ⟨g0, g1, g2, g3, g4, g5, g6, g7⟩, hOr, hBe⟩) | (go_at_call 12; refine (Calls.kept (S := fun v => (v.cell? ⟨w.heap.size, 0, none⟩ = some (.int .u32 (st : Nat)) ∧ v.cell? ⟨w.heap.size, 1, none⟩ = some (.int .u32 (en : Nat)) ∧ v.cell? ⟨w.heap.size, 2, none⟩ = some (.int .u32 (ve : Nat)) ∧ v.cell? ⟨w.heap.size, 3, none⟩ = some (.int .u32 (sc : Nat)) ∧ v.cell? ⟨w.heap.size, 4, none⟩ = some (.int .u32 (ep : Nat)) ∧ v.cell? ⟨w.heap.size, 5, none⟩ = some (.int .u32 (ca : Nat)) ∧ v.cell? ⟨w.heap.size, 6, none⟩ = some (.int .u32 (va : Nat)) ∧ v.cell? ⟨w.heap.size, 7, none⟩ = some (.int .u64 (ct : Nat))) ∧ (v.cell? ⟨w.heap.size + 1 + 1 + 1, 0, none⟩ = some (.int .u32 (u0 : Nat)) ∧ v.cell? ⟨w.heap.size + 1 + 1 + 1, 1, none⟩ = some (.int .u32 (u1 : Nat)) ∧ v.cell? ⟨w.heap.size + 1 + 1 + 1, 2, none⟩ = some (.int .u32 (u2 : Nat)) ∧ v.cell? ⟨w.heap.size + 1 + 1 + 1, 3, none⟩ = some (.int .u32 (u3 : Nat)) ∧ v.cell? ⟨w.heap.size + 1 + 1 + 1, 4, none⟩ = some (.int .u32 (u4 : Nat)) ∧ v.cell? ⟨w.heap.size + 1 + 1 + 1, 5, none⟩ = some (.int .u32 (u5 : Nat)) ∧ v.cell? ⟨w.heap.size + 1 + 1 + 1, 6, none⟩ = some (.int .u32 (u6 : Nat)) ∧ v.cell? ⟨w.heap.size + 1 + 1 + 1, 7, none⟩ = some (.int .u64 (u7 : Nat))) ∧ (v.cell? ⟨w2.heap.size, 0, none⟩ = some (.int .u32 (u0 : Nat)) ∧ v.cell? ⟨w2.heap.size, 1, none⟩ = some (.int .u32 (u1 : Nat)) ∧ v.cell? ⟨w2.heap.size, 2, none⟩ = some (.int .u32 (u2 : Nat)) ∧ v.cell? ⟨w2.heap.size, 3, none⟩ = some (.int .u32 (u3 : Nat)) ∧ v.cell? ⟨w2.heap.size, 4, none⟩ = some (.int .u32 (u4 : Nat)) ∧ v.cell? ⟨w2.heap.size, 5, none⟩ = some (.int .u32 (u5 : Nat)) ∧ v.cell? ⟨w2.heap.size, 6, none⟩ = some (.int .u32 (u6 : Nat)) ∧ v.cell? ⟨w2.heap.size, 7, none⟩ = some (.int .u64 (u7 : Nat))) ∧ OrderAt v ∧ Below w.heap.size w v) HK.out ?_ (HS.out _)).mono ?_; (simp [*]); rintro e w6 ⟨rfl, ⟨c0, c1, c2, c3, c4, c5, c6, c7⟩, ⟨d0, d1, d2, d3, d4, d5, d6, d7⟩, ⟨g0, g1, g2, g3, g4, g5, g6, g7⟩, hOr, hBe⟩))
  go_wp2
  go_ret
  exact ⟨rfl, hBe⟩
end Go.Proofs.YtchlomnkjilmeaaDoor
