/-
  CsrAsks, walked.
-/
import Derived.Test.YtchlomnkjilmeabDoorRCsAsks
import Derived.Test.YtchlomnkjilmeabDoorCsKeep
namespace Go.Proofs.YtchlomnkjilmeabDoor
open Go.RowKit
set_option linter.unusedVariables false

set_option maxHeartbeats 1000000 in
theorem asks_walk (s : S8) (hs : s.Ok) (l : Nat) (hl : l < 4294967296) (w : World) (hO : OrderAt w) :
    Calls Tryd.prog 3 #[.agg s.cells, .int .u32 l] w fun e w' => e = .returned (.bool true) ∧ Below w.heap.size w w' := by
  have HA := hide (fun w h => Calls.bel1 (asks_any s hs l hl w h))
  have HR := hide (rasks_any s hs l hl)
  have HS := hide (fun w => Calls.bel3 (sure_any w))
  obtain ⟨st, en, ve, sc, ep, ca, va, ct⟩ := s
  simp only [S8.cells] at HA HR ⊢
  generalize asksN st en l = z at *
  have HK : Hid (∀ a b, Below a.heap.size a b → ((a.cell? ⟨w.heap.size, 0, none⟩ = some (.int .u32 (st : Nat)) ∧ a.cell? ⟨w.heap.size, 1, none⟩ = some (.int .u32 (en : Nat)) ∧ a.cell? ⟨w.heap.size, 2, none⟩ = some (.int .u32 (ve : Nat)) ∧ a.cell? ⟨w.heap.size, 3, none⟩ = some (.int .u32 (sc : Nat)) ∧ a.cell? ⟨w.heap.size, 4, none⟩ = some (.int .u32 (ep : Nat)) ∧ a.cell? ⟨w.heap.size, 5, none⟩ = some (.int .u32 (ca : Nat)) ∧ a.cell? ⟨w.heap.size, 6, none⟩ = some (.int .u32 (va : Nat)) ∧ a.cell? ⟨w.heap.size, 7, none⟩ = some (.int .u64 (ct : Nat))) ∧ OrderAt a ∧ Below w.heap.size w a) → ((b.cell? ⟨w.heap.size, 0, none⟩ = some (.int .u32 (st : Nat)) ∧ b.cell? ⟨w.heap.size, 1, none⟩ = some (.int .u32 (en : Nat)) ∧ b.cell? ⟨w.heap.size, 2, none⟩ = some (.int .u32 (ve : Nat)) ∧ b.cell? ⟨w.heap.size, 3, none⟩ = some (.int .u32 (sc : Nat)) ∧ b.cell? ⟨w.heap.size, 4, none⟩ = some (.int .u32 (ep : Nat)) ∧ b.cell? ⟨w.heap.size, 5, none⟩ = some (.int .u32 (ca : Nat)) ∧ b.cell? ⟨w.heap.size, 6, none⟩ = some (.int .u32 (va : Nat)) ∧ b.cell? ⟨w.heap.size, 7, none⟩ = some (.int .u64 (ct : Nat))) ∧ OrderAt b ∧ Below w.heap.size w b)) := fun a b hb ⟨⟨c0, c1, c2, c3, c4, c5, c6, c7⟩, h2, h3⟩ => ⟨⟨cell_bl hb c0, cell_bl hb c1, cell_bl hb c2, cell_bl hb c3, cell_bl hb c4, cell_bl hb c5, cell_bl hb c6, cell_bl hb c7⟩, h2.below hb, below_bl rfl h3 hb⟩
  have HO : Hid (OrderAt (w.alloc (.cells #[.int .u32 st, .int .u32 en, .int .u32 ve, .int .u32 sc, .int .u32 ep, .int .u32 ca, .int .u32 va, .int .u64 ct] 25))) := hO.below (below_one _ _)
  clear hs hl hO
  go_enter Tryd.func3, Tryd.ntmps3
  go_wp2_with (fail)
  obtain ⟨W, hW⟩ : ∃ W, w.alloc (.cells #[.int .u32 st, .int .u32 en, .int .u32 ve, .int .u32 sc, .int .u32 ep, .int .u32 ca, .int .u32 va, .int .u64 ct] 25) = W := ⟨_, rfl⟩
  have hc : (W.cell? ⟨w.heap.size, 0, none⟩ = some (.int .u32 (st : Nat)) ∧ W.cell? ⟨w.heap.size, 1, none⟩ = some (.int .u32 (en : Nat)) ∧ W.cell? ⟨w.heap.size, 2, none⟩ = some (.int .u32 (ve : Nat)) ∧ W.cell? ⟨w.heap.size, 3, none⟩ = some (.int .u32 (sc : Nat)) ∧ W.cell? ⟨w.heap.size, 4, none⟩ = some (.int .u32 (ep : Nat)) ∧ W.cell? ⟨w.heap.size, 5, none⟩ = some (.int .u32 (ca : Nat)) ∧ W.cell? ⟨w.heap.size, 6, none⟩ = some (.int .u32 (va : Nat)) ∧ W.cell? ⟨w.heap.size, 7, none⟩ = some (.int .u64 (ct : Nat))) := by rw [← hW]; simp
  have hOr : OrderAt W := hW ▸ HO.out
  have hBe : Below w.heap.size w W := hW ▸ below_one _ _
  rw [hW]
  clear hW HO
  obtain ⟨c0, c1, c2, c3, c4, c5, c6, c7⟩ := hc
  have hOrd : OrderAt W.drew := hOr
  have hBed := hBe.drew
  go_region_held3 (fun w' => (w'.cell? ⟨w.heap.size, 0, none⟩ = some (.int .u32 (st : Nat)) ∧ w'.cell? ⟨w.heap.size, 1, none⟩ = some (.int .u32 (en : Nat)) ∧ w'.cell? ⟨w.heap.size, 2, none⟩ = some (.int .u32 (ve : Nat)) ∧ w'.cell? ⟨w.heap.size, 3, none⟩ = some (.int .u32 (sc : Nat)) ∧ w'.cell? ⟨w.heap.size, 4, none⟩ = some (.int .u32 (ep : Nat)) ∧ w'.cell? ⟨w.heap.size, 5, none⟩ = some (.int .u32 (ca : Nat)) ∧ w'.cell? ⟨w.heap.size, 6, none⟩ = some (.int .u32 (va : Nat)) ∧ w'.cell? ⟨w.heap.size, 7, none⟩ = some (.int .u64 (ct : Nat))) ∧ OrderAt w' ∧ Below w.heap.size w w') (go_keep)
    (first | (go_at_call 4; refine (Calls.kept (S := fun v => (v.cell? ⟨w.heap.size, 0, none⟩ = some (.int .u32 (st : Nat)) ∧ v.cell? ⟨w.heap.size, 1, none⟩ = some (.int .u32 (en : Nat)) ∧ v.cell? ⟨w.heap.size, 2, none⟩ = some (.int .u32 (ve : Nat)) ∧ v.cell? ⟨w.heap.size, 3, none⟩ = some (.int .u32 (sc : Nat)) ∧ v.cell? ⟨w.heap.size, 4, none⟩ = some (.int .u32 (ep : Nat)) ∧ v.cell? ⟨w.heap.size, 5, none⟩ = some (.int .u32 (ca : Nat)) ∧ v.cell? ⟨w.heap.size, 6, none⟩ = some (.int .u32 (va : Nat)) ∧ v.cell? ⟨w.heap.size, 7, none⟩ = some (.int .u64 (ct : Nat))) ∧ OrderAt v ∧ Below w.heap.size w v) HK.out ?_ (HA.out _ (by assumption))).mono ?_; (simp [*]); rintro e w6 ⟨rfl, ⟨c0, c1, c2, c3, c4, c5, c6, c7⟩, hOr, hBe⟩) | (go_at_call 5; refine (Calls.kept (S := fun v => (v.cell? ⟨w.heap.size, 0, none⟩ = some (.int .u32 (st : Nat)) ∧ v.cell? ⟨w.heap.size, 1, none⟩ = some (.int .u32 (en : Nat)) ∧ v.cell? ⟨w.heap.size, 2, none⟩ = some (.int .u32 (ve : Nat)) ∧ v.cell? ⟨w.heap.size, 3, none⟩ = some (.int .u32 (sc : Nat)) ∧ v.cell? ⟨w.heap.size, 4, none⟩ = some (.int .u32 (ep : Nat)) ∧ v.cell? ⟨w.heap.size, 5, none⟩ = some (.int .u32 (ca : Nat)) ∧ v.cell? ⟨w.heap.size, 6, none⟩ = some (.int .u32 (va : Nat)) ∧ v.cell? ⟨w.heap.size, 7, none⟩ = some (.int .u64 (ct : Nat))) ∧ OrderAt v ∧ Below w.heap.size w v) HK.out ?_ (HR.out _)).mono ?_; (simp [*]); rintro e w6 ⟨rfl, ⟨c0, c1, c2, c3, c4, c5, c6, c7⟩, hOr, hBe⟩) | (go_at_call 6; refine (Calls.kept (S := fun v => (v.cell? ⟨w.heap.size, 0, none⟩ = some (.int .u32 (st : Nat)) ∧ v.cell? ⟨w.heap.size, 1, none⟩ = some (.int .u32 (en : Nat)) ∧ v.cell? ⟨w.heap.size, 2, none⟩ = some (.int .u32 (ve : Nat)) ∧ v.cell? ⟨w.heap.size, 3, none⟩ = some (.int .u32 (sc : Nat)) ∧ v.cell? ⟨w.heap.size, 4, none⟩ = some (.int .u32 (ep : Nat)) ∧ v.cell? ⟨w.heap.size, 5, none⟩ = some (.int .u32 (ca : Nat)) ∧ v.cell? ⟨w.heap.size, 6, none⟩ = some (.int .u32 (va : Nat)) ∧ v.cell? ⟨w.heap.size, 7, none⟩ = some (.int .u64 (ct : Nat))) ∧ OrderAt v ∧ Below w.heap.size w v) HK.out ?_ (HS.out _)).mono ?_; (simp [*]); rintro e w6 ⟨rfl, ⟨c0, c1, c2, c3, c4, c5, c6, c7⟩, hOr, hBe⟩))
  go_wp2
  go_ret
  exact ⟨rfl, hBe⟩
end Go.Proofs.YtchlomnkjilmeabDoor
