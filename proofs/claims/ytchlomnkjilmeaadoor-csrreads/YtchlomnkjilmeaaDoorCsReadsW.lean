/-
  CsrReads, walked.
-/
import Derived.Test.YtchlomnkjilmeaaDoorRCsRead
import Derived.Test.YtchlomnkjilmeaaDoorRCsCheck
import Derived.Test.YtchlomnkjilmeaaDoorCsRead
import Derived.Test.YtchlomnkjilmeaaDoorCsCheck
import Derived.Test.YtchlomnkjilmeaaDoorNum
namespace Go.Proofs.YtchlomnkjilmeaaDoor
open Go.RowKit
set_option linter.unusedVariables false

theorem handle_bl {w w' : World} (hb : Below w.heap.size w w') (h : HandleAt w) : HandleAt w' := cell_bl hb h
/-- An error and its number. -/
def NumOf (x : Value) (n : Int) : Prop := ∀ w, HandleAt w → Calls Tryd.prog 9 #[x] w fun e w' => e = .returned (.int .i64 n) ∧ Below w.heap.size w w'
theorem num_of_nil : NumOf .nilIface 0 := fun w _ => num_nil w
theorem num_of_err (k : Int) : NumOf (.iface 53 (.int .i64 k)) k := fun w h => num_err k w h
theorem check_v (s : S8) (hs : s.Ok) (w : World) :
    Calls Tryd.prog 10 #[.agg s.cells] w fun e w' => e = .returned (checkV (mayB s)) ∧ Below w.heap.size w w' := by
  have h := Calls.bel1 (check_any s hs w)
  exact h
theorem num_check (b : Bool) : NumOf (checkV b) (checkR b) := by
  cases b
  · exact num_of_err 1
  · exact num_of_nil
def readE : Option Nat → Value
  | some _ => .nilIface
  | none => .iface 53 (.int .i64 8)
def readX : Option Nat → Nat
  | some x => x
  | none => 0
def readF : Option Nat → Int
  | some _ => 0
  | none => 8
theorem read_v (s : S8) (hs : s.Ok) (a : Int) (l : Nat) (hl : l < 4294967296) (w : World) :
    Calls Tryd.prog 7 #[.agg s.cells, .int .i64 a, .int .u32 l] w fun e w' => e = .returned (.tuple #[.int .u32 (readX (readN s a l) : Nat), readE (readN s a l)]) ∧ Below w.heap.size w w' := by
  have h := Calls.bel1 (read_any s hs a l hl w)
  cases hr : readN s a l with
  | some x => rw [hr] at h; exact h
  | none => rw [hr] at h; exact h
theorem rread_v (s : S8) (hs : s.Ok) (a : Int) (l : Nat) (hl : l < 4294967296) (w : World) :
    Calls Tryd.prog 8 #[.agg s.cells, .int .i64 a, .int .u32 l] w fun e w' => e = .returned (.tuple #[.int .u32 (readX (readN s a l) : Nat), .int .i64 (readF (readN s a l))]) ∧ Below w.heap.size w w' := by
  have h := rread_any s hs a l hl w
  cases hr : readN s a l with
  | some x => rw [hr] at h; exact h
  | none => rw [hr] at h; exact h
theorem num_read (r : Option Nat) : NumOf (readE r) (readF r) := by
  cases r
  · exact num_of_err 8
  · exact num_of_nil

set_option maxHeartbeats 2000000 in
theorem reads_walk (s : S8) (hs : s.Ok) (a : Int) (l : Nat) (hl : l < 4294967296) (w : World) (hO : HandleAt w) :
    Calls Tryd.prog 3 #[.agg s.cells, .int .i64 a, .int .u32 l] w fun e w' => e = .returned (.bool true) ∧ Below w.heap.size w w' := by
  have HP := hide (read_v s hs a l hl)
  have HD := hide (rread_v s hs a l hl)
  have HC := hide (check_v s hs)
  have HCR := hide (rcheck_any s hs)
  have n1 : NumOf (readE (readN s a l)) (readF (readN s a l)) := num_read _
  have n2 : NumOf (checkV (mayB s)) (checkR (mayB s)) := num_check _
  have HS := hide (fun w => Calls.bel3 (sure_any w))
  have HN : Hid (∀ x n, NumOf x n → ∀ w, HandleAt w → Calls Tryd.prog 9 #[x] w fun e w' => e = .returned (.int .i64 n) ∧ Below w.heap.size w w') := fun x n h w hw => h w hw
  generalize readE (readN s a l) = ev at *
  generalize readF (readN s a l) = fv at *
  generalize readX (readN s a l) = xv at *
  generalize checkV (mayB s) = cv at *
  generalize checkR (mayB s) = cr at *
  obtain ⟨st, en, ve, sc, ep, ca, va, ct⟩ := s
  simp only [S8.cells] at HP HD HC HCR ⊢
  have HO := hide hO
  clear hs hl hO
  go_enter Tryd.func3, Tryd.ntmps3
  go_wp2_with (fail)
  obtain ⟨W, hW⟩ : ∃ W, (w.alloc (.cells #[.int .u32 st, .int .u32 en, .int .u32 ve, .int .u32 sc, .int .u32 ep, .int .u32 ca, .int .u32 va, .int .u64 ct] 25)).alloc (.cells #[.int .u32 st, .int .u32 en, .int .u32 ve, .int .u32 sc, .int .u32 ep, .int .u32 ca, .int .u32 va, .int .u64 ct] 26) = W := ⟨_, rfl⟩
  have hR : RowAt W (w.heap.size) #[.int .u32 st, .int .u32 en, .int .u32 ve, .int .u32 sc, .int .u32 ep, .int .u32 ca, .int .u32 va, .int .u64 ct] 25 := hW ▸ (RowAt.new w _ _ _ rfl).al _
  have hX : RowAt W (w.heap.size + 1) #[.int .u32 st, .int .u32 en, .int .u32 ve, .int .u32 sc, .int .u32 ep, .int .u32 ca, .int .u32 va, .int .u64 ct] 26 := hW ▸ RowAt.new _ _ _ _ (by simp)
  have HB : Hid (Below w.heap.size w W) := hW ▸ below_two _ _ _
  have HR := hide hR
  have HX := hide hX
  rw [hW]
  clear hW hR hX
  refine (HP.out _).mono ?_
  rintro e w1 ⟨rfl, hb1⟩
  have HR1 := hide (HR.out.bl hb1)
  have HX1 := hide (HX.out.bl hb1)
  have HB1 := hide (below_bl rfl HB.out hb1)
  clear HR HX HB hb1
  have c0 : w1.cell? ⟨w.heap.size, 0, none⟩ = some (.int .u32 (st : Nat)) := HR1.out.cell 0
  have c1 : w1.cell? ⟨w.heap.size, 1, none⟩ = some (.int .u32 (en : Nat)) := HR1.out.cell 1
  have c2 : w1.cell? ⟨w.heap.size, 2, none⟩ = some (.int .u32 (ve : Nat)) := HR1.out.cell 2
  have c3 : w1.cell? ⟨w.heap.size, 3, none⟩ = some (.int .u32 (sc : Nat)) := HR1.out.cell 3
  have c4 : w1.cell? ⟨w.heap.size, 4, none⟩ = some (.int .u32 (ep : Nat)) := HR1.out.cell 4
  have c5 : w1.cell? ⟨w.heap.size, 5, none⟩ = some (.int .u32 (ca : Nat)) := HR1.out.cell 5
  have c6 : w1.cell? ⟨w.heap.size, 6, none⟩ = some (.int .u32 (va : Nat)) := HR1.out.cell 6
  have c7 : w1.cell? ⟨w.heap.size, 7, none⟩ = some (.int .u64 (ct : Nat)) := HR1.out.cell 7
  go_wp2_with (fail)
  refine (HD.out _).mono ?_
  rintro e X ⟨rfl, hb2⟩
  have hR := HR1.out.bl hb2
  have hX := HX1.out.bl hb2
  have hBe := below_bl rfl HB1.out hb2
  have hOr : HandleAt X := handle_bl hBe HO.out
  clear HR1 HX1 HB1 hb2 HO c0 c1 c2 c3 c4 c5 c6 c7
  have c0 : X.cell? ⟨w.heap.size, 0, none⟩ = some (.int .u32 (st : Nat)) := hR.cell 0
  have c1 : X.cell? ⟨w.heap.size, 1, none⟩ = some (.int .u32 (en : Nat)) := hR.cell 1
  have c2 : X.cell? ⟨w.heap.size, 2, none⟩ = some (.int .u32 (ve : Nat)) := hR.cell 2
  have c3 : X.cell? ⟨w.heap.size, 3, none⟩ = some (.int .u32 (sc : Nat)) := hR.cell 3
  have c4 : X.cell? ⟨w.heap.size, 4, none⟩ = some (.int .u32 (ep : Nat)) := hR.cell 4
  have c5 : X.cell? ⟨w.heap.size, 5, none⟩ = some (.int .u32 (ca : Nat)) := hR.cell 5
  have c6 : X.cell? ⟨w.heap.size, 6, none⟩ = some (.int .u32 (va : Nat)) := hR.cell 6
  have c7 : X.cell? ⟨w.heap.size, 7, none⟩ = some (.int .u64 (ct : Nat)) := hR.cell 7
  have d0 : X.cell? ⟨w.heap.size + 1, 0, none⟩ = some (.int .u32 (st : Nat)) := hX.cell 0
  have d1 : X.cell? ⟨w.heap.size + 1, 1, none⟩ = some (.int .u32 (en : Nat)) := hX.cell 1
  have d2 : X.cell? ⟨w.heap.size + 1, 2, none⟩ = some (.int .u32 (ve : Nat)) := hX.cell 2
  have d3 : X.cell? ⟨w.heap.size + 1, 3, none⟩ = some (.int .u32 (sc : Nat)) := hX.cell 3
  have d4 : X.cell? ⟨w.heap.size + 1, 4, none⟩ = some (.int .u32 (ep : Nat)) := hX.cell 4
  have d5 : X.cell? ⟨w.heap.size + 1, 5, none⟩ = some (.int .u32 (ca : Nat)) := hX.cell 5
  have d6 : X.cell? ⟨w.heap.size + 1, 6, none⟩ = some (.int .u32 (va : Nat)) := hX.cell 6
  have d7 : X.cell? ⟨w.heap.size + 1, 7, none⟩ = some (.int .u64 (ct : Nat)) := hX.cell 7
  clear hR hX
  have hOrd : HandleAt X.drew := hOr
  have hBed := hBe.drew
  have HK : Hid (∀ a b, Below a.heap.size a b → ((a.cell? ⟨w.heap.size, 0, none⟩ = some (.int .u32 (st : Nat)) ∧ a.cell? ⟨w.heap.size, 1, none⟩ = some (.int .u32 (en : Nat)) ∧ a.cell? ⟨w.heap.size, 2, none⟩ = some (.int .u32 (ve : Nat)) ∧ a.cell? ⟨w.heap.size, 3, none⟩ = some (.int .u32 (sc : Nat)) ∧ a.cell? ⟨w.heap.size, 4, none⟩ = some (.int .u32 (ep : Nat)) ∧ a.cell? ⟨w.heap.size, 5, none⟩ = some (.int .u32 (ca : Nat)) ∧ a.cell? ⟨w.heap.size, 6, none⟩ = some (.int .u32 (va : Nat)) ∧ a.cell? ⟨w.heap.size, 7, none⟩ = some (.int .u64 (ct : Nat))) ∧ (a.cell? ⟨w.heap.size + 1, 0, none⟩ = some (.int .u32 (st : Nat)) ∧ a.cell? ⟨w.heap.size + 1, 1, none⟩ = some (.int .u32 (en : Nat)) ∧ a.cell? ⟨w.heap.size + 1, 2, none⟩ = some (.int .u32 (ve : Nat)) ∧ a.cell? ⟨w.heap.size + 1, 3, none⟩ = some (.int .u32 (sc : Nat)) ∧ a.cell? ⟨w.heap.size + 1, 4, none⟩ = some (.int .u32 (ep : Nat)) ∧ a.cell? ⟨w.heap.size + 1, 5, none⟩ = some (.int .u32 (ca : Nat)) ∧ a.cell? ⟨w.heap.size + 1, 6, none⟩ = some (.int .u32 (va : Nat)) ∧ a.cell? ⟨w.heap.size + 1, 7, none⟩ = some (.int .u64 (ct : Nat))) ∧ HandleAt a ∧ Below w.heap.size w a) → ((b.cell? ⟨w.heap.size, 0, none⟩ = some (.int .u32 (st : Nat)) ∧ b.cell? ⟨w.heap.size, 1, none⟩ = some (.int .u32 (en : Nat)) ∧ b.cell? ⟨w.heap.size, 2, none⟩ = some (.int .u32 (ve : Nat)) ∧ b.cell? ⟨w.heap.size, 3, none⟩ = some (.int .u32 (sc : Nat)) ∧ b.cell? ⟨w.heap.size, 4, none⟩ = some (.int .u32 (ep : Nat)) ∧ b.cell? ⟨w.heap.size, 5, none⟩ = some (.int .u32 (ca : Nat)) ∧ b.cell? ⟨w.heap.size, 6, none⟩ = some (.int .u32 (va : Nat)) ∧ b.cell? ⟨w.heap.size, 7, none⟩ = some (.int .u64 (ct : Nat))) ∧ (b.cell? ⟨w.heap.size + 1, 0, none⟩ = some (.int .u32 (st : Nat)) ∧ b.cell? ⟨w.heap.size + 1, 1, none⟩ = some (.int .u32 (en : Nat)) ∧ b.cell? ⟨w.heap.size + 1, 2, none⟩ = some (.int .u32 (ve : Nat)) ∧ b.cell? ⟨w.heap.size + 1, 3, none⟩ = some (.int .u32 (sc : Nat)) ∧ b.cell? ⟨w.heap.size + 1, 4, none⟩ = some (.int .u32 (ep : Nat)) ∧ b.cell? ⟨w.heap.size + 1, 5, none⟩ = some (.int .u32 (ca : Nat)) ∧ b.cell? ⟨w.heap.size + 1, 6, none⟩ = some (.int .u32 (va : Nat)) ∧ b.cell? ⟨w.heap.size + 1, 7, none⟩ = some (.int .u64 (ct : Nat))) ∧ HandleAt b ∧ Below w.heap.size w b)) := fun a b hb ⟨⟨c0, c1, c2, c3, c4, c5, c6, c7⟩, ⟨d0, d1, d2, d3, d4, d5, d6, d7⟩, h2, h3⟩ => ⟨⟨cell_bl hb c0, cell_bl hb c1, cell_bl hb c2, cell_bl hb c3, cell_bl hb c4, cell_bl hb c5, cell_bl hb c6, cell_bl hb c7⟩, ⟨cell_bl hb d0, cell_bl hb d1, cell_bl hb d2, cell_bl hb d3, cell_bl hb d4, cell_bl hb d5, cell_bl hb d6, cell_bl hb d7⟩, handle_bl hb h2, below_bl rfl h3 hb⟩
  go_wp2_with (fail)
  go_region_held3 (fun w' => (w'.cell? ⟨w.heap.size, 0, none⟩ = some (.int .u32 (st : Nat)) ∧ w'.cell? ⟨w.heap.size, 1, none⟩ = some (.int .u32 (en : Nat)) ∧ w'.cell? ⟨w.heap.size, 2, none⟩ = some (.int .u32 (ve : Nat)) ∧ w'.cell? ⟨w.heap.size, 3, none⟩ = some (.int .u32 (sc : Nat)) ∧ w'.cell? ⟨w.heap.size, 4, none⟩ = some (.int .u32 (ep : Nat)) ∧ w'.cell? ⟨w.heap.size, 5, none⟩ = some (.int .u32 (ca : Nat)) ∧ w'.cell? ⟨w.heap.size, 6, none⟩ = some (.int .u32 (va : Nat)) ∧ w'.cell? ⟨w.heap.size, 7, none⟩ = some (.int .u64 (ct : Nat))) ∧ (w'.cell? ⟨w.heap.size + 1, 0, none⟩ = some (.int .u32 (st : Nat)) ∧ w'.cell? ⟨w.heap.size + 1, 1, none⟩ = some (.int .u32 (en : Nat)) ∧ w'.cell? ⟨w.heap.size + 1, 2, none⟩ = some (.int .u32 (ve : Nat)) ∧ w'.cell? ⟨w.heap.size + 1, 3, none⟩ = some (.int .u32 (sc : Nat)) ∧ w'.cell? ⟨w.heap.size + 1, 4, none⟩ = some (.int .u32 (ep : Nat)) ∧ w'.cell? ⟨w.heap.size + 1, 5, none⟩ = some (.int .u32 (ca : Nat)) ∧ w'.cell? ⟨w.heap.size + 1, 6, none⟩ = some (.int .u32 (va : Nat)) ∧ w'.cell? ⟨w.heap.size + 1, 7, none⟩ = some (.int .u64 (ct : Nat))) ∧ HandleAt w' ∧ Below w.heap.size w w') (go_keep)
    (first | (go_at_call 9; refine (Calls.kept (S := fun v => (v.cell? ⟨w.heap.size, 0, none⟩ = some (.int .u32 (st : Nat)) ∧ v.cell? ⟨w.heap.size, 1, none⟩ = some (.int .u32 (en : Nat)) ∧ v.cell? ⟨w.heap.size, 2, none⟩ = some (.int .u32 (ve : Nat)) ∧ v.cell? ⟨w.heap.size, 3, none⟩ = some (.int .u32 (sc : Nat)) ∧ v.cell? ⟨w.heap.size, 4, none⟩ = some (.int .u32 (ep : Nat)) ∧ v.cell? ⟨w.heap.size, 5, none⟩ = some (.int .u32 (ca : Nat)) ∧ v.cell? ⟨w.heap.size, 6, none⟩ = some (.int .u32 (va : Nat)) ∧ v.cell? ⟨w.heap.size, 7, none⟩ = some (.int .u64 (ct : Nat))) ∧ (v.cell? ⟨w.heap.size + 1, 0, none⟩ = some (.int .u32 (st : Nat)) ∧ v.cell? ⟨w.heap.size + 1, 1, none⟩ = some (.int .u32 (en : Nat)) ∧ v.cell? ⟨w.heap.size + 1, 2, none⟩ = some (.int .u32 (ve : Nat)) ∧ v.cell? ⟨w.heap.size + 1, 3, none⟩ = some (.int .u32 (sc : Nat)) ∧ v.cell? ⟨w.heap.size + 1, 4, none⟩ = some (.int .u32 (ep : Nat)) ∧ v.cell? ⟨w.heap.size + 1, 5, none⟩ = some (.int .u32 (ca : Nat)) ∧ v.cell? ⟨w.heap.size + 1, 6, none⟩ = some (.int .u32 (va : Nat)) ∧ v.cell? ⟨w.heap.size + 1, 7, none⟩ = some (.int .u64 (ct : Nat))) ∧ HandleAt v ∧ Below w.heap.size w v) HK.out ?_ (HN.out _ _ (by assumption) _ (by assumption))).mono ?_; (simp [*]); rintro e w6 ⟨rfl, ⟨c0, c1, c2, c3, c4, c5, c6, c7⟩, ⟨d0, d1, d2, d3, d4, d5, d6, d7⟩, hOr, hBe⟩) | (go_at_call 10; refine (Calls.kept (S := fun v => (v.cell? ⟨w.heap.size, 0, none⟩ = some (.int .u32 (st : Nat)) ∧ v.cell? ⟨w.heap.size, 1, none⟩ = some (.int .u32 (en : Nat)) ∧ v.cell? ⟨w.heap.size, 2, none⟩ = some (.int .u32 (ve : Nat)) ∧ v.cell? ⟨w.heap.size, 3, none⟩ = some (.int .u32 (sc : Nat)) ∧ v.cell? ⟨w.heap.size, 4, none⟩ = some (.int .u32 (ep : Nat)) ∧ v.cell? ⟨w.heap.size, 5, none⟩ = some (.int .u32 (ca : Nat)) ∧ v.cell? ⟨w.heap.size, 6, none⟩ = some (.int .u32 (va : Nat)) ∧ v.cell? ⟨w.heap.size, 7, none⟩ = some (.int .u64 (ct : Nat))) ∧ (v.cell? ⟨w.heap.size + 1, 0, none⟩ = some (.int .u32 (st : Nat)) ∧ v.cell? ⟨w.heap.size + 1, 1, none⟩ = some (.int .u32 (en : Nat)) ∧ v.cell? ⟨w.heap.size + 1, 2, none⟩ = some (.int .u32 (ve : Nat)) ∧ v.cell? ⟨w.heap.size + 1, 3, none⟩ = some (.int .u32 (sc : Nat)) ∧ v.cell? ⟨w.heap.size + 1, 4, none⟩ = some (.int .u32 (ep : Nat)) ∧ v.cell? ⟨w.heap.size + 1, 5, none⟩ = some (.int .u32 (ca : Nat)) ∧ v.cell? ⟨w.heap.size + 1, 6, none⟩ = some (.int .u32 (va : Nat)) ∧ v.cell? ⟨w.heap.size + 1, 7, none⟩ = some (.int .u64 (ct : Nat))) ∧ HandleAt v ∧ Below w.heap.size w v) HK.out ?_ (HC.out _)).mono ?_; (simp [*]); rintro e w6 ⟨rfl, ⟨c0, c1, c2, c3, c4, c5, c6, c7⟩, ⟨d0, d1, d2, d3, d4, d5, d6, d7⟩, hOr, hBe⟩) | (go_at_call 11; refine (Calls.kept (S := fun v => (v.cell? ⟨w.heap.size, 0, none⟩ = some (.int .u32 (st : Nat)) ∧ v.cell? ⟨w.heap.size, 1, none⟩ = some (.int .u32 (en : Nat)) ∧ v.cell? ⟨w.heap.size, 2, none⟩ = some (.int .u32 (ve : Nat)) ∧ v.cell? ⟨w.heap.size, 3, none⟩ = some (.int .u32 (sc : Nat)) ∧ v.cell? ⟨w.heap.size, 4, none⟩ = some (.int .u32 (ep : Nat)) ∧ v.cell? ⟨w.heap.size, 5, none⟩ = some (.int .u32 (ca : Nat)) ∧ v.cell? ⟨w.heap.size, 6, none⟩ = some (.int .u32 (va : Nat)) ∧ v.cell? ⟨w.heap.size, 7, none⟩ = some (.int .u64 (ct : Nat))) ∧ (v.cell? ⟨w.heap.size + 1, 0, none⟩ = some (.int .u32 (st : Nat)) ∧ v.cell? ⟨w.heap.size + 1, 1, none⟩ = some (.int .u32 (en : Nat)) ∧ v.cell? ⟨w.heap.size + 1, 2, none⟩ = some (.int .u32 (ve : Nat)) ∧ v.cell? ⟨w.heap.size + 1, 3, none⟩ = some (.int .u32 (sc : Nat)) ∧ v.cell? ⟨w.heap.size + 1, 4, none⟩ = some (.int .u32 (ep : Nat)) ∧ v.cell? ⟨w.heap.size + 1, 5, none⟩ = some (.int .u32 (ca : Nat)) ∧ v.cell? ⟨w.heap.size + 1, 6, none⟩ = some (.int .u32 (va : Nat)) ∧ v.cell? ⟨w.heap.size + 1, 7, none⟩ = some (.int .u64 (ct : Nat))) ∧ HandleAt v ∧ Below w.heap.size w v) HK.out ?_ (HCR.out _)).mono ?_; (simp [*]); rintro e w6 ⟨rfl, ⟨c0, c1, c2, c3, c4, c5, c6, c7⟩, ⟨d0, d1, d2, d3, d4, d5, d6, d7⟩, hOr, hBe⟩) | (go_at_call 12; refine (Calls.kept (S := fun v => (v.cell? ⟨w.heap.size, 0, none⟩ = some (.int .u32 (st : Nat)) ∧ v.cell? ⟨w.heap.size, 1, none⟩ = some (.int .u32 (en : Nat)) ∧ v.cell? ⟨w.heap.size, 2, none⟩ = some (.int .u32 (ve : Nat)) ∧ v.cell? ⟨w.heap.size, 3, none⟩ = some (.int .u32 (sc : Nat)) ∧ v.cell? ⟨w.heap.size, 4, none⟩ = some (.int .u32 (ep : Nat)) ∧ v.cell? ⟨w.heap.size, 5, none⟩ = some (.int .u32 (ca : Nat)) ∧ v.cell? ⟨w.heap.size, 6, none⟩ = some (.int .u32 (va : Nat)) ∧ v.cell? ⟨w.heap.size, 7, none⟩ = some (.int .u64 (ct : Nat))) ∧ (v.cell? ⟨w.heap.size + 1, 0, none⟩ = some (.int .u32 (st : Nat)) ∧ v.cell? ⟨w.heap.size + 1, 1, none⟩ = some (.int .u32 (en : Nat)) ∧ v.cell? ⟨w.heap.size + 1, 2, none⟩ = some (.int .u32 (ve : Nat)) ∧ v.cell? ⟨w.heap.size + 1, 3, none⟩ = some (.int .u32 (sc : Nat)) ∧ v.cell? ⟨w.heap.size + 1, 4, none⟩ = some (.int .u32 (ep : Nat)) ∧ v.cell? ⟨w.heap.size + 1, 5, none⟩ = some (.int .u32 (ca : Nat)) ∧ v.cell? ⟨w.heap.size + 1, 6, none⟩ = some (.int .u32 (va : Nat)) ∧ v.cell? ⟨w.heap.size + 1, 7, none⟩ = some (.int .u64 (ct : Nat))) ∧ HandleAt v ∧ Below w.heap.size w v) HK.out ?_ (HS.out _)).mono ?_; (simp [*]); rintro e w6 ⟨rfl, ⟨c0, c1, c2, c3, c4, c5, c6, c7⟩, ⟨d0, d1, d2, d3, d4, d5, d6, d7⟩, hOr, hBe⟩))
  go_wp2
  go_ret
  exact ⟨rfl, hBe⟩
end Go.Proofs.YtchlomnkjilmeaaDoor
