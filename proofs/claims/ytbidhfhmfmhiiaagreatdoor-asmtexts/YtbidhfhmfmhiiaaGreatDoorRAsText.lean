/-
  What the document's shape and Text answer.
-/
import Derived.Test.YtbidhfhmfmhiiaaGreatDoorRAsDec
import Derived.Test.YtbidhfhmfmhiiaaGreatDoorRow
import Derived.Deep.RegionHeld3
import Derived.Deep.QuietTactic
import Derived.BigQuiet
namespace Go.Proofs.YtbidhfhmfmhiiaaGreatDoor
open Go.RowKit Go.Lib
set_option linter.unusedVariables false

structure KindOf (z : Int) (k : Int) : Prop where
  out : ∀ w, Calls Tryz.prog 29 #[.int .i64 z] w fun e w' => e = .returned (.int .u8 k) ∧ w' = w
structure DecOf (z : Int) (s : ByteArray) : Prop where
  out : ∀ w, Calls Tryz.prog 31 #[.int .i64 z] w fun e w' => e = .returned (.string s) ∧ w' = w
structure ShapeOf (z : Int) (s : ByteArray) : Prop where
  out : ∀ w, Calls Tryz.prog 30 #[.int .i64 z] w fun e w' => e = .returned (.string s) ∧ w' = w
structure NameOf (z : Int) (s : ByteArray) : Prop where
  out : ∀ w, Calls Tryz.prog 28 #[.int .i64 z] w fun e w' => e = .returned (.string s) ∧ Below w.heap.size w w'

set_option maxHeartbeats 400000 in
theorem shape_85 (z : Int) (hk : KindOf z 85) : ShapeOf z (ByteArray.mk #[100, 110]) := by
  refine ⟨fun w => ?_⟩
  have HK := hide hk.out
  clear hk
  go_enter Tryz.func30, Tryz.ntmps30
  go_wp2_with (first | (go_at_call 29; refine (HK.out _).mono ?_; rintro e w1 ⟨rfl, rfl⟩))
  go_ret
  exact ⟨rfl, rfl⟩

set_option maxHeartbeats 400000 in
theorem shape_74 (z : Int) (hk : KindOf z 74) : ShapeOf z (ByteArray.mk #[100, 110]) := by
  refine ⟨fun w => ?_⟩
  have HK := hide hk.out
  clear hk
  go_enter Tryz.func30, Tryz.ntmps30
  go_wp2_with (first | (go_at_call 29; refine (HK.out _).mono ?_; rintro e w1 ⟨rfl, rfl⟩))
  go_ret
  exact ⟨rfl, rfl⟩

set_option maxHeartbeats 400000 in
theorem shape_73 (z : Int) (hk : KindOf z 73) : ShapeOf z (ByteArray.mk #[100, 115, 110]) := by
  refine ⟨fun w => ?_⟩
  have HK := hide hk.out
  clear hk
  go_enter Tryz.func30, Tryz.ntmps30
  go_wp2_with (first | (go_at_call 29; refine (HK.out _).mono ?_; rintro e w1 ⟨rfl, rfl⟩))
  go_ret
  exact ⟨rfl, rfl⟩

set_option maxHeartbeats 400000 in
theorem shape_70 (z : Int) (hk : KindOf z 70) : ShapeOf z (ByteArray.mk #[100, 115, 110]) := by
  refine ⟨fun w => ?_⟩
  have HK := hide hk.out
  clear hk
  go_enter Tryz.func30, Tryz.ntmps30
  go_wp2_with (first | (go_at_call 29; refine (HK.out _).mono ?_; rintro e w1 ⟨rfl, rfl⟩))
  go_ret
  exact ⟨rfl, rfl⟩

set_option maxHeartbeats 400000 in
theorem shape_72 (z : Int) (hk : KindOf z 72) : ShapeOf z (ByteArray.mk #[100, 115, 110]) := by
  refine ⟨fun w => ?_⟩
  have HK := hide hk.out
  clear hk
  go_enter Tryz.func30, Tryz.ntmps30
  go_wp2_with (first | (go_at_call 29; refine (HK.out _).mono ?_; rintro e w1 ⟨rfl, rfl⟩))
  go_ret
  exact ⟨rfl, rfl⟩

set_option maxHeartbeats 400000 in
theorem shape_76 (z : Int) (hk : KindOf z 76) : ShapeOf z (ByteArray.mk #[100, 109]) := by
  refine ⟨fun w => ?_⟩
  have HK := hide hk.out
  clear hk
  go_enter Tryz.func30, Tryz.ntmps30
  go_wp2_with (first | (go_at_call 29; refine (HK.out _).mono ?_; rintro e w1 ⟨rfl, rfl⟩))
  go_ret
  exact ⟨rfl, rfl⟩

set_option maxHeartbeats 400000 in
theorem shape_66 (z : Int) (hk : KindOf z 66) : ShapeOf z (ByteArray.mk #[115, 116, 110]) := by
  refine ⟨fun w => ?_⟩
  have HK := hide hk.out
  clear hk
  go_enter Tryz.func30, Tryz.ntmps30
  go_wp2_with (first | (go_at_call 29; refine (HK.out _).mono ?_; rintro e w1 ⟨rfl, rfl⟩))
  go_ret
  exact ⟨rfl, rfl⟩

set_option maxHeartbeats 400000 in
theorem shape_83 (z : Int) (hk : KindOf z 83) : ShapeOf z (ByteArray.mk #[116, 109]) := by
  refine ⟨fun w => ?_⟩
  have HK := hide hk.out
  clear hk
  go_enter Tryz.func30, Tryz.ntmps30
  go_wp2_with (first | (go_at_call 29; refine (HK.out _).mono ?_; rintro e w1 ⟨rfl, rfl⟩))
  go_ret
  exact ⟨rfl, rfl⟩

set_option maxHeartbeats 400000 in
theorem shape_82 (z : Int) (hk : KindOf z 82) : ShapeOf z (ByteArray.mk #[100, 115, 116]) := by
  refine ⟨fun w => ?_⟩
  have HK := hide hk.out
  clear hk
  go_enter Tryz.func30, Tryz.ntmps30
  go_wp2_with (first | (go_at_call 29; refine (HK.out _).mono ?_; rintro e w1 ⟨rfl, rfl⟩))
  go_ret
  exact ⟨rfl, rfl⟩

set_option maxHeartbeats 400000 in
theorem shape_67 (z : Int) (hk : KindOf z 67) : ShapeOf z (ByteArray.mk #[100, 99, 122]) := by
  refine ⟨fun w => ?_⟩
  have HK := hide hk.out
  clear hk
  go_enter Tryz.func30, Tryz.ntmps30
  go_wp2_with (first | (go_at_call 29; refine (HK.out _).mono ?_; rintro e w1 ⟨rfl, rfl⟩))
  go_ret
  exact ⟨rfl, rfl⟩

set_option maxHeartbeats 400000 in
theorem shape_78 (z : Int) (hk : KindOf z 78) : ShapeOf z (ByteArray.mk #[]) := by
  refine ⟨fun w => ?_⟩
  have HK := hide hk.out
  clear hk
  go_enter Tryz.func30, Tryz.ntmps30
  go_wp2_with (first | (go_at_call 29; refine (HK.out _).mono ?_; rintro e w1 ⟨rfl, rfl⟩))
  go_ret
  exact ⟨rfl, rfl⟩

set_option maxHeartbeats 2000000 in
set_option maxRecDepth 100000 in
theorem rtext_85 (op rd r1 r2 im cs : Int) (nm A D : ByteArray) (w : World)
    (HC : Hid (∀ w, Calls Tryz.prog 27 #[.agg #[.int .i64 op, .int .i64 rd, .int .i64 r1, .int .i64 r2, .int .i64 im, .int .i64 cs]] w fun e w' => e = .returned (.int .i64 0) ∧ Below w.heap.size w w'))
    (hN : NameOf op nm) (sN : nm.size ≤ 8) (hK : KindOf op 85) (hS : ShapeOf op (ByteArray.mk #[100, 110])) (dA : DecOf rd A) (sA : A.size ≤ 21) (dD : DecOf (wrap64 (im.tdiv 4096)) D) (sD : D.size ≤ 21)  :
    Calls Tryz.prog 10 #[.agg #[.int .i64 op, .int .i64 rd, .int .i64 r1, .int .i64 r2, .int .i64 im, .int .i64 cs]] w fun e w' => e = .returned (.tuple #[.string (((((nm ++ (ByteArray.mk #[32])) ++ (ByteArray.mk #[120])) ++ A) ++ (ByteArray.mk #[44, 32])) ++ D), .int .i64 0]) ∧ Below w.heap.size w w' := by
  have HN := hide hN.out
  have HK := hide hK.out
  have HS := hide hS.out
  have HD : Hid (∀ z s, DecOf z s → ∀ w, Calls Tryz.prog 31 #[.int .i64 z] w fun e w' => e = .returned (.string s) ∧ w' = w) := fun z s h => h.out
  have HKeep : Hid (∀ a b, Below a.heap.size a b → (a.cell? ⟨w.heap.size, 0, none⟩ = some (.int .i64 op) ∧ a.cell? ⟨w.heap.size, 1, none⟩ = some (.int .i64 rd) ∧ a.cell? ⟨w.heap.size, 2, none⟩ = some (.int .i64 r1) ∧ a.cell? ⟨w.heap.size, 3, none⟩ = some (.int .i64 r2) ∧ a.cell? ⟨w.heap.size, 4, none⟩ = some (.int .i64 im) ∧ a.cell? ⟨w.heap.size, 5, none⟩ = some (.int .i64 cs) ∧ Below w.heap.size w a) → (b.cell? ⟨w.heap.size, 0, none⟩ = some (.int .i64 op) ∧ b.cell? ⟨w.heap.size, 1, none⟩ = some (.int .i64 rd) ∧ b.cell? ⟨w.heap.size, 2, none⟩ = some (.int .i64 r1) ∧ b.cell? ⟨w.heap.size, 3, none⟩ = some (.int .i64 r2) ∧ b.cell? ⟨w.heap.size, 4, none⟩ = some (.int .i64 im) ∧ b.cell? ⟨w.heap.size, 5, none⟩ = some (.int .i64 cs) ∧ Below w.heap.size w b)) := fun a b hb ⟨c0, c1, c2, c3, c4, c5, hBe⟩ => ⟨cell_bl hb c0, cell_bl hb c1, cell_bl hb c2, cell_bl hb c3, cell_bl hb c4, cell_bl hb c5, below_bl rfl hBe hb⟩
  clear hN hK hS
  have x0 : ∀ w, (Instr.index 9 (.string (ByteArray.mk #[100, 110])) (.int .i64 0)).run Tryz.prog w = .ok (.int .u8 100) w := fun _ => by kernel_rfl
  have x1 : ∀ w, (Instr.index 9 (.string (ByteArray.mk #[100, 110])) (.int .i64 1)).run Tryz.prog w = .ok (.int .u8 110) w := fun _ => by kernel_rfl
  go_enter Tryz.func10, Tryz.ntmps10
  go_wp2_with (fail)
  obtain ⟨W, hW⟩ : ∃ X, w.alloc (.cells #[.int .i64 op, .int .i64 rd, .int .i64 r1, .int .i64 r2, .int .i64 im, .int .i64 cs] 23) = X := ⟨_, rfl⟩
  have hR : RowAt W w.heap.size #[.int .i64 op, .int .i64 rd, .int .i64 r1, .int .i64 r2, .int .i64 im, .int .i64 cs] 23 := hW ▸ RowAt.new w _ _ _ rfl
  have hB : Below w.heap.size w W := hW ▸ below_one _ _
  have HR := hide hR
  have HB := hide hB
  rw [hW]
  clear hW hR hB
  refine (HC.out _).mono ?_
  rintro e X ⟨rfl, hb1⟩
  have hR := HR.out.bl hb1
  have hBe := below_bl rfl HB.out hb1
  have c0 : X.cell? ⟨w.heap.size, 0, none⟩ = some (.int .i64 op) := hR.cell 0
  have c1 : X.cell? ⟨w.heap.size, 1, none⟩ = some (.int .i64 rd) := hR.cell 1
  have c2 : X.cell? ⟨w.heap.size, 2, none⟩ = some (.int .i64 r1) := hR.cell 2
  have c3 : X.cell? ⟨w.heap.size, 3, none⟩ = some (.int .i64 r2) := hR.cell 3
  have c4 : X.cell? ⟨w.heap.size, 4, none⟩ = some (.int .i64 im) := hR.cell 4
  have c5 : X.cell? ⟨w.heap.size, 5, none⟩ = some (.int .i64 cs) := hR.cell 5
  clear HR HB hR hb1 HC
  have hBed := hBe.drew
  go_wp2_with (fail)
  go_region_held3 (fun w' => w'.cell? ⟨w.heap.size, 0, none⟩ = some (.int .i64 op) ∧ w'.cell? ⟨w.heap.size, 1, none⟩ = some (.int .i64 rd) ∧ w'.cell? ⟨w.heap.size, 2, none⟩ = some (.int .i64 r1) ∧ w'.cell? ⟨w.heap.size, 3, none⟩ = some (.int .i64 r2) ∧ w'.cell? ⟨w.heap.size, 4, none⟩ = some (.int .i64 im) ∧ w'.cell? ⟨w.heap.size, 5, none⟩ = some (.int .i64 cs) ∧ Below w.heap.size w w') (go_keep)
    (first | (go_at_call 28; refine (Calls.kept (S := fun v => v.cell? ⟨w.heap.size, 0, none⟩ = some (.int .i64 op) ∧ v.cell? ⟨w.heap.size, 1, none⟩ = some (.int .i64 rd) ∧ v.cell? ⟨w.heap.size, 2, none⟩ = some (.int .i64 r1) ∧ v.cell? ⟨w.heap.size, 3, none⟩ = some (.int .i64 r2) ∧ v.cell? ⟨w.heap.size, 4, none⟩ = some (.int .i64 im) ∧ v.cell? ⟨w.heap.size, 5, none⟩ = some (.int .i64 cs) ∧ Below w.heap.size w v) HKeep.out ?_ (HN.out _)).mono ?_; (simp [*]); rintro e w6 ⟨rfl, c0, c1, c2, c3, c4, c5, hBe⟩))
  go_wp2_with (first | (go_at_call 29; refine (HK.out _).mono ?_; rintro e w1 ⟨rfl, rfl⟩) | (go_at_call 30; refine (HS.out _).mono ?_; rintro e w1 ⟨rfl, rfl⟩))
  go_loopw [4, 7] (fun s i wr => ((i = .int .i64 0 ∧ s = .string nm) ∨ (i = .int .i64 1 ∧ s = .string (((nm ++ (ByteArray.mk #[32])) ++ (ByteArray.mk #[120])) ++ A)) ∨ (i = .int .i64 2 ∧ s = .string (((((nm ++ (ByteArray.mk #[32])) ++ (ByteArray.mk #[120])) ++ A) ++ (ByteArray.mk #[44, 32])) ++ D))) ∧ wr.cell? ⟨w.heap.size, 0, none⟩ = some (.int .i64 op) ∧ wr.cell? ⟨w.heap.size, 1, none⟩ = some (.int .i64 rd) ∧ wr.cell? ⟨w.heap.size, 2, none⟩ = some (.int .i64 r1) ∧ wr.cell? ⟨w.heap.size, 3, none⟩ = some (.int .i64 r2) ∧ wr.cell? ⟨w.heap.size, 4, none⟩ = some (.int .i64 im) ∧ wr.cell? ⟨w.heap.size, 5, none⟩ = some (.int .i64 cs) ∧ Below w.heap.size w wr) (fun _ i _ => 2 - (intOf i).toNat)
  case atStart => exact ⟨Or.inl ⟨rfl, rfl⟩, c0, c1, c2, c3, c4, c5, hBe⟩
  case round =>
    clear c0 c1 c2 c3 c4 c5 hBe
    obtain ⟨hs, c0, c1, c2, c3, c4, c5, hBe⟩ := hrel
    have HBe := hide hBe
    clear hBe
    rcases hs with ⟨rfl, rfl⟩ | ⟨rfl, rfl⟩ | ⟨rfl, rfl⟩
    · go_wp2_with (first | (go_at_call 31; refine (HD.out _ _ (by assumption) _).mono ?_; rintro e w1 ⟨rfl, rfl⟩))
      go_roundw
      case rel => exact ⟨Or.inr (Or.inl ⟨by go_num, rfl⟩), c0, c1, c2, c3, c4, c5, HBe.out⟩
      case measure => simp [intOf]
    · go_wp2_with (first | (go_at_call 31; refine (HD.out _ _ (by assumption) _).mono ?_; rintro e w1 ⟨rfl, rfl⟩))
      go_roundw
      case rel => exact ⟨Or.inr (Or.inr (⟨by go_num, rfl⟩)), c0, c1, c2, c3, c4, c5, HBe.out⟩
      case measure => simp [intOf]
    · go_wp2
      go_ret2
      exact ⟨rfl, HBe.out⟩

set_option maxHeartbeats 2000000 in
set_option maxRecDepth 100000 in
theorem rtext_74 (op rd r1 r2 im cs : Int) (nm A D : ByteArray) (w : World)
    (HC : Hid (∀ w, Calls Tryz.prog 27 #[.agg #[.int .i64 op, .int .i64 rd, .int .i64 r1, .int .i64 r2, .int .i64 im, .int .i64 cs]] w fun e w' => e = .returned (.int .i64 0) ∧ Below w.heap.size w w'))
    (hN : NameOf op nm) (sN : nm.size ≤ 8) (hK : KindOf op 74) (hS : ShapeOf op (ByteArray.mk #[100, 110])) (dA : DecOf rd A) (sA : A.size ≤ 21) (dD : DecOf im D) (sD : D.size ≤ 21)  :
    Calls Tryz.prog 10 #[.agg #[.int .i64 op, .int .i64 rd, .int .i64 r1, .int .i64 r2, .int .i64 im, .int .i64 cs]] w fun e w' => e = .returned (.tuple #[.string (((((nm ++ (ByteArray.mk #[32])) ++ (ByteArray.mk #[120])) ++ A) ++ (ByteArray.mk #[44, 32])) ++ D), .int .i64 0]) ∧ Below w.heap.size w w' := by
  have HN := hide hN.out
  have HK := hide hK.out
  have HS := hide hS.out
  have HD : Hid (∀ z s, DecOf z s → ∀ w, Calls Tryz.prog 31 #[.int .i64 z] w fun e w' => e = .returned (.string s) ∧ w' = w) := fun z s h => h.out
  have HKeep : Hid (∀ a b, Below a.heap.size a b → (a.cell? ⟨w.heap.size, 0, none⟩ = some (.int .i64 op) ∧ a.cell? ⟨w.heap.size, 1, none⟩ = some (.int .i64 rd) ∧ a.cell? ⟨w.heap.size, 2, none⟩ = some (.int .i64 r1) ∧ a.cell? ⟨w.heap.size, 3, none⟩ = some (.int .i64 r2) ∧ a.cell? ⟨w.heap.size, 4, none⟩ = some (.int .i64 im) ∧ a.cell? ⟨w.heap.size, 5, none⟩ = some (.int .i64 cs) ∧ Below w.heap.size w a) → (b.cell? ⟨w.heap.size, 0, none⟩ = some (.int .i64 op) ∧ b.cell? ⟨w.heap.size, 1, none⟩ = some (.int .i64 rd) ∧ b.cell? ⟨w.heap.size, 2, none⟩ = some (.int .i64 r1) ∧ b.cell? ⟨w.heap.size, 3, none⟩ = some (.int .i64 r2) ∧ b.cell? ⟨w.heap.size, 4, none⟩ = some (.int .i64 im) ∧ b.cell? ⟨w.heap.size, 5, none⟩ = some (.int .i64 cs) ∧ Below w.heap.size w b)) := fun a b hb ⟨c0, c1, c2, c3, c4, c5, hBe⟩ => ⟨cell_bl hb c0, cell_bl hb c1, cell_bl hb c2, cell_bl hb c3, cell_bl hb c4, cell_bl hb c5, below_bl rfl hBe hb⟩
  clear hN hK hS
  have x0 : ∀ w, (Instr.index 9 (.string (ByteArray.mk #[100, 110])) (.int .i64 0)).run Tryz.prog w = .ok (.int .u8 100) w := fun _ => by kernel_rfl
  have x1 : ∀ w, (Instr.index 9 (.string (ByteArray.mk #[100, 110])) (.int .i64 1)).run Tryz.prog w = .ok (.int .u8 110) w := fun _ => by kernel_rfl
  go_enter Tryz.func10, Tryz.ntmps10
  go_wp2_with (fail)
  obtain ⟨W, hW⟩ : ∃ X, w.alloc (.cells #[.int .i64 op, .int .i64 rd, .int .i64 r1, .int .i64 r2, .int .i64 im, .int .i64 cs] 23) = X := ⟨_, rfl⟩
  have hR : RowAt W w.heap.size #[.int .i64 op, .int .i64 rd, .int .i64 r1, .int .i64 r2, .int .i64 im, .int .i64 cs] 23 := hW ▸ RowAt.new w _ _ _ rfl
  have hB : Below w.heap.size w W := hW ▸ below_one _ _
  have HR := hide hR
  have HB := hide hB
  rw [hW]
  clear hW hR hB
  refine (HC.out _).mono ?_
  rintro e X ⟨rfl, hb1⟩
  have hR := HR.out.bl hb1
  have hBe := below_bl rfl HB.out hb1
  have c0 : X.cell? ⟨w.heap.size, 0, none⟩ = some (.int .i64 op) := hR.cell 0
  have c1 : X.cell? ⟨w.heap.size, 1, none⟩ = some (.int .i64 rd) := hR.cell 1
  have c2 : X.cell? ⟨w.heap.size, 2, none⟩ = some (.int .i64 r1) := hR.cell 2
  have c3 : X.cell? ⟨w.heap.size, 3, none⟩ = some (.int .i64 r2) := hR.cell 3
  have c4 : X.cell? ⟨w.heap.size, 4, none⟩ = some (.int .i64 im) := hR.cell 4
  have c5 : X.cell? ⟨w.heap.size, 5, none⟩ = some (.int .i64 cs) := hR.cell 5
  clear HR HB hR hb1 HC
  have hBed := hBe.drew
  go_wp2_with (fail)
  go_region_held3 (fun w' => w'.cell? ⟨w.heap.size, 0, none⟩ = some (.int .i64 op) ∧ w'.cell? ⟨w.heap.size, 1, none⟩ = some (.int .i64 rd) ∧ w'.cell? ⟨w.heap.size, 2, none⟩ = some (.int .i64 r1) ∧ w'.cell? ⟨w.heap.size, 3, none⟩ = some (.int .i64 r2) ∧ w'.cell? ⟨w.heap.size, 4, none⟩ = some (.int .i64 im) ∧ w'.cell? ⟨w.heap.size, 5, none⟩ = some (.int .i64 cs) ∧ Below w.heap.size w w') (go_keep)
    (first | (go_at_call 28; refine (Calls.kept (S := fun v => v.cell? ⟨w.heap.size, 0, none⟩ = some (.int .i64 op) ∧ v.cell? ⟨w.heap.size, 1, none⟩ = some (.int .i64 rd) ∧ v.cell? ⟨w.heap.size, 2, none⟩ = some (.int .i64 r1) ∧ v.cell? ⟨w.heap.size, 3, none⟩ = some (.int .i64 r2) ∧ v.cell? ⟨w.heap.size, 4, none⟩ = some (.int .i64 im) ∧ v.cell? ⟨w.heap.size, 5, none⟩ = some (.int .i64 cs) ∧ Below w.heap.size w v) HKeep.out ?_ (HN.out _)).mono ?_; (simp [*]); rintro e w6 ⟨rfl, c0, c1, c2, c3, c4, c5, hBe⟩))
  go_wp2_with (first | (go_at_call 29; refine (HK.out _).mono ?_; rintro e w1 ⟨rfl, rfl⟩) | (go_at_call 30; refine (HS.out _).mono ?_; rintro e w1 ⟨rfl, rfl⟩))
  go_loopw [4, 7] (fun s i wr => ((i = .int .i64 0 ∧ s = .string nm) ∨ (i = .int .i64 1 ∧ s = .string (((nm ++ (ByteArray.mk #[32])) ++ (ByteArray.mk #[120])) ++ A)) ∨ (i = .int .i64 2 ∧ s = .string (((((nm ++ (ByteArray.mk #[32])) ++ (ByteArray.mk #[120])) ++ A) ++ (ByteArray.mk #[44, 32])) ++ D))) ∧ wr.cell? ⟨w.heap.size, 0, none⟩ = some (.int .i64 op) ∧ wr.cell? ⟨w.heap.size, 1, none⟩ = some (.int .i64 rd) ∧ wr.cell? ⟨w.heap.size, 2, none⟩ = some (.int .i64 r1) ∧ wr.cell? ⟨w.heap.size, 3, none⟩ = some (.int .i64 r2) ∧ wr.cell? ⟨w.heap.size, 4, none⟩ = some (.int .i64 im) ∧ wr.cell? ⟨w.heap.size, 5, none⟩ = some (.int .i64 cs) ∧ Below w.heap.size w wr) (fun _ i _ => 2 - (intOf i).toNat)
  case atStart => exact ⟨Or.inl ⟨rfl, rfl⟩, c0, c1, c2, c3, c4, c5, hBe⟩
  case round =>
    clear c0 c1 c2 c3 c4 c5 hBe
    obtain ⟨hs, c0, c1, c2, c3, c4, c5, hBe⟩ := hrel
    have HBe := hide hBe
    clear hBe
    rcases hs with ⟨rfl, rfl⟩ | ⟨rfl, rfl⟩ | ⟨rfl, rfl⟩
    · go_wp2_with (first | (go_at_call 31; refine (HD.out _ _ (by assumption) _).mono ?_; rintro e w1 ⟨rfl, rfl⟩))
      go_roundw
      case rel => exact ⟨Or.inr (Or.inl ⟨by go_num, rfl⟩), c0, c1, c2, c3, c4, c5, HBe.out⟩
      case measure => simp [intOf]
    · go_wp2_with (first | (go_at_call 31; refine (HD.out _ _ (by assumption) _).mono ?_; rintro e w1 ⟨rfl, rfl⟩))
      go_roundw
      case rel => exact ⟨Or.inr (Or.inr (⟨by go_num, rfl⟩)), c0, c1, c2, c3, c4, c5, HBe.out⟩
      case measure => simp [intOf]
    · go_wp2
      go_ret2
      exact ⟨rfl, HBe.out⟩

set_option maxHeartbeats 2000000 in
set_option maxRecDepth 100000 in
theorem rtext_73 (op rd r1 r2 im cs : Int) (nm A B D : ByteArray) (w : World)
    (HC : Hid (∀ w, Calls Tryz.prog 27 #[.agg #[.int .i64 op, .int .i64 rd, .int .i64 r1, .int .i64 r2, .int .i64 im, .int .i64 cs]] w fun e w' => e = .returned (.int .i64 0) ∧ Below w.heap.size w w'))
    (hN : NameOf op nm) (sN : nm.size ≤ 8) (hK : KindOf op 73) (hS : ShapeOf op (ByteArray.mk #[100, 115, 110])) (dA : DecOf rd A) (sA : A.size ≤ 21) (dB : DecOf r1 B) (sB : B.size ≤ 21) (dD : DecOf im D) (sD : D.size ≤ 21)  :
    Calls Tryz.prog 10 #[.agg #[.int .i64 op, .int .i64 rd, .int .i64 r1, .int .i64 r2, .int .i64 im, .int .i64 cs]] w fun e w' => e = .returned (.tuple #[.string ((((((((nm ++ (ByteArray.mk #[32])) ++ (ByteArray.mk #[120])) ++ A) ++ (ByteArray.mk #[44, 32])) ++ (ByteArray.mk #[120])) ++ B) ++ (ByteArray.mk #[44, 32])) ++ D), .int .i64 0]) ∧ Below w.heap.size w w' := by
  have HN := hide hN.out
  have HK := hide hK.out
  have HS := hide hS.out
  have HD : Hid (∀ z s, DecOf z s → ∀ w, Calls Tryz.prog 31 #[.int .i64 z] w fun e w' => e = .returned (.string s) ∧ w' = w) := fun z s h => h.out
  have HKeep : Hid (∀ a b, Below a.heap.size a b → (a.cell? ⟨w.heap.size, 0, none⟩ = some (.int .i64 op) ∧ a.cell? ⟨w.heap.size, 1, none⟩ = some (.int .i64 rd) ∧ a.cell? ⟨w.heap.size, 2, none⟩ = some (.int .i64 r1) ∧ a.cell? ⟨w.heap.size, 3, none⟩ = some (.int .i64 r2) ∧ a.cell? ⟨w.heap.size, 4, none⟩ = some (.int .i64 im) ∧ a.cell? ⟨w.heap.size, 5, none⟩ = some (.int .i64 cs) ∧ Below w.heap.size w a) → (b.cell? ⟨w.heap.size, 0, none⟩ = some (.int .i64 op) ∧ b.cell? ⟨w.heap.size, 1, none⟩ = some (.int .i64 rd) ∧ b.cell? ⟨w.heap.size, 2, none⟩ = some (.int .i64 r1) ∧ b.cell? ⟨w.heap.size, 3, none⟩ = some (.int .i64 r2) ∧ b.cell? ⟨w.heap.size, 4, none⟩ = some (.int .i64 im) ∧ b.cell? ⟨w.heap.size, 5, none⟩ = some (.int .i64 cs) ∧ Below w.heap.size w b)) := fun a b hb ⟨c0, c1, c2, c3, c4, c5, hBe⟩ => ⟨cell_bl hb c0, cell_bl hb c1, cell_bl hb c2, cell_bl hb c3, cell_bl hb c4, cell_bl hb c5, below_bl rfl hBe hb⟩
  clear hN hK hS
  have x0 : ∀ w, (Instr.index 9 (.string (ByteArray.mk #[100, 115, 110])) (.int .i64 0)).run Tryz.prog w = .ok (.int .u8 100) w := fun _ => by kernel_rfl
  have x1 : ∀ w, (Instr.index 9 (.string (ByteArray.mk #[100, 115, 110])) (.int .i64 1)).run Tryz.prog w = .ok (.int .u8 115) w := fun _ => by kernel_rfl
  have x2 : ∀ w, (Instr.index 9 (.string (ByteArray.mk #[100, 115, 110])) (.int .i64 2)).run Tryz.prog w = .ok (.int .u8 110) w := fun _ => by kernel_rfl
  go_enter Tryz.func10, Tryz.ntmps10
  go_wp2_with (fail)
  obtain ⟨W, hW⟩ : ∃ X, w.alloc (.cells #[.int .i64 op, .int .i64 rd, .int .i64 r1, .int .i64 r2, .int .i64 im, .int .i64 cs] 23) = X := ⟨_, rfl⟩
  have hR : RowAt W w.heap.size #[.int .i64 op, .int .i64 rd, .int .i64 r1, .int .i64 r2, .int .i64 im, .int .i64 cs] 23 := hW ▸ RowAt.new w _ _ _ rfl
  have hB : Below w.heap.size w W := hW ▸ below_one _ _
  have HR := hide hR
  have HB := hide hB
  rw [hW]
  clear hW hR hB
  refine (HC.out _).mono ?_
  rintro e X ⟨rfl, hb1⟩
  have hR := HR.out.bl hb1
  have hBe := below_bl rfl HB.out hb1
  have c0 : X.cell? ⟨w.heap.size, 0, none⟩ = some (.int .i64 op) := hR.cell 0
  have c1 : X.cell? ⟨w.heap.size, 1, none⟩ = some (.int .i64 rd) := hR.cell 1
  have c2 : X.cell? ⟨w.heap.size, 2, none⟩ = some (.int .i64 r1) := hR.cell 2
  have c3 : X.cell? ⟨w.heap.size, 3, none⟩ = some (.int .i64 r2) := hR.cell 3
  have c4 : X.cell? ⟨w.heap.size, 4, none⟩ = some (.int .i64 im) := hR.cell 4
  have c5 : X.cell? ⟨w.heap.size, 5, none⟩ = some (.int .i64 cs) := hR.cell 5
  clear HR HB hR hb1 HC
  have hBed := hBe.drew
  go_wp2_with (fail)
  go_region_held3 (fun w' => w'.cell? ⟨w.heap.size, 0, none⟩ = some (.int .i64 op) ∧ w'.cell? ⟨w.heap.size, 1, none⟩ = some (.int .i64 rd) ∧ w'.cell? ⟨w.heap.size, 2, none⟩ = some (.int .i64 r1) ∧ w'.cell? ⟨w.heap.size, 3, none⟩ = some (.int .i64 r2) ∧ w'.cell? ⟨w.heap.size, 4, none⟩ = some (.int .i64 im) ∧ w'.cell? ⟨w.heap.size, 5, none⟩ = some (.int .i64 cs) ∧ Below w.heap.size w w') (go_keep)
    (first | (go_at_call 28; refine (Calls.kept (S := fun v => v.cell? ⟨w.heap.size, 0, none⟩ = some (.int .i64 op) ∧ v.cell? ⟨w.heap.size, 1, none⟩ = some (.int .i64 rd) ∧ v.cell? ⟨w.heap.size, 2, none⟩ = some (.int .i64 r1) ∧ v.cell? ⟨w.heap.size, 3, none⟩ = some (.int .i64 r2) ∧ v.cell? ⟨w.heap.size, 4, none⟩ = some (.int .i64 im) ∧ v.cell? ⟨w.heap.size, 5, none⟩ = some (.int .i64 cs) ∧ Below w.heap.size w v) HKeep.out ?_ (HN.out _)).mono ?_; (simp [*]); rintro e w6 ⟨rfl, c0, c1, c2, c3, c4, c5, hBe⟩))
  go_wp2_with (first | (go_at_call 29; refine (HK.out _).mono ?_; rintro e w1 ⟨rfl, rfl⟩) | (go_at_call 30; refine (HS.out _).mono ?_; rintro e w1 ⟨rfl, rfl⟩))
  go_loopw [4, 7] (fun s i wr => ((i = .int .i64 0 ∧ s = .string nm) ∨ (i = .int .i64 1 ∧ s = .string (((nm ++ (ByteArray.mk #[32])) ++ (ByteArray.mk #[120])) ++ A)) ∨ (i = .int .i64 2 ∧ s = .string ((((((nm ++ (ByteArray.mk #[32])) ++ (ByteArray.mk #[120])) ++ A) ++ (ByteArray.mk #[44, 32])) ++ (ByteArray.mk #[120])) ++ B)) ∨ (i = .int .i64 3 ∧ s = .string ((((((((nm ++ (ByteArray.mk #[32])) ++ (ByteArray.mk #[120])) ++ A) ++ (ByteArray.mk #[44, 32])) ++ (ByteArray.mk #[120])) ++ B) ++ (ByteArray.mk #[44, 32])) ++ D))) ∧ wr.cell? ⟨w.heap.size, 0, none⟩ = some (.int .i64 op) ∧ wr.cell? ⟨w.heap.size, 1, none⟩ = some (.int .i64 rd) ∧ wr.cell? ⟨w.heap.size, 2, none⟩ = some (.int .i64 r1) ∧ wr.cell? ⟨w.heap.size, 3, none⟩ = some (.int .i64 r2) ∧ wr.cell? ⟨w.heap.size, 4, none⟩ = some (.int .i64 im) ∧ wr.cell? ⟨w.heap.size, 5, none⟩ = some (.int .i64 cs) ∧ Below w.heap.size w wr) (fun _ i _ => 3 - (intOf i).toNat)
  case atStart => exact ⟨Or.inl ⟨rfl, rfl⟩, c0, c1, c2, c3, c4, c5, hBe⟩
  case round =>
    clear c0 c1 c2 c3 c4 c5 hBe
    obtain ⟨hs, c0, c1, c2, c3, c4, c5, hBe⟩ := hrel
    have HBe := hide hBe
    clear hBe
    rcases hs with ⟨rfl, rfl⟩ | ⟨rfl, rfl⟩ | ⟨rfl, rfl⟩ | ⟨rfl, rfl⟩
    · go_wp2_with (first | (go_at_call 31; refine (HD.out _ _ (by assumption) _).mono ?_; rintro e w1 ⟨rfl, rfl⟩))
      go_roundw
      case rel => exact ⟨Or.inr (Or.inl ⟨by go_num, rfl⟩), c0, c1, c2, c3, c4, c5, HBe.out⟩
      case measure => simp [intOf]
    · go_wp2_with (first | (go_at_call 31; refine (HD.out _ _ (by assumption) _).mono ?_; rintro e w1 ⟨rfl, rfl⟩))
      go_roundw
      case rel => exact ⟨Or.inr (Or.inr (Or.inl ⟨by go_num, rfl⟩)), c0, c1, c2, c3, c4, c5, HBe.out⟩
      case measure => simp [intOf]
    · go_wp2_with (first | (go_at_call 31; refine (HD.out _ _ (by assumption) _).mono ?_; rintro e w1 ⟨rfl, rfl⟩))
      go_roundw
      case rel => exact ⟨Or.inr (Or.inr (Or.inr (⟨by go_num, rfl⟩))), c0, c1, c2, c3, c4, c5, HBe.out⟩
      case measure => simp [intOf]
    · go_wp2
      go_ret2
      exact ⟨rfl, HBe.out⟩

set_option maxHeartbeats 2000000 in
set_option maxRecDepth 100000 in
theorem rtext_70 (op rd r1 r2 im cs : Int) (nm A B D : ByteArray) (w : World)
    (HC : Hid (∀ w, Calls Tryz.prog 27 #[.agg #[.int .i64 op, .int .i64 rd, .int .i64 r1, .int .i64 r2, .int .i64 im, .int .i64 cs]] w fun e w' => e = .returned (.int .i64 0) ∧ Below w.heap.size w w'))
    (hN : NameOf op nm) (sN : nm.size ≤ 8) (hK : KindOf op 70) (hS : ShapeOf op (ByteArray.mk #[100, 115, 110])) (dA : DecOf rd A) (sA : A.size ≤ 21) (dB : DecOf r1 B) (sB : B.size ≤ 21) (dD : DecOf im D) (sD : D.size ≤ 21)  :
    Calls Tryz.prog 10 #[.agg #[.int .i64 op, .int .i64 rd, .int .i64 r1, .int .i64 r2, .int .i64 im, .int .i64 cs]] w fun e w' => e = .returned (.tuple #[.string ((((((((nm ++ (ByteArray.mk #[32])) ++ (ByteArray.mk #[120])) ++ A) ++ (ByteArray.mk #[44, 32])) ++ (ByteArray.mk #[120])) ++ B) ++ (ByteArray.mk #[44, 32])) ++ D), .int .i64 0]) ∧ Below w.heap.size w w' := by
  have HN := hide hN.out
  have HK := hide hK.out
  have HS := hide hS.out
  have HD : Hid (∀ z s, DecOf z s → ∀ w, Calls Tryz.prog 31 #[.int .i64 z] w fun e w' => e = .returned (.string s) ∧ w' = w) := fun z s h => h.out
  have HKeep : Hid (∀ a b, Below a.heap.size a b → (a.cell? ⟨w.heap.size, 0, none⟩ = some (.int .i64 op) ∧ a.cell? ⟨w.heap.size, 1, none⟩ = some (.int .i64 rd) ∧ a.cell? ⟨w.heap.size, 2, none⟩ = some (.int .i64 r1) ∧ a.cell? ⟨w.heap.size, 3, none⟩ = some (.int .i64 r2) ∧ a.cell? ⟨w.heap.size, 4, none⟩ = some (.int .i64 im) ∧ a.cell? ⟨w.heap.size, 5, none⟩ = some (.int .i64 cs) ∧ Below w.heap.size w a) → (b.cell? ⟨w.heap.size, 0, none⟩ = some (.int .i64 op) ∧ b.cell? ⟨w.heap.size, 1, none⟩ = some (.int .i64 rd) ∧ b.cell? ⟨w.heap.size, 2, none⟩ = some (.int .i64 r1) ∧ b.cell? ⟨w.heap.size, 3, none⟩ = some (.int .i64 r2) ∧ b.cell? ⟨w.heap.size, 4, none⟩ = some (.int .i64 im) ∧ b.cell? ⟨w.heap.size, 5, none⟩ = some (.int .i64 cs) ∧ Below w.heap.size w b)) := fun a b hb ⟨c0, c1, c2, c3, c4, c5, hBe⟩ => ⟨cell_bl hb c0, cell_bl hb c1, cell_bl hb c2, cell_bl hb c3, cell_bl hb c4, cell_bl hb c5, below_bl rfl hBe hb⟩
  clear hN hK hS
  have x0 : ∀ w, (Instr.index 9 (.string (ByteArray.mk #[100, 115, 110])) (.int .i64 0)).run Tryz.prog w = .ok (.int .u8 100) w := fun _ => by kernel_rfl
  have x1 : ∀ w, (Instr.index 9 (.string (ByteArray.mk #[100, 115, 110])) (.int .i64 1)).run Tryz.prog w = .ok (.int .u8 115) w := fun _ => by kernel_rfl
  have x2 : ∀ w, (Instr.index 9 (.string (ByteArray.mk #[100, 115, 110])) (.int .i64 2)).run Tryz.prog w = .ok (.int .u8 110) w := fun _ => by kernel_rfl
  go_enter Tryz.func10, Tryz.ntmps10
  go_wp2_with (fail)
  obtain ⟨W, hW⟩ : ∃ X, w.alloc (.cells #[.int .i64 op, .int .i64 rd, .int .i64 r1, .int .i64 r2, .int .i64 im, .int .i64 cs] 23) = X := ⟨_, rfl⟩
  have hR : RowAt W w.heap.size #[.int .i64 op, .int .i64 rd, .int .i64 r1, .int .i64 r2, .int .i64 im, .int .i64 cs] 23 := hW ▸ RowAt.new w _ _ _ rfl
  have hB : Below w.heap.size w W := hW ▸ below_one _ _
  have HR := hide hR
  have HB := hide hB
  rw [hW]
  clear hW hR hB
  refine (HC.out _).mono ?_
  rintro e X ⟨rfl, hb1⟩
  have hR := HR.out.bl hb1
  have hBe := below_bl rfl HB.out hb1
  have c0 : X.cell? ⟨w.heap.size, 0, none⟩ = some (.int .i64 op) := hR.cell 0
  have c1 : X.cell? ⟨w.heap.size, 1, none⟩ = some (.int .i64 rd) := hR.cell 1
  have c2 : X.cell? ⟨w.heap.size, 2, none⟩ = some (.int .i64 r1) := hR.cell 2
  have c3 : X.cell? ⟨w.heap.size, 3, none⟩ = some (.int .i64 r2) := hR.cell 3
  have c4 : X.cell? ⟨w.heap.size, 4, none⟩ = some (.int .i64 im) := hR.cell 4
  have c5 : X.cell? ⟨w.heap.size, 5, none⟩ = some (.int .i64 cs) := hR.cell 5
  clear HR HB hR hb1 HC
  have hBed := hBe.drew
  go_wp2_with (fail)
  go_region_held3 (fun w' => w'.cell? ⟨w.heap.size, 0, none⟩ = some (.int .i64 op) ∧ w'.cell? ⟨w.heap.size, 1, none⟩ = some (.int .i64 rd) ∧ w'.cell? ⟨w.heap.size, 2, none⟩ = some (.int .i64 r1) ∧ w'.cell? ⟨w.heap.size, 3, none⟩ = some (.int .i64 r2) ∧ w'.cell? ⟨w.heap.size, 4, none⟩ = some (.int .i64 im) ∧ w'.cell? ⟨w.heap.size, 5, none⟩ = some (.int .i64 cs) ∧ Below w.heap.size w w') (go_keep)
    (first | (go_at_call 28; refine (Calls.kept (S := fun v => v.cell? ⟨w.heap.size, 0, none⟩ = some (.int .i64 op) ∧ v.cell? ⟨w.heap.size, 1, none⟩ = some (.int .i64 rd) ∧ v.cell? ⟨w.heap.size, 2, none⟩ = some (.int .i64 r1) ∧ v.cell? ⟨w.heap.size, 3, none⟩ = some (.int .i64 r2) ∧ v.cell? ⟨w.heap.size, 4, none⟩ = some (.int .i64 im) ∧ v.cell? ⟨w.heap.size, 5, none⟩ = some (.int .i64 cs) ∧ Below w.heap.size w v) HKeep.out ?_ (HN.out _)).mono ?_; (simp [*]); rintro e w6 ⟨rfl, c0, c1, c2, c3, c4, c5, hBe⟩))
  go_wp2_with (first | (go_at_call 29; refine (HK.out _).mono ?_; rintro e w1 ⟨rfl, rfl⟩) | (go_at_call 30; refine (HS.out _).mono ?_; rintro e w1 ⟨rfl, rfl⟩))
  go_loopw [4, 7] (fun s i wr => ((i = .int .i64 0 ∧ s = .string nm) ∨ (i = .int .i64 1 ∧ s = .string (((nm ++ (ByteArray.mk #[32])) ++ (ByteArray.mk #[120])) ++ A)) ∨ (i = .int .i64 2 ∧ s = .string ((((((nm ++ (ByteArray.mk #[32])) ++ (ByteArray.mk #[120])) ++ A) ++ (ByteArray.mk #[44, 32])) ++ (ByteArray.mk #[120])) ++ B)) ∨ (i = .int .i64 3 ∧ s = .string ((((((((nm ++ (ByteArray.mk #[32])) ++ (ByteArray.mk #[120])) ++ A) ++ (ByteArray.mk #[44, 32])) ++ (ByteArray.mk #[120])) ++ B) ++ (ByteArray.mk #[44, 32])) ++ D))) ∧ wr.cell? ⟨w.heap.size, 0, none⟩ = some (.int .i64 op) ∧ wr.cell? ⟨w.heap.size, 1, none⟩ = some (.int .i64 rd) ∧ wr.cell? ⟨w.heap.size, 2, none⟩ = some (.int .i64 r1) ∧ wr.cell? ⟨w.heap.size, 3, none⟩ = some (.int .i64 r2) ∧ wr.cell? ⟨w.heap.size, 4, none⟩ = some (.int .i64 im) ∧ wr.cell? ⟨w.heap.size, 5, none⟩ = some (.int .i64 cs) ∧ Below w.heap.size w wr) (fun _ i _ => 3 - (intOf i).toNat)
  case atStart => exact ⟨Or.inl ⟨rfl, rfl⟩, c0, c1, c2, c3, c4, c5, hBe⟩
  case round =>
    clear c0 c1 c2 c3 c4 c5 hBe
    obtain ⟨hs, c0, c1, c2, c3, c4, c5, hBe⟩ := hrel
    have HBe := hide hBe
    clear hBe
    rcases hs with ⟨rfl, rfl⟩ | ⟨rfl, rfl⟩ | ⟨rfl, rfl⟩ | ⟨rfl, rfl⟩
    · go_wp2_with (first | (go_at_call 31; refine (HD.out _ _ (by assumption) _).mono ?_; rintro e w1 ⟨rfl, rfl⟩))
      go_roundw
      case rel => exact ⟨Or.inr (Or.inl ⟨by go_num, rfl⟩), c0, c1, c2, c3, c4, c5, HBe.out⟩
      case measure => simp [intOf]
    · go_wp2_with (first | (go_at_call 31; refine (HD.out _ _ (by assumption) _).mono ?_; rintro e w1 ⟨rfl, rfl⟩))
      go_roundw
      case rel => exact ⟨Or.inr (Or.inr (Or.inl ⟨by go_num, rfl⟩)), c0, c1, c2, c3, c4, c5, HBe.out⟩
      case measure => simp [intOf]
    · go_wp2_with (first | (go_at_call 31; refine (HD.out _ _ (by assumption) _).mono ?_; rintro e w1 ⟨rfl, rfl⟩))
      go_roundw
      case rel => exact ⟨Or.inr (Or.inr (Or.inr (⟨by go_num, rfl⟩))), c0, c1, c2, c3, c4, c5, HBe.out⟩
      case measure => simp [intOf]
    · go_wp2
      go_ret2
      exact ⟨rfl, HBe.out⟩

set_option maxHeartbeats 2000000 in
set_option maxRecDepth 100000 in
theorem rtext_72 (op rd r1 r2 im cs : Int) (nm A B D : ByteArray) (w : World)
    (HC : Hid (∀ w, Calls Tryz.prog 27 #[.agg #[.int .i64 op, .int .i64 rd, .int .i64 r1, .int .i64 r2, .int .i64 im, .int .i64 cs]] w fun e w' => e = .returned (.int .i64 0) ∧ Below w.heap.size w w'))
    (hN : NameOf op nm) (sN : nm.size ≤ 8) (hK : KindOf op 72) (hS : ShapeOf op (ByteArray.mk #[100, 115, 110])) (dA : DecOf rd A) (sA : A.size ≤ 21) (dB : DecOf r1 B) (sB : B.size ≤ 21) (dD : DecOf im D) (sD : D.size ≤ 21)  :
    Calls Tryz.prog 10 #[.agg #[.int .i64 op, .int .i64 rd, .int .i64 r1, .int .i64 r2, .int .i64 im, .int .i64 cs]] w fun e w' => e = .returned (.tuple #[.string ((((((((nm ++ (ByteArray.mk #[32])) ++ (ByteArray.mk #[120])) ++ A) ++ (ByteArray.mk #[44, 32])) ++ (ByteArray.mk #[120])) ++ B) ++ (ByteArray.mk #[44, 32])) ++ D), .int .i64 0]) ∧ Below w.heap.size w w' := by
  have HN := hide hN.out
  have HK := hide hK.out
  have HS := hide hS.out
  have HD : Hid (∀ z s, DecOf z s → ∀ w, Calls Tryz.prog 31 #[.int .i64 z] w fun e w' => e = .returned (.string s) ∧ w' = w) := fun z s h => h.out
  have HKeep : Hid (∀ a b, Below a.heap.size a b → (a.cell? ⟨w.heap.size, 0, none⟩ = some (.int .i64 op) ∧ a.cell? ⟨w.heap.size, 1, none⟩ = some (.int .i64 rd) ∧ a.cell? ⟨w.heap.size, 2, none⟩ = some (.int .i64 r1) ∧ a.cell? ⟨w.heap.size, 3, none⟩ = some (.int .i64 r2) ∧ a.cell? ⟨w.heap.size, 4, none⟩ = some (.int .i64 im) ∧ a.cell? ⟨w.heap.size, 5, none⟩ = some (.int .i64 cs) ∧ Below w.heap.size w a) → (b.cell? ⟨w.heap.size, 0, none⟩ = some (.int .i64 op) ∧ b.cell? ⟨w.heap.size, 1, none⟩ = some (.int .i64 rd) ∧ b.cell? ⟨w.heap.size, 2, none⟩ = some (.int .i64 r1) ∧ b.cell? ⟨w.heap.size, 3, none⟩ = some (.int .i64 r2) ∧ b.cell? ⟨w.heap.size, 4, none⟩ = some (.int .i64 im) ∧ b.cell? ⟨w.heap.size, 5, none⟩ = some (.int .i64 cs) ∧ Below w.heap.size w b)) := fun a b hb ⟨c0, c1, c2, c3, c4, c5, hBe⟩ => ⟨cell_bl hb c0, cell_bl hb c1, cell_bl hb c2, cell_bl hb c3, cell_bl hb c4, cell_bl hb c5, below_bl rfl hBe hb⟩
  clear hN hK hS
  have x0 : ∀ w, (Instr.index 9 (.string (ByteArray.mk #[100, 115, 110])) (.int .i64 0)).run Tryz.prog w = .ok (.int .u8 100) w := fun _ => by kernel_rfl
  have x1 : ∀ w, (Instr.index 9 (.string (ByteArray.mk #[100, 115, 110])) (.int .i64 1)).run Tryz.prog w = .ok (.int .u8 115) w := fun _ => by kernel_rfl
  have x2 : ∀ w, (Instr.index 9 (.string (ByteArray.mk #[100, 115, 110])) (.int .i64 2)).run Tryz.prog w = .ok (.int .u8 110) w := fun _ => by kernel_rfl
  go_enter Tryz.func10, Tryz.ntmps10
  go_wp2_with (fail)
  obtain ⟨W, hW⟩ : ∃ X, w.alloc (.cells #[.int .i64 op, .int .i64 rd, .int .i64 r1, .int .i64 r2, .int .i64 im, .int .i64 cs] 23) = X := ⟨_, rfl⟩
  have hR : RowAt W w.heap.size #[.int .i64 op, .int .i64 rd, .int .i64 r1, .int .i64 r2, .int .i64 im, .int .i64 cs] 23 := hW ▸ RowAt.new w _ _ _ rfl
  have hB : Below w.heap.size w W := hW ▸ below_one _ _
  have HR := hide hR
  have HB := hide hB
  rw [hW]
  clear hW hR hB
  refine (HC.out _).mono ?_
  rintro e X ⟨rfl, hb1⟩
  have hR := HR.out.bl hb1
  have hBe := below_bl rfl HB.out hb1
  have c0 : X.cell? ⟨w.heap.size, 0, none⟩ = some (.int .i64 op) := hR.cell 0
  have c1 : X.cell? ⟨w.heap.size, 1, none⟩ = some (.int .i64 rd) := hR.cell 1
  have c2 : X.cell? ⟨w.heap.size, 2, none⟩ = some (.int .i64 r1) := hR.cell 2
  have c3 : X.cell? ⟨w.heap.size, 3, none⟩ = some (.int .i64 r2) := hR.cell 3
  have c4 : X.cell? ⟨w.heap.size, 4, none⟩ = some (.int .i64 im) := hR.cell 4
  have c5 : X.cell? ⟨w.heap.size, 5, none⟩ = some (.int .i64 cs) := hR.cell 5
  clear HR HB hR hb1 HC
  have hBed := hBe.drew
  go_wp2_with (fail)
  go_region_held3 (fun w' => w'.cell? ⟨w.heap.size, 0, none⟩ = some (.int .i64 op) ∧ w'.cell? ⟨w.heap.size, 1, none⟩ = some (.int .i64 rd) ∧ w'.cell? ⟨w.heap.size, 2, none⟩ = some (.int .i64 r1) ∧ w'.cell? ⟨w.heap.size, 3, none⟩ = some (.int .i64 r2) ∧ w'.cell? ⟨w.heap.size, 4, none⟩ = some (.int .i64 im) ∧ w'.cell? ⟨w.heap.size, 5, none⟩ = some (.int .i64 cs) ∧ Below w.heap.size w w') (go_keep)
    (first | (go_at_call 28; refine (Calls.kept (S := fun v => v.cell? ⟨w.heap.size, 0, none⟩ = some (.int .i64 op) ∧ v.cell? ⟨w.heap.size, 1, none⟩ = some (.int .i64 rd) ∧ v.cell? ⟨w.heap.size, 2, none⟩ = some (.int .i64 r1) ∧ v.cell? ⟨w.heap.size, 3, none⟩ = some (.int .i64 r2) ∧ v.cell? ⟨w.heap.size, 4, none⟩ = some (.int .i64 im) ∧ v.cell? ⟨w.heap.size, 5, none⟩ = some (.int .i64 cs) ∧ Below w.heap.size w v) HKeep.out ?_ (HN.out _)).mono ?_; (simp [*]); rintro e w6 ⟨rfl, c0, c1, c2, c3, c4, c5, hBe⟩))
  go_wp2_with (first | (go_at_call 29; refine (HK.out _).mono ?_; rintro e w1 ⟨rfl, rfl⟩) | (go_at_call 30; refine (HS.out _).mono ?_; rintro e w1 ⟨rfl, rfl⟩))
  go_loopw [4, 7] (fun s i wr => ((i = .int .i64 0 ∧ s = .string nm) ∨ (i = .int .i64 1 ∧ s = .string (((nm ++ (ByteArray.mk #[32])) ++ (ByteArray.mk #[120])) ++ A)) ∨ (i = .int .i64 2 ∧ s = .string ((((((nm ++ (ByteArray.mk #[32])) ++ (ByteArray.mk #[120])) ++ A) ++ (ByteArray.mk #[44, 32])) ++ (ByteArray.mk #[120])) ++ B)) ∨ (i = .int .i64 3 ∧ s = .string ((((((((nm ++ (ByteArray.mk #[32])) ++ (ByteArray.mk #[120])) ++ A) ++ (ByteArray.mk #[44, 32])) ++ (ByteArray.mk #[120])) ++ B) ++ (ByteArray.mk #[44, 32])) ++ D))) ∧ wr.cell? ⟨w.heap.size, 0, none⟩ = some (.int .i64 op) ∧ wr.cell? ⟨w.heap.size, 1, none⟩ = some (.int .i64 rd) ∧ wr.cell? ⟨w.heap.size, 2, none⟩ = some (.int .i64 r1) ∧ wr.cell? ⟨w.heap.size, 3, none⟩ = some (.int .i64 r2) ∧ wr.cell? ⟨w.heap.size, 4, none⟩ = some (.int .i64 im) ∧ wr.cell? ⟨w.heap.size, 5, none⟩ = some (.int .i64 cs) ∧ Below w.heap.size w wr) (fun _ i _ => 3 - (intOf i).toNat)
  case atStart => exact ⟨Or.inl ⟨rfl, rfl⟩, c0, c1, c2, c3, c4, c5, hBe⟩
  case round =>
    clear c0 c1 c2 c3 c4 c5 hBe
    obtain ⟨hs, c0, c1, c2, c3, c4, c5, hBe⟩ := hrel
    have HBe := hide hBe
    clear hBe
    rcases hs with ⟨rfl, rfl⟩ | ⟨rfl, rfl⟩ | ⟨rfl, rfl⟩ | ⟨rfl, rfl⟩
    · go_wp2_with (first | (go_at_call 31; refine (HD.out _ _ (by assumption) _).mono ?_; rintro e w1 ⟨rfl, rfl⟩))
      go_roundw
      case rel => exact ⟨Or.inr (Or.inl ⟨by go_num, rfl⟩), c0, c1, c2, c3, c4, c5, HBe.out⟩
      case measure => simp [intOf]
    · go_wp2_with (first | (go_at_call 31; refine (HD.out _ _ (by assumption) _).mono ?_; rintro e w1 ⟨rfl, rfl⟩))
      go_roundw
      case rel => exact ⟨Or.inr (Or.inr (Or.inl ⟨by go_num, rfl⟩)), c0, c1, c2, c3, c4, c5, HBe.out⟩
      case measure => simp [intOf]
    · go_wp2_with (first | (go_at_call 31; refine (HD.out _ _ (by assumption) _).mono ?_; rintro e w1 ⟨rfl, rfl⟩))
      go_roundw
      case rel => exact ⟨Or.inr (Or.inr (Or.inr (⟨by go_num, rfl⟩))), c0, c1, c2, c3, c4, c5, HBe.out⟩
      case measure => simp [intOf]
    · go_wp2
      go_ret2
      exact ⟨rfl, HBe.out⟩

set_option maxHeartbeats 2000000 in
set_option maxRecDepth 100000 in
theorem rtext_76 (op rd r1 r2 im cs : Int) (nm A B D : ByteArray) (w : World)
    (HC : Hid (∀ w, Calls Tryz.prog 27 #[.agg #[.int .i64 op, .int .i64 rd, .int .i64 r1, .int .i64 r2, .int .i64 im, .int .i64 cs]] w fun e w' => e = .returned (.int .i64 0) ∧ Below w.heap.size w w'))
    (hN : NameOf op nm) (sN : nm.size ≤ 8) (hK : KindOf op 76) (hS : ShapeOf op (ByteArray.mk #[100, 109])) (dA : DecOf rd A) (sA : A.size ≤ 21) (dB : DecOf r1 B) (sB : B.size ≤ 21) (dD : DecOf im D) (sD : D.size ≤ 21)  :
    Calls Tryz.prog 10 #[.agg #[.int .i64 op, .int .i64 rd, .int .i64 r1, .int .i64 r2, .int .i64 im, .int .i64 cs]] w fun e w' => e = .returned (.tuple #[.string ((((((((nm ++ (ByteArray.mk #[32])) ++ (ByteArray.mk #[120])) ++ A) ++ (ByteArray.mk #[44, 32])) ++ D) ++ (ByteArray.mk #[40, 120])) ++ B) ++ (ByteArray.mk #[41])), .int .i64 0]) ∧ Below w.heap.size w w' := by
  have HN := hide hN.out
  have HK := hide hK.out
  have HS := hide hS.out
  have HD : Hid (∀ z s, DecOf z s → ∀ w, Calls Tryz.prog 31 #[.int .i64 z] w fun e w' => e = .returned (.string s) ∧ w' = w) := fun z s h => h.out
  have HKeep : Hid (∀ a b, Below a.heap.size a b → (a.cell? ⟨w.heap.size, 0, none⟩ = some (.int .i64 op) ∧ a.cell? ⟨w.heap.size, 1, none⟩ = some (.int .i64 rd) ∧ a.cell? ⟨w.heap.size, 2, none⟩ = some (.int .i64 r1) ∧ a.cell? ⟨w.heap.size, 3, none⟩ = some (.int .i64 r2) ∧ a.cell? ⟨w.heap.size, 4, none⟩ = some (.int .i64 im) ∧ a.cell? ⟨w.heap.size, 5, none⟩ = some (.int .i64 cs) ∧ Below w.heap.size w a) → (b.cell? ⟨w.heap.size, 0, none⟩ = some (.int .i64 op) ∧ b.cell? ⟨w.heap.size, 1, none⟩ = some (.int .i64 rd) ∧ b.cell? ⟨w.heap.size, 2, none⟩ = some (.int .i64 r1) ∧ b.cell? ⟨w.heap.size, 3, none⟩ = some (.int .i64 r2) ∧ b.cell? ⟨w.heap.size, 4, none⟩ = some (.int .i64 im) ∧ b.cell? ⟨w.heap.size, 5, none⟩ = some (.int .i64 cs) ∧ Below w.heap.size w b)) := fun a b hb ⟨c0, c1, c2, c3, c4, c5, hBe⟩ => ⟨cell_bl hb c0, cell_bl hb c1, cell_bl hb c2, cell_bl hb c3, cell_bl hb c4, cell_bl hb c5, below_bl rfl hBe hb⟩
  clear hN hK hS
  have x0 : ∀ w, (Instr.index 9 (.string (ByteArray.mk #[100, 109])) (.int .i64 0)).run Tryz.prog w = .ok (.int .u8 100) w := fun _ => by kernel_rfl
  have x1 : ∀ w, (Instr.index 9 (.string (ByteArray.mk #[100, 109])) (.int .i64 1)).run Tryz.prog w = .ok (.int .u8 109) w := fun _ => by kernel_rfl
  go_enter Tryz.func10, Tryz.ntmps10
  go_wp2_with (fail)
  obtain ⟨W, hW⟩ : ∃ X, w.alloc (.cells #[.int .i64 op, .int .i64 rd, .int .i64 r1, .int .i64 r2, .int .i64 im, .int .i64 cs] 23) = X := ⟨_, rfl⟩
  have hR : RowAt W w.heap.size #[.int .i64 op, .int .i64 rd, .int .i64 r1, .int .i64 r2, .int .i64 im, .int .i64 cs] 23 := hW ▸ RowAt.new w _ _ _ rfl
  have hB : Below w.heap.size w W := hW ▸ below_one _ _
  have HR := hide hR
  have HB := hide hB
  rw [hW]
  clear hW hR hB
  refine (HC.out _).mono ?_
  rintro e X ⟨rfl, hb1⟩
  have hR := HR.out.bl hb1
  have hBe := below_bl rfl HB.out hb1
  have c0 : X.cell? ⟨w.heap.size, 0, none⟩ = some (.int .i64 op) := hR.cell 0
  have c1 : X.cell? ⟨w.heap.size, 1, none⟩ = some (.int .i64 rd) := hR.cell 1
  have c2 : X.cell? ⟨w.heap.size, 2, none⟩ = some (.int .i64 r1) := hR.cell 2
  have c3 : X.cell? ⟨w.heap.size, 3, none⟩ = some (.int .i64 r2) := hR.cell 3
  have c4 : X.cell? ⟨w.heap.size, 4, none⟩ = some (.int .i64 im) := hR.cell 4
  have c5 : X.cell? ⟨w.heap.size, 5, none⟩ = some (.int .i64 cs) := hR.cell 5
  clear HR HB hR hb1 HC
  have hBed := hBe.drew
  go_wp2_with (fail)
  go_region_held3 (fun w' => w'.cell? ⟨w.heap.size, 0, none⟩ = some (.int .i64 op) ∧ w'.cell? ⟨w.heap.size, 1, none⟩ = some (.int .i64 rd) ∧ w'.cell? ⟨w.heap.size, 2, none⟩ = some (.int .i64 r1) ∧ w'.cell? ⟨w.heap.size, 3, none⟩ = some (.int .i64 r2) ∧ w'.cell? ⟨w.heap.size, 4, none⟩ = some (.int .i64 im) ∧ w'.cell? ⟨w.heap.size, 5, none⟩ = some (.int .i64 cs) ∧ Below w.heap.size w w') (go_keep)
    (first | (go_at_call 28; refine (Calls.kept (S := fun v => v.cell? ⟨w.heap.size, 0, none⟩ = some (.int .i64 op) ∧ v.cell? ⟨w.heap.size, 1, none⟩ = some (.int .i64 rd) ∧ v.cell? ⟨w.heap.size, 2, none⟩ = some (.int .i64 r1) ∧ v.cell? ⟨w.heap.size, 3, none⟩ = some (.int .i64 r2) ∧ v.cell? ⟨w.heap.size, 4, none⟩ = some (.int .i64 im) ∧ v.cell? ⟨w.heap.size, 5, none⟩ = some (.int .i64 cs) ∧ Below w.heap.size w v) HKeep.out ?_ (HN.out _)).mono ?_; (simp [*]); rintro e w6 ⟨rfl, c0, c1, c2, c3, c4, c5, hBe⟩))
  go_wp2_with (first | (go_at_call 29; refine (HK.out _).mono ?_; rintro e w1 ⟨rfl, rfl⟩) | (go_at_call 30; refine (HS.out _).mono ?_; rintro e w1 ⟨rfl, rfl⟩))
  go_loopw [4, 7] (fun s i wr => ((i = .int .i64 0 ∧ s = .string nm) ∨ (i = .int .i64 1 ∧ s = .string (((nm ++ (ByteArray.mk #[32])) ++ (ByteArray.mk #[120])) ++ A)) ∨ (i = .int .i64 2 ∧ s = .string ((((((((nm ++ (ByteArray.mk #[32])) ++ (ByteArray.mk #[120])) ++ A) ++ (ByteArray.mk #[44, 32])) ++ D) ++ (ByteArray.mk #[40, 120])) ++ B) ++ (ByteArray.mk #[41])))) ∧ wr.cell? ⟨w.heap.size, 0, none⟩ = some (.int .i64 op) ∧ wr.cell? ⟨w.heap.size, 1, none⟩ = some (.int .i64 rd) ∧ wr.cell? ⟨w.heap.size, 2, none⟩ = some (.int .i64 r1) ∧ wr.cell? ⟨w.heap.size, 3, none⟩ = some (.int .i64 r2) ∧ wr.cell? ⟨w.heap.size, 4, none⟩ = some (.int .i64 im) ∧ wr.cell? ⟨w.heap.size, 5, none⟩ = some (.int .i64 cs) ∧ Below w.heap.size w wr) (fun _ i _ => 2 - (intOf i).toNat)
  case atStart => exact ⟨Or.inl ⟨rfl, rfl⟩, c0, c1, c2, c3, c4, c5, hBe⟩
  case round =>
    clear c0 c1 c2 c3 c4 c5 hBe
    obtain ⟨hs, c0, c1, c2, c3, c4, c5, hBe⟩ := hrel
    have HBe := hide hBe
    clear hBe
    rcases hs with ⟨rfl, rfl⟩ | ⟨rfl, rfl⟩ | ⟨rfl, rfl⟩
    · go_wp2_with (first | (go_at_call 31; refine (HD.out _ _ (by assumption) _).mono ?_; rintro e w1 ⟨rfl, rfl⟩))
      go_roundw
      case rel => exact ⟨Or.inr (Or.inl ⟨by go_num, rfl⟩), c0, c1, c2, c3, c4, c5, HBe.out⟩
      case measure => simp [intOf]
    · go_wp2_with (first | (go_at_call 31; refine (HD.out _ _ (by assumption) _).mono ?_; rintro e w1 ⟨rfl, rfl⟩))
      go_quiet ((go_at_call 31; exact Calls.quiet_of_same (HD.out _ _ (by assumption) _)))
      go_wp2_with (fail)
      go_roundw
      case rel => exact ⟨Or.inr (Or.inr (⟨by go_num, rfl⟩)), c0, c1, c2, c3, c4, c5, below_drewN HBe.out _⟩
      case measure => simp [intOf]
    · go_wp2
      go_ret2
      exact ⟨rfl, HBe.out⟩

set_option maxHeartbeats 2000000 in
set_option maxRecDepth 100000 in
theorem rtext_66 (op rd r1 r2 im cs : Int) (nm B C D : ByteArray) (w : World)
    (HC : Hid (∀ w, Calls Tryz.prog 27 #[.agg #[.int .i64 op, .int .i64 rd, .int .i64 r1, .int .i64 r2, .int .i64 im, .int .i64 cs]] w fun e w' => e = .returned (.int .i64 0) ∧ Below w.heap.size w w'))
    (hN : NameOf op nm) (sN : nm.size ≤ 8) (hK : KindOf op 66) (hS : ShapeOf op (ByteArray.mk #[115, 116, 110])) (dB : DecOf r1 B) (sB : B.size ≤ 21) (dC : DecOf r2 C) (sC : C.size ≤ 21) (dD : DecOf im D) (sD : D.size ≤ 21)  :
    Calls Tryz.prog 10 #[.agg #[.int .i64 op, .int .i64 rd, .int .i64 r1, .int .i64 r2, .int .i64 im, .int .i64 cs]] w fun e w' => e = .returned (.tuple #[.string ((((((((nm ++ (ByteArray.mk #[32])) ++ (ByteArray.mk #[120])) ++ B) ++ (ByteArray.mk #[44, 32])) ++ (ByteArray.mk #[120])) ++ C) ++ (ByteArray.mk #[44, 32])) ++ D), .int .i64 0]) ∧ Below w.heap.size w w' := by
  have HN := hide hN.out
  have HK := hide hK.out
  have HS := hide hS.out
  have HD : Hid (∀ z s, DecOf z s → ∀ w, Calls Tryz.prog 31 #[.int .i64 z] w fun e w' => e = .returned (.string s) ∧ w' = w) := fun z s h => h.out
  have HKeep : Hid (∀ a b, Below a.heap.size a b → (a.cell? ⟨w.heap.size, 0, none⟩ = some (.int .i64 op) ∧ a.cell? ⟨w.heap.size, 1, none⟩ = some (.int .i64 rd) ∧ a.cell? ⟨w.heap.size, 2, none⟩ = some (.int .i64 r1) ∧ a.cell? ⟨w.heap.size, 3, none⟩ = some (.int .i64 r2) ∧ a.cell? ⟨w.heap.size, 4, none⟩ = some (.int .i64 im) ∧ a.cell? ⟨w.heap.size, 5, none⟩ = some (.int .i64 cs) ∧ Below w.heap.size w a) → (b.cell? ⟨w.heap.size, 0, none⟩ = some (.int .i64 op) ∧ b.cell? ⟨w.heap.size, 1, none⟩ = some (.int .i64 rd) ∧ b.cell? ⟨w.heap.size, 2, none⟩ = some (.int .i64 r1) ∧ b.cell? ⟨w.heap.size, 3, none⟩ = some (.int .i64 r2) ∧ b.cell? ⟨w.heap.size, 4, none⟩ = some (.int .i64 im) ∧ b.cell? ⟨w.heap.size, 5, none⟩ = some (.int .i64 cs) ∧ Below w.heap.size w b)) := fun a b hb ⟨c0, c1, c2, c3, c4, c5, hBe⟩ => ⟨cell_bl hb c0, cell_bl hb c1, cell_bl hb c2, cell_bl hb c3, cell_bl hb c4, cell_bl hb c5, below_bl rfl hBe hb⟩
  clear hN hK hS
  have x0 : ∀ w, (Instr.index 9 (.string (ByteArray.mk #[115, 116, 110])) (.int .i64 0)).run Tryz.prog w = .ok (.int .u8 115) w := fun _ => by kernel_rfl
  have x1 : ∀ w, (Instr.index 9 (.string (ByteArray.mk #[115, 116, 110])) (.int .i64 1)).run Tryz.prog w = .ok (.int .u8 116) w := fun _ => by kernel_rfl
  have x2 : ∀ w, (Instr.index 9 (.string (ByteArray.mk #[115, 116, 110])) (.int .i64 2)).run Tryz.prog w = .ok (.int .u8 110) w := fun _ => by kernel_rfl
  go_enter Tryz.func10, Tryz.ntmps10
  go_wp2_with (fail)
  obtain ⟨W, hW⟩ : ∃ X, w.alloc (.cells #[.int .i64 op, .int .i64 rd, .int .i64 r1, .int .i64 r2, .int .i64 im, .int .i64 cs] 23) = X := ⟨_, rfl⟩
  have hR : RowAt W w.heap.size #[.int .i64 op, .int .i64 rd, .int .i64 r1, .int .i64 r2, .int .i64 im, .int .i64 cs] 23 := hW ▸ RowAt.new w _ _ _ rfl
  have hB : Below w.heap.size w W := hW ▸ below_one _ _
  have HR := hide hR
  have HB := hide hB
  rw [hW]
  clear hW hR hB
  refine (HC.out _).mono ?_
  rintro e X ⟨rfl, hb1⟩
  have hR := HR.out.bl hb1
  have hBe := below_bl rfl HB.out hb1
  have c0 : X.cell? ⟨w.heap.size, 0, none⟩ = some (.int .i64 op) := hR.cell 0
  have c1 : X.cell? ⟨w.heap.size, 1, none⟩ = some (.int .i64 rd) := hR.cell 1
  have c2 : X.cell? ⟨w.heap.size, 2, none⟩ = some (.int .i64 r1) := hR.cell 2
  have c3 : X.cell? ⟨w.heap.size, 3, none⟩ = some (.int .i64 r2) := hR.cell 3
  have c4 : X.cell? ⟨w.heap.size, 4, none⟩ = some (.int .i64 im) := hR.cell 4
  have c5 : X.cell? ⟨w.heap.size, 5, none⟩ = some (.int .i64 cs) := hR.cell 5
  clear HR HB hR hb1 HC
  have hBed := hBe.drew
  go_wp2_with (fail)
  go_region_held3 (fun w' => w'.cell? ⟨w.heap.size, 0, none⟩ = some (.int .i64 op) ∧ w'.cell? ⟨w.heap.size, 1, none⟩ = some (.int .i64 rd) ∧ w'.cell? ⟨w.heap.size, 2, none⟩ = some (.int .i64 r1) ∧ w'.cell? ⟨w.heap.size, 3, none⟩ = some (.int .i64 r2) ∧ w'.cell? ⟨w.heap.size, 4, none⟩ = some (.int .i64 im) ∧ w'.cell? ⟨w.heap.size, 5, none⟩ = some (.int .i64 cs) ∧ Below w.heap.size w w') (go_keep)
    (first | (go_at_call 28; refine (Calls.kept (S := fun v => v.cell? ⟨w.heap.size, 0, none⟩ = some (.int .i64 op) ∧ v.cell? ⟨w.heap.size, 1, none⟩ = some (.int .i64 rd) ∧ v.cell? ⟨w.heap.size, 2, none⟩ = some (.int .i64 r1) ∧ v.cell? ⟨w.heap.size, 3, none⟩ = some (.int .i64 r2) ∧ v.cell? ⟨w.heap.size, 4, none⟩ = some (.int .i64 im) ∧ v.cell? ⟨w.heap.size, 5, none⟩ = some (.int .i64 cs) ∧ Below w.heap.size w v) HKeep.out ?_ (HN.out _)).mono ?_; (simp [*]); rintro e w6 ⟨rfl, c0, c1, c2, c3, c4, c5, hBe⟩))
  go_wp2_with (first | (go_at_call 29; refine (HK.out _).mono ?_; rintro e w1 ⟨rfl, rfl⟩) | (go_at_call 30; refine (HS.out _).mono ?_; rintro e w1 ⟨rfl, rfl⟩))
  go_loopw [4, 7] (fun s i wr => ((i = .int .i64 0 ∧ s = .string nm) ∨ (i = .int .i64 1 ∧ s = .string (((nm ++ (ByteArray.mk #[32])) ++ (ByteArray.mk #[120])) ++ B)) ∨ (i = .int .i64 2 ∧ s = .string ((((((nm ++ (ByteArray.mk #[32])) ++ (ByteArray.mk #[120])) ++ B) ++ (ByteArray.mk #[44, 32])) ++ (ByteArray.mk #[120])) ++ C)) ∨ (i = .int .i64 3 ∧ s = .string ((((((((nm ++ (ByteArray.mk #[32])) ++ (ByteArray.mk #[120])) ++ B) ++ (ByteArray.mk #[44, 32])) ++ (ByteArray.mk #[120])) ++ C) ++ (ByteArray.mk #[44, 32])) ++ D))) ∧ wr.cell? ⟨w.heap.size, 0, none⟩ = some (.int .i64 op) ∧ wr.cell? ⟨w.heap.size, 1, none⟩ = some (.int .i64 rd) ∧ wr.cell? ⟨w.heap.size, 2, none⟩ = some (.int .i64 r1) ∧ wr.cell? ⟨w.heap.size, 3, none⟩ = some (.int .i64 r2) ∧ wr.cell? ⟨w.heap.size, 4, none⟩ = some (.int .i64 im) ∧ wr.cell? ⟨w.heap.size, 5, none⟩ = some (.int .i64 cs) ∧ Below w.heap.size w wr) (fun _ i _ => 3 - (intOf i).toNat)
  case atStart => exact ⟨Or.inl ⟨rfl, rfl⟩, c0, c1, c2, c3, c4, c5, hBe⟩
  case round =>
    clear c0 c1 c2 c3 c4 c5 hBe
    obtain ⟨hs, c0, c1, c2, c3, c4, c5, hBe⟩ := hrel
    have HBe := hide hBe
    clear hBe
    rcases hs with ⟨rfl, rfl⟩ | ⟨rfl, rfl⟩ | ⟨rfl, rfl⟩ | ⟨rfl, rfl⟩
    · go_wp2_with (first | (go_at_call 31; refine (HD.out _ _ (by assumption) _).mono ?_; rintro e w1 ⟨rfl, rfl⟩))
      go_roundw
      case rel => exact ⟨Or.inr (Or.inl ⟨by go_num, rfl⟩), c0, c1, c2, c3, c4, c5, HBe.out⟩
      case measure => simp [intOf]
    · go_wp2_with (first | (go_at_call 31; refine (HD.out _ _ (by assumption) _).mono ?_; rintro e w1 ⟨rfl, rfl⟩))
      go_roundw
      case rel => exact ⟨Or.inr (Or.inr (Or.inl ⟨by go_num, rfl⟩)), c0, c1, c2, c3, c4, c5, HBe.out⟩
      case measure => simp [intOf]
    · go_wp2_with (first | (go_at_call 31; refine (HD.out _ _ (by assumption) _).mono ?_; rintro e w1 ⟨rfl, rfl⟩))
      go_roundw
      case rel => exact ⟨Or.inr (Or.inr (Or.inr (⟨by go_num, rfl⟩))), c0, c1, c2, c3, c4, c5, HBe.out⟩
      case measure => simp [intOf]
    · go_wp2
      go_ret2
      exact ⟨rfl, HBe.out⟩

set_option maxHeartbeats 2000000 in
set_option maxRecDepth 100000 in
theorem rtext_83 (op rd r1 r2 im cs : Int) (nm B C D : ByteArray) (w : World)
    (HC : Hid (∀ w, Calls Tryz.prog 27 #[.agg #[.int .i64 op, .int .i64 rd, .int .i64 r1, .int .i64 r2, .int .i64 im, .int .i64 cs]] w fun e w' => e = .returned (.int .i64 0) ∧ Below w.heap.size w w'))
    (hN : NameOf op nm) (sN : nm.size ≤ 8) (hK : KindOf op 83) (hS : ShapeOf op (ByteArray.mk #[116, 109])) (dB : DecOf r1 B) (sB : B.size ≤ 21) (dC : DecOf r2 C) (sC : C.size ≤ 21) (dD : DecOf im D) (sD : D.size ≤ 21)  :
    Calls Tryz.prog 10 #[.agg #[.int .i64 op, .int .i64 rd, .int .i64 r1, .int .i64 r2, .int .i64 im, .int .i64 cs]] w fun e w' => e = .returned (.tuple #[.string ((((((((nm ++ (ByteArray.mk #[32])) ++ (ByteArray.mk #[120])) ++ C) ++ (ByteArray.mk #[44, 32])) ++ D) ++ (ByteArray.mk #[40, 120])) ++ B) ++ (ByteArray.mk #[41])), .int .i64 0]) ∧ Below w.heap.size w w' := by
  have HN := hide hN.out
  have HK := hide hK.out
  have HS := hide hS.out
  have HD : Hid (∀ z s, DecOf z s → ∀ w, Calls Tryz.prog 31 #[.int .i64 z] w fun e w' => e = .returned (.string s) ∧ w' = w) := fun z s h => h.out
  have HKeep : Hid (∀ a b, Below a.heap.size a b → (a.cell? ⟨w.heap.size, 0, none⟩ = some (.int .i64 op) ∧ a.cell? ⟨w.heap.size, 1, none⟩ = some (.int .i64 rd) ∧ a.cell? ⟨w.heap.size, 2, none⟩ = some (.int .i64 r1) ∧ a.cell? ⟨w.heap.size, 3, none⟩ = some (.int .i64 r2) ∧ a.cell? ⟨w.heap.size, 4, none⟩ = some (.int .i64 im) ∧ a.cell? ⟨w.heap.size, 5, none⟩ = some (.int .i64 cs) ∧ Below w.heap.size w a) → (b.cell? ⟨w.heap.size, 0, none⟩ = some (.int .i64 op) ∧ b.cell? ⟨w.heap.size, 1, none⟩ = some (.int .i64 rd) ∧ b.cell? ⟨w.heap.size, 2, none⟩ = some (.int .i64 r1) ∧ b.cell? ⟨w.heap.size, 3, none⟩ = some (.int .i64 r2) ∧ b.cell? ⟨w.heap.size, 4, none⟩ = some (.int .i64 im) ∧ b.cell? ⟨w.heap.size, 5, none⟩ = some (.int .i64 cs) ∧ Below w.heap.size w b)) := fun a b hb ⟨c0, c1, c2, c3, c4, c5, hBe⟩ => ⟨cell_bl hb c0, cell_bl hb c1, cell_bl hb c2, cell_bl hb c3, cell_bl hb c4, cell_bl hb c5, below_bl rfl hBe hb⟩
  clear hN hK hS
  have x0 : ∀ w, (Instr.index 9 (.string (ByteArray.mk #[116, 109])) (.int .i64 0)).run Tryz.prog w = .ok (.int .u8 116) w := fun _ => by kernel_rfl
  have x1 : ∀ w, (Instr.index 9 (.string (ByteArray.mk #[116, 109])) (.int .i64 1)).run Tryz.prog w = .ok (.int .u8 109) w := fun _ => by kernel_rfl
  go_enter Tryz.func10, Tryz.ntmps10
  go_wp2_with (fail)
  obtain ⟨W, hW⟩ : ∃ X, w.alloc (.cells #[.int .i64 op, .int .i64 rd, .int .i64 r1, .int .i64 r2, .int .i64 im, .int .i64 cs] 23) = X := ⟨_, rfl⟩
  have hR : RowAt W w.heap.size #[.int .i64 op, .int .i64 rd, .int .i64 r1, .int .i64 r2, .int .i64 im, .int .i64 cs] 23 := hW ▸ RowAt.new w _ _ _ rfl
  have hB : Below w.heap.size w W := hW ▸ below_one _ _
  have HR := hide hR
  have HB := hide hB
  rw [hW]
  clear hW hR hB
  refine (HC.out _).mono ?_
  rintro e X ⟨rfl, hb1⟩
  have hR := HR.out.bl hb1
  have hBe := below_bl rfl HB.out hb1
  have c0 : X.cell? ⟨w.heap.size, 0, none⟩ = some (.int .i64 op) := hR.cell 0
  have c1 : X.cell? ⟨w.heap.size, 1, none⟩ = some (.int .i64 rd) := hR.cell 1
  have c2 : X.cell? ⟨w.heap.size, 2, none⟩ = some (.int .i64 r1) := hR.cell 2
  have c3 : X.cell? ⟨w.heap.size, 3, none⟩ = some (.int .i64 r2) := hR.cell 3
  have c4 : X.cell? ⟨w.heap.size, 4, none⟩ = some (.int .i64 im) := hR.cell 4
  have c5 : X.cell? ⟨w.heap.size, 5, none⟩ = some (.int .i64 cs) := hR.cell 5
  clear HR HB hR hb1 HC
  have hBed := hBe.drew
  go_wp2_with (fail)
  go_region_held3 (fun w' => w'.cell? ⟨w.heap.size, 0, none⟩ = some (.int .i64 op) ∧ w'.cell? ⟨w.heap.size, 1, none⟩ = some (.int .i64 rd) ∧ w'.cell? ⟨w.heap.size, 2, none⟩ = some (.int .i64 r1) ∧ w'.cell? ⟨w.heap.size, 3, none⟩ = some (.int .i64 r2) ∧ w'.cell? ⟨w.heap.size, 4, none⟩ = some (.int .i64 im) ∧ w'.cell? ⟨w.heap.size, 5, none⟩ = some (.int .i64 cs) ∧ Below w.heap.size w w') (go_keep)
    (first | (go_at_call 28; refine (Calls.kept (S := fun v => v.cell? ⟨w.heap.size, 0, none⟩ = some (.int .i64 op) ∧ v.cell? ⟨w.heap.size, 1, none⟩ = some (.int .i64 rd) ∧ v.cell? ⟨w.heap.size, 2, none⟩ = some (.int .i64 r1) ∧ v.cell? ⟨w.heap.size, 3, none⟩ = some (.int .i64 r2) ∧ v.cell? ⟨w.heap.size, 4, none⟩ = some (.int .i64 im) ∧ v.cell? ⟨w.heap.size, 5, none⟩ = some (.int .i64 cs) ∧ Below w.heap.size w v) HKeep.out ?_ (HN.out _)).mono ?_; (simp [*]); rintro e w6 ⟨rfl, c0, c1, c2, c3, c4, c5, hBe⟩))
  go_wp2_with (first | (go_at_call 29; refine (HK.out _).mono ?_; rintro e w1 ⟨rfl, rfl⟩) | (go_at_call 30; refine (HS.out _).mono ?_; rintro e w1 ⟨rfl, rfl⟩))
  go_loopw [4, 7] (fun s i wr => ((i = .int .i64 0 ∧ s = .string nm) ∨ (i = .int .i64 1 ∧ s = .string (((nm ++ (ByteArray.mk #[32])) ++ (ByteArray.mk #[120])) ++ C)) ∨ (i = .int .i64 2 ∧ s = .string ((((((((nm ++ (ByteArray.mk #[32])) ++ (ByteArray.mk #[120])) ++ C) ++ (ByteArray.mk #[44, 32])) ++ D) ++ (ByteArray.mk #[40, 120])) ++ B) ++ (ByteArray.mk #[41])))) ∧ wr.cell? ⟨w.heap.size, 0, none⟩ = some (.int .i64 op) ∧ wr.cell? ⟨w.heap.size, 1, none⟩ = some (.int .i64 rd) ∧ wr.cell? ⟨w.heap.size, 2, none⟩ = some (.int .i64 r1) ∧ wr.cell? ⟨w.heap.size, 3, none⟩ = some (.int .i64 r2) ∧ wr.cell? ⟨w.heap.size, 4, none⟩ = some (.int .i64 im) ∧ wr.cell? ⟨w.heap.size, 5, none⟩ = some (.int .i64 cs) ∧ Below w.heap.size w wr) (fun _ i _ => 2 - (intOf i).toNat)
  case atStart => exact ⟨Or.inl ⟨rfl, rfl⟩, c0, c1, c2, c3, c4, c5, hBe⟩
  case round =>
    clear c0 c1 c2 c3 c4 c5 hBe
    obtain ⟨hs, c0, c1, c2, c3, c4, c5, hBe⟩ := hrel
    have HBe := hide hBe
    clear hBe
    rcases hs with ⟨rfl, rfl⟩ | ⟨rfl, rfl⟩ | ⟨rfl, rfl⟩
    · go_wp2_with (first | (go_at_call 31; refine (HD.out _ _ (by assumption) _).mono ?_; rintro e w1 ⟨rfl, rfl⟩))
      go_roundw
      case rel => exact ⟨Or.inr (Or.inl ⟨by go_num, rfl⟩), c0, c1, c2, c3, c4, c5, HBe.out⟩
      case measure => simp [intOf]
    · go_wp2_with (first | (go_at_call 31; refine (HD.out _ _ (by assumption) _).mono ?_; rintro e w1 ⟨rfl, rfl⟩))
      go_quiet ((go_at_call 31; exact Calls.quiet_of_same (HD.out _ _ (by assumption) _)))
      go_wp2_with (fail)
      go_roundw
      case rel => exact ⟨Or.inr (Or.inr (⟨by go_num, rfl⟩)), c0, c1, c2, c3, c4, c5, below_drewN HBe.out _⟩
      case measure => simp [intOf]
    · go_wp2
      go_ret2
      exact ⟨rfl, HBe.out⟩

set_option maxHeartbeats 2000000 in
set_option maxRecDepth 100000 in
theorem rtext_82 (op rd r1 r2 im cs : Int) (nm A B C : ByteArray) (w : World)
    (HC : Hid (∀ w, Calls Tryz.prog 27 #[.agg #[.int .i64 op, .int .i64 rd, .int .i64 r1, .int .i64 r2, .int .i64 im, .int .i64 cs]] w fun e w' => e = .returned (.int .i64 0) ∧ Below w.heap.size w w'))
    (hN : NameOf op nm) (sN : nm.size ≤ 8) (hK : KindOf op 82) (hS : ShapeOf op (ByteArray.mk #[100, 115, 116])) (dA : DecOf rd A) (sA : A.size ≤ 21) (dB : DecOf r1 B) (sB : B.size ≤ 21) (dC : DecOf r2 C) (sC : C.size ≤ 21)  :
    Calls Tryz.prog 10 #[.agg #[.int .i64 op, .int .i64 rd, .int .i64 r1, .int .i64 r2, .int .i64 im, .int .i64 cs]] w fun e w' => e = .returned (.tuple #[.string (((((((((nm ++ (ByteArray.mk #[32])) ++ (ByteArray.mk #[120])) ++ A) ++ (ByteArray.mk #[44, 32])) ++ (ByteArray.mk #[120])) ++ B) ++ (ByteArray.mk #[44, 32])) ++ (ByteArray.mk #[120])) ++ C), .int .i64 0]) ∧ Below w.heap.size w w' := by
  have HN := hide hN.out
  have HK := hide hK.out
  have HS := hide hS.out
  have HD : Hid (∀ z s, DecOf z s → ∀ w, Calls Tryz.prog 31 #[.int .i64 z] w fun e w' => e = .returned (.string s) ∧ w' = w) := fun z s h => h.out
  have HKeep : Hid (∀ a b, Below a.heap.size a b → (a.cell? ⟨w.heap.size, 0, none⟩ = some (.int .i64 op) ∧ a.cell? ⟨w.heap.size, 1, none⟩ = some (.int .i64 rd) ∧ a.cell? ⟨w.heap.size, 2, none⟩ = some (.int .i64 r1) ∧ a.cell? ⟨w.heap.size, 3, none⟩ = some (.int .i64 r2) ∧ a.cell? ⟨w.heap.size, 4, none⟩ = some (.int .i64 im) ∧ a.cell? ⟨w.heap.size, 5, none⟩ = some (.int .i64 cs) ∧ Below w.heap.size w a) → (b.cell? ⟨w.heap.size, 0, none⟩ = some (.int .i64 op) ∧ b.cell? ⟨w.heap.size, 1, none⟩ = some (.int .i64 rd) ∧ b.cell? ⟨w.heap.size, 2, none⟩ = some (.int .i64 r1) ∧ b.cell? ⟨w.heap.size, 3, none⟩ = some (.int .i64 r2) ∧ b.cell? ⟨w.heap.size, 4, none⟩ = some (.int .i64 im) ∧ b.cell? ⟨w.heap.size, 5, none⟩ = some (.int .i64 cs) ∧ Below w.heap.size w b)) := fun a b hb ⟨c0, c1, c2, c3, c4, c5, hBe⟩ => ⟨cell_bl hb c0, cell_bl hb c1, cell_bl hb c2, cell_bl hb c3, cell_bl hb c4, cell_bl hb c5, below_bl rfl hBe hb⟩
  clear hN hK hS
  have x0 : ∀ w, (Instr.index 9 (.string (ByteArray.mk #[100, 115, 116])) (.int .i64 0)).run Tryz.prog w = .ok (.int .u8 100) w := fun _ => by kernel_rfl
  have x1 : ∀ w, (Instr.index 9 (.string (ByteArray.mk #[100, 115, 116])) (.int .i64 1)).run Tryz.prog w = .ok (.int .u8 115) w := fun _ => by kernel_rfl
  have x2 : ∀ w, (Instr.index 9 (.string (ByteArray.mk #[100, 115, 116])) (.int .i64 2)).run Tryz.prog w = .ok (.int .u8 116) w := fun _ => by kernel_rfl
  go_enter Tryz.func10, Tryz.ntmps10
  go_wp2_with (fail)
  obtain ⟨W, hW⟩ : ∃ X, w.alloc (.cells #[.int .i64 op, .int .i64 rd, .int .i64 r1, .int .i64 r2, .int .i64 im, .int .i64 cs] 23) = X := ⟨_, rfl⟩
  have hR : RowAt W w.heap.size #[.int .i64 op, .int .i64 rd, .int .i64 r1, .int .i64 r2, .int .i64 im, .int .i64 cs] 23 := hW ▸ RowAt.new w _ _ _ rfl
  have hB : Below w.heap.size w W := hW ▸ below_one _ _
  have HR := hide hR
  have HB := hide hB
  rw [hW]
  clear hW hR hB
  refine (HC.out _).mono ?_
  rintro e X ⟨rfl, hb1⟩
  have hR := HR.out.bl hb1
  have hBe := below_bl rfl HB.out hb1
  have c0 : X.cell? ⟨w.heap.size, 0, none⟩ = some (.int .i64 op) := hR.cell 0
  have c1 : X.cell? ⟨w.heap.size, 1, none⟩ = some (.int .i64 rd) := hR.cell 1
  have c2 : X.cell? ⟨w.heap.size, 2, none⟩ = some (.int .i64 r1) := hR.cell 2
  have c3 : X.cell? ⟨w.heap.size, 3, none⟩ = some (.int .i64 r2) := hR.cell 3
  have c4 : X.cell? ⟨w.heap.size, 4, none⟩ = some (.int .i64 im) := hR.cell 4
  have c5 : X.cell? ⟨w.heap.size, 5, none⟩ = some (.int .i64 cs) := hR.cell 5
  clear HR HB hR hb1 HC
  have hBed := hBe.drew
  go_wp2_with (fail)
  go_region_held3 (fun w' => w'.cell? ⟨w.heap.size, 0, none⟩ = some (.int .i64 op) ∧ w'.cell? ⟨w.heap.size, 1, none⟩ = some (.int .i64 rd) ∧ w'.cell? ⟨w.heap.size, 2, none⟩ = some (.int .i64 r1) ∧ w'.cell? ⟨w.heap.size, 3, none⟩ = some (.int .i64 r2) ∧ w'.cell? ⟨w.heap.size, 4, none⟩ = some (.int .i64 im) ∧ w'.cell? ⟨w.heap.size, 5, none⟩ = some (.int .i64 cs) ∧ Below w.heap.size w w') (go_keep)
    (first | (go_at_call 28; refine (Calls.kept (S := fun v => v.cell? ⟨w.heap.size, 0, none⟩ = some (.int .i64 op) ∧ v.cell? ⟨w.heap.size, 1, none⟩ = some (.int .i64 rd) ∧ v.cell? ⟨w.heap.size, 2, none⟩ = some (.int .i64 r1) ∧ v.cell? ⟨w.heap.size, 3, none⟩ = some (.int .i64 r2) ∧ v.cell? ⟨w.heap.size, 4, none⟩ = some (.int .i64 im) ∧ v.cell? ⟨w.heap.size, 5, none⟩ = some (.int .i64 cs) ∧ Below w.heap.size w v) HKeep.out ?_ (HN.out _)).mono ?_; (simp [*]); rintro e w6 ⟨rfl, c0, c1, c2, c3, c4, c5, hBe⟩))
  go_wp2_with (first | (go_at_call 29; refine (HK.out _).mono ?_; rintro e w1 ⟨rfl, rfl⟩) | (go_at_call 30; refine (HS.out _).mono ?_; rintro e w1 ⟨rfl, rfl⟩))
  go_loopw [4, 7] (fun s i wr => ((i = .int .i64 0 ∧ s = .string nm) ∨ (i = .int .i64 1 ∧ s = .string (((nm ++ (ByteArray.mk #[32])) ++ (ByteArray.mk #[120])) ++ A)) ∨ (i = .int .i64 2 ∧ s = .string ((((((nm ++ (ByteArray.mk #[32])) ++ (ByteArray.mk #[120])) ++ A) ++ (ByteArray.mk #[44, 32])) ++ (ByteArray.mk #[120])) ++ B)) ∨ (i = .int .i64 3 ∧ s = .string (((((((((nm ++ (ByteArray.mk #[32])) ++ (ByteArray.mk #[120])) ++ A) ++ (ByteArray.mk #[44, 32])) ++ (ByteArray.mk #[120])) ++ B) ++ (ByteArray.mk #[44, 32])) ++ (ByteArray.mk #[120])) ++ C))) ∧ wr.cell? ⟨w.heap.size, 0, none⟩ = some (.int .i64 op) ∧ wr.cell? ⟨w.heap.size, 1, none⟩ = some (.int .i64 rd) ∧ wr.cell? ⟨w.heap.size, 2, none⟩ = some (.int .i64 r1) ∧ wr.cell? ⟨w.heap.size, 3, none⟩ = some (.int .i64 r2) ∧ wr.cell? ⟨w.heap.size, 4, none⟩ = some (.int .i64 im) ∧ wr.cell? ⟨w.heap.size, 5, none⟩ = some (.int .i64 cs) ∧ Below w.heap.size w wr) (fun _ i _ => 3 - (intOf i).toNat)
  case atStart => exact ⟨Or.inl ⟨rfl, rfl⟩, c0, c1, c2, c3, c4, c5, hBe⟩
  case round =>
    clear c0 c1 c2 c3 c4 c5 hBe
    obtain ⟨hs, c0, c1, c2, c3, c4, c5, hBe⟩ := hrel
    have HBe := hide hBe
    clear hBe
    rcases hs with ⟨rfl, rfl⟩ | ⟨rfl, rfl⟩ | ⟨rfl, rfl⟩ | ⟨rfl, rfl⟩
    · go_wp2_with (first | (go_at_call 31; refine (HD.out _ _ (by assumption) _).mono ?_; rintro e w1 ⟨rfl, rfl⟩))
      go_roundw
      case rel => exact ⟨Or.inr (Or.inl ⟨by go_num, rfl⟩), c0, c1, c2, c3, c4, c5, HBe.out⟩
      case measure => simp [intOf]
    · go_wp2_with (first | (go_at_call 31; refine (HD.out _ _ (by assumption) _).mono ?_; rintro e w1 ⟨rfl, rfl⟩))
      go_roundw
      case rel => exact ⟨Or.inr (Or.inr (Or.inl ⟨by go_num, rfl⟩)), c0, c1, c2, c3, c4, c5, HBe.out⟩
      case measure => simp [intOf]
    · go_wp2_with (first | (go_at_call 31; refine (HD.out _ _ (by assumption) _).mono ?_; rintro e w1 ⟨rfl, rfl⟩))
      go_roundw
      case rel => exact ⟨Or.inr (Or.inr (Or.inr (⟨by go_num, rfl⟩))), c0, c1, c2, c3, c4, c5, HBe.out⟩
      case measure => simp [intOf]
    · go_wp2
      go_ret2
      exact ⟨rfl, HBe.out⟩

set_option maxHeartbeats 2000000 in
set_option maxRecDepth 100000 in
theorem rtext_67a (op rd r1 r2 im cs : Int) (nm A B E : ByteArray) (w : World)
    (HC : Hid (∀ w, Calls Tryz.prog 27 #[.agg #[.int .i64 op, .int .i64 rd, .int .i64 r1, .int .i64 r2, .int .i64 im, .int .i64 cs]] w fun e w' => e = .returned (.int .i64 0) ∧ Below w.heap.size w w'))
    (hN : NameOf op nm) (sN : nm.size ≤ 8) (hK : KindOf op 67) (hS : ShapeOf op (ByteArray.mk #[100, 99, 122])) (dA : DecOf rd A) (sA : A.size ≤ 21) (dB : DecOf r1 B) (sB : B.size ≤ 21) (dE : DecOf cs E) (sE : E.size ≤ 21) (hlow : op < 54) :
    Calls Tryz.prog 10 #[.agg #[.int .i64 op, .int .i64 rd, .int .i64 r1, .int .i64 r2, .int .i64 im, .int .i64 cs]] w fun e w' => e = .returned (.tuple #[.string ((((((((nm ++ (ByteArray.mk #[32])) ++ (ByteArray.mk #[120])) ++ A) ++ (ByteArray.mk #[44, 32])) ++ E) ++ (ByteArray.mk #[44, 32])) ++ (ByteArray.mk #[120])) ++ B), .int .i64 0]) ∧ Below w.heap.size w w' := by
  have HN := hide hN.out
  have HK := hide hK.out
  have HS := hide hS.out
  have HD : Hid (∀ z s, DecOf z s → ∀ w, Calls Tryz.prog 31 #[.int .i64 z] w fun e w' => e = .returned (.string s) ∧ w' = w) := fun z s h => h.out
  have HKeep : Hid (∀ a b, Below a.heap.size a b → (a.cell? ⟨w.heap.size, 0, none⟩ = some (.int .i64 op) ∧ a.cell? ⟨w.heap.size, 1, none⟩ = some (.int .i64 rd) ∧ a.cell? ⟨w.heap.size, 2, none⟩ = some (.int .i64 r1) ∧ a.cell? ⟨w.heap.size, 3, none⟩ = some (.int .i64 r2) ∧ a.cell? ⟨w.heap.size, 4, none⟩ = some (.int .i64 im) ∧ a.cell? ⟨w.heap.size, 5, none⟩ = some (.int .i64 cs) ∧ Below w.heap.size w a) → (b.cell? ⟨w.heap.size, 0, none⟩ = some (.int .i64 op) ∧ b.cell? ⟨w.heap.size, 1, none⟩ = some (.int .i64 rd) ∧ b.cell? ⟨w.heap.size, 2, none⟩ = some (.int .i64 r1) ∧ b.cell? ⟨w.heap.size, 3, none⟩ = some (.int .i64 r2) ∧ b.cell? ⟨w.heap.size, 4, none⟩ = some (.int .i64 im) ∧ b.cell? ⟨w.heap.size, 5, none⟩ = some (.int .i64 cs) ∧ Below w.heap.size w b)) := fun a b hb ⟨c0, c1, c2, c3, c4, c5, hBe⟩ => ⟨cell_bl hb c0, cell_bl hb c1, cell_bl hb c2, cell_bl hb c3, cell_bl hb c4, cell_bl hb c5, below_bl rfl hBe hb⟩
  clear hN hK hS
  have x0 : ∀ w, (Instr.index 9 (.string (ByteArray.mk #[100, 99, 122])) (.int .i64 0)).run Tryz.prog w = .ok (.int .u8 100) w := fun _ => by kernel_rfl
  have x1 : ∀ w, (Instr.index 9 (.string (ByteArray.mk #[100, 99, 122])) (.int .i64 1)).run Tryz.prog w = .ok (.int .u8 99) w := fun _ => by kernel_rfl
  have x2 : ∀ w, (Instr.index 9 (.string (ByteArray.mk #[100, 99, 122])) (.int .i64 2)).run Tryz.prog w = .ok (.int .u8 122) w := fun _ => by kernel_rfl
  go_enter Tryz.func10, Tryz.ntmps10
  go_wp2_with (fail)
  obtain ⟨W, hW⟩ : ∃ X, w.alloc (.cells #[.int .i64 op, .int .i64 rd, .int .i64 r1, .int .i64 r2, .int .i64 im, .int .i64 cs] 23) = X := ⟨_, rfl⟩
  have hR : RowAt W w.heap.size #[.int .i64 op, .int .i64 rd, .int .i64 r1, .int .i64 r2, .int .i64 im, .int .i64 cs] 23 := hW ▸ RowAt.new w _ _ _ rfl
  have hB : Below w.heap.size w W := hW ▸ below_one _ _
  have HR := hide hR
  have HB := hide hB
  rw [hW]
  clear hW hR hB
  refine (HC.out _).mono ?_
  rintro e X ⟨rfl, hb1⟩
  have hR := HR.out.bl hb1
  have hBe := below_bl rfl HB.out hb1
  have c0 : X.cell? ⟨w.heap.size, 0, none⟩ = some (.int .i64 op) := hR.cell 0
  have c1 : X.cell? ⟨w.heap.size, 1, none⟩ = some (.int .i64 rd) := hR.cell 1
  have c2 : X.cell? ⟨w.heap.size, 2, none⟩ = some (.int .i64 r1) := hR.cell 2
  have c3 : X.cell? ⟨w.heap.size, 3, none⟩ = some (.int .i64 r2) := hR.cell 3
  have c4 : X.cell? ⟨w.heap.size, 4, none⟩ = some (.int .i64 im) := hR.cell 4
  have c5 : X.cell? ⟨w.heap.size, 5, none⟩ = some (.int .i64 cs) := hR.cell 5
  clear HR HB hR hb1 HC
  have hBed := hBe.drew
  go_wp2_with (fail)
  go_region_held3 (fun w' => w'.cell? ⟨w.heap.size, 0, none⟩ = some (.int .i64 op) ∧ w'.cell? ⟨w.heap.size, 1, none⟩ = some (.int .i64 rd) ∧ w'.cell? ⟨w.heap.size, 2, none⟩ = some (.int .i64 r1) ∧ w'.cell? ⟨w.heap.size, 3, none⟩ = some (.int .i64 r2) ∧ w'.cell? ⟨w.heap.size, 4, none⟩ = some (.int .i64 im) ∧ w'.cell? ⟨w.heap.size, 5, none⟩ = some (.int .i64 cs) ∧ Below w.heap.size w w') (go_keep)
    (first | (go_at_call 28; refine (Calls.kept (S := fun v => v.cell? ⟨w.heap.size, 0, none⟩ = some (.int .i64 op) ∧ v.cell? ⟨w.heap.size, 1, none⟩ = some (.int .i64 rd) ∧ v.cell? ⟨w.heap.size, 2, none⟩ = some (.int .i64 r1) ∧ v.cell? ⟨w.heap.size, 3, none⟩ = some (.int .i64 r2) ∧ v.cell? ⟨w.heap.size, 4, none⟩ = some (.int .i64 im) ∧ v.cell? ⟨w.heap.size, 5, none⟩ = some (.int .i64 cs) ∧ Below w.heap.size w v) HKeep.out ?_ (HN.out _)).mono ?_; (simp [*]); rintro e w6 ⟨rfl, c0, c1, c2, c3, c4, c5, hBe⟩))
  go_wp2_with (first | (go_at_call 29; refine (HK.out _).mono ?_; rintro e w1 ⟨rfl, rfl⟩) | (go_at_call 30; refine (HS.out _).mono ?_; rintro e w1 ⟨rfl, rfl⟩))
  go_loopw [4, 7] (fun s i wr => ((i = .int .i64 0 ∧ s = .string nm) ∨ (i = .int .i64 1 ∧ s = .string (((nm ++ (ByteArray.mk #[32])) ++ (ByteArray.mk #[120])) ++ A)) ∨ (i = .int .i64 2 ∧ s = .string (((((nm ++ (ByteArray.mk #[32])) ++ (ByteArray.mk #[120])) ++ A) ++ (ByteArray.mk #[44, 32])) ++ E)) ∨ (i = .int .i64 3 ∧ s = .string ((((((((nm ++ (ByteArray.mk #[32])) ++ (ByteArray.mk #[120])) ++ A) ++ (ByteArray.mk #[44, 32])) ++ E) ++ (ByteArray.mk #[44, 32])) ++ (ByteArray.mk #[120])) ++ B))) ∧ wr.cell? ⟨w.heap.size, 0, none⟩ = some (.int .i64 op) ∧ wr.cell? ⟨w.heap.size, 1, none⟩ = some (.int .i64 rd) ∧ wr.cell? ⟨w.heap.size, 2, none⟩ = some (.int .i64 r1) ∧ wr.cell? ⟨w.heap.size, 3, none⟩ = some (.int .i64 r2) ∧ wr.cell? ⟨w.heap.size, 4, none⟩ = some (.int .i64 im) ∧ wr.cell? ⟨w.heap.size, 5, none⟩ = some (.int .i64 cs) ∧ Below w.heap.size w wr) (fun _ i _ => 3 - (intOf i).toNat)
  case atStart => exact ⟨Or.inl ⟨rfl, rfl⟩, c0, c1, c2, c3, c4, c5, hBe⟩
  case round =>
    clear c0 c1 c2 c3 c4 c5 hBe
    obtain ⟨hs, c0, c1, c2, c3, c4, c5, hBe⟩ := hrel
    have HBe := hide hBe
    clear hBe
    rcases hs with ⟨rfl, rfl⟩ | ⟨rfl, rfl⟩ | ⟨rfl, rfl⟩ | ⟨rfl, rfl⟩
    · go_wp2_with (first | (go_at_call 31; refine (HD.out _ _ (by assumption) _).mono ?_; rintro e w1 ⟨rfl, rfl⟩))
      go_roundw
      case rel => exact ⟨Or.inr (Or.inl ⟨by go_num, rfl⟩), c0, c1, c2, c3, c4, c5, HBe.out⟩
      case measure => simp [intOf]
    · go_wp2_with (first | (go_at_call 31; refine (HD.out _ _ (by assumption) _).mono ?_; rintro e w1 ⟨rfl, rfl⟩))
      go_roundw
      case rel => exact ⟨Or.inr (Or.inr (Or.inl ⟨by go_num, rfl⟩)), c0, c1, c2, c3, c4, c5, HBe.out⟩
      case measure => simp [intOf]
    · go_wp2_with (first | (go_at_call 31; refine (HD.out _ _ (by assumption) _).mono ?_; rintro e w1 ⟨rfl, rfl⟩))
      go_roundw
      case rel => exact ⟨Or.inr (Or.inr (Or.inr (⟨by go_num, rfl⟩))), c0, c1, c2, c3, c4, c5, HBe.out⟩
      case measure => simp [intOf]
    · go_wp2
      go_ret2
      exact ⟨rfl, HBe.out⟩

set_option maxHeartbeats 2000000 in
set_option maxRecDepth 100000 in
theorem rtext_67b (op rd r1 r2 im cs : Int) (nm A B E : ByteArray) (w : World)
    (HC : Hid (∀ w, Calls Tryz.prog 27 #[.agg #[.int .i64 op, .int .i64 rd, .int .i64 r1, .int .i64 r2, .int .i64 im, .int .i64 cs]] w fun e w' => e = .returned (.int .i64 0) ∧ Below w.heap.size w w'))
    (hN : NameOf op nm) (sN : nm.size ≤ 8) (hK : KindOf op 67) (hS : ShapeOf op (ByteArray.mk #[100, 99, 122])) (dA : DecOf rd A) (sA : A.size ≤ 21) (dB : DecOf r1 B) (sB : B.size ≤ 21) (dE : DecOf cs E) (sE : E.size ≤ 21) (hlow : ¬ op < 54) :
    Calls Tryz.prog 10 #[.agg #[.int .i64 op, .int .i64 rd, .int .i64 r1, .int .i64 r2, .int .i64 im, .int .i64 cs]] w fun e w' => e = .returned (.tuple #[.string (((((((nm ++ (ByteArray.mk #[32])) ++ (ByteArray.mk #[120])) ++ A) ++ (ByteArray.mk #[44, 32])) ++ E) ++ (ByteArray.mk #[44, 32])) ++ B), .int .i64 0]) ∧ Below w.heap.size w w' := by
  have HN := hide hN.out
  have HK := hide hK.out
  have HS := hide hS.out
  have HD : Hid (∀ z s, DecOf z s → ∀ w, Calls Tryz.prog 31 #[.int .i64 z] w fun e w' => e = .returned (.string s) ∧ w' = w) := fun z s h => h.out
  have HKeep : Hid (∀ a b, Below a.heap.size a b → (a.cell? ⟨w.heap.size, 0, none⟩ = some (.int .i64 op) ∧ a.cell? ⟨w.heap.size, 1, none⟩ = some (.int .i64 rd) ∧ a.cell? ⟨w.heap.size, 2, none⟩ = some (.int .i64 r1) ∧ a.cell? ⟨w.heap.size, 3, none⟩ = some (.int .i64 r2) ∧ a.cell? ⟨w.heap.size, 4, none⟩ = some (.int .i64 im) ∧ a.cell? ⟨w.heap.size, 5, none⟩ = some (.int .i64 cs) ∧ Below w.heap.size w a) → (b.cell? ⟨w.heap.size, 0, none⟩ = some (.int .i64 op) ∧ b.cell? ⟨w.heap.size, 1, none⟩ = some (.int .i64 rd) ∧ b.cell? ⟨w.heap.size, 2, none⟩ = some (.int .i64 r1) ∧ b.cell? ⟨w.heap.size, 3, none⟩ = some (.int .i64 r2) ∧ b.cell? ⟨w.heap.size, 4, none⟩ = some (.int .i64 im) ∧ b.cell? ⟨w.heap.size, 5, none⟩ = some (.int .i64 cs) ∧ Below w.heap.size w b)) := fun a b hb ⟨c0, c1, c2, c3, c4, c5, hBe⟩ => ⟨cell_bl hb c0, cell_bl hb c1, cell_bl hb c2, cell_bl hb c3, cell_bl hb c4, cell_bl hb c5, below_bl rfl hBe hb⟩
  clear hN hK hS
  have x0 : ∀ w, (Instr.index 9 (.string (ByteArray.mk #[100, 99, 122])) (.int .i64 0)).run Tryz.prog w = .ok (.int .u8 100) w := fun _ => by kernel_rfl
  have x1 : ∀ w, (Instr.index 9 (.string (ByteArray.mk #[100, 99, 122])) (.int .i64 1)).run Tryz.prog w = .ok (.int .u8 99) w := fun _ => by kernel_rfl
  have x2 : ∀ w, (Instr.index 9 (.string (ByteArray.mk #[100, 99, 122])) (.int .i64 2)).run Tryz.prog w = .ok (.int .u8 122) w := fun _ => by kernel_rfl
  go_enter Tryz.func10, Tryz.ntmps10
  go_wp2_with (fail)
  obtain ⟨W, hW⟩ : ∃ X, w.alloc (.cells #[.int .i64 op, .int .i64 rd, .int .i64 r1, .int .i64 r2, .int .i64 im, .int .i64 cs] 23) = X := ⟨_, rfl⟩
  have hR : RowAt W w.heap.size #[.int .i64 op, .int .i64 rd, .int .i64 r1, .int .i64 r2, .int .i64 im, .int .i64 cs] 23 := hW ▸ RowAt.new w _ _ _ rfl
  have hB : Below w.heap.size w W := hW ▸ below_one _ _
  have HR := hide hR
  have HB := hide hB
  rw [hW]
  clear hW hR hB
  refine (HC.out _).mono ?_
  rintro e X ⟨rfl, hb1⟩
  have hR := HR.out.bl hb1
  have hBe := below_bl rfl HB.out hb1
  have c0 : X.cell? ⟨w.heap.size, 0, none⟩ = some (.int .i64 op) := hR.cell 0
  have c1 : X.cell? ⟨w.heap.size, 1, none⟩ = some (.int .i64 rd) := hR.cell 1
  have c2 : X.cell? ⟨w.heap.size, 2, none⟩ = some (.int .i64 r1) := hR.cell 2
  have c3 : X.cell? ⟨w.heap.size, 3, none⟩ = some (.int .i64 r2) := hR.cell 3
  have c4 : X.cell? ⟨w.heap.size, 4, none⟩ = some (.int .i64 im) := hR.cell 4
  have c5 : X.cell? ⟨w.heap.size, 5, none⟩ = some (.int .i64 cs) := hR.cell 5
  clear HR HB hR hb1 HC
  have hBed := hBe.drew
  go_wp2_with (fail)
  go_region_held3 (fun w' => w'.cell? ⟨w.heap.size, 0, none⟩ = some (.int .i64 op) ∧ w'.cell? ⟨w.heap.size, 1, none⟩ = some (.int .i64 rd) ∧ w'.cell? ⟨w.heap.size, 2, none⟩ = some (.int .i64 r1) ∧ w'.cell? ⟨w.heap.size, 3, none⟩ = some (.int .i64 r2) ∧ w'.cell? ⟨w.heap.size, 4, none⟩ = some (.int .i64 im) ∧ w'.cell? ⟨w.heap.size, 5, none⟩ = some (.int .i64 cs) ∧ Below w.heap.size w w') (go_keep)
    (first | (go_at_call 28; refine (Calls.kept (S := fun v => v.cell? ⟨w.heap.size, 0, none⟩ = some (.int .i64 op) ∧ v.cell? ⟨w.heap.size, 1, none⟩ = some (.int .i64 rd) ∧ v.cell? ⟨w.heap.size, 2, none⟩ = some (.int .i64 r1) ∧ v.cell? ⟨w.heap.size, 3, none⟩ = some (.int .i64 r2) ∧ v.cell? ⟨w.heap.size, 4, none⟩ = some (.int .i64 im) ∧ v.cell? ⟨w.heap.size, 5, none⟩ = some (.int .i64 cs) ∧ Below w.heap.size w v) HKeep.out ?_ (HN.out _)).mono ?_; (simp [*]); rintro e w6 ⟨rfl, c0, c1, c2, c3, c4, c5, hBe⟩))
  go_wp2_with (first | (go_at_call 29; refine (HK.out _).mono ?_; rintro e w1 ⟨rfl, rfl⟩) | (go_at_call 30; refine (HS.out _).mono ?_; rintro e w1 ⟨rfl, rfl⟩))
  go_loopw [4, 7] (fun s i wr => ((i = .int .i64 0 ∧ s = .string nm) ∨ (i = .int .i64 1 ∧ s = .string (((nm ++ (ByteArray.mk #[32])) ++ (ByteArray.mk #[120])) ++ A)) ∨ (i = .int .i64 2 ∧ s = .string (((((nm ++ (ByteArray.mk #[32])) ++ (ByteArray.mk #[120])) ++ A) ++ (ByteArray.mk #[44, 32])) ++ E)) ∨ (i = .int .i64 3 ∧ s = .string (((((((nm ++ (ByteArray.mk #[32])) ++ (ByteArray.mk #[120])) ++ A) ++ (ByteArray.mk #[44, 32])) ++ E) ++ (ByteArray.mk #[44, 32])) ++ B))) ∧ wr.cell? ⟨w.heap.size, 0, none⟩ = some (.int .i64 op) ∧ wr.cell? ⟨w.heap.size, 1, none⟩ = some (.int .i64 rd) ∧ wr.cell? ⟨w.heap.size, 2, none⟩ = some (.int .i64 r1) ∧ wr.cell? ⟨w.heap.size, 3, none⟩ = some (.int .i64 r2) ∧ wr.cell? ⟨w.heap.size, 4, none⟩ = some (.int .i64 im) ∧ wr.cell? ⟨w.heap.size, 5, none⟩ = some (.int .i64 cs) ∧ Below w.heap.size w wr) (fun _ i _ => 3 - (intOf i).toNat)
  case atStart => exact ⟨Or.inl ⟨rfl, rfl⟩, c0, c1, c2, c3, c4, c5, hBe⟩
  case round =>
    clear c0 c1 c2 c3 c4 c5 hBe
    obtain ⟨hs, c0, c1, c2, c3, c4, c5, hBe⟩ := hrel
    have HBe := hide hBe
    clear hBe
    rcases hs with ⟨rfl, rfl⟩ | ⟨rfl, rfl⟩ | ⟨rfl, rfl⟩ | ⟨rfl, rfl⟩
    · go_wp2_with (first | (go_at_call 31; refine (HD.out _ _ (by assumption) _).mono ?_; rintro e w1 ⟨rfl, rfl⟩))
      go_roundw
      case rel => exact ⟨Or.inr (Or.inl ⟨by go_num, rfl⟩), c0, c1, c2, c3, c4, c5, HBe.out⟩
      case measure => simp [intOf]
    · go_wp2_with (first | (go_at_call 31; refine (HD.out _ _ (by assumption) _).mono ?_; rintro e w1 ⟨rfl, rfl⟩))
      go_roundw
      case rel => exact ⟨Or.inr (Or.inr (Or.inl ⟨by go_num, rfl⟩)), c0, c1, c2, c3, c4, c5, HBe.out⟩
      case measure => simp [intOf]
    · go_wp2_with (first | (go_at_call 31; refine (HD.out _ _ (by assumption) _).mono ?_; rintro e w1 ⟨rfl, rfl⟩))
      go_roundw
      case rel => exact ⟨Or.inr (Or.inr (Or.inr (⟨by go_num, rfl⟩))), c0, c1, c2, c3, c4, c5, HBe.out⟩
      case measure => simp [intOf]
    · go_wp2
      go_ret2
      exact ⟨rfl, HBe.out⟩

set_option maxHeartbeats 2000000 in
set_option maxRecDepth 100000 in
theorem rtext_78 (op rd r1 r2 im cs : Int) (nm  : ByteArray) (w : World)
    (HC : Hid (∀ w, Calls Tryz.prog 27 #[.agg #[.int .i64 op, .int .i64 rd, .int .i64 r1, .int .i64 r2, .int .i64 im, .int .i64 cs]] w fun e w' => e = .returned (.int .i64 0) ∧ Below w.heap.size w w'))
    (hN : NameOf op nm) (sN : nm.size ≤ 8) (hK : KindOf op 78) (hS : ShapeOf op (ByteArray.mk #[]))   :
    Calls Tryz.prog 10 #[.agg #[.int .i64 op, .int .i64 rd, .int .i64 r1, .int .i64 r2, .int .i64 im, .int .i64 cs]] w fun e w' => e = .returned (.tuple #[.string nm, .int .i64 0]) ∧ Below w.heap.size w w' := by
  have HN := hide hN.out
  have HK := hide hK.out
  have HS := hide hS.out
  have HD : Hid (∀ z s, DecOf z s → ∀ w, Calls Tryz.prog 31 #[.int .i64 z] w fun e w' => e = .returned (.string s) ∧ w' = w) := fun z s h => h.out
  have HKeep : Hid (∀ a b, Below a.heap.size a b → (a.cell? ⟨w.heap.size, 0, none⟩ = some (.int .i64 op) ∧ a.cell? ⟨w.heap.size, 1, none⟩ = some (.int .i64 rd) ∧ a.cell? ⟨w.heap.size, 2, none⟩ = some (.int .i64 r1) ∧ a.cell? ⟨w.heap.size, 3, none⟩ = some (.int .i64 r2) ∧ a.cell? ⟨w.heap.size, 4, none⟩ = some (.int .i64 im) ∧ a.cell? ⟨w.heap.size, 5, none⟩ = some (.int .i64 cs) ∧ Below w.heap.size w a) → (b.cell? ⟨w.heap.size, 0, none⟩ = some (.int .i64 op) ∧ b.cell? ⟨w.heap.size, 1, none⟩ = some (.int .i64 rd) ∧ b.cell? ⟨w.heap.size, 2, none⟩ = some (.int .i64 r1) ∧ b.cell? ⟨w.heap.size, 3, none⟩ = some (.int .i64 r2) ∧ b.cell? ⟨w.heap.size, 4, none⟩ = some (.int .i64 im) ∧ b.cell? ⟨w.heap.size, 5, none⟩ = some (.int .i64 cs) ∧ Below w.heap.size w b)) := fun a b hb ⟨c0, c1, c2, c3, c4, c5, hBe⟩ => ⟨cell_bl hb c0, cell_bl hb c1, cell_bl hb c2, cell_bl hb c3, cell_bl hb c4, cell_bl hb c5, below_bl rfl hBe hb⟩
  clear hN hK hS
  go_enter Tryz.func10, Tryz.ntmps10
  go_wp2_with (fail)
  obtain ⟨W, hW⟩ : ∃ X, w.alloc (.cells #[.int .i64 op, .int .i64 rd, .int .i64 r1, .int .i64 r2, .int .i64 im, .int .i64 cs] 23) = X := ⟨_, rfl⟩
  have hR : RowAt W w.heap.size #[.int .i64 op, .int .i64 rd, .int .i64 r1, .int .i64 r2, .int .i64 im, .int .i64 cs] 23 := hW ▸ RowAt.new w _ _ _ rfl
  have hB : Below w.heap.size w W := hW ▸ below_one _ _
  have HR := hide hR
  have HB := hide hB
  rw [hW]
  clear hW hR hB
  refine (HC.out _).mono ?_
  rintro e X ⟨rfl, hb1⟩
  have hR := HR.out.bl hb1
  have hBe := below_bl rfl HB.out hb1
  have c0 : X.cell? ⟨w.heap.size, 0, none⟩ = some (.int .i64 op) := hR.cell 0
  have c1 : X.cell? ⟨w.heap.size, 1, none⟩ = some (.int .i64 rd) := hR.cell 1
  have c2 : X.cell? ⟨w.heap.size, 2, none⟩ = some (.int .i64 r1) := hR.cell 2
  have c3 : X.cell? ⟨w.heap.size, 3, none⟩ = some (.int .i64 r2) := hR.cell 3
  have c4 : X.cell? ⟨w.heap.size, 4, none⟩ = some (.int .i64 im) := hR.cell 4
  have c5 : X.cell? ⟨w.heap.size, 5, none⟩ = some (.int .i64 cs) := hR.cell 5
  clear HR HB hR hb1 HC
  have hBed := hBe.drew
  go_wp2_with (fail)
  go_region_held3 (fun w' => w'.cell? ⟨w.heap.size, 0, none⟩ = some (.int .i64 op) ∧ w'.cell? ⟨w.heap.size, 1, none⟩ = some (.int .i64 rd) ∧ w'.cell? ⟨w.heap.size, 2, none⟩ = some (.int .i64 r1) ∧ w'.cell? ⟨w.heap.size, 3, none⟩ = some (.int .i64 r2) ∧ w'.cell? ⟨w.heap.size, 4, none⟩ = some (.int .i64 im) ∧ w'.cell? ⟨w.heap.size, 5, none⟩ = some (.int .i64 cs) ∧ Below w.heap.size w w') (go_keep)
    (first | (go_at_call 28; refine (Calls.kept (S := fun v => v.cell? ⟨w.heap.size, 0, none⟩ = some (.int .i64 op) ∧ v.cell? ⟨w.heap.size, 1, none⟩ = some (.int .i64 rd) ∧ v.cell? ⟨w.heap.size, 2, none⟩ = some (.int .i64 r1) ∧ v.cell? ⟨w.heap.size, 3, none⟩ = some (.int .i64 r2) ∧ v.cell? ⟨w.heap.size, 4, none⟩ = some (.int .i64 im) ∧ v.cell? ⟨w.heap.size, 5, none⟩ = some (.int .i64 cs) ∧ Below w.heap.size w v) HKeep.out ?_ (HN.out _)).mono ?_; (simp [*]); rintro e w6 ⟨rfl, c0, c1, c2, c3, c4, c5, hBe⟩))
  go_wp2_with (first | (go_at_call 29; refine (HK.out _).mono ?_; rintro e w1 ⟨rfl, rfl⟩) | (go_at_call 30; refine (HS.out _).mono ?_; rintro e w1 ⟨rfl, rfl⟩))
  go_loopw [4, 7] (fun s i wr => ((i = .int .i64 0 ∧ s = .string nm)) ∧ wr.cell? ⟨w.heap.size, 0, none⟩ = some (.int .i64 op) ∧ wr.cell? ⟨w.heap.size, 1, none⟩ = some (.int .i64 rd) ∧ wr.cell? ⟨w.heap.size, 2, none⟩ = some (.int .i64 r1) ∧ wr.cell? ⟨w.heap.size, 3, none⟩ = some (.int .i64 r2) ∧ wr.cell? ⟨w.heap.size, 4, none⟩ = some (.int .i64 im) ∧ wr.cell? ⟨w.heap.size, 5, none⟩ = some (.int .i64 cs) ∧ Below w.heap.size w wr) (fun _ i _ => 0 - (intOf i).toNat)
  case atStart => exact ⟨⟨rfl, rfl⟩, c0, c1, c2, c3, c4, c5, hBe⟩
  case round =>
    clear c0 c1 c2 c3 c4 c5 hBe
    obtain ⟨hs, c0, c1, c2, c3, c4, c5, hBe⟩ := hrel
    have HBe := hide hBe
    clear hBe
    obtain ⟨rfl, rfl⟩ := hs
    go_wp2
    go_ret2
    exact ⟨rfl, HBe.out⟩

end Go.Proofs.YtbidhfhmfmhiiaaGreatDoor
