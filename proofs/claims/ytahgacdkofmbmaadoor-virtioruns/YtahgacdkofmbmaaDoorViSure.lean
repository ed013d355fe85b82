/-
  What must come whatever the input is.
-/
import Derived.Test.YtahgacdkofmbmaaDoorViWrite
import Derived.Test.YtahgacdkofmbmaaDoorViEq
import Derived.Test.YtahgacdkofmbmaaDoorPaAt
import Derived.Great.Walk
namespace Go.Proofs.YtahgacdkofmbmaaDoor
open Go.RowKit
set_option linter.unusedVariables false

attribute [local go_sem] V.at0 V.at1 V.at2 V.at3 V.at4 V.at5 V.at6 V.at7 V.at8 V.at9 V.at10 V.at11 V.at12 V.at13 V.at14 V.at15 V.at16 V.at17 V.at18 V.at19 V.at20 Qu.at0 Qu.at1 Qu.at2 Qu.at3 Qu.at4 Qu.at5 Qu.at6
theorem s_allocv {P : Program} {dst : Option Tmp} {ty t : TypeId} {pos : String} {after : Array Edge} {a : Act} {w : World} {Q : Exit → Act → World → Prop} {K : Act → World → Prop} (N : Nat) (hN : w.heap.size = N) (cs : Array Value) (hz : ∀ w, (zeroValue t).run P w = .ok (.agg cs) w)
    (k : ∀ W, RowAt W N cs t → Below N w W → Hid (W.heap.size = N + 1) → K (a.put dst (.pointer (some ⟨N, 0, none⟩))) W) :
    Oper.wp P ⟨dst, .alloc t, ty, pos, after, none⟩ a w K Q := by
  subst hN
  have hrun : (execOp a.eval ⟨dst, .alloc t, ty, pos, after, none⟩).run P w = .ok (.value (.pointer (some ⟨w.heap.size, 0, none⟩))) (w.alloc (.cells cs t)) := by
    unfold execOp
    simp only [Instr.alloc, Sem.run_bind, hz, Result.andThen_ok, newVar, newRow, run_newObj_alloc, Sem.run_pure]
    rfl
  unfold Oper.wp
  rw [hrun, Oper.upon_value]
  exact k _ (RowAt.new w _ cs t rfl) (below_one w _) (hide (by simp))
def stL (i : Nat) : Nat := [0, 3, 3, 3, 11, 15].getD i 0
def adL (i : Nat) : Nat := [112, 36, 32, 112, 112].getD i 0
def vaL (i : Nat) : Nat := [3, 1, 1, 11, 15].getD i 0
def sK (i : Nat) : V := ⟨stL i, 0, if 2 ≤ i then 1 else 0, 0, 0, 0, if 3 ≤ i then 1 else 0, zeroQu, zeroQu⟩
def lC : Array Value := #[.int .u32 112, .int .u32 3, .int .u32 36, .int .u32 1, .int .u32 32, .int .u32 1, .int .u32 112, .int .u32 11, .int .u32 112, .int .u32 15]
theorem lC_a (i : Nat) (h : i < 5) : lC[i * 2]? = some (.int .u32 (adL i : Nat)) := by
  rcases i with _ | _ | _ | _ | _ | i
  all_goals first | rfl | omega
theorem lC_v (i : Nat) (h : i < 5) : lC[i * 2 + 1]? = some (.int .u32 (vaL i : Nat)) := by
  rcases i with _ | _ | _ | _ | _ | i
  all_goals first | rfl | omega
theorem sK_ok (i : Nat) : (sK i).Ok := by
  refine ⟨?_, by show 0 < _; decide, ?_, by show 0 < _; decide, by show 0 < _; decide, by show 0 < _; decide, ?_, zeroRg_ok, zeroRg_ok⟩
  · show stL i < _
    rcases i with _ | _ | _ | _ | _ | _ | i
    all_goals first | decide | (unfold stL; simp)
  · show (if 2 ≤ i then 1 else 0) < _; split <;> decide
  · show (if 3 ≤ i then 1 else 0) < _; split <;> decide
theorem va_lt (i : Nat) : vaL i < 4294967296 := by
  rcases i with _ | _ | _ | _ | _ | i
  all_goals first | decide | (unfold vaL; simp)
theorem sK_w0 : writeV (sK 0) (adL 0) (vaL 0) = (sK (0 + 1), -1, 0) := by kernel_rfl
theorem sK_l0 : liveV (sK 0) = false := by kernel_rfl
theorem sK_w1 : writeV (sK 1) (adL 1) (vaL 1) = (sK (1 + 1), -1, 0) := by kernel_rfl
theorem sK_l1 : liveV (sK 1) = false := by kernel_rfl
theorem sK_w2 : writeV (sK 2) (adL 2) (vaL 2) = (sK (2 + 1), -1, 0) := by kernel_rfl
theorem sK_l2 : liveV (sK 2) = false := by kernel_rfl
theorem sK_w3 : writeV (sK 3) (adL 3) (vaL 3) = (sK (3 + 1), -1, 0) := by kernel_rfl
theorem sK_l3 : liveV (sK 3) = false := by kernel_rfl
theorem sK_w4 : writeV (sK 4) (adL 4) (vaL 4) = (sK (4 + 1), -1, 0) := by kernel_rfl
theorem sK_l4 : liveV (sK 4) = false := by kernel_rfl
theorem sK_write (i : Nat) (h : i < 5) : writeV (sK i) (adL i) (vaL i) = (sK (i + 1), -1, 0) := by
  have h5 : i = 0 ∨ i = 1 ∨ i = 2 ∨ i = 3 ∨ i = 4 := by omega
  rcases h5 with rfl | rfl | rfl | rfl | rfl
  · exact sK_w0
  · exact sK_w1
  · exact sK_w2
  · exact sK_w3
  · exact sK_w4
theorem sK_live (i : Nat) (h : i < 5) : liveV (sK i) = false := by
  have h5 : i = 0 ∨ i = 1 ∨ i = 2 ∨ i = 3 ∨ i = 4 := by omega
  rcases h5 with rfl | rfl | rfl | rfl | rfl
  · exact sK_l0
  · exact sK_l1
  · exact sK_l2
  · exact sK_l3
  · exact sK_l4
theorem sK_live5 : liveV (sK 5) = true := by kernel_rfl
variable {ops : Array Oper} {rest : List Oper} {dst : Option Tmp} {ty t2 : TypeId} {after : Array Edge} {a : Act} {x y : Operand} {gd : Option (Nat × Bool)} {pos : String} {S : World → Prop} {w : World} {Q : Exit → Act → World → Prop} {K : Act → World → Prop}
theorem bs_l (N : Nat) (hN : w.heap.size = N) (x0 x1 x2 x3 x4 : Operand) (h0 : a.eval x0 = .agg #[.int .u32 112, .int .u32 3]) (h1 : a.eval x1 = .agg #[.int .u32 36, .int .u32 1]) (h2 : a.eval x2 = .agg #[.int .u32 32, .int .u32 1]) (h3 : a.eval x3 = .agg #[.int .u32 112, .int .u32 11]) (h4 : a.eval x4 = .agg #[.int .u32 112, .int .u32 15])
    (k : ∀ W, RowAt W N lC 23 → Below N w W → Hid (W.heap.size = N + 1) → wpList Tryd.prog ops Q rest (a.put dst (.slice (some ⟨N, 0, none⟩) 5 5)) W) :
    wpList Tryd.prog ops Q (⟨dst, .buildSlice 58 5 #[(0, x0), (1, x1), (2, x2), (3, x3), (4, x4)], ty, pos, after, none⟩ :: rest) a w :=
  op_bsn 58 23 5 Tryd.underlying58 lC N hN [(0, .agg #[.int .u32 112, .int .u32 3]), (1, .agg #[.int .u32 36, .int .u32 1]), (2, .agg #[.int .u32 32, .int .u32 1]), (3, .agg #[.int .u32 112, .int .u32 11]), (4, .agg #[.int .u32 112, .int .u32 15])] (by simp [h0, h1, h2, h3, h4]) ⟨by kernel_rfl⟩ k
set_option maxRecDepth 20000 in
set_option maxHeartbeats 4000000 in
theorem sure_any  (w : World) (hO : OffAt w) :
    Calls Tryd.prog 20 #[] w fun e w' => e = .returned (.bool true) ∧ Below w.heap.size w w' := by
  have HO := hide hO
  clear hO
  go_enter Tryd.func20, Tryd.ntmps20
  go_wp2_with (first | ((with_reducible refine al_vp w.heap.size ?_ ?_); exact rfl; intro W hx hb hz) | ((with_reducible refine st_vp w.heap.size _ zeroV hx ?_ ?_ ?_); exact rfl; exact rfl; intro W hnew ho; replace hx := hnew; replace hb := ho.bel _ _ (Nat.le_refl _) hb; replace hz := hide (ho.size.trans hz.out)) | ((with_reducible refine bs_l (w.heap.size + 1) ?_ _ _ _ _ _ ?_ ?_ ?_ ?_ ?_ ?_); exact hz.out; exact rfl; exact rfl; exact rfl; exact rfl; exact rfl; intro W hl hb' hz'; replace hx := hx.bl (hz.out ▸ hb'); replace hb := hb.trans (hb'.mono (by omega))))
  go_loopw [3] (fun iv wr => ∃ k : Nat, k ≤ 5 ∧ iv = .int .i64 (k : Nat) ∧ RowAt wr w.heap.size (sK k).cells 37 ∧ RowAt wr (w.heap.size + 1) lC 23 ∧ Below w.heap.size w wr) (fun iv _ => 5 - (intOf iv).toNat)
  case atStart => exact ⟨0, by omega, rfl, hx, hl, hb⟩
  case round =>
    clear hx hl hb hz
    obtain ⟨k, hk, rfl, hx, hl, hb⟩ := hrel
    by_cases hlt : k < 5
    · have HW := hide (fun w (hO : OffAt w) => write_any (sK k) (sK_ok k) (adL k) (vaL k) (va_lt k) w hO)
      rw [sK_write k hlt] at HW
      have HL := hide (fun w => live_any (sK k) (sK_ok k) w)
      rw [sK_live k hlt] at HL
      have HA := hide (lC_a k hlt)
      have HV := hide (lC_v k hlt)
      obtain ⟨x, hxe⟩ : ∃ x, sK k = x := ⟨_, rfl⟩
      obtain ⟨z, hze⟩ : ∃ x, sK (k + 1) = x := ⟨_, rfl⟩
      have HZ := hide hze
      rw [hxe] at HW HL hx
      rw [hze] at HW
      generalize adL k = av at HW HA
      generalize vaL k = vv at HW HV
      clear hxe hze
      have HW : Hid (∀ w, OffAt w → Calls Tryd.prog 21 #[.agg x.cells, .int .u32 (av : Nat), .int .u32 (vv : Nat)] w fun e w' => e = .returned (.tuple #[.agg z.cells, .int .i64 (-1), .nilIface]) ∧ Below w.heap.size w w') := HW
      have lt1 : (k : Int) < 5 := by omega
      go_wp2_with (fail)
      refine wp_region_held_drew (S := (fun V => RowAt V w.heap.size x.cells 37 ∧ RowAt V (w.heap.size + 1) lC 23 ∧ Below w.heap.size w V)) (by kernel_rfl) ?_ (fun hHeld => ?_)
      · exact ⟨hx.dr, hl.dr, hb.drew⟩
      generalize World.drew _ = V at hHeld  ⊢
      clear hx hl hb
      refine wpAnyH_take (i := 0) (oi := ?oi11) (v := .agg x.cells) ?hi11 (by kernel_rfl) (by kernel_rfl) (by kernel_rfl) ?hQ11 ?hy11 (by assumption) ?rest11
      case hi11 => (simp only [List.getElem?_toArray, List.getElem?_cons_zero]; rfl)
      case hQ11 => exact fun _ _ _ h => h
      case hy11 => exact y_vp w.heap.size x (fun V hV => hV.1) rfl rfl
      simp only [Act.put, List.setIfInBounds_toArray, List.set_cons_zero, List.set_cons_succ]
      refine wpAnyH_take (i := 1) (oi := ?oi1) (v := .slice (some ⟨w.heap.size + 1, 0, none⟩) 5 5) ?hi1 (by kernel_rfl) (by kernel_rfl) (by kernel_rfl) ?hQ1 ?hy1 (by assumption) ?rest1
      case hi1 => (simp only [List.getElem?_toArray, List.getElem?_cons_zero, List.getElem?_cons_succ]; rfl)
      case hQ1 => exact fun _ _ _ h => h
      case hy1 => exact Or.inl ⟨by rfl, by (intro w hSw; (try dsimp only at hSw); go_simp )⟩
      simp only [Act.put, List.setIfInBounds_toArray, List.set_cons_zero, List.set_cons_succ]
      refine wpAnyH_take (i := 2) (oi := ?oi2) (v := .int .i64 (k : Nat)) ?hi2 (by kernel_rfl) (by kernel_rfl) (by kernel_rfl) ?hQ2 ?hy2 (by assumption) ?rest2
      case hi2 => (simp only [List.getElem?_toArray, List.getElem?_cons_zero, List.getElem?_cons_succ]; rfl)
      case hQ2 => exact fun _ _ _ h => h
      case hy2 => exact Or.inl ⟨by rfl, by (intro w hSw; (try dsimp only at hSw); go_simp )⟩
      simp only [Act.put, List.setIfInBounds_toArray, List.set_cons_zero, List.set_cons_succ]
      refine wpAnyH_take (i := 3) (oi := ?oi3) (v := .pointer (some ⟨w.heap.size + 1, k * 2, none⟩)) ?hi3 (by kernel_rfl) (by kernel_rfl) (by kernel_rfl) ?hQ3 ?hy3 (by assumption) ?rest3
      case hi3 => (simp only [List.getElem?_toArray, List.getElem?_cons_zero, List.getElem?_cons_succ]; rfl)
      case hQ3 => exact fun _ _ _ h => h
      case hy3 => exact Or.inl ⟨by rfl, by (intro w hSw; (try dsimp only at hSw); go_simp )⟩
      simp only [Act.put, List.setIfInBounds_toArray, List.set_cons_zero, List.set_cons_succ]
      refine wpAnyH_take (i := 4) (oi := ?oi4) (v := .pointer (some ⟨w.heap.size + 1, k * 2, none⟩)) ?hi4 (by kernel_rfl) (by kernel_rfl) (by kernel_rfl) ?hQ4 ?hy4 (by assumption) ?rest4
      case hi4 => (simp only [List.getElem?_toArray, List.getElem?_cons_zero, List.getElem?_cons_succ]; rfl)
      case hQ4 => exact fun _ _ _ h => h
      case hy4 => exact Or.inl ⟨by rfl, by (intro w hSw; (try dsimp only at hSw); go_simp )⟩
      simp only [Act.put, List.setIfInBounds_toArray, List.set_cons_zero, List.set_cons_succ]
      refine wpAnyH_take (i := 5) (oi := ?oi5) (v := .int .u32 (av : Nat)) ?hi5 (by kernel_rfl) (by kernel_rfl) (by kernel_rfl) ?hQ5 ?hy5 (by assumption) ?rest5
      case hi5 => (simp only [List.getElem?_toArray, List.getElem?_cons_zero, List.getElem?_cons_succ]; rfl)
      case hQ5 => exact fun _ _ _ h => h
      case hy5 => exact y_cell (w.heap.size + 1) (k * 2) _ (fun V hV => (hV.2.1.cell _).trans HA.out) _ Tryd.underlying22 rfl rfl
      simp only [Act.put, List.setIfInBounds_toArray, List.set_cons_zero, List.set_cons_succ]
      refine wpAnyH_take (i := 6) (oi := ?oi6) (v := .slice (some ⟨w.heap.size + 1, 0, none⟩) 5 5) ?hi6 (by kernel_rfl) (by kernel_rfl) (by kernel_rfl) ?hQ6 ?hy6 (by assumption) ?rest6
      case hi6 => (simp only [List.getElem?_toArray, List.getElem?_cons_zero, List.getElem?_cons_succ]; rfl)
      case hQ6 => exact fun _ _ _ h => h
      case hy6 => exact Or.inl ⟨by rfl, by (intro w hSw; (try dsimp only at hSw); go_simp )⟩
      simp only [Act.put, List.setIfInBounds_toArray, List.set_cons_zero, List.set_cons_succ]
      refine wpAnyH_take (i := 7) (oi := ?oi7) (v := .int .i64 (k : Nat)) ?hi7 (by kernel_rfl) (by kernel_rfl) (by kernel_rfl) ?hQ7 ?hy7 (by assumption) ?rest7
      case hi7 => (simp only [List.getElem?_toArray, List.getElem?_cons_zero, List.getElem?_cons_succ]; rfl)
      case hQ7 => exact fun _ _ _ h => h
      case hy7 => exact Or.inl ⟨by rfl, by (intro w hSw; (try dsimp only at hSw); go_simp )⟩
      simp only [Act.put, List.setIfInBounds_toArray, List.set_cons_zero, List.set_cons_succ]
      refine wpAnyH_take (i := 8) (oi := ?oi8) (v := .pointer (some ⟨w.heap.size + 1, k * 2, none⟩)) ?hi8 (by kernel_rfl) (by kernel_rfl) (by kernel_rfl) ?hQ8 ?hy8 (by assumption) ?rest8
      case hi8 => (simp only [List.getElem?_toArray, List.getElem?_cons_zero, List.getElem?_cons_succ]; rfl)
      case hQ8 => exact fun _ _ _ h => h
      case hy8 => exact Or.inl ⟨by rfl, by (intro w hSw; (try dsimp only at hSw); go_simp )⟩
      simp only [Act.put, List.setIfInBounds_toArray, List.set_cons_zero, List.set_cons_succ]
      refine wpAnyH_take (i := 9) (oi := ?oi9) (v := .pointer (some ⟨w.heap.size + 1, k * 2 + 1, none⟩)) ?hi9 (by kernel_rfl) (by kernel_rfl) (by kernel_rfl) ?hQ9 ?hy9 (by assumption) ?rest9
      case hi9 => (simp only [List.getElem?_toArray, List.getElem?_cons_zero, List.getElem?_cons_succ]; rfl)
      case hQ9 => exact fun _ _ _ h => h
      case hy9 => exact Or.inl ⟨by rfl, by (intro w hSw; (try dsimp only at hSw); go_simp )⟩
      simp only [Act.put, List.setIfInBounds_toArray, List.set_cons_zero, List.set_cons_succ]
      refine wpAnyH_take (i := 10) (oi := ?oi10) (v := .int .u32 (vv : Nat)) ?hi10 (by kernel_rfl) (by kernel_rfl) (by kernel_rfl) ?hQ10 ?hy10 (by assumption) ?rest10
      case hi10 => (simp only [List.getElem?_toArray, List.getElem?_cons_zero, List.getElem?_cons_succ]; rfl)
      case hQ10 => exact fun _ _ _ h => h
      case hy10 => exact y_cell (w.heap.size + 1) (k * 2 + 1) _ (fun V hV => (hV.2.1.cell _).trans HV.out) _ Tryd.underlying22 rfl rfl
      simp only [Act.put, List.setIfInBounds_toArray, List.set_cons_zero, List.set_cons_succ]
      refine wpAnyH_ready (rs := [11, 16]) (by kernel_rfl) (by simp) ?_
      refine AllReadyH.cons (o := ?oi12) ?hi12 (fun K hK => ?b12) (AllReadyH.cons (o := ?oi13) ?hi13 (fun K hK => ?b13) AllReadyH.nil)
      case hi12 => (simp only [List.getElem?_toArray, List.getElem?_cons_zero, List.getElem?_cons_succ]; rfl)
      case hi13 => (simp only [List.getElem?_toArray, List.getElem?_cons_zero, List.getElem?_cons_succ]; rfl)
      case b12 =>
        go_simp
        (with_reducible refine (HW.out _ (HO.out.bl hHeld.2.2)).mono ?_)
        rintro e V ⟨rfl, hbc⟩
        have hH2 := hide (And.intro (hHeld.1.bl hbc) (And.intro (hHeld.2.1.bl hbc) (below_bl rfl hHeld.2.2 hbc)))
        clear hHeld hbc
        go_simp
        refine hK.out _ _ ?_ (fun hHeld => ?_)
        · exact hH2.out
        clear hK K hH2
        refine wpAnyH_take (i := 12) (oi := ?oi14) (v := .tuple #[.agg z.cells, .int .i64 (-1), .nilIface]) ?hi14 (by kernel_rfl) (by kernel_rfl) (by kernel_rfl) ?hQ14 ?hy14 (by assumption) ?rest14
        case hi14 => (simp only [List.getElem?_toArray, List.getElem?_cons_zero, List.getElem?_cons_succ]; rfl)
        case hQ14 => exact fun _ _ _ h => h
        case hy14 => exact Or.inl ⟨by rfl, by (intro w hSw; (try dsimp only at hSw); go_simp )⟩
        simp only [Act.put, List.setIfInBounds_toArray, List.set_cons_zero, List.set_cons_succ]
        refine wpAnyH_take (i := 13) (oi := ?oi15) (v := .agg z.cells) ?hi15 (by kernel_rfl) (by kernel_rfl) (by kernel_rfl) ?hQ15 ?hy15 (by assumption) ?rest15
        case hi15 => (simp only [List.getElem?_toArray, List.getElem?_cons_zero, List.getElem?_cons_succ]; rfl)
        case hQ15 => exact fun _ _ _ h => h
        case hy15 => exact Or.inl ⟨by rfl, by (intro w hSw; (try dsimp only at hSw); go_simp )⟩
        simp only [Act.put, List.setIfInBounds_toArray, List.set_cons_zero, List.set_cons_succ]
        refine wpAnyH_take (i := 14) (oi := ?oi16) (v := .int .i64 (-1)) ?hi16 (by kernel_rfl) (by kernel_rfl) (by kernel_rfl) ?hQ16 ?hy16 (by assumption) ?rest16
        case hi16 => (simp only [List.getElem?_toArray, List.getElem?_cons_zero, List.getElem?_cons_succ]; rfl)
        case hQ16 => exact fun _ _ _ h => h
        case hy16 => exact Or.inl ⟨by rfl, by (intro w hSw; (try dsimp only at hSw); go_simp )⟩
        simp only [Act.put, List.setIfInBounds_toArray, List.set_cons_zero, List.set_cons_succ]
        refine wpAnyH_take (i := 15) (oi := ?oi17) (v := .nilIface) ?hi17 (by kernel_rfl) (by kernel_rfl) (by kernel_rfl) ?hQ17 ?hy17 (by assumption) ?rest17
        case hi17 => (simp only [List.getElem?_toArray, List.getElem?_cons_zero, List.getElem?_cons_succ]; rfl)
        case hQ17 => exact fun _ _ _ h => h
        case hy17 => exact Or.inl ⟨by rfl, by (intro w hSw; (try dsimp only at hSw); go_simp )⟩
        simp only [Act.put, List.setIfInBounds_toArray, List.set_cons_zero, List.set_cons_succ]
        refine wpAnyH_ready (rs := [16]) (by kernel_rfl) (by simp) ?_
        refine AllReadyH.cons (o := ?oi18) ?hi18 (fun K hK => ?_) AllReadyH.nil
        case hi18 => (simp only [List.getElem?_toArray, List.getElem?_cons_zero, List.getElem?_cons_succ]; rfl)
        obtain ⟨NY, hNY⟩ : ∃ n, V.heap.size = n := ⟨_, rfl⟩
        have lNY0 : w.heap.size < NY := by have := hHeld.1.lt; omega
        have lNY1 : (w.heap.size + 1) < NY := by have := hHeld.2.1.lt; omega
        have lNYw : w.heap.size ≤ NY := by have := (hHeld.2.2).size; omega
        replace hNY := hide hNY
        rw [if_pos (by rfl)]
        (with_reducible refine s_allocv NY ?_ _ zero_vp ?_)
        · exact hNY.out
        intro V hy hb' hzY
        have hH2 := hide (And.intro (hHeld.1.bl (hNY.out ▸ hb')) (And.intro (hHeld.2.1.bl (hNY.out ▸ hb')) (hHeld.2.2.trans (hb'.mono (by omega)))))
        simp only [Act.put, List.setIfInBounds_toArray, List.set_cons_zero, List.set_cons_succ]
        clear hHeld hb' hzY
        refine hK.out _ _ ?_ (fun hHeld => ?_)
        · exact hH2.out
        clear hK K
        clear hH2
        refine wpAnyH_ready (rs := [17]) (by kernel_rfl) (by simp) ?_
        refine AllReadyH.cons (o := ?oi19) ?hi19 (fun K hK => ?_) AllReadyH.nil
        case hi19 => (simp only [List.getElem?_toArray, List.getElem?_cons_zero, List.getElem?_cons_succ]; rfl)
        rw [if_pos (by rfl)]
        (with_reducible refine s_vp NY _ z hy ?_ ?_ ?_)
        · exact rfl
        · exact rfl
        intro V hnew ho
        have hH2 := hide (And.intro (hHeld.1.only ho (by omega)) (And.intro (hHeld.2.1.only ho (by omega)) (ho.bel _ _ (by omega) hHeld.2.2)))
        replace hy := hnew
        clear hHeld
        refine hK.out _ _ ?_ (fun hHeld => ?_)
        · exact hH2.out
        clear hK K
        clear hH2
        refine wpAnyH_take (i := 18) (oi := ?oi20) (v := .int .i64 (-1)) ?hi20 (by kernel_rfl) (by kernel_rfl) (by kernel_rfl) ?hQ20 ?hy20 (by assumption) ?rest20
        case hi20 => (simp only [List.getElem?_toArray, List.getElem?_cons_zero, List.getElem?_cons_succ]; rfl)
        case hQ20 => exact fun _ _ _ h => h
        case hy20 => exact Or.inl ⟨by rfl, by (intro w hSw; (try dsimp only at hSw); go_simp )⟩
        simp only [Act.put, List.setIfInBounds_toArray, List.set_cons_zero, List.set_cons_succ]
        refine wpAnyH_take (i := 19) (oi := ?oi21) (v := .nilIface) ?hi21 (by kernel_rfl) (by kernel_rfl) (by kernel_rfl) ?hQ21 ?hy21 (by assumption) ?rest21
        case hi21 => (simp only [List.getElem?_toArray, List.getElem?_cons_zero, List.getElem?_cons_succ]; rfl)
        case hQ21 => exact fun _ _ _ h => h
        case hy21 => exact Or.inl ⟨by rfl, by (intro w hSw; (try dsimp only at hSw); go_simp )⟩
        simp only [Act.put, List.setIfInBounds_toArray, List.set_cons_zero, List.set_cons_succ]
        refine wpAnyH_done (by kernel_rfl) ?_ _
        have hx := hHeld.1
        have hl := hHeld.2.1
        have hb := hHeld.2.2
        clear hHeld
        go_wp2_with (first | ((with_reducible refine ld_vp w.heap.size _ hx ?_ ?_ ?_); exact rfl; exact rfl) | (go_at_call 14; (with_reducible refine (HL.out _).mono ?_); rintro e W ⟨rfl, hbc⟩; replace hx := hx.bl hbc; replace hl := hl.bl hbc; replace hy := hy.bl hbc; replace hb := below_bl rfl hb hbc) | ((with_reducible refine ld_vp NY _ hy ?_ ?_ ?_); exact rfl; exact rfl) | ((with_reducible refine st_vp w.heap.size _ z hx ?_ ?_ ?_); exact rfl; exact rfl; intro W hnew ho; replace hl := hl.only ho (by omega); replace hy := hy.only ho (by omega); replace hx := hnew; replace hb := ho.bel _ _ (by omega) hb))
        go_roundw
        case rel => exact ⟨k + 1, by omega, by go_num, by rw [HZ.out]; exact hx, hl, hb⟩
        case measure => simp [intOf]; omega
      case b13 =>
        obtain ⟨NY, hNY⟩ : ∃ n, V.heap.size = n := ⟨_, rfl⟩
        have lNY0 : w.heap.size < NY := by have := hHeld.1.lt; omega
        have lNY1 : (w.heap.size + 1) < NY := by have := hHeld.2.1.lt; omega
        have lNYw : w.heap.size ≤ NY := by have := (hHeld.2.2).size; omega
        replace hNY := hide hNY
        rw [if_pos (by rfl)]
        (with_reducible refine s_allocv NY ?_ _ zero_vp ?_)
        · exact hNY.out
        intro V hy hb' hzY
        have hH2 := hide (And.intro (hHeld.1.bl (hNY.out ▸ hb')) (And.intro (hHeld.2.1.bl (hNY.out ▸ hb')) (hHeld.2.2.trans (hb'.mono (by omega)))))
        simp only [Act.put, List.setIfInBounds_toArray, List.set_cons_zero, List.set_cons_succ]
        clear hHeld hb' hzY
        refine hK.out _ _ ?_ (fun hHeld => ?_)
        · exact hH2.out
        clear hK K hH2
        refine wpAnyH_ready (rs := [11]) (by kernel_rfl) (by simp) ?_
        refine AllReadyH.cons (o := ?oi22) ?hi22 (fun K hK => ?_) AllReadyH.nil
        case hi22 => (simp only [List.getElem?_toArray, List.getElem?_cons_zero, List.getElem?_cons_succ]; rfl)
        go_simp
        (with_reducible refine (HW.out _ (HO.out.bl hHeld.2.2)).mono ?_)
        rintro e V ⟨rfl, hbc⟩
        have hH2 := hide (And.intro (hHeld.1.bl hbc) (And.intro (hHeld.2.1.bl hbc) (below_bl rfl hHeld.2.2 hbc)))
        replace hy := hy.bl hbc
        clear hHeld hbc
        go_simp
        refine hK.out _ _ ?_ (fun hHeld => ?_)
        · exact hH2.out
        clear hK K
        clear hH2
        refine wpAnyH_take (i := 12) (oi := ?oi23) (v := .tuple #[.agg z.cells, .int .i64 (-1), .nilIface]) ?hi23 (by kernel_rfl) (by kernel_rfl) (by kernel_rfl) ?hQ23 ?hy23 (by assumption) ?rest23
        case hi23 => (simp only [List.getElem?_toArray, List.getElem?_cons_zero, List.getElem?_cons_succ]; rfl)
        case hQ23 => exact fun _ _ _ h => h
        case hy23 => exact Or.inl ⟨by rfl, by (intro w hSw; (try dsimp only at hSw); go_simp )⟩
        simp only [Act.put, List.setIfInBounds_toArray, List.set_cons_zero, List.set_cons_succ]
        refine wpAnyH_take (i := 13) (oi := ?oi24) (v := .agg z.cells) ?hi24 (by kernel_rfl) (by kernel_rfl) (by kernel_rfl) ?hQ24 ?hy24 (by assumption) ?rest24
        case hi24 => (simp only [List.getElem?_toArray, List.getElem?_cons_zero, List.getElem?_cons_succ]; rfl)
        case hQ24 => exact fun _ _ _ h => h
        case hy24 => exact Or.inl ⟨by rfl, by (intro w hSw; (try dsimp only at hSw); go_simp )⟩
        simp only [Act.put, List.setIfInBounds_toArray, List.set_cons_zero, List.set_cons_succ]
        refine wpAnyH_take (i := 14) (oi := ?oi25) (v := .int .i64 (-1)) ?hi25 (by kernel_rfl) (by kernel_rfl) (by kernel_rfl) ?hQ25 ?hy25 (by assumption) ?rest25
        case hi25 => (simp only [List.getElem?_toArray, List.getElem?_cons_zero, List.getElem?_cons_succ]; rfl)
        case hQ25 => exact fun _ _ _ h => h
        case hy25 => exact Or.inl ⟨by rfl, by (intro w hSw; (try dsimp only at hSw); go_simp )⟩
        simp only [Act.put, List.setIfInBounds_toArray, List.set_cons_zero, List.set_cons_succ]
        refine wpAnyH_take (i := 15) (oi := ?oi26) (v := .nilIface) ?hi26 (by kernel_rfl) (by kernel_rfl) (by kernel_rfl) ?hQ26 ?hy26 (by assumption) ?rest26
        case hi26 => (simp only [List.getElem?_toArray, List.getElem?_cons_zero, List.getElem?_cons_succ]; rfl)
        case hQ26 => exact fun _ _ _ h => h
        case hy26 => exact Or.inl ⟨by rfl, by (intro w hSw; (try dsimp only at hSw); go_simp )⟩
        simp only [Act.put, List.setIfInBounds_toArray, List.set_cons_zero, List.set_cons_succ]
        refine wpAnyH_ready (rs := [17]) (by kernel_rfl) (by simp) ?_
        refine AllReadyH.cons (o := ?oi27) ?hi27 (fun K hK => ?_) AllReadyH.nil
        case hi27 => (simp only [List.getElem?_toArray, List.getElem?_cons_zero, List.getElem?_cons_succ]; rfl)
        rw [if_pos (by rfl)]
        (with_reducible refine s_vp NY _ z hy ?_ ?_ ?_)
        · exact rfl
        · exact rfl
        intro V hnew ho
        have hH2 := hide (And.intro (hHeld.1.only ho (by omega)) (And.intro (hHeld.2.1.only ho (by omega)) (ho.bel _ _ (by omega) hHeld.2.2)))
        replace hy := hnew
        clear hHeld
        refine hK.out _ _ ?_ (fun hHeld => ?_)
        · exact hH2.out
        clear hK K
        clear hH2
        refine wpAnyH_take (i := 18) (oi := ?oi28) (v := .int .i64 (-1)) ?hi28 (by kernel_rfl) (by kernel_rfl) (by kernel_rfl) ?hQ28 ?hy28 (by assumption) ?rest28
        case hi28 => (simp only [List.getElem?_toArray, List.getElem?_cons_zero, List.getElem?_cons_succ]; rfl)
        case hQ28 => exact fun _ _ _ h => h
        case hy28 => exact Or.inl ⟨by rfl, by (intro w hSw; (try dsimp only at hSw); go_simp )⟩
        simp only [Act.put, List.setIfInBounds_toArray, List.set_cons_zero, List.set_cons_succ]
        refine wpAnyH_take (i := 19) (oi := ?oi29) (v := .nilIface) ?hi29 (by kernel_rfl) (by kernel_rfl) (by kernel_rfl) ?hQ29 ?hy29 (by assumption) ?rest29
        case hi29 => (simp only [List.getElem?_toArray, List.getElem?_cons_zero, List.getElem?_cons_succ]; rfl)
        case hQ29 => exact fun _ _ _ h => h
        case hy29 => exact Or.inl ⟨by rfl, by (intro w hSw; (try dsimp only at hSw); go_simp )⟩
        simp only [Act.put, List.setIfInBounds_toArray, List.set_cons_zero, List.set_cons_succ]
        refine wpAnyH_done (by kernel_rfl) ?_ _
        have hx := hHeld.1
        have hl := hHeld.2.1
        have hb := hHeld.2.2
        clear hHeld
        go_wp2_with (first | ((with_reducible refine ld_vp w.heap.size _ hx ?_ ?_ ?_); exact rfl; exact rfl) | (go_at_call 14; (with_reducible refine (HL.out _).mono ?_); rintro e W ⟨rfl, hbc⟩; replace hx := hx.bl hbc; replace hl := hl.bl hbc; replace hy := hy.bl hbc; replace hb := below_bl rfl hb hbc) | ((with_reducible refine ld_vp NY _ hy ?_ ?_ ?_); exact rfl; exact rfl) | ((with_reducible refine st_vp w.heap.size _ z hx ?_ ?_ ?_); exact rfl; exact rfl; intro W hnew ho; replace hl := hl.only ho (by omega); replace hy := hy.only ho (by omega); replace hx := hnew; replace hb := ho.bel _ _ (by omega) hb))
        go_roundw
        case rel => exact ⟨k + 1, by omega, by go_num, by rw [HZ.out]; exact hx, hl, hb⟩
        case measure => simp [intOf]; omega
    · obtain rfl : k = 5 := by omega
      have HL := hide (fun w => live_any (sK 5) (sK_ok 5) w)
      rw [sK_live5] at HL
      generalize sK 5 = x at HL hx
      go_wp2_with (first | ((with_reducible refine ld_vp w.heap.size _ hx ?_ ?_ ?_); exact rfl; exact rfl) | (go_at_call 14; (with_reducible refine (HL.out _).mono ?_); rintro e W ⟨rfl, hbc⟩; replace hx := hx.bl hbc; replace hl := hl.bl hbc; replace hb := below_bl rfl hb hbc))
      go_ret
      exact ⟨rfl, hb⟩

end Go.Proofs.YtahgacdkofmbmaaDoor
