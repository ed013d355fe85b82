/-
  ClintBack, walked.
-/
import Derived.Test.YtjibjginafjpcaaClBackM
import Derived.Test.YtjibjginafjpcaaClRead
import Derived.Test.YtjibjginafjpcaaClWrite
import Derived.Test.YtjibjginafjpcaaClSure
import Derived.BigQuiet
import Derived.Deep.QuietTactic
namespace Go.Proofs.Ytjibjginafjpcaa
open Go.RowKit
set_option linter.unusedVariables false

def regC : Array Value := #[.int .u32 16384, .int .u32 16388, .int .u32 49144, .int .u32 49148, .int .u32 0]
def mskC : Array Value := #[.int .u32 4294967295, .int .u32 4294967295, .int .u32 4294967295, .int .u32 4294967295, .int .u32 1]
theorem regC_at (i : Nat) (hi : i < 5) : regC[i]? = some (.int .u32 (rgN i : Nat)) := by
  have : i = 0 ∨ i = 1 ∨ i = 2 ∨ i = 3 ∨ i = 4 := by omega
  rcases this with rfl | rfl | rfl | rfl | rfl <;> rfl
theorem mskC_at (i : Nat) (hi : i < 5) : mskC[i]? = some (.int .u32 (mkN i : Nat)) := by
  have : i = 0 ∨ i = 1 ∨ i = 2 ∨ i = 3 ∨ i = 4 := by omega
  rcases this with rfl | rfl | rfl | rfl | rfl <;> rfl
theorem five_nat (z : Int) : ∃ m : Nat, (IntKind.u64.wrap z).tmod 5 = (m : Int) ∧ m < 5 := by
  have h1 : IntKind.u64.wrap z = z % 18446744073709551616 := by simp [IntKind.wrap, IntKind.bits, IntKind.signed]
  rw [h1, Int.tmod_eq_emod_of_nonneg (by omega)]
  exact ⟨(z % 18446744073709551616 % 5).toNat, by omega, by omega⟩
theorem s_alloc {P : Program} {dst : Option Tmp} {ty t : TypeId} {pos : String} {after : Array Edge} {a : Act} {w : World} {Q : Exit → Act → World → Prop} {K : Act → World → Prop} (N : Nat) (hN : w.heap.size = N) (cs : Array Value) (hz : ∀ w, (zeroValue t).run P w = .ok (.agg cs) w)
    (k : ∀ W, RowAt W N cs t → Below N w W → Hid (W.heap.size = N + 1) → K (a.put dst (.pointer (some ⟨N, 0, none⟩))) W) :
    Oper.wp P ⟨dst, .alloc t, ty, pos, after, none⟩ a w K Q := by
  subst hN
  have hrun : (execOp a.eval ⟨dst, .alloc t, ty, pos, after, none⟩).run P w = .ok (.value (.pointer (some ⟨w.heap.size, 0, none⟩))) (w.alloc (.cells cs t)) := by
    unfold execOp
    simp only [Instr.alloc, Sem.run_bind, hz, Result.andThen_ok, newVar, newRow, run_newObj_alloc, Sem.run_pure]
    rfl
  unfold Oper.wp
  rw [hrun, Oper.upon_value]
  exact k _ (RowAt.new w _ cs t rfl) (below_one w _) (hide (by simp))
variable {ops : Array Oper} {rest : List Oper} {dst : Option Tmp} {ty : TypeId} {after : Array Edge} {a : Act} {x : Operand} {gd : Option (Nat × Bool)} {pos : String} {w : World} {Q : Exit → Act → World → Prop} {parts : Array (Nat × Operand)} {S : World → Prop}
theorem bs_five (C : Array Value) (N : Nat) (hN : w.heap.size = N) (hp : Try.prog.builtSlice 22 5 (parts.map fun (i, x) => (i, a.eval x)).toList = some C)
    (k : ∀ W, RowAt W N C 22 → Below N w W → Hid (W.heap.size = N + 1) → wpList Try.prog ops Q rest (a.put dst (.slice (some ⟨N, 0, none⟩) 5 5)) W) :
    wpList Try.prog ops Q (⟨dst, .buildSlice 34 5 parts, ty, pos, after, none⟩ :: rest) a w := by
  subst hN
  exact Great.wpList_buildSliceTo rfl _ 22 5 parts rfl _ rfl dst rfl Try.underlying34 C hp (k _ (RowAt.new w _ C 22 rfl) (below_one w _) (hide (by simp)))
theorem bx_2 (N : Nat) (o0 o1 : Int) (hN : w.heap.size = N) (hx : a.eval x = .agg #[.int .i64 o0, .int .i64 o1])
    (k : ∀ W, RowAt W N #[.int .i64 o0, .int .i64 o1] 33 → Below N w W → Hid (W.heap.size = N + 1) → wpList Try.prog ops Q rest (a.put dst (.pointer (some ⟨N, 0, none⟩))) W) :
    wpList Try.prog ops Q (⟨dst, .box 33 x, ty, pos, after, none⟩ :: rest) a w := op_box N hN _ hx k
theorem y_word (b j : Nat) (v : Int) (hS : ∀ V, S V → V.cell? ⟨b, j, none⟩ = some (.int .u32 v)) (hx : a.eval x = .pointer (some ⟨b, j, none⟩)) :
    YieldsIf Try.prog ops S ⟨dst, .load 22 x, ty, pos, after, none⟩ (.int .u32 v) a := y_cell b j _ hS _ Try.underlying22 rfl hx
theorem ld_tab (b j : Nat) (C : Array Value) (v : Nat) (hr : RowAt w b C 22) (hv : C[j]? = some (.int .u32 (v : Nat))) (hx : a.eval x = .pointer (some ⟨b, j, none⟩))
    (k' : wpList Try.prog ops Q rest (a.put dst (.int .u32 (v : Nat))) w) : wpList Try.prog ops Q (⟨dst, .load 22 x, ty, pos, after, none⟩ :: rest) a w :=
  op_load_cell b j hx C _ _ hr hv _ Try.underlying22 rfl k'

set_option maxRecDepth 20000 in
set_option maxHeartbeats 4000000 in
theorem back_ne (s : S3) (hs : s.Ok) (o0 o1 : Int) (v : Nat) (hv : v < 4294967296) (i k : Nat) (hi : (IntKind.u64.wrap o0).tmod 5 = (i : Int)) (hi5 : i < 5) (hk : (IntKind.u64.wrap o1).tmod 5 = (k : Int)) (hk5 : k < 5) (hik : i ≠ k) (w : World) :
    Calls Try.prog 4 #[.agg s.cells, .agg #[.int .i64 o0, .int .i64 o1], .int .u32 (v : Nat)] w fun e w' => e = .returned (.bool true) ∧ Below w.heap.size w w' := by
  have b0 : (0 : Int) ≤ i := by omega
  have b1 : (i : Int) < 5 := by omega
  have b2 : (0 : Int) ≤ k := by omega
  have b3 : (k : Int) < 5 := by omega
  have HE0 : Hid (errP 0 = .nilIface) := hide rfl
  have HW := hide (fun w => write_any s hs (rgN i) v hv w)
  have hzk := writeV_ok hs (rgN i) v hv
  have HB1 := hide (back_same s i v hi5 hv)
  have HB2 := hide (fun h : i ≠ k => back_other s i k v hi5 hk5 hv h)
  rw [write_at s i v hi5, HE0.out] at HW
  obtain ⟨z, hz0⟩ : ∃ z, (writeV s (rgN i) v).1 = z := ⟨_, rfl⟩
  rw [hz0] at HW hzk HB1 HB2
  clear hz0
  have HR1 := hide (fun w => read_any z hzk (rgN i) w)
  have HR2 := hide (fun w => read_any z hzk (rgN k) w)
  have HR3 := hide (fun w => read_any s hs (rgN k) w)
  rw [read_at z i hi5, HE0.out, HB1.out] at HR1
  rw [read_at z k hk5, HE0.out] at HR2
  rw [read_at s k hk5, HE0.out] at HR3
  have HS := hide (fun w => sure_any w)
  have mlt : mkN i < 4294967296 := by unfold mkN; split <;> decide
  have E1 := u32_and_nat v (mkN i) hv mlt
  have HM := hide (mskC_at i hi5)
  have HG1 := hide (regC_at i hi5)
  have HG2 := hide (regC_at k hk5)
  clear HB1 hzk HE0 mlt
  generalize (v &&& mkN i) = A at *
  generalize (readV z (rgN k)).1 = B at *
  generalize (readV s (rgN k)).1 = C at *
  generalize mkN i = M at *
  generalize rgN i = Ri at *
  generalize rgN k = Rk at *
  have hBC := HB2.out hik
  subst hBC
  have t1 : ((i : Int) == (k : Int)) = false := by simp; omega
  have t1n : (i == k) = false := by simp; omega
  clear HB2 hik
  go_enter Try.func4, Try.ntmps4
  go_wp2_with (first | ((with_reducible refine bx_r w.heap.size s ?_ ?_ ?_); exact rfl; exact rfl; intro W hg hb hz) | ((with_reducible refine bx_2 (w.heap.size + 1) o0 o1 ?_ ?_ ?_); exact hz.out; exact rfl; intro W h2 hb' hz'; replace hg := hg.bl (hz.out ▸ hb'); replace hb := hb.trans (hb'.mono (by omega)); replace hz := hz') | ((with_reducible refine bs_five regC (w.heap.size + 2) ?_ ?_ ?_); exact hz.out; (kernel_rfl); intro W hc hb' hz'; replace hg := hg.bl (hz.out ▸ hb'); replace h2 := h2.bl (hz.out ▸ hb'); replace hb := hb.trans (hb'.mono (by omega)); replace hz := hz'; have c0 := h2.cell 0; have c1 := h2.cell 1))
  go_quiet (fail)
  replace hg := hg.dn nq
  replace hc := hc.dn nq
  replace hb := below_dn hb nq
  have hz : Hid ((W.drewN nq).heap.size = w.heap.size + 3) := hz
  clear c0 c1 h2 hz' hb'
  generalize W.drewN nq = W at *
  go_wp2_with (first | ((with_reducible refine ld_r w.heap.size s hg ?_ ?_); exact rfl) | ((with_reducible refine al_p (w.heap.size + 3) ?_ ?_); exact hz.out; intro W hx hb' hz'; replace hc := hc.bl (hz.out ▸ hb'); replace hb := hb.trans (hb'.mono (by omega)); replace hz := hz') | ((with_reducible refine st_p (w.heap.size + 3) _ s hx ?_ ?_ ?_); exact rfl; exact rfl; intro W hnew ho; replace hc := hc.only ho (by omega); replace hx := hnew; replace hb := ho.bel _ _ (by omega) hb; replace hz := hide (ho.size.trans hz.out)))
  refine wp_region_held_drew (S := (fun V => RowAt V (w.heap.size + 3) s.cells 26 ∧ RowAt V (w.heap.size + 2) regC 22 ∧ Below w.heap.size w V)) (by kernel_rfl) ?_ (fun hHeld => ?_)
  · exact ⟨hx.dr, hc.dr, hb.drew⟩
  generalize W.drew = V at hHeld ⊢
  clear hx hc hb hz
  refine wpAnyH_take (i := 0) (oi := ?oi1) (v := .agg s.cells) ?hi1 (by kernel_rfl) (by kernel_rfl) (by kernel_rfl) ?hQ1 ?hy1 (by assumption) ?rest1
  case hi1 => (simp only [List.getElem?_toArray, List.getElem?_cons_zero]; rfl)
  case hQ1 => exact fun _ _ _ h => h
  case hy1 => exact y_p (w.heap.size + 3) s (fun V hV => hV.1) rfl
  simp only [Act.put, List.setIfInBounds_toArray, List.set_cons_zero, List.set_cons_succ]
  refine wpAnyH_take (i := 1) (oi := ?oi2) (v := .slice (some ⟨w.heap.size + 2, 0, none⟩) 5 5) ?hi2 (by kernel_rfl) (by kernel_rfl) (by kernel_rfl) ?hQ2 ?hy2 (by assumption) ?rest2
  case hi2 => (simp only [List.getElem?_toArray, List.getElem?_cons_zero, List.getElem?_cons_succ]; rfl)
  case hQ2 => exact fun _ _ _ h => h
  case hy2 => exact Or.inl ⟨by rfl, by (intro w hSw; (try dsimp only at hSw); go_simp )⟩
  simp only [Act.put, List.setIfInBounds_toArray, List.set_cons_zero, List.set_cons_succ]
  refine wpAnyH_take (i := 2) (oi := ?oi3) (v := .int .i64 (i : Nat)) ?hi3 (by kernel_rfl) (by kernel_rfl) (by kernel_rfl) ?hQ3 ?hy3 (by assumption) ?rest3
  case hi3 => (simp only [List.getElem?_toArray, List.getElem?_cons_zero, List.getElem?_cons_succ]; rfl)
  case hQ3 => exact fun _ _ _ h => h
  case hy3 => exact Or.inl ⟨by rfl, by (intro w hSw; (try dsimp only at hSw); go_simp )⟩
  simp only [Act.put, List.setIfInBounds_toArray, List.set_cons_zero, List.set_cons_succ]
  refine wpAnyH_take (i := 3) (oi := ?oi4) (v := .pointer (some ⟨w.heap.size + 2, i, none⟩)) ?hi4 (by kernel_rfl) (by kernel_rfl) (by kernel_rfl) ?hQ4 ?hy4 (by assumption) ?rest4
  case hi4 => (simp only [List.getElem?_toArray, List.getElem?_cons_zero, List.getElem?_cons_succ]; rfl)
  case hQ4 => exact fun _ _ _ h => h
  case hy4 => exact Or.inl ⟨by rfl, by (intro w hSw; (try dsimp only at hSw); go_simp )⟩
  simp only [Act.put, List.setIfInBounds_toArray, List.set_cons_zero, List.set_cons_succ]
  refine wpAnyH_take (i := 4) (oi := ?oi5) (v := .int .u32 (Ri : Nat)) ?hi5 (by kernel_rfl) (by kernel_rfl) (by kernel_rfl) ?hQ5 ?hy5 (by assumption) ?rest5
  case hi5 => (simp only [List.getElem?_toArray, List.getElem?_cons_zero, List.getElem?_cons_succ]; rfl)
  case hQ5 => exact fun _ _ _ h => h
  case hy5 => exact y_word (w.heap.size + 2) i _ (fun V hV => (hV.2.1.cell i).trans HG1.out) rfl
  simp only [Act.put, List.setIfInBounds_toArray, List.set_cons_zero, List.set_cons_succ]
  refine wpAnyH_take (i := 5) (oi := ?oi6) (v := .int .u32 (v : Nat)) ?hi6 (by kernel_rfl) (by kernel_rfl) (by kernel_rfl) ?hQ6 ?hy6 (by assumption) ?rest6
  case hi6 => (simp only [List.getElem?_toArray, List.getElem?_cons_zero, List.getElem?_cons_succ]; rfl)
  case hQ6 => exact fun _ _ _ h => h
  case hy6 => exact Or.inl ⟨by rfl, by (intro w hSw; (try dsimp only at hSw); go_simp )⟩
  simp only [Act.put, List.setIfInBounds_toArray, List.set_cons_zero, List.set_cons_succ]
  refine wpAnyH_ready (rs := [6, 10]) (by kernel_rfl) (by simp) ?_
  refine AllReadyH.cons (o := ?oi7) ?hi7 (fun K hK => ?b7) (AllReadyH.cons (o := ?oi8) ?hi8 (fun K hK => ?b8) AllReadyH.nil)
  case hi7 => (simp only [List.getElem?_toArray, List.getElem?_cons_zero, List.getElem?_cons_succ]; rfl)
  case hi8 => (simp only [List.getElem?_toArray, List.getElem?_cons_zero, List.getElem?_cons_succ]; rfl)
  case b7 =>
    go_simp
    (with_reducible refine (HW.out _).mono ?_)
    rintro e V ⟨rfl, hbc⟩
    have hH2 := hide (And.intro (hHeld.1.bl hbc) (And.intro (hHeld.2.1.bl hbc) (below_bl rfl hHeld.2.2 hbc)))
    clear hHeld hbc
    go_simp
    refine hK.out _ _ ?_ (fun hHeld => ?_)
    · exact hH2.out
    clear hK K hH2
    refine wpAnyH_take (i := 7) (oi := ?oi9) (v := .tuple #[.agg z.cells, .nilIface]) ?hi9 (by kernel_rfl) (by kernel_rfl) (by kernel_rfl) ?hQ9 ?hy9 (by assumption) ?rest9
    case hi9 => (simp only [List.getElem?_toArray, List.getElem?_cons_zero, List.getElem?_cons_succ]; rfl)
    case hQ9 => exact fun _ _ _ h => h
    case hy9 => exact Or.inl ⟨by rfl, by (intro w hSw; (try dsimp only at hSw); go_simp )⟩
    simp only [Act.put, List.setIfInBounds_toArray, List.set_cons_zero, List.set_cons_succ]
    refine wpAnyH_take (i := 8) (oi := ?oi10) (v := .agg z.cells) ?hi10 (by kernel_rfl) (by kernel_rfl) (by kernel_rfl) ?hQ10 ?hy10 (by assumption) ?rest10
    case hi10 => (simp only [List.getElem?_toArray, List.getElem?_cons_zero, List.getElem?_cons_succ]; rfl)
    case hQ10 => exact fun _ _ _ h => h
    case hy10 => exact Or.inl ⟨by rfl, by (intro w hSw; (try dsimp only at hSw); go_simp )⟩
    simp only [Act.put, List.setIfInBounds_toArray, List.set_cons_zero, List.set_cons_succ]
    refine wpAnyH_take (i := 9) (oi := ?oi11) (v := .nilIface) ?hi11 (by kernel_rfl) (by kernel_rfl) (by kernel_rfl) ?hQ11 ?hy11 (by assumption) ?rest11
    case hi11 => (simp only [List.getElem?_toArray, List.getElem?_cons_zero, List.getElem?_cons_succ]; rfl)
    case hQ11 => exact fun _ _ _ h => h
    case hy11 => exact Or.inl ⟨by rfl, by (intro w hSw; (try dsimp only at hSw); go_simp )⟩
    simp only [Act.put, List.setIfInBounds_toArray, List.set_cons_zero, List.set_cons_succ]
    refine wpAnyH_ready (rs := [10]) (by kernel_rfl) (by simp) ?_
    refine AllReadyH.cons (o := ?oi12) ?hi12 (fun K hK => ?_) AllReadyH.nil
    case hi12 => (simp only [List.getElem?_toArray, List.getElem?_cons_zero, List.getElem?_cons_succ]; rfl)
    obtain ⟨NY, hNY⟩ : ∃ n, V.heap.size = n := ⟨_, rfl⟩
    have lNY : w.heap.size + 4 ≤ NY := by have := hHeld.1.lt; omega
    replace hNY := hide hNY
    rw [if_pos (by rfl)]
    (with_reducible refine s_alloc NY ?_ _ zero_p ?_)
    · exact hNY.out
    intro V hy hb' hzY
    have hH2 := hide (And.intro (hHeld.1.bl (hNY.out ▸ hb')) (And.intro (hHeld.2.1.bl (hNY.out ▸ hb')) (hHeld.2.2.trans (hb'.mono (by omega)))))
    simp only [Act.put, List.setIfInBounds_toArray, List.set_cons_zero, List.set_cons_succ]
    clear hHeld
    refine hK.out _ _ ?_ (fun hHeld => ?_)
    · exact hH2.out
    clear hK K
    refine wpAnyH_ready (rs := [11]) (by kernel_rfl) (by simp) ?_
    refine AllReadyH.cons (o := ?oi46) ?hi46 (fun K hK => ?_) AllReadyH.nil
    case hi46 => (simp only [List.getElem?_toArray, List.getElem?_cons_zero, List.getElem?_cons_succ]; rfl)
    rw [if_pos (by rfl)]
    (with_reducible refine s_p NY _ z hy ?_ ?_ ?_)
    · exact rfl
    · exact rfl
    intro V hnew ho
    have hH2 := hide (And.intro (hHeld.1.only ho (by omega)) (And.intro (hHeld.2.1.only ho (by omega)) (ho.bel _ _ (by omega) hHeld.2.2)))
    replace hy := hnew
    clear hHeld
    refine hK.out _ _ ?_ (fun hHeld => ?_)
    · exact hH2.out
    clear hK K
    refine wpAnyH_take (i := 12) (oi := ?oi47) (v := .nilIface) ?hi47 (by kernel_rfl) (by kernel_rfl) (by kernel_rfl) ?hQ47 ?hy47 (by assumption) ?rest47
    case hi47 => (simp only [List.getElem?_toArray, List.getElem?_cons_zero, List.getElem?_cons_succ]; rfl)
    case hQ47 => exact fun _ _ _ h => h
    case hy47 => exact Or.inl ⟨by rfl, by (intro w hSw; (try dsimp only at hSw); go_simp )⟩
    simp only [Act.put, List.setIfInBounds_toArray, List.set_cons_zero, List.set_cons_succ]
    refine wpAnyH_done (by kernel_rfl) ?_ _
    have hx := hHeld.1
    have hc := hHeld.2.1
    have hb := hHeld.2.2
    clear hHeld
    go_wp2_with (fail)
    refine wp_region_held_drew (S := (fun V => RowAt V NY z.cells 26 ∧ RowAt V (w.heap.size + 2) regC 22 ∧ RowAt V (w.heap.size + 3) s.cells 26 ∧ Below w.heap.size w V)) (by kernel_rfl) ?_ (fun hHeld => ?_)
    · exact ⟨hy.dr, hc.dr, hx.dr, hb.drew⟩
    clear hy hc hx hb
    refine wpAnyH_take (i := 0) (oi := ?oi13) (v := .agg z.cells) ?hi13 (by kernel_rfl) (by kernel_rfl) (by kernel_rfl) ?hQ13 ?hy13 (by assumption) ?rest13
    case hi13 => (simp only [List.getElem?_toArray, List.getElem?_cons_zero]; rfl)
    case hQ13 => exact fun _ _ _ h => h
    case hy13 => exact y_p NY z (fun V hV => hV.1) rfl
    simp only [Act.put, List.setIfInBounds_toArray, List.set_cons_zero, List.set_cons_succ]
    refine wpAnyH_take (i := 1) (oi := ?oi14) (v := .slice (some ⟨w.heap.size + 2, 0, none⟩) 5 5) ?hi14 (by kernel_rfl) (by kernel_rfl) (by kernel_rfl) ?hQ14 ?hy14 (by assumption) ?rest14
    case hi14 => (simp only [List.getElem?_toArray, List.getElem?_cons_zero, List.getElem?_cons_succ]; rfl)
    case hQ14 => exact fun _ _ _ h => h
    case hy14 => exact Or.inl ⟨by rfl, by (intro w hSw; (try dsimp only at hSw); go_simp )⟩
    simp only [Act.put, List.setIfInBounds_toArray, List.set_cons_zero, List.set_cons_succ]
    refine wpAnyH_take (i := 2) (oi := ?oi15) (v := .int .i64 (i : Nat)) ?hi15 (by kernel_rfl) (by kernel_rfl) (by kernel_rfl) ?hQ15 ?hy15 (by assumption) ?rest15
    case hi15 => (simp only [List.getElem?_toArray, List.getElem?_cons_zero, List.getElem?_cons_succ]; rfl)
    case hQ15 => exact fun _ _ _ h => h
    case hy15 => exact Or.inl ⟨by rfl, by (intro w hSw; (try dsimp only at hSw); go_simp )⟩
    simp only [Act.put, List.setIfInBounds_toArray, List.set_cons_zero, List.set_cons_succ]
    refine wpAnyH_take (i := 3) (oi := ?oi16) (v := .pointer (some ⟨w.heap.size + 2, i, none⟩)) ?hi16 (by kernel_rfl) (by kernel_rfl) (by kernel_rfl) ?hQ16 ?hy16 (by assumption) ?rest16
    case hi16 => (simp only [List.getElem?_toArray, List.getElem?_cons_zero, List.getElem?_cons_succ]; rfl)
    case hQ16 => exact fun _ _ _ h => h
    case hy16 => exact Or.inl ⟨by rfl, by (intro w hSw; (try dsimp only at hSw); go_simp )⟩
    simp only [Act.put, List.setIfInBounds_toArray, List.set_cons_zero, List.set_cons_succ]
    refine wpAnyH_take (i := 4) (oi := ?oi17) (v := .int .u32 (Ri : Nat)) ?hi17 (by kernel_rfl) (by kernel_rfl) (by kernel_rfl) ?hQ17 ?hy17 (by assumption) ?rest17
    case hi17 => (simp only [List.getElem?_toArray, List.getElem?_cons_zero, List.getElem?_cons_succ]; rfl)
    case hQ17 => exact fun _ _ _ h => h
    case hy17 => exact y_word (w.heap.size + 2) i _ (fun V hV => (hV.2.1.cell i).trans HG1.out) rfl
    simp only [Act.put, List.setIfInBounds_toArray, List.set_cons_zero, List.set_cons_succ]
    refine wpAnyH_ready (rs := [5]) (by kernel_rfl) (by simp) ?_
    refine AllReadyH.cons (o := ?oi18) ?hi18 (fun K hK => ?_) AllReadyH.nil
    case hi18 => (simp only [List.getElem?_toArray, List.getElem?_cons_zero, List.getElem?_cons_succ]; rfl)
    go_simp
    (with_reducible refine (HR1.out _).mono ?_)
    rintro e V ⟨rfl, hbc⟩
    have hH2 := hide (And.intro (hHeld.1.bl hbc) (And.intro (hHeld.2.1.bl hbc) (And.intro (hHeld.2.2.1.bl hbc) (below_bl rfl hHeld.2.2.2 hbc))))
    clear hHeld hbc
    go_simp
    refine hK.out _ _ ?_ (fun hHeld => ?_)
    · exact hH2.out
    clear hK K
    clear hH2
    refine wpAnyH_take (i := 6) (oi := ?oi19) (v := .tuple #[.int .u32 (A : Nat), .nilIface]) ?hi19 (by kernel_rfl) (by kernel_rfl) (by kernel_rfl) ?hQ19 ?hy19 (by assumption) ?rest19
    case hi19 => (simp only [List.getElem?_toArray, List.getElem?_cons_zero, List.getElem?_cons_succ]; rfl)
    case hQ19 => exact fun _ _ _ h => h
    case hy19 => exact Or.inl ⟨by rfl, by (intro w hSw; (try dsimp only at hSw); go_simp )⟩
    simp only [Act.put, List.setIfInBounds_toArray, List.set_cons_zero, List.set_cons_succ]
    refine wpAnyH_take (i := 7) (oi := ?oi20) (v := .int .u32 (A : Nat)) ?hi20 (by kernel_rfl) (by kernel_rfl) (by kernel_rfl) ?hQ20 ?hy20 (by assumption) ?rest20
    case hi20 => (simp only [List.getElem?_toArray, List.getElem?_cons_zero, List.getElem?_cons_succ]; rfl)
    case hQ20 => exact fun _ _ _ h => h
    case hy20 => exact Or.inl ⟨by rfl, by (intro w hSw; (try dsimp only at hSw); go_simp )⟩
    simp only [Act.put, List.setIfInBounds_toArray, List.set_cons_zero, List.set_cons_succ]
    refine wpAnyH_take (i := 8) (oi := ?oi21) (v := .nilIface) ?hi21 (by kernel_rfl) (by kernel_rfl) (by kernel_rfl) ?hQ21 ?hy21 (by assumption) ?rest21
    case hi21 => (simp only [List.getElem?_toArray, List.getElem?_cons_zero, List.getElem?_cons_succ]; rfl)
    case hQ21 => exact fun _ _ _ h => h
    case hy21 => exact Or.inl ⟨by rfl, by (intro w hSw; (try dsimp only at hSw); go_simp )⟩
    simp only [Act.put, List.setIfInBounds_toArray, List.set_cons_zero, List.set_cons_succ]
    refine wpAnyH_take (i := 9) (oi := ?oi22) (v := .int .u32 (A : Nat)) ?hi22 (by kernel_rfl) (by kernel_rfl) (by kernel_rfl) ?hQ22 ?hy22 (by assumption) ?rest22
    case hi22 => (simp only [List.getElem?_toArray, List.getElem?_cons_zero, List.getElem?_cons_succ]; rfl)
    case hQ22 => exact fun _ _ _ h => h
    case hy22 => exact Or.inl ⟨by rfl, by (intro w hSw; (try dsimp only at hSw); go_simp )⟩
    simp only [Act.put, List.setIfInBounds_toArray, List.set_cons_zero, List.set_cons_succ]
    refine wpAnyH_take (i := 10) (oi := ?oi23) (v := .nilIface) ?hi23 (by kernel_rfl) (by kernel_rfl) (by kernel_rfl) ?hQ23 ?hy23 (by assumption) ?rest23
    case hi23 => (simp only [List.getElem?_toArray, List.getElem?_cons_zero, List.getElem?_cons_succ]; rfl)
    case hQ23 => exact fun _ _ _ h => h
    case hy23 => exact Or.inl ⟨by rfl, by (intro w hSw; (try dsimp only at hSw); go_simp )⟩
    simp only [Act.put, List.setIfInBounds_toArray, List.set_cons_zero, List.set_cons_succ]
    refine wpAnyH_done (by kernel_rfl) ?_ _
    have hy := hHeld.1
    have hc := hHeld.2.1
    have hx := hHeld.2.2.1
    have hb := hHeld.2.2.2
    clear hHeld
    go_wp2_with (fail)
    refine wp_region_held_drew (S := (fun V => RowAt V NY z.cells 26 ∧ RowAt V (w.heap.size + 2) regC 22 ∧ RowAt V (w.heap.size + 3) s.cells 26 ∧ Below w.heap.size w V)) (by kernel_rfl) ?_ (fun hHeld => ?_)
    · exact ⟨hy.dr, hc.dr, hx.dr, hb.drew⟩
    clear hy hc hx hb
    refine wpAnyH_take (i := 0) (oi := ?oi24) (v := .agg z.cells) ?hi24 (by kernel_rfl) (by kernel_rfl) (by kernel_rfl) ?hQ24 ?hy24 (by assumption) ?rest24
    case hi24 => (simp only [List.getElem?_toArray, List.getElem?_cons_zero]; rfl)
    case hQ24 => exact fun _ _ _ h => h
    case hy24 => exact y_p NY z (fun V hV => hV.1) rfl
    simp only [Act.put, List.setIfInBounds_toArray, List.set_cons_zero, List.set_cons_succ]
    refine wpAnyH_take (i := 1) (oi := ?oi25) (v := .slice (some ⟨w.heap.size + 2, 0, none⟩) 5 5) ?hi25 (by kernel_rfl) (by kernel_rfl) (by kernel_rfl) ?hQ25 ?hy25 (by assumption) ?rest25
    case hi25 => (simp only [List.getElem?_toArray, List.getElem?_cons_zero, List.getElem?_cons_succ]; rfl)
    case hQ25 => exact fun _ _ _ h => h
    case hy25 => exact Or.inl ⟨by rfl, by (intro w hSw; (try dsimp only at hSw); go_simp )⟩
    simp only [Act.put, List.setIfInBounds_toArray, List.set_cons_zero, List.set_cons_succ]
    refine wpAnyH_take (i := 2) (oi := ?oi26) (v := .int .i64 (k : Nat)) ?hi26 (by kernel_rfl) (by kernel_rfl) (by kernel_rfl) ?hQ26 ?hy26 (by assumption) ?rest26
    case hi26 => (simp only [List.getElem?_toArray, List.getElem?_cons_zero, List.getElem?_cons_succ]; rfl)
    case hQ26 => exact fun _ _ _ h => h
    case hy26 => exact Or.inl ⟨by rfl, by (intro w hSw; (try dsimp only at hSw); go_simp )⟩
    simp only [Act.put, List.setIfInBounds_toArray, List.set_cons_zero, List.set_cons_succ]
    refine wpAnyH_take (i := 3) (oi := ?oi27) (v := .pointer (some ⟨w.heap.size + 2, k, none⟩)) ?hi27 (by kernel_rfl) (by kernel_rfl) (by kernel_rfl) ?hQ27 ?hy27 (by assumption) ?rest27
    case hi27 => (simp only [List.getElem?_toArray, List.getElem?_cons_zero, List.getElem?_cons_succ]; rfl)
    case hQ27 => exact fun _ _ _ h => h
    case hy27 => exact Or.inl ⟨by rfl, by (intro w hSw; (try dsimp only at hSw); go_simp )⟩
    simp only [Act.put, List.setIfInBounds_toArray, List.set_cons_zero, List.set_cons_succ]
    refine wpAnyH_take (i := 4) (oi := ?oi28) (v := .int .u32 (Rk : Nat)) ?hi28 (by kernel_rfl) (by kernel_rfl) (by kernel_rfl) ?hQ28 ?hy28 (by assumption) ?rest28
    case hi28 => (simp only [List.getElem?_toArray, List.getElem?_cons_zero, List.getElem?_cons_succ]; rfl)
    case hQ28 => exact fun _ _ _ h => h
    case hy28 => exact y_word (w.heap.size + 2) k _ (fun V hV => (hV.2.1.cell k).trans HG2.out) rfl
    simp only [Act.put, List.setIfInBounds_toArray, List.set_cons_zero, List.set_cons_succ]
    refine wpAnyH_ready (rs := [5]) (by kernel_rfl) (by simp) ?_
    refine AllReadyH.cons (o := ?oi29) ?hi29 (fun K hK => ?_) AllReadyH.nil
    case hi29 => (simp only [List.getElem?_toArray, List.getElem?_cons_zero, List.getElem?_cons_succ]; rfl)
    go_simp
    (with_reducible refine (HR2.out _).mono ?_)
    rintro e V ⟨rfl, hbc⟩
    have hH2 := hide (And.intro (hHeld.1.bl hbc) (And.intro (hHeld.2.1.bl hbc) (And.intro (hHeld.2.2.1.bl hbc) (below_bl rfl hHeld.2.2.2 hbc))))
    clear hHeld hbc
    go_simp
    refine hK.out _ _ ?_ (fun hHeld => ?_)
    · exact hH2.out
    clear hK K
    clear hH2
    refine wpAnyH_take (i := 6) (oi := ?oi30) (v := .tuple #[.int .u32 (B : Nat), .nilIface]) ?hi30 (by kernel_rfl) (by kernel_rfl) (by kernel_rfl) ?hQ30 ?hy30 (by assumption) ?rest30
    case hi30 => (simp only [List.getElem?_toArray, List.getElem?_cons_zero, List.getElem?_cons_succ]; rfl)
    case hQ30 => exact fun _ _ _ h => h
    case hy30 => exact Or.inl ⟨by rfl, by (intro w hSw; (try dsimp only at hSw); go_simp )⟩
    simp only [Act.put, List.setIfInBounds_toArray, List.set_cons_zero, List.set_cons_succ]
    refine wpAnyH_take (i := 7) (oi := ?oi31) (v := .int .u32 (B : Nat)) ?hi31 (by kernel_rfl) (by kernel_rfl) (by kernel_rfl) ?hQ31 ?hy31 (by assumption) ?rest31
    case hi31 => (simp only [List.getElem?_toArray, List.getElem?_cons_zero, List.getElem?_cons_succ]; rfl)
    case hQ31 => exact fun _ _ _ h => h
    case hy31 => exact Or.inl ⟨by rfl, by (intro w hSw; (try dsimp only at hSw); go_simp )⟩
    simp only [Act.put, List.setIfInBounds_toArray, List.set_cons_zero, List.set_cons_succ]
    refine wpAnyH_take (i := 8) (oi := ?oi32) (v := .nilIface) ?hi32 (by kernel_rfl) (by kernel_rfl) (by kernel_rfl) ?hQ32 ?hy32 (by assumption) ?rest32
    case hi32 => (simp only [List.getElem?_toArray, List.getElem?_cons_zero, List.getElem?_cons_succ]; rfl)
    case hQ32 => exact fun _ _ _ h => h
    case hy32 => exact Or.inl ⟨by rfl, by (intro w hSw; (try dsimp only at hSw); go_simp )⟩
    simp only [Act.put, List.setIfInBounds_toArray, List.set_cons_zero, List.set_cons_succ]
    refine wpAnyH_take (i := 9) (oi := ?oi33) (v := .int .u32 (B : Nat)) ?hi33 (by kernel_rfl) (by kernel_rfl) (by kernel_rfl) ?hQ33 ?hy33 (by assumption) ?rest33
    case hi33 => (simp only [List.getElem?_toArray, List.getElem?_cons_zero, List.getElem?_cons_succ]; rfl)
    case hQ33 => exact fun _ _ _ h => h
    case hy33 => exact Or.inl ⟨by rfl, by (intro w hSw; (try dsimp only at hSw); go_simp )⟩
    simp only [Act.put, List.setIfInBounds_toArray, List.set_cons_zero, List.set_cons_succ]
    refine wpAnyH_take (i := 10) (oi := ?oi34) (v := .nilIface) ?hi34 (by kernel_rfl) (by kernel_rfl) (by kernel_rfl) ?hQ34 ?hy34 (by assumption) ?rest34
    case hi34 => (simp only [List.getElem?_toArray, List.getElem?_cons_zero, List.getElem?_cons_succ]; rfl)
    case hQ34 => exact fun _ _ _ h => h
    case hy34 => exact Or.inl ⟨by rfl, by (intro w hSw; (try dsimp only at hSw); go_simp )⟩
    simp only [Act.put, List.setIfInBounds_toArray, List.set_cons_zero, List.set_cons_succ]
    refine wpAnyH_done (by kernel_rfl) ?_ _
    have hy := hHeld.1
    have hc := hHeld.2.1
    have hx := hHeld.2.2.1
    have hb := hHeld.2.2.2
    clear hHeld
    go_wp2_with (fail)
    refine wp_region_held_drew (S := (fun V => RowAt V NY z.cells 26 ∧ RowAt V (w.heap.size + 2) regC 22 ∧ RowAt V (w.heap.size + 3) s.cells 26 ∧ Below w.heap.size w V)) (by kernel_rfl) ?_ (fun hHeld => ?_)
    · exact ⟨hy.dr, hc.dr, hx.dr, hb.drew⟩
    clear hy hc hx hb
    refine wpAnyH_take (i := 0) (oi := ?oi35) (v := .agg s.cells) ?hi35 (by kernel_rfl) (by kernel_rfl) (by kernel_rfl) ?hQ35 ?hy35 (by assumption) ?rest35
    case hi35 => (simp only [List.getElem?_toArray, List.getElem?_cons_zero]; rfl)
    case hQ35 => exact fun _ _ _ h => h
    case hy35 => exact y_p (w.heap.size + 3) s (fun V hV => hV.2.2.1) rfl
    simp only [Act.put, List.setIfInBounds_toArray, List.set_cons_zero, List.set_cons_succ]
    refine wpAnyH_take (i := 1) (oi := ?oi36) (v := .slice (some ⟨w.heap.size + 2, 0, none⟩) 5 5) ?hi36 (by kernel_rfl) (by kernel_rfl) (by kernel_rfl) ?hQ36 ?hy36 (by assumption) ?rest36
    case hi36 => (simp only [List.getElem?_toArray, List.getElem?_cons_zero, List.getElem?_cons_succ]; rfl)
    case hQ36 => exact fun _ _ _ h => h
    case hy36 => exact Or.inl ⟨by rfl, by (intro w hSw; (try dsimp only at hSw); go_simp )⟩
    simp only [Act.put, List.setIfInBounds_toArray, List.set_cons_zero, List.set_cons_succ]
    refine wpAnyH_take (i := 2) (oi := ?oi37) (v := .int .i64 (k : Nat)) ?hi37 (by kernel_rfl) (by kernel_rfl) (by kernel_rfl) ?hQ37 ?hy37 (by assumption) ?rest37
    case hi37 => (simp only [List.getElem?_toArray, List.getElem?_cons_zero, List.getElem?_cons_succ]; rfl)
    case hQ37 => exact fun _ _ _ h => h
    case hy37 => exact Or.inl ⟨by rfl, by (intro w hSw; (try dsimp only at hSw); go_simp )⟩
    simp only [Act.put, List.setIfInBounds_toArray, List.set_cons_zero, List.set_cons_succ]
    refine wpAnyH_take (i := 3) (oi := ?oi38) (v := .pointer (some ⟨w.heap.size + 2, k, none⟩)) ?hi38 (by kernel_rfl) (by kernel_rfl) (by kernel_rfl) ?hQ38 ?hy38 (by assumption) ?rest38
    case hi38 => (simp only [List.getElem?_toArray, List.getElem?_cons_zero, List.getElem?_cons_succ]; rfl)
    case hQ38 => exact fun _ _ _ h => h
    case hy38 => exact Or.inl ⟨by rfl, by (intro w hSw; (try dsimp only at hSw); go_simp )⟩
    simp only [Act.put, List.setIfInBounds_toArray, List.set_cons_zero, List.set_cons_succ]
    refine wpAnyH_take (i := 4) (oi := ?oi39) (v := .int .u32 (Rk : Nat)) ?hi39 (by kernel_rfl) (by kernel_rfl) (by kernel_rfl) ?hQ39 ?hy39 (by assumption) ?rest39
    case hi39 => (simp only [List.getElem?_toArray, List.getElem?_cons_zero, List.getElem?_cons_succ]; rfl)
    case hQ39 => exact fun _ _ _ h => h
    case hy39 => exact y_word (w.heap.size + 2) k _ (fun V hV => (hV.2.1.cell k).trans HG2.out) rfl
    simp only [Act.put, List.setIfInBounds_toArray, List.set_cons_zero, List.set_cons_succ]
    refine wpAnyH_ready (rs := [5]) (by kernel_rfl) (by simp) ?_
    refine AllReadyH.cons (o := ?oi40) ?hi40 (fun K hK => ?_) AllReadyH.nil
    case hi40 => (simp only [List.getElem?_toArray, List.getElem?_cons_zero, List.getElem?_cons_succ]; rfl)
    go_simp
    (with_reducible refine (HR3.out _).mono ?_)
    rintro e V ⟨rfl, hbc⟩
    have hH2 := hide (And.intro (hHeld.1.bl hbc) (And.intro (hHeld.2.1.bl hbc) (And.intro (hHeld.2.2.1.bl hbc) (below_bl rfl hHeld.2.2.2 hbc))))
    clear hHeld hbc
    go_simp
    refine hK.out _ _ ?_ (fun hHeld => ?_)
    · exact hH2.out
    clear hK K
    clear hH2
    refine wpAnyH_take (i := 6) (oi := ?oi41) (v := .tuple #[.int .u32 (B : Nat), .nilIface]) ?hi41 (by kernel_rfl) (by kernel_rfl) (by kernel_rfl) ?hQ41 ?hy41 (by assumption) ?rest41
    case hi41 => (simp only [List.getElem?_toArray, List.getElem?_cons_zero, List.getElem?_cons_succ]; rfl)
    case hQ41 => exact fun _ _ _ h => h
    case hy41 => exact Or.inl ⟨by rfl, by (intro w hSw; (try dsimp only at hSw); go_simp )⟩
    simp only [Act.put, List.setIfInBounds_toArray, List.set_cons_zero, List.set_cons_succ]
    refine wpAnyH_take (i := 7) (oi := ?oi42) (v := .int .u32 (B : Nat)) ?hi42 (by kernel_rfl) (by kernel_rfl) (by kernel_rfl) ?hQ42 ?hy42 (by assumption) ?rest42
    case hi42 => (simp only [List.getElem?_toArray, List.getElem?_cons_zero, List.getElem?_cons_succ]; rfl)
    case hQ42 => exact fun _ _ _ h => h
    case hy42 => exact Or.inl ⟨by rfl, by (intro w hSw; (try dsimp only at hSw); go_simp )⟩
    simp only [Act.put, List.setIfInBounds_toArray, List.set_cons_zero, List.set_cons_succ]
    refine wpAnyH_take (i := 8) (oi := ?oi43) (v := .nilIface) ?hi43 (by kernel_rfl) (by kernel_rfl) (by kernel_rfl) ?hQ43 ?hy43 (by assumption) ?rest43
    case hi43 => (simp only [List.getElem?_toArray, List.getElem?_cons_zero, List.getElem?_cons_succ]; rfl)
    case hQ43 => exact fun _ _ _ h => h
    case hy43 => exact Or.inl ⟨by rfl, by (intro w hSw; (try dsimp only at hSw); go_simp )⟩
    simp only [Act.put, List.setIfInBounds_toArray, List.set_cons_zero, List.set_cons_succ]
    refine wpAnyH_take (i := 9) (oi := ?oi44) (v := .int .u32 (B : Nat)) ?hi44 (by kernel_rfl) (by kernel_rfl) (by kernel_rfl) ?hQ44 ?hy44 (by assumption) ?rest44
    case hi44 => (simp only [List.getElem?_toArray, List.getElem?_cons_zero, List.getElem?_cons_succ]; rfl)
    case hQ44 => exact fun _ _ _ h => h
    case hy44 => exact Or.inl ⟨by rfl, by (intro w hSw; (try dsimp only at hSw); go_simp )⟩
    simp only [Act.put, List.setIfInBounds_toArray, List.set_cons_zero, List.set_cons_succ]
    refine wpAnyH_take (i := 10) (oi := ?oi45) (v := .nilIface) ?hi45 (by kernel_rfl) (by kernel_rfl) (by kernel_rfl) ?hQ45 ?hy45 (by assumption) ?rest45
    case hi45 => (simp only [List.getElem?_toArray, List.getElem?_cons_zero, List.getElem?_cons_succ]; rfl)
    case hQ45 => exact fun _ _ _ h => h
    case hy45 => exact Or.inl ⟨by rfl, by (intro w hSw; (try dsimp only at hSw); go_simp )⟩
    simp only [Act.put, List.setIfInBounds_toArray, List.set_cons_zero, List.set_cons_succ]
    refine wpAnyH_done (by kernel_rfl) ?_ _
    have hy := hHeld.1
    have hc := hHeld.2.1
    have hx := hHeld.2.2.1
    have hb := hHeld.2.2.2
    clear hHeld
    go_wp2_with (first | (with_reducible refine bs_five mskC _ rfl ?_ ?_; (kernel_rfl); intro W hm hb' hz2; replace hb := hb.trans (hb'.mono (by have := hb.size; omega))) | ((with_reducible refine ld_tab _ i _ _ hm HM.out ?_ ?_); exact rfl) | (go_at_call 6; refine (HS.out _).mono ?_; rintro e W ⟨rfl, hbc⟩; replace hb := below_bl rfl hb hbc))
    go_ret
    exact ⟨rfl, hb⟩
  case b8 =>
    obtain ⟨NY, hNY⟩ : ∃ n, V.heap.size = n := ⟨_, rfl⟩
    have lNY : w.heap.size + 4 ≤ NY := by have := hHeld.1.lt; omega
    replace hNY := hide hNY
    rw [if_pos (by rfl)]
    (with_reducible refine s_alloc NY ?_ _ zero_p ?_)
    · exact hNY.out
    intro V hy hb' hzY
    have hH2 := hide (And.intro (hHeld.1.bl (hNY.out ▸ hb')) (And.intro (hHeld.2.1.bl (hNY.out ▸ hb')) (hHeld.2.2.trans (hb'.mono (by omega)))))
    simp only [Act.put, List.setIfInBounds_toArray, List.set_cons_zero, List.set_cons_succ]
    clear hHeld
    refine hK.out _ _ ?_ (fun hHeld => ?_)
    · exact hH2.out
    clear hK K hH2
    refine wpAnyH_ready (rs := [6]) (by kernel_rfl) (by simp) ?_
    refine AllReadyH.cons (o := ?oi48) ?hi48 (fun K hK => ?_) AllReadyH.nil
    case hi48 => (simp only [List.getElem?_toArray, List.getElem?_cons_zero, List.getElem?_cons_succ]; rfl)
    go_simp
    (with_reducible refine (HW.out _).mono ?_)
    rintro e V ⟨rfl, hbc⟩
    have hH2 := hide (And.intro (hHeld.1.bl hbc) (And.intro (hHeld.2.1.bl hbc) (below_bl rfl hHeld.2.2 hbc)))
    replace hy := hy.bl hbc
    clear hHeld hbc
    go_simp
    refine hK.out _ _ ?_ (fun hHeld => ?_)
    · exact hH2.out
    clear hK K
    refine wpAnyH_take (i := 7) (oi := ?oi49) (v := .tuple #[.agg z.cells, .nilIface]) ?hi49 (by kernel_rfl) (by kernel_rfl) (by kernel_rfl) ?hQ49 ?hy49 (by assumption) ?rest49
    case hi49 => (simp only [List.getElem?_toArray, List.getElem?_cons_zero, List.getElem?_cons_succ]; rfl)
    case hQ49 => exact fun _ _ _ h => h
    case hy49 => exact Or.inl ⟨by rfl, by (intro w hSw; (try dsimp only at hSw); go_simp )⟩
    simp only [Act.put, List.setIfInBounds_toArray, List.set_cons_zero, List.set_cons_succ]
    refine wpAnyH_take (i := 8) (oi := ?oi50) (v := .agg z.cells) ?hi50 (by kernel_rfl) (by kernel_rfl) (by kernel_rfl) ?hQ50 ?hy50 (by assumption) ?rest50
    case hi50 => (simp only [List.getElem?_toArray, List.getElem?_cons_zero, List.getElem?_cons_succ]; rfl)
    case hQ50 => exact fun _ _ _ h => h
    case hy50 => exact Or.inl ⟨by rfl, by (intro w hSw; (try dsimp only at hSw); go_simp )⟩
    simp only [Act.put, List.setIfInBounds_toArray, List.set_cons_zero, List.set_cons_succ]
    refine wpAnyH_take (i := 9) (oi := ?oi51) (v := .nilIface) ?hi51 (by kernel_rfl) (by kernel_rfl) (by kernel_rfl) ?hQ51 ?hy51 (by assumption) ?rest51
    case hi51 => (simp only [List.getElem?_toArray, List.getElem?_cons_zero, List.getElem?_cons_succ]; rfl)
    case hQ51 => exact fun _ _ _ h => h
    case hy51 => exact Or.inl ⟨by rfl, by (intro w hSw; (try dsimp only at hSw); go_simp )⟩
    simp only [Act.put, List.setIfInBounds_toArray, List.set_cons_zero, List.set_cons_succ]
    refine wpAnyH_ready (rs := [11]) (by kernel_rfl) (by simp) ?_
    refine AllReadyH.cons (o := ?oi85) ?hi85 (fun K hK => ?_) AllReadyH.nil
    case hi85 => (simp only [List.getElem?_toArray, List.getElem?_cons_zero, List.getElem?_cons_succ]; rfl)
    rw [if_pos (by rfl)]
    (with_reducible refine s_p NY _ z hy ?_ ?_ ?_)
    · exact rfl
    · exact rfl
    intro V hnew ho
    have hH2 := hide (And.intro (hHeld.1.only ho (by omega)) (And.intro (hHeld.2.1.only ho (by omega)) (ho.bel _ _ (by omega) hHeld.2.2)))
    replace hy := hnew
    clear hHeld
    refine hK.out _ _ ?_ (fun hHeld => ?_)
    · exact hH2.out
    clear hK K
    refine wpAnyH_take (i := 12) (oi := ?oi86) (v := .nilIface) ?hi86 (by kernel_rfl) (by kernel_rfl) (by kernel_rfl) ?hQ86 ?hy86 (by assumption) ?rest86
    case hi86 => (simp only [List.getElem?_toArray, List.getElem?_cons_zero, List.getElem?_cons_succ]; rfl)
    case hQ86 => exact fun _ _ _ h => h
    case hy86 => exact Or.inl ⟨by rfl, by (intro w hSw; (try dsimp only at hSw); go_simp )⟩
    simp only [Act.put, List.setIfInBounds_toArray, List.set_cons_zero, List.set_cons_succ]
    refine wpAnyH_done (by kernel_rfl) ?_ _
    have hx := hHeld.1
    have hc := hHeld.2.1
    have hb := hHeld.2.2
    clear hHeld
    go_wp2_with (fail)
    refine wp_region_held_drew (S := (fun V => RowAt V NY z.cells 26 ∧ RowAt V (w.heap.size + 2) regC 22 ∧ RowAt V (w.heap.size + 3) s.cells 26 ∧ Below w.heap.size w V)) (by kernel_rfl) ?_ (fun hHeld => ?_)
    · exact ⟨hy.dr, hc.dr, hx.dr, hb.drew⟩
    clear hy hc hx hb
    refine wpAnyH_take (i := 0) (oi := ?oi52) (v := .agg z.cells) ?hi52 (by kernel_rfl) (by kernel_rfl) (by kernel_rfl) ?hQ52 ?hy52 (by assumption) ?rest52
    case hi52 => (simp only [List.getElem?_toArray, List.getElem?_cons_zero]; rfl)
    case hQ52 => exact fun _ _ _ h => h
    case hy52 => exact y_p NY z (fun V hV => hV.1) rfl
    simp only [Act.put, List.setIfInBounds_toArray, List.set_cons_zero, List.set_cons_succ]
    refine wpAnyH_take (i := 1) (oi := ?oi53) (v := .slice (some ⟨w.heap.size + 2, 0, none⟩) 5 5) ?hi53 (by kernel_rfl) (by kernel_rfl) (by kernel_rfl) ?hQ53 ?hy53 (by assumption) ?rest53
    case hi53 => (simp only [List.getElem?_toArray, List.getElem?_cons_zero, List.getElem?_cons_succ]; rfl)
    case hQ53 => exact fun _ _ _ h => h
    case hy53 => exact Or.inl ⟨by rfl, by (intro w hSw; (try dsimp only at hSw); go_simp )⟩
    simp only [Act.put, List.setIfInBounds_toArray, List.set_cons_zero, List.set_cons_succ]
    refine wpAnyH_take (i := 2) (oi := ?oi54) (v := .int .i64 (i : Nat)) ?hi54 (by kernel_rfl) (by kernel_rfl) (by kernel_rfl) ?hQ54 ?hy54 (by assumption) ?rest54
    case hi54 => (simp only [List.getElem?_toArray, List.getElem?_cons_zero, List.getElem?_cons_succ]; rfl)
    case hQ54 => exact fun _ _ _ h => h
    case hy54 => exact Or.inl ⟨by rfl, by (intro w hSw; (try dsimp only at hSw); go_simp )⟩
    simp only [Act.put, List.setIfInBounds_toArray, List.set_cons_zero, List.set_cons_succ]
    refine wpAnyH_take (i := 3) (oi := ?oi55) (v := .pointer (some ⟨w.heap.size + 2, i, none⟩)) ?hi55 (by kernel_rfl) (by kernel_rfl) (by kernel_rfl) ?hQ55 ?hy55 (by assumption) ?rest55
    case hi55 => (simp only [List.getElem?_toArray, List.getElem?_cons_zero, List.getElem?_cons_succ]; rfl)
    case hQ55 => exact fun _ _ _ h => h
    case hy55 => exact Or.inl ⟨by rfl, by (intro w hSw; (try dsimp only at hSw); go_simp )⟩
    simp only [Act.put, List.setIfInBounds_toArray, List.set_cons_zero, List.set_cons_succ]
    refine wpAnyH_take (i := 4) (oi := ?oi56) (v := .int .u32 (Ri : Nat)) ?hi56 (by kernel_rfl) (by kernel_rfl) (by kernel_rfl) ?hQ56 ?hy56 (by assumption) ?rest56
    case hi56 => (simp only [List.getElem?_toArray, List.getElem?_cons_zero, List.getElem?_cons_succ]; rfl)
    case hQ56 => exact fun _ _ _ h => h
    case hy56 => exact y_word (w.heap.size + 2) i _ (fun V hV => (hV.2.1.cell i).trans HG1.out) rfl
    simp only [Act.put, List.setIfInBounds_toArray, List.set_cons_zero, List.set_cons_succ]
    refine wpAnyH_ready (rs := [5]) (by kernel_rfl) (by simp) ?_
    refine AllReadyH.cons (o := ?oi57) ?hi57 (fun K hK => ?_) AllReadyH.nil
    case hi57 => (simp only [List.getElem?_toArray, List.getElem?_cons_zero, List.getElem?_cons_succ]; rfl)
    go_simp
    (with_reducible refine (HR1.out _).mono ?_)
    rintro e V ⟨rfl, hbc⟩
    have hH2 := hide (And.intro (hHeld.1.bl hbc) (And.intro (hHeld.2.1.bl hbc) (And.intro (hHeld.2.2.1.bl hbc) (below_bl rfl hHeld.2.2.2 hbc))))
    clear hHeld hbc
    go_simp
    refine hK.out _ _ ?_ (fun hHeld => ?_)
    · exact hH2.out
    clear hK K
    clear hH2
    refine wpAnyH_take (i := 6) (oi := ?oi58) (v := .tuple #[.int .u32 (A : Nat), .nilIface]) ?hi58 (by kernel_rfl) (by kernel_rfl) (by kernel_rfl) ?hQ58 ?hy58 (by assumption) ?rest58
    case hi58 => (simp only [List.getElem?_toArray, List.getElem?_cons_zero, List.getElem?_cons_succ]; rfl)
    case hQ58 => exact fun _ _ _ h => h
    case hy58 => exact Or.inl ⟨by rfl, by (intro w hSw; (try dsimp only at hSw); go_simp )⟩
    simp only [Act.put, List.setIfInBounds_toArray, List.set_cons_zero, List.set_cons_succ]
    refine wpAnyH_take (i := 7) (oi := ?oi59) (v := .int .u32 (A : Nat)) ?hi59 (by kernel_rfl) (by kernel_rfl) (by kernel_rfl) ?hQ59 ?hy59 (by assumption) ?rest59
    case hi59 => (simp only [List.getElem?_toArray, List.getElem?_cons_zero, List.getElem?_cons_succ]; rfl)
    case hQ59 => exact fun _ _ _ h => h
    case hy59 => exact Or.inl ⟨by rfl, by (intro w hSw; (try dsimp only at hSw); go_simp )⟩
    simp only [Act.put, List.setIfInBounds_toArray, List.set_cons_zero, List.set_cons_succ]
    refine wpAnyH_take (i := 8) (oi := ?oi60) (v := .nilIface) ?hi60 (by kernel_rfl) (by kernel_rfl) (by kernel_rfl) ?hQ60 ?hy60 (by assumption) ?rest60
    case hi60 => (simp only [List.getElem?_toArray, List.getElem?_cons_zero, List.getElem?_cons_succ]; rfl)
    case hQ60 => exact fun _ _ _ h => h
    case hy60 => exact Or.inl ⟨by rfl, by (intro w hSw; (try dsimp only at hSw); go_simp )⟩
    simp only [Act.put, List.setIfInBounds_toArray, List.set_cons_zero, List.set_cons_succ]
    refine wpAnyH_take (i := 9) (oi := ?oi61) (v := .int .u32 (A : Nat)) ?hi61 (by kernel_rfl) (by kernel_rfl) (by kernel_rfl) ?hQ61 ?hy61 (by assumption) ?rest61
    case hi61 => (simp only [List.getElem?_toArray, List.getElem?_cons_zero, List.getElem?_cons_succ]; rfl)
    case hQ61 => exact fun _ _ _ h => h
    case hy61 => exact Or.inl ⟨by rfl, by (intro w hSw; (try dsimp only at hSw); go_simp )⟩
    simp only [Act.put, List.setIfInBounds_toArray, List.set_cons_zero, List.set_cons_succ]
    refine wpAnyH_take (i := 10) (oi := ?oi62) (v := .nilIface) ?hi62 (by kernel_rfl) (by kernel_rfl) (by kernel_rfl) ?hQ62 ?hy62 (by assumption) ?rest62
    case hi62 => (simp only [List.getElem?_toArray, List.getElem?_cons_zero, List.getElem?_cons_succ]; rfl)
    case hQ62 => exact fun _ _ _ h => h
    case hy62 => exact Or.inl ⟨by rfl, by (intro w hSw; (try dsimp only at hSw); go_simp )⟩
    simp only [Act.put, List.setIfInBounds_toArray, List.set_cons_zero, List.set_cons_succ]
    refine wpAnyH_done (by kernel_rfl) ?_ _
    have hy := hHeld.1
    have hc := hHeld.2.1
    have hx := hHeld.2.2.1
    have hb := hHeld.2.2.2
    clear hHeld
    go_wp2_with (fail)
    refine wp_region_held_drew (S := (fun V => RowAt V NY z.cells 26 ∧ RowAt V (w.heap.size + 2) regC 22 ∧ RowAt V (w.heap.size + 3) s.cells 26 ∧ Below w.heap.size w V)) (by kernel_rfl) ?_ (fun hHeld => ?_)
    · exact ⟨hy.dr, hc.dr, hx.dr, hb.drew⟩
    clear hy hc hx hb
    refine wpAnyH_take (i := 0) (oi := ?oi63) (v := .agg z.cells) ?hi63 (by kernel_rfl) (by kernel_rfl) (by kernel_rfl) ?hQ63 ?hy63 (by assumption) ?rest63
    case hi63 => (simp only [List.getElem?_toArray, List.getElem?_cons_zero]; rfl)
    case hQ63 => exact fun _ _ _ h => h
    case hy63 => exact y_p NY z (fun V hV => hV.1) rfl
    simp only [Act.put, List.setIfInBounds_toArray, List.set_cons_zero, List.set_cons_succ]
    refine wpAnyH_take (i := 1) (oi := ?oi64) (v := .slice (some ⟨w.heap.size + 2, 0, none⟩) 5 5) ?hi64 (by kernel_rfl) (by kernel_rfl) (by kernel_rfl) ?hQ64 ?hy64 (by assumption) ?rest64
    case hi64 => (simp only [List.getElem?_toArray, List.getElem?_cons_zero, List.getElem?_cons_succ]; rfl)
    case hQ64 => exact fun _ _ _ h => h
    case hy64 => exact Or.inl ⟨by rfl, by (intro w hSw; (try dsimp only at hSw); go_simp )⟩
    simp only [Act.put, List.setIfInBounds_toArray, List.set_cons_zero, List.set_cons_succ]
    refine wpAnyH_take (i := 2) (oi := ?oi65) (v := .int .i64 (k : Nat)) ?hi65 (by kernel_rfl) (by kernel_rfl) (by kernel_rfl) ?hQ65 ?hy65 (by assumption) ?rest65
    case hi65 => (simp only [List.getElem?_toArray, List.getElem?_cons_zero, List.getElem?_cons_succ]; rfl)
    case hQ65 => exact fun _ _ _ h => h
    case hy65 => exact Or.inl ⟨by rfl, by (intro w hSw; (try dsimp only at hSw); go_simp )⟩
    simp only [Act.put, List.setIfInBounds_toArray, List.set_cons_zero, List.set_cons_succ]
    refine wpAnyH_take (i := 3) (oi := ?oi66) (v := .pointer (some ⟨w.heap.size + 2, k, none⟩)) ?hi66 (by kernel_rfl) (by kernel_rfl) (by kernel_rfl) ?hQ66 ?hy66 (by assumption) ?rest66
    case hi66 => (simp only [List.getElem?_toArray, List.getElem?_cons_zero, List.getElem?_cons_succ]; rfl)
    case hQ66 => exact fun _ _ _ h => h
    case hy66 => exact Or.inl ⟨by rfl, by (intro w hSw; (try dsimp only at hSw); go_simp )⟩
    simp only [Act.put, List.setIfInBounds_toArray, List.set_cons_zero, List.set_cons_succ]
    refine wpAnyH_take (i := 4) (oi := ?oi67) (v := .int .u32 (Rk : Nat)) ?hi67 (by kernel_rfl) (by kernel_rfl) (by kernel_rfl) ?hQ67 ?hy67 (by assumption) ?rest67
    case hi67 => (simp only [List.getElem?_toArray, List.getElem?_cons_zero, List.getElem?_cons_succ]; rfl)
    case hQ67 => exact fun _ _ _ h => h
    case hy67 => exact y_word (w.heap.size + 2) k _ (fun V hV => (hV.2.1.cell k).trans HG2.out) rfl
    simp only [Act.put, List.setIfInBounds_toArray, List.set_cons_zero, List.set_cons_succ]
    refine wpAnyH_ready (rs := [5]) (by kernel_rfl) (by simp) ?_
    refine AllReadyH.cons (o := ?oi68) ?hi68 (fun K hK => ?_) AllReadyH.nil
    case hi68 => (simp only [List.getElem?_toArray, List.getElem?_cons_zero, List.getElem?_cons_succ]; rfl)
    go_simp
    (with_reducible refine (HR2.out _).mono ?_)
    rintro e V ⟨rfl, hbc⟩
    have hH2 := hide (And.intro (hHeld.1.bl hbc) (And.intro (hHeld.2.1.bl hbc) (And.intro (hHeld.2.2.1.bl hbc) (below_bl rfl hHeld.2.2.2 hbc))))
    clear hHeld hbc
    go_simp
    refine hK.out _ _ ?_ (fun hHeld => ?_)
    · exact hH2.out
    clear hK K
    clear hH2
    refine wpAnyH_take (i := 6) (oi := ?oi69) (v := .tuple #[.int .u32 (B : Nat), .nilIface]) ?hi69 (by kernel_rfl) (by kernel_rfl) (by kernel_rfl) ?hQ69 ?hy69 (by assumption) ?rest69
    case hi69 => (simp only [List.getElem?_toArray, List.getElem?_cons_zero, List.getElem?_cons_succ]; rfl)
    case hQ69 => exact fun _ _ _ h => h
    case hy69 => exact Or.inl ⟨by rfl, by (intro w hSw; (try dsimp only at hSw); go_simp )⟩
    simp only [Act.put, List.setIfInBounds_toArray, List.set_cons_zero, List.set_cons_succ]
    refine wpAnyH_take (i := 7) (oi := ?oi70) (v := .int .u32 (B : Nat)) ?hi70 (by kernel_rfl) (by kernel_rfl) (by kernel_rfl) ?hQ70 ?hy70 (by assumption) ?rest70
    case hi70 => (simp only [List.getElem?_toArray, List.getElem?_cons_zero, List.getElem?_cons_succ]; rfl)
    case hQ70 => exact fun _ _ _ h => h
    case hy70 => exact Or.inl ⟨by rfl, by (intro w hSw; (try dsimp only at hSw); go_simp )⟩
    simp only [Act.put, List.setIfInBounds_toArray, List.set_cons_zero, List.set_cons_succ]
    refine wpAnyH_take (i := 8) (oi := ?oi71) (v := .nilIface) ?hi71 (by kernel_rfl) (by kernel_rfl) (by kernel_rfl) ?hQ71 ?hy71 (by assumption) ?rest71
    case hi71 => (simp only [List.getElem?_toArray, List.getElem?_cons_zero, List.getElem?_cons_succ]; rfl)
    case hQ71 => exact fun _ _ _ h => h
    case hy71 => exact Or.inl ⟨by rfl, by (intro w hSw; (try dsimp only at hSw); go_simp )⟩
    simp only [Act.put, List.setIfInBounds_toArray, List.set_cons_zero, List.set_cons_succ]
    refine wpAnyH_take (i := 9) (oi := ?oi72) (v := .int .u32 (B : Nat)) ?hi72 (by kernel_rfl) (by kernel_rfl) (by kernel_rfl) ?hQ72 ?hy72 (by assumption) ?rest72
    case hi72 => (simp only [List.getElem?_toArray, List.getElem?_cons_zero, List.getElem?_cons_succ]; rfl)
    case hQ72 => exact fun _ _ _ h => h
    case hy72 => exact Or.inl ⟨by rfl, by (intro w hSw; (try dsimp only at hSw); go_simp )⟩
    simp only [Act.put, List.setIfInBounds_toArray, List.set_cons_zero, List.set_cons_succ]
    refine wpAnyH_take (i := 10) (oi := ?oi73) (v := .nilIface) ?hi73 (by kernel_rfl) (by kernel_rfl) (by kernel_rfl) ?hQ73 ?hy73 (by assumption) ?rest73
    case hi73 => (simp only [List.getElem?_toArray, List.getElem?_cons_zero, List.getElem?_cons_succ]; rfl)
    case hQ73 => exact fun _ _ _ h => h
    case hy73 => exact Or.inl ⟨by rfl, by (intro w hSw; (try dsimp only at hSw); go_simp )⟩
    simp only [Act.put, List.setIfInBounds_toArray, List.set_cons_zero, List.set_cons_succ]
    refine wpAnyH_done (by kernel_rfl) ?_ _
    have hy := hHeld.1
    have hc := hHeld.2.1
    have hx := hHeld.2.2.1
    have hb := hHeld.2.2.2
    clear hHeld
    go_wp2_with (fail)
    refine wp_region_held_drew (S := (fun V => RowAt V NY z.cells 26 ∧ RowAt V (w.heap.size + 2) regC 22 ∧ RowAt V (w.heap.size + 3) s.cells 26 ∧ Below w.heap.size w V)) (by kernel_rfl) ?_ (fun hHeld => ?_)
    · exact ⟨hy.dr, hc.dr, hx.dr, hb.drew⟩
    clear hy hc hx hb
    refine wpAnyH_take (i := 0) (oi := ?oi74) (v := .agg s.cells) ?hi74 (by kernel_rfl) (by kernel_rfl) (by kernel_rfl) ?hQ74 ?hy74 (by assumption) ?rest74
    case hi74 => (simp only [List.getElem?_toArray, List.getElem?_cons_zero]; rfl)
    case hQ74 => exact fun _ _ _ h => h
    case hy74 => exact y_p (w.heap.size + 3) s (fun V hV => hV.2.2.1) rfl
    simp only [Act.put, List.setIfInBounds_toArray, List.set_cons_zero, List.set_cons_succ]
    refine wpAnyH_take (i := 1) (oi := ?oi75) (v := .slice (some ⟨w.heap.size + 2, 0, none⟩) 5 5) ?hi75 (by kernel_rfl) (by kernel_rfl) (by kernel_rfl) ?hQ75 ?hy75 (by assumption) ?rest75
    case hi75 => (simp only [List.getElem?_toArray, List.getElem?_cons_zero, List.getElem?_cons_succ]; rfl)
    case hQ75 => exact fun _ _ _ h => h
    case hy75 => exact Or.inl ⟨by rfl, by (intro w hSw; (try dsimp only at hSw); go_simp )⟩
    simp only [Act.put, List.setIfInBounds_toArray, List.set_cons_zero, List.set_cons_succ]
    refine wpAnyH_take (i := 2) (oi := ?oi76) (v := .int .i64 (k : Nat)) ?hi76 (by kernel_rfl) (by kernel_rfl) (by kernel_rfl) ?hQ76 ?hy76 (by assumption) ?rest76
    case hi76 => (simp only [List.getElem?_toArray, List.getElem?_cons_zero, List.getElem?_cons_succ]; rfl)
    case hQ76 => exact fun _ _ _ h => h
    case hy76 => exact Or.inl ⟨by rfl, by (intro w hSw; (try dsimp only at hSw); go_simp )⟩
    simp only [Act.put, List.setIfInBounds_toArray, List.set_cons_zero, List.set_cons_succ]
    refine wpAnyH_take (i := 3) (oi := ?oi77) (v := .pointer (some ⟨w.heap.size + 2, k, none⟩)) ?hi77 (by kernel_rfl) (by kernel_rfl) (by kernel_rfl) ?hQ77 ?hy77 (by assumption) ?rest77
    case hi77 => (simp only [List.getElem?_toArray, List.getElem?_cons_zero, List.getElem?_cons_succ]; rfl)
    case hQ77 => exact fun _ _ _ h => h
    case hy77 => exact Or.inl ⟨by rfl, by (intro w hSw; (try dsimp only at hSw); go_simp )⟩
    simp only [Act.put, List.setIfInBounds_toArray, List.set_cons_zero, List.set_cons_succ]
    refine wpAnyH_take (i := 4) (oi := ?oi78) (v := .int .u32 (Rk : Nat)) ?hi78 (by kernel_rfl) (by kernel_rfl) (by kernel_rfl) ?hQ78 ?hy78 (by assumption) ?rest78
    case hi78 => (simp only [List.getElem?_toArray, List.getElem?_cons_zero, List.getElem?_cons_succ]; rfl)
    case hQ78 => exact fun _ _ _ h => h
    case hy78 => exact y_word (w.heap.size + 2) k _ (fun V hV => (hV.2.1.cell k).trans HG2.out) rfl
    simp only [Act.put, List.setIfInBounds_toArray, List.set_cons_zero, List.set_cons_succ]
    refine wpAnyH_ready (rs := [5]) (by kernel_rfl) (by simp) ?_
    refine AllReadyH.cons (o := ?oi79) ?hi79 (fun K hK => ?_) AllReadyH.nil
    case hi79 => (simp only [List.getElem?_toArray, List.getElem?_cons_zero, List.getElem?_cons_succ]; rfl)
    go_simp
    (with_reducible refine (HR3.out _).mono ?_)
    rintro e V ⟨rfl, hbc⟩
    have hH2 := hide (And.intro (hHeld.1.bl hbc) (And.intro (hHeld.2.1.bl hbc) (And.intro (hHeld.2.2.1.bl hbc) (below_bl rfl hHeld.2.2.2 hbc))))
    clear hHeld hbc
    go_simp
    refine hK.out _ _ ?_ (fun hHeld => ?_)
    · exact hH2.out
    clear hK K
    clear hH2
    refine wpAnyH_take (i := 6) (oi := ?oi80) (v := .tuple #[.int .u32 (B : Nat), .nilIface]) ?hi80 (by kernel_rfl) (by kernel_rfl) (by kernel_rfl) ?hQ80 ?hy80 (by assumption) ?rest80
    case hi80 => (simp only [List.getElem?_toArray, List.getElem?_cons_zero, List.getElem?_cons_succ]; rfl)
    case hQ80 => exact fun _ _ _ h => h
    case hy80 => exact Or.inl ⟨by rfl, by (intro w hSw; (try dsimp only at hSw); go_simp )⟩
    simp only [Act.put, List.setIfInBounds_toArray, List.set_cons_zero, List.set_cons_succ]
    refine wpAnyH_take (i := 7) (oi := ?oi81) (v := .int .u32 (B : Nat)) ?hi81 (by kernel_rfl) (by kernel_rfl) (by kernel_rfl) ?hQ81 ?hy81 (by assumption) ?rest81
    case hi81 => (simp only [List.getElem?_toArray, List.getElem?_cons_zero, List.getElem?_cons_succ]; rfl)
    case hQ81 => exact fun _ _ _ h => h
    case hy81 => exact Or.inl ⟨by rfl, by (intro w hSw; (try dsimp only at hSw); go_simp )⟩
    simp only [Act.put, List.setIfInBounds_toArray, List.set_cons_zero, List.set_cons_succ]
    refine wpAnyH_take (i := 8) (oi := ?oi82) (v := .nilIface) ?hi82 (by kernel_rfl) (by kernel_rfl) (by kernel_rfl) ?hQ82 ?hy82 (by assumption) ?rest82
    case hi82 => (simp only [List.getElem?_toArray, List.getElem?_cons_zero, List.getElem?_cons_succ]; rfl)
    case hQ82 => exact fun _ _ _ h => h
    case hy82 => exact Or.inl ⟨by rfl, by (intro w hSw; (try dsimp only at hSw); go_simp )⟩
    simp only [Act.put, List.setIfInBounds_toArray, List.set_cons_zero, List.set_cons_succ]
    refine wpAnyH_take (i := 9) (oi := ?oi83) (v := .int .u32 (B : Nat)) ?hi83 (by kernel_rfl) (by kernel_rfl) (by kernel_rfl) ?hQ83 ?hy83 (by assumption) ?rest83
    case hi83 => (simp only [List.getElem?_toArray, List.getElem?_cons_zero, List.getElem?_cons_succ]; rfl)
    case hQ83 => exact fun _ _ _ h => h
    case hy83 => exact Or.inl ⟨by rfl, by (intro w hSw; (try dsimp only at hSw); go_simp )⟩
    simp only [Act.put, List.setIfInBounds_toArray, List.set_cons_zero, List.set_cons_succ]
    refine wpAnyH_take (i := 10) (oi := ?oi84) (v := .nilIface) ?hi84 (by kernel_rfl) (by kernel_rfl) (by kernel_rfl) ?hQ84 ?hy84 (by assumption) ?rest84
    case hi84 => (simp only [List.getElem?_toArray, List.getElem?_cons_zero, List.getElem?_cons_succ]; rfl)
    case hQ84 => exact fun _ _ _ h => h
    case hy84 => exact Or.inl ⟨by rfl, by (intro w hSw; (try dsimp only at hSw); go_simp )⟩
    simp only [Act.put, List.setIfInBounds_toArray, List.set_cons_zero, List.set_cons_succ]
    refine wpAnyH_done (by kernel_rfl) ?_ _
    have hy := hHeld.1
    have hc := hHeld.2.1
    have hx := hHeld.2.2.1
    have hb := hHeld.2.2.2
    clear hHeld
    go_wp2_with (first | (with_reducible refine bs_five mskC _ rfl ?_ ?_; (kernel_rfl); intro W hm hb' hz2; replace hb := hb.trans (hb'.mono (by have := hb.size; omega))) | ((with_reducible refine ld_tab _ i _ _ hm HM.out ?_ ?_); exact rfl) | (go_at_call 6; refine (HS.out _).mono ?_; rintro e W ⟨rfl, hbc⟩; replace hb := below_bl rfl hb hbc))
    go_ret
    exact ⟨rfl, hb⟩

set_option maxRecDepth 20000 in
set_option maxHeartbeats 4000000 in
theorem back_eq (s : S3) (hs : s.Ok) (o0 o1 : Int) (v : Nat) (hv : v < 4294967296) (i k : Nat) (hi : (IntKind.u64.wrap o0).tmod 5 = (i : Int)) (hi5 : i < 5) (hk : (IntKind.u64.wrap o1).tmod 5 = (k : Int)) (hk5 : k < 5) (hik : i = k) (w : World) :
    Calls Try.prog 4 #[.agg s.cells, .agg #[.int .i64 o0, .int .i64 o1], .int .u32 (v : Nat)] w fun e w' => e = .returned (.bool true) ∧ Below w.heap.size w w' := by
  have b0 : (0 : Int) ≤ i := by omega
  have b1 : (i : Int) < 5 := by omega
  have b2 : (0 : Int) ≤ k := by omega
  have b3 : (k : Int) < 5 := by omega
  have HE0 : Hid (errP 0 = .nilIface) := hide rfl
  have HW := hide (fun w => write_any s hs (rgN i) v hv w)
  have hzk := writeV_ok hs (rgN i) v hv
  have HB1 := hide (back_same s i v hi5 hv)
  rw [write_at s i v hi5, HE0.out] at HW
  obtain ⟨z, hz0⟩ : ∃ z, (writeV s (rgN i) v).1 = z := ⟨_, rfl⟩
  rw [hz0] at HW hzk HB1
  clear hz0
  have HR1 := hide (fun w => read_any z hzk (rgN i) w)
  have HR2 := hide (fun w => read_any z hzk (rgN k) w)
  have HR3 := hide (fun w => read_any s hs (rgN k) w)
  rw [read_at z i hi5, HE0.out, HB1.out] at HR1
  rw [read_at z k hk5, HE0.out] at HR2
  rw [read_at s k hk5, HE0.out] at HR3
  have HS := hide (fun w => sure_any w)
  have mlt : mkN i < 4294967296 := by unfold mkN; split <;> decide
  have E1 := u32_and_nat v (mkN i) hv mlt
  have HM := hide (mskC_at i hi5)
  have HG1 := hide (regC_at i hi5)
  have HG2 := hide (regC_at k hk5)
  clear HB1 hzk HE0 mlt
  generalize (v &&& mkN i) = A at *
  generalize (readV z (rgN k)).1 = B at *
  generalize (readV s (rgN k)).1 = C at *
  generalize mkN i = M at *
  generalize rgN i = Ri at *
  generalize rgN k = Rk at *
  have HIK := hide hik
  have t1n : (i == k) = true := by simp [hik]
  have t1 : ((i : Int) == (k : Int)) = true := by simp [hik]
  clear hik
  go_enter Try.func4, Try.ntmps4
  go_wp2_with (first | ((with_reducible refine bx_r w.heap.size s ?_ ?_ ?_); exact rfl; exact rfl; intro W hg hb hz) | ((with_reducible refine bx_2 (w.heap.size + 1) o0 o1 ?_ ?_ ?_); exact hz.out; exact rfl; intro W h2 hb' hz'; replace hg := hg.bl (hz.out ▸ hb'); replace hb := hb.trans (hb'.mono (by omega)); replace hz := hz') | ((with_reducible refine bs_five regC (w.heap.size + 2) ?_ ?_ ?_); exact hz.out; (kernel_rfl); intro W hc hb' hz'; replace hg := hg.bl (hz.out ▸ hb'); replace h2 := h2.bl (hz.out ▸ hb'); replace hb := hb.trans (hb'.mono (by omega)); replace hz := hz'; have c0 := h2.cell 0; have c1 := h2.cell 1))
  go_quiet (fail)
  replace hg := hg.dn nq
  replace hc := hc.dn nq
  replace hb := below_dn hb nq
  have hz : Hid ((W.drewN nq).heap.size = w.heap.size + 3) := hz
  clear c0 c1 h2 hz' hb'
  generalize W.drewN nq = W at *
  go_wp2_with (first | ((with_reducible refine ld_r w.heap.size s hg ?_ ?_); exact rfl) | ((with_reducible refine al_p (w.heap.size + 3) ?_ ?_); exact hz.out; intro W hx hb' hz'; replace hc := hc.bl (hz.out ▸ hb'); replace hb := hb.trans (hb'.mono (by omega)); replace hz := hz') | ((with_reducible refine st_p (w.heap.size + 3) _ s hx ?_ ?_ ?_); exact rfl; exact rfl; intro W hnew ho; replace hc := hc.only ho (by omega); replace hx := hnew; replace hb := ho.bel _ _ (by omega) hb; replace hz := hide (ho.size.trans hz.out)))
  refine wp_region_held_drew (S := (fun V => RowAt V (w.heap.size + 3) s.cells 26 ∧ RowAt V (w.heap.size + 2) regC 22 ∧ Below w.heap.size w V)) (by kernel_rfl) ?_ (fun hHeld => ?_)
  · exact ⟨hx.dr, hc.dr, hb.drew⟩
  generalize W.drew = V at hHeld ⊢
  clear hx hc hb hz
  refine wpAnyH_take (i := 0) (oi := ?oi1) (v := .agg s.cells) ?hi1 (by kernel_rfl) (by kernel_rfl) (by kernel_rfl) ?hQ1 ?hy1 (by assumption) ?rest1
  case hi1 => (simp only [List.getElem?_toArray, List.getElem?_cons_zero]; rfl)
  case hQ1 => exact fun _ _ _ h => h
  case hy1 => exact y_p (w.heap.size + 3) s (fun V hV => hV.1) rfl
  simp only [Act.put, List.setIfInBounds_toArray, List.set_cons_zero, List.set_cons_succ]
  refine wpAnyH_take (i := 1) (oi := ?oi2) (v := .slice (some ⟨w.heap.size + 2, 0, none⟩) 5 5) ?hi2 (by kernel_rfl) (by kernel_rfl) (by kernel_rfl) ?hQ2 ?hy2 (by assumption) ?rest2
  case hi2 => (simp only [List.getElem?_toArray, List.getElem?_cons_zero, List.getElem?_cons_succ]; rfl)
  case hQ2 => exact fun _ _ _ h => h
  case hy2 => exact Or.inl ⟨by rfl, by (intro w hSw; (try dsimp only at hSw); go_simp )⟩
  simp only [Act.put, List.setIfInBounds_toArray, List.set_cons_zero, List.set_cons_succ]
  refine wpAnyH_take (i := 2) (oi := ?oi3) (v := .int .i64 (i : Nat)) ?hi3 (by kernel_rfl) (by kernel_rfl) (by kernel_rfl) ?hQ3 ?hy3 (by assumption) ?rest3
  case hi3 => (simp only [List.getElem?_toArray, List.getElem?_cons_zero, List.getElem?_cons_succ]; rfl)
  case hQ3 => exact fun _ _ _ h => h
  case hy3 => exact Or.inl ⟨by rfl, by (intro w hSw; (try dsimp only at hSw); go_simp )⟩
  simp only [Act.put, List.setIfInBounds_toArray, List.set_cons_zero, List.set_cons_succ]
  refine wpAnyH_take (i := 3) (oi := ?oi4) (v := .pointer (some ⟨w.heap.size + 2, i, none⟩)) ?hi4 (by kernel_rfl) (by kernel_rfl) (by kernel_rfl) ?hQ4 ?hy4 (by assumption) ?rest4
  case hi4 => (simp only [List.getElem?_toArray, List.getElem?_cons_zero, List.getElem?_cons_succ]; rfl)
  case hQ4 => exact fun _ _ _ h => h
  case hy4 => exact Or.inl ⟨by rfl, by (intro w hSw; (try dsimp only at hSw); go_simp )⟩
  simp only [Act.put, List.setIfInBounds_toArray, List.set_cons_zero, List.set_cons_succ]
  refine wpAnyH_take (i := 4) (oi := ?oi5) (v := .int .u32 (Ri : Nat)) ?hi5 (by kernel_rfl) (by kernel_rfl) (by kernel_rfl) ?hQ5 ?hy5 (by assumption) ?rest5
  case hi5 => (simp only [List.getElem?_toArray, List.getElem?_cons_zero, List.getElem?_cons_succ]; rfl)
  case hQ5 => exact fun _ _ _ h => h
  case hy5 => exact y_word (w.heap.size + 2) i _ (fun V hV => (hV.2.1.cell i).trans HG1.out) rfl
  simp only [Act.put, List.setIfInBounds_toArray, List.set_cons_zero, List.set_cons_succ]
  refine wpAnyH_take (i := 5) (oi := ?oi6) (v := .int .u32 (v : Nat)) ?hi6 (by kernel_rfl) (by kernel_rfl) (by kernel_rfl) ?hQ6 ?hy6 (by assumption) ?rest6
  case hi6 => (simp only [List.getElem?_toArray, List.getElem?_cons_zero, List.getElem?_cons_succ]; rfl)
  case hQ6 => exact fun _ _ _ h => h
  case hy6 => exact Or.inl ⟨by rfl, by (intro w hSw; (try dsimp only at hSw); go_simp )⟩
  simp only [Act.put, List.setIfInBounds_toArray, List.set_cons_zero, List.set_cons_succ]
  refine wpAnyH_ready (rs := [6, 10]) (by kernel_rfl) (by simp) ?_
  refine AllReadyH.cons (o := ?oi87) ?hi87 (fun K hK => ?b87) (AllReadyH.cons (o := ?oi88) ?hi88 (fun K hK => ?b88) AllReadyH.nil)
  case hi87 => (simp only [List.getElem?_toArray, List.getElem?_cons_zero, List.getElem?_cons_succ]; rfl)
  case hi88 => (simp only [List.getElem?_toArray, List.getElem?_cons_zero, List.getElem?_cons_succ]; rfl)
  case b87 =>
    go_simp
    (with_reducible refine (HW.out _).mono ?_)
    rintro e V ⟨rfl, hbc⟩
    have hH2 := hide (And.intro (hHeld.1.bl hbc) (And.intro (hHeld.2.1.bl hbc) (below_bl rfl hHeld.2.2 hbc)))
    clear hHeld hbc
    go_simp
    refine hK.out _ _ ?_ (fun hHeld => ?_)
    · exact hH2.out
    clear hK K hH2
    refine wpAnyH_take (i := 7) (oi := ?oi89) (v := .tuple #[.agg z.cells, .nilIface]) ?hi89 (by kernel_rfl) (by kernel_rfl) (by kernel_rfl) ?hQ89 ?hy89 (by assumption) ?rest89
    case hi89 => (simp only [List.getElem?_toArray, List.getElem?_cons_zero, List.getElem?_cons_succ]; rfl)
    case hQ89 => exact fun _ _ _ h => h
    case hy89 => exact Or.inl ⟨by rfl, by (intro w hSw; (try dsimp only at hSw); go_simp )⟩
    simp only [Act.put, List.setIfInBounds_toArray, List.set_cons_zero, List.set_cons_succ]
    refine wpAnyH_take (i := 8) (oi := ?oi90) (v := .agg z.cells) ?hi90 (by kernel_rfl) (by kernel_rfl) (by kernel_rfl) ?hQ90 ?hy90 (by assumption) ?rest90
    case hi90 => (simp only [List.getElem?_toArray, List.getElem?_cons_zero, List.getElem?_cons_succ]; rfl)
    case hQ90 => exact fun _ _ _ h => h
    case hy90 => exact Or.inl ⟨by rfl, by (intro w hSw; (try dsimp only at hSw); go_simp )⟩
    simp only [Act.put, List.setIfInBounds_toArray, List.set_cons_zero, List.set_cons_succ]
    refine wpAnyH_take (i := 9) (oi := ?oi91) (v := .nilIface) ?hi91 (by kernel_rfl) (by kernel_rfl) (by kernel_rfl) ?hQ91 ?hy91 (by assumption) ?rest91
    case hi91 => (simp only [List.getElem?_toArray, List.getElem?_cons_zero, List.getElem?_cons_succ]; rfl)
    case hQ91 => exact fun _ _ _ h => h
    case hy91 => exact Or.inl ⟨by rfl, by (intro w hSw; (try dsimp only at hSw); go_simp )⟩
    simp only [Act.put, List.setIfInBounds_toArray, List.set_cons_zero, List.set_cons_succ]
    refine wpAnyH_ready (rs := [10]) (by kernel_rfl) (by simp) ?_
    refine AllReadyH.cons (o := ?oi92) ?hi92 (fun K hK => ?_) AllReadyH.nil
    case hi92 => (simp only [List.getElem?_toArray, List.getElem?_cons_zero, List.getElem?_cons_succ]; rfl)
    obtain ⟨NY, hNY⟩ : ∃ n, V.heap.size = n := ⟨_, rfl⟩
    have lNY : w.heap.size + 4 ≤ NY := by have := hHeld.1.lt; omega
    replace hNY := hide hNY
    rw [if_pos (by rfl)]
    (with_reducible refine s_alloc NY ?_ _ zero_p ?_)
    · exact hNY.out
    intro V hy hb' hzY
    have hH2 := hide (And.intro (hHeld.1.bl (hNY.out ▸ hb')) (And.intro (hHeld.2.1.bl (hNY.out ▸ hb')) (hHeld.2.2.trans (hb'.mono (by omega)))))
    simp only [Act.put, List.setIfInBounds_toArray, List.set_cons_zero, List.set_cons_succ]
    clear hHeld
    refine hK.out _ _ ?_ (fun hHeld => ?_)
    · exact hH2.out
    clear hK K
    refine wpAnyH_ready (rs := [11]) (by kernel_rfl) (by simp) ?_
    refine AllReadyH.cons (o := ?oi126) ?hi126 (fun K hK => ?_) AllReadyH.nil
    case hi126 => (simp only [List.getElem?_toArray, List.getElem?_cons_zero, List.getElem?_cons_succ]; rfl)
    rw [if_pos (by rfl)]
    (with_reducible refine s_p NY _ z hy ?_ ?_ ?_)
    · exact rfl
    · exact rfl
    intro V hnew ho
    have hH2 := hide (And.intro (hHeld.1.only ho (by omega)) (And.intro (hHeld.2.1.only ho (by omega)) (ho.bel _ _ (by omega) hHeld.2.2)))
    replace hy := hnew
    clear hHeld
    refine hK.out _ _ ?_ (fun hHeld => ?_)
    · exact hH2.out
    clear hK K
    refine wpAnyH_take (i := 12) (oi := ?oi127) (v := .nilIface) ?hi127 (by kernel_rfl) (by kernel_rfl) (by kernel_rfl) ?hQ127 ?hy127 (by assumption) ?rest127
    case hi127 => (simp only [List.getElem?_toArray, List.getElem?_cons_zero, List.getElem?_cons_succ]; rfl)
    case hQ127 => exact fun _ _ _ h => h
    case hy127 => exact Or.inl ⟨by rfl, by (intro w hSw; (try dsimp only at hSw); go_simp )⟩
    simp only [Act.put, List.setIfInBounds_toArray, List.set_cons_zero, List.set_cons_succ]
    refine wpAnyH_done (by kernel_rfl) ?_ _
    have hx := hHeld.1
    have hc := hHeld.2.1
    have hb := hHeld.2.2
    clear hHeld
    go_wp2_with (fail)
    refine wp_region_held_drew (S := (fun V => RowAt V NY z.cells 26 ∧ RowAt V (w.heap.size + 2) regC 22 ∧ RowAt V (w.heap.size + 3) s.cells 26 ∧ Below w.heap.size w V)) (by kernel_rfl) ?_ (fun hHeld => ?_)
    · exact ⟨hy.dr, hc.dr, hx.dr, hb.drew⟩
    clear hy hc hx hb
    refine wpAnyH_take (i := 0) (oi := ?oi93) (v := .agg z.cells) ?hi93 (by kernel_rfl) (by kernel_rfl) (by kernel_rfl) ?hQ93 ?hy93 (by assumption) ?rest93
    case hi93 => (simp only [List.getElem?_toArray, List.getElem?_cons_zero]; rfl)
    case hQ93 => exact fun _ _ _ h => h
    case hy93 => exact y_p NY z (fun V hV => hV.1) rfl
    simp only [Act.put, List.setIfInBounds_toArray, List.set_cons_zero, List.set_cons_succ]
    refine wpAnyH_take (i := 1) (oi := ?oi94) (v := .slice (some ⟨w.heap.size + 2, 0, none⟩) 5 5) ?hi94 (by kernel_rfl) (by kernel_rfl) (by kernel_rfl) ?hQ94 ?hy94 (by assumption) ?rest94
    case hi94 => (simp only [List.getElem?_toArray, List.getElem?_cons_zero, List.getElem?_cons_succ]; rfl)
    case hQ94 => exact fun _ _ _ h => h
    case hy94 => exact Or.inl ⟨by rfl, by (intro w hSw; (try dsimp only at hSw); go_simp )⟩
    simp only [Act.put, List.setIfInBounds_toArray, List.set_cons_zero, List.set_cons_succ]
    refine wpAnyH_take (i := 2) (oi := ?oi95) (v := .int .i64 (i : Nat)) ?hi95 (by kernel_rfl) (by kernel_rfl) (by kernel_rfl) ?hQ95 ?hy95 (by assumption) ?rest95
    case hi95 => (simp only [List.getElem?_toArray, List.getElem?_cons_zero, List.getElem?_cons_succ]; rfl)
    case hQ95 => exact fun _ _ _ h => h
    case hy95 => exact Or.inl ⟨by rfl, by (intro w hSw; (try dsimp only at hSw); go_simp )⟩
    simp only [Act.put, List.setIfInBounds_toArray, List.set_cons_zero, List.set_cons_succ]
    refine wpAnyH_take (i := 3) (oi := ?oi96) (v := .pointer (some ⟨w.heap.size + 2, i, none⟩)) ?hi96 (by kernel_rfl) (by kernel_rfl) (by kernel_rfl) ?hQ96 ?hy96 (by assumption) ?rest96
    case hi96 => (simp only [List.getElem?_toArray, List.getElem?_cons_zero, List.getElem?_cons_succ]; rfl)
    case hQ96 => exact fun _ _ _ h => h
    case hy96 => exact Or.inl ⟨by rfl, by (intro w hSw; (try dsimp only at hSw); go_simp )⟩
    simp only [Act.put, List.setIfInBounds_toArray, List.set_cons_zero, List.set_cons_succ]
    refine wpAnyH_take (i := 4) (oi := ?oi97) (v := .int .u32 (Ri : Nat)) ?hi97 (by kernel_rfl) (by kernel_rfl) (by kernel_rfl) ?hQ97 ?hy97 (by assumption) ?rest97
    case hi97 => (simp only [List.getElem?_toArray, List.getElem?_cons_zero, List.getElem?_cons_succ]; rfl)
    case hQ97 => exact fun _ _ _ h => h
    case hy97 => exact y_word (w.heap.size + 2) i _ (fun V hV => (hV.2.1.cell i).trans HG1.out) rfl
    simp only [Act.put, List.setIfInBounds_toArray, List.set_cons_zero, List.set_cons_succ]
    refine wpAnyH_ready (rs := [5]) (by kernel_rfl) (by simp) ?_
    refine AllReadyH.cons (o := ?oi98) ?hi98 (fun K hK => ?_) AllReadyH.nil
    case hi98 => (simp only [List.getElem?_toArray, List.getElem?_cons_zero, List.getElem?_cons_succ]; rfl)
    go_simp
    (with_reducible refine (HR1.out _).mono ?_)
    rintro e V ⟨rfl, hbc⟩
    have hH2 := hide (And.intro (hHeld.1.bl hbc) (And.intro (hHeld.2.1.bl hbc) (And.intro (hHeld.2.2.1.bl hbc) (below_bl rfl hHeld.2.2.2 hbc))))
    clear hHeld hbc
    go_simp
    refine hK.out _ _ ?_ (fun hHeld => ?_)
    · exact hH2.out
    clear hK K
    clear hH2
    refine wpAnyH_take (i := 6) (oi := ?oi99) (v := .tuple #[.int .u32 (A : Nat), .nilIface]) ?hi99 (by kernel_rfl) (by kernel_rfl) (by kernel_rfl) ?hQ99 ?hy99 (by assumption) ?rest99
    case hi99 => (simp only [List.getElem?_toArray, List.getElem?_cons_zero, List.getElem?_cons_succ]; rfl)
    case hQ99 => exact fun _ _ _ h => h
    case hy99 => exact Or.inl ⟨by rfl, by (intro w hSw; (try dsimp only at hSw); go_simp )⟩
    simp only [Act.put, List.setIfInBounds_toArray, List.set_cons_zero, List.set_cons_succ]
    refine wpAnyH_take (i := 7) (oi := ?oi100) (v := .int .u32 (A : Nat)) ?hi100 (by kernel_rfl) (by kernel_rfl) (by kernel_rfl) ?hQ100 ?hy100 (by assumption) ?rest100
    case hi100 => (simp only [List.getElem?_toArray, List.getElem?_cons_zero, List.getElem?_cons_succ]; rfl)
    case hQ100 => exact fun _ _ _ h => h
    case hy100 => exact Or.inl ⟨by rfl, by (intro w hSw; (try dsimp only at hSw); go_simp )⟩
    simp only [Act.put, List.setIfInBounds_toArray, List.set_cons_zero, List.set_cons_succ]
    refine wpAnyH_take (i := 8) (oi := ?oi101) (v := .nilIface) ?hi101 (by kernel_rfl) (by kernel_rfl) (by kernel_rfl) ?hQ101 ?hy101 (by assumption) ?rest101
    case hi101 => (simp only [List.getElem?_toArray, List.getElem?_cons_zero, List.getElem?_cons_succ]; rfl)
    case hQ101 => exact fun _ _ _ h => h
    case hy101 => exact Or.inl ⟨by rfl, by (intro w hSw; (try dsimp only at hSw); go_simp )⟩
    simp only [Act.put, List.setIfInBounds_toArray, List.set_cons_zero, List.set_cons_succ]
    refine wpAnyH_take (i := 9) (oi := ?oi102) (v := .int .u32 (A : Nat)) ?hi102 (by kernel_rfl) (by kernel_rfl) (by kernel_rfl) ?hQ102 ?hy102 (by assumption) ?rest102
    case hi102 => (simp only [List.getElem?_toArray, List.getElem?_cons_zero, List.getElem?_cons_succ]; rfl)
    case hQ102 => exact fun _ _ _ h => h
    case hy102 => exact Or.inl ⟨by rfl, by (intro w hSw; (try dsimp only at hSw); go_simp )⟩
    simp only [Act.put, List.setIfInBounds_toArray, List.set_cons_zero, List.set_cons_succ]
    refine wpAnyH_take (i := 10) (oi := ?oi103) (v := .nilIface) ?hi103 (by kernel_rfl) (by kernel_rfl) (by kernel_rfl) ?hQ103 ?hy103 (by assumption) ?rest103
    case hi103 => (simp only [List.getElem?_toArray, List.getElem?_cons_zero, List.getElem?_cons_succ]; rfl)
    case hQ103 => exact fun _ _ _ h => h
    case hy103 => exact Or.inl ⟨by rfl, by (intro w hSw; (try dsimp only at hSw); go_simp )⟩
    simp only [Act.put, List.setIfInBounds_toArray, List.set_cons_zero, List.set_cons_succ]
    refine wpAnyH_done (by kernel_rfl) ?_ _
    have hy := hHeld.1
    have hc := hHeld.2.1
    have hx := hHeld.2.2.1
    have hb := hHeld.2.2.2
    clear hHeld
    go_wp2_with (fail)
    refine wp_region_held_drew (S := (fun V => RowAt V NY z.cells 26 ∧ RowAt V (w.heap.size + 2) regC 22 ∧ RowAt V (w.heap.size + 3) s.cells 26 ∧ Below w.heap.size w V)) (by kernel_rfl) ?_ (fun hHeld => ?_)
    · exact ⟨hy.dr, hc.dr, hx.dr, hb.drew⟩
    clear hy hc hx hb
    refine wpAnyH_take (i := 0) (oi := ?oi104) (v := .agg z.cells) ?hi104 (by kernel_rfl) (by kernel_rfl) (by kernel_rfl) ?hQ104 ?hy104 (by assumption) ?rest104
    case hi104 => (simp only [List.getElem?_toArray, List.getElem?_cons_zero]; rfl)
    case hQ104 => exact fun _ _ _ h => h
    case hy104 => exact y_p NY z (fun V hV => hV.1) rfl
    simp only [Act.put, List.setIfInBounds_toArray, List.set_cons_zero, List.set_cons_succ]
    refine wpAnyH_take (i := 1) (oi := ?oi105) (v := .slice (some ⟨w.heap.size + 2, 0, none⟩) 5 5) ?hi105 (by kernel_rfl) (by kernel_rfl) (by kernel_rfl) ?hQ105 ?hy105 (by assumption) ?rest105
    case hi105 => (simp only [List.getElem?_toArray, List.getElem?_cons_zero, List.getElem?_cons_succ]; rfl)
    case hQ105 => exact fun _ _ _ h => h
    case hy105 => exact Or.inl ⟨by rfl, by (intro w hSw; (try dsimp only at hSw); go_simp )⟩
    simp only [Act.put, List.setIfInBounds_toArray, List.set_cons_zero, List.set_cons_succ]
    refine wpAnyH_take (i := 2) (oi := ?oi106) (v := .int .i64 (k : Nat)) ?hi106 (by kernel_rfl) (by kernel_rfl) (by kernel_rfl) ?hQ106 ?hy106 (by assumption) ?rest106
    case hi106 => (simp only [List.getElem?_toArray, List.getElem?_cons_zero, List.getElem?_cons_succ]; rfl)
    case hQ106 => exact fun _ _ _ h => h
    case hy106 => exact Or.inl ⟨by rfl, by (intro w hSw; (try dsimp only at hSw); go_simp )⟩
    simp only [Act.put, List.setIfInBounds_toArray, List.set_cons_zero, List.set_cons_succ]
    refine wpAnyH_take (i := 3) (oi := ?oi107) (v := .pointer (some ⟨w.heap.size + 2, k, none⟩)) ?hi107 (by kernel_rfl) (by kernel_rfl) (by kernel_rfl) ?hQ107 ?hy107 (by assumption) ?rest107
    case hi107 => (simp only [List.getElem?_toArray, List.getElem?_cons_zero, List.getElem?_cons_succ]; rfl)
    case hQ107 => exact fun _ _ _ h => h
    case hy107 => exact Or.inl ⟨by rfl, by (intro w hSw; (try dsimp only at hSw); go_simp )⟩
    simp only [Act.put, List.setIfInBounds_toArray, List.set_cons_zero, List.set_cons_succ]
    refine wpAnyH_take (i := 4) (oi := ?oi108) (v := .int .u32 (Rk : Nat)) ?hi108 (by kernel_rfl) (by kernel_rfl) (by kernel_rfl) ?hQ108 ?hy108 (by assumption) ?rest108
    case hi108 => (simp only [List.getElem?_toArray, List.getElem?_cons_zero, List.getElem?_cons_succ]; rfl)
    case hQ108 => exact fun _ _ _ h => h
    case hy108 => exact y_word (w.heap.size + 2) k _ (fun V hV => (hV.2.1.cell k).trans HG2.out) rfl
    simp only [Act.put, List.setIfInBounds_toArray, List.set_cons_zero, List.set_cons_succ]
    refine wpAnyH_ready (rs := [5]) (by kernel_rfl) (by simp) ?_
    refine AllReadyH.cons (o := ?oi109) ?hi109 (fun K hK => ?_) AllReadyH.nil
    case hi109 => (simp only [List.getElem?_toArray, List.getElem?_cons_zero, List.getElem?_cons_succ]; rfl)
    go_simp
    (with_reducible refine (HR2.out _).mono ?_)
    rintro e V ⟨rfl, hbc⟩
    have hH2 := hide (And.intro (hHeld.1.bl hbc) (And.intro (hHeld.2.1.bl hbc) (And.intro (hHeld.2.2.1.bl hbc) (below_bl rfl hHeld.2.2.2 hbc))))
    clear hHeld hbc
    go_simp
    refine hK.out _ _ ?_ (fun hHeld => ?_)
    · exact hH2.out
    clear hK K
    clear hH2
    refine wpAnyH_take (i := 6) (oi := ?oi110) (v := .tuple #[.int .u32 (B : Nat), .nilIface]) ?hi110 (by kernel_rfl) (by kernel_rfl) (by kernel_rfl) ?hQ110 ?hy110 (by assumption) ?rest110
    case hi110 => (simp only [List.getElem?_toArray, List.getElem?_cons_zero, List.getElem?_cons_succ]; rfl)
    case hQ110 => exact fun _ _ _ h => h
    case hy110 => exact Or.inl ⟨by rfl, by (intro w hSw; (try dsimp only at hSw); go_simp )⟩
    simp only [Act.put, List.setIfInBounds_toArray, List.set_cons_zero, List.set_cons_succ]
    refine wpAnyH_take (i := 7) (oi := ?oi111) (v := .int .u32 (B : Nat)) ?hi111 (by kernel_rfl) (by kernel_rfl) (by kernel_rfl) ?hQ111 ?hy111 (by assumption) ?rest111
    case hi111 => (simp only [List.getElem?_toArray, List.getElem?_cons_zero, List.getElem?_cons_succ]; rfl)
    case hQ111 => exact fun _ _ _ h => h
    case hy111 => exact Or.inl ⟨by rfl, by (intro w hSw; (try dsimp only at hSw); go_simp )⟩
    simp only [Act.put, List.setIfInBounds_toArray, List.set_cons_zero, List.set_cons_succ]
    refine wpAnyH_take (i := 8) (oi := ?oi112) (v := .nilIface) ?hi112 (by kernel_rfl) (by kernel_rfl) (by kernel_rfl) ?hQ112 ?hy112 (by assumption) ?rest112
    case hi112 => (simp only [List.getElem?_toArray, List.getElem?_cons_zero, List.getElem?_cons_succ]; rfl)
    case hQ112 => exact fun _ _ _ h => h
    case hy112 => exact Or.inl ⟨by rfl, by (intro w hSw; (try dsimp only at hSw); go_simp )⟩
    simp only [Act.put, List.setIfInBounds_toArray, List.set_cons_zero, List.set_cons_succ]
    refine wpAnyH_take (i := 9) (oi := ?oi113) (v := .int .u32 (B : Nat)) ?hi113 (by kernel_rfl) (by kernel_rfl) (by kernel_rfl) ?hQ113 ?hy113 (by assumption) ?rest113
    case hi113 => (simp only [List.getElem?_toArray, List.getElem?_cons_zero, List.getElem?_cons_succ]; rfl)
    case hQ113 => exact fun _ _ _ h => h
    case hy113 => exact Or.inl ⟨by rfl, by (intro w hSw; (try dsimp only at hSw); go_simp )⟩
    simp only [Act.put, List.setIfInBounds_toArray, List.set_cons_zero, List.set_cons_succ]
    refine wpAnyH_take (i := 10) (oi := ?oi114) (v := .nilIface) ?hi114 (by kernel_rfl) (by kernel_rfl) (by kernel_rfl) ?hQ114 ?hy114 (by assumption) ?rest114
    case hi114 => (simp only [List.getElem?_toArray, List.getElem?_cons_zero, List.getElem?_cons_succ]; rfl)
    case hQ114 => exact fun _ _ _ h => h
    case hy114 => exact Or.inl ⟨by rfl, by (intro w hSw; (try dsimp only at hSw); go_simp )⟩
    simp only [Act.put, List.setIfInBounds_toArray, List.set_cons_zero, List.set_cons_succ]
    refine wpAnyH_done (by kernel_rfl) ?_ _
    have hy := hHeld.1
    have hc := hHeld.2.1
    have hx := hHeld.2.2.1
    have hb := hHeld.2.2.2
    clear hHeld
    go_wp2_with (fail)
    refine wp_region_held_drew (S := (fun V => RowAt V NY z.cells 26 ∧ RowAt V (w.heap.size + 2) regC 22 ∧ RowAt V (w.heap.size + 3) s.cells 26 ∧ Below w.heap.size w V)) (by kernel_rfl) ?_ (fun hHeld => ?_)
    · exact ⟨hy.dr, hc.dr, hx.dr, hb.drew⟩
    clear hy hc hx hb
    refine wpAnyH_take (i := 0) (oi := ?oi115) (v := .agg s.cells) ?hi115 (by kernel_rfl) (by kernel_rfl) (by kernel_rfl) ?hQ115 ?hy115 (by assumption) ?rest115
    case hi115 => (simp only [List.getElem?_toArray, List.getElem?_cons_zero]; rfl)
    case hQ115 => exact fun _ _ _ h => h
    case hy115 => exact y_p (w.heap.size + 3) s (fun V hV => hV.2.2.1) rfl
    simp only [Act.put, List.setIfInBounds_toArray, List.set_cons_zero, List.set_cons_succ]
    refine wpAnyH_take (i := 1) (oi := ?oi116) (v := .slice (some ⟨w.heap.size + 2, 0, none⟩) 5 5) ?hi116 (by kernel_rfl) (by kernel_rfl) (by kernel_rfl) ?hQ116 ?hy116 (by assumption) ?rest116
    case hi116 => (simp only [List.getElem?_toArray, List.getElem?_cons_zero, List.getElem?_cons_succ]; rfl)
    case hQ116 => exact fun _ _ _ h => h
    case hy116 => exact Or.inl ⟨by rfl, by (intro w hSw; (try dsimp only at hSw); go_simp )⟩
    simp only [Act.put, List.setIfInBounds_toArray, List.set_cons_zero, List.set_cons_succ]
    refine wpAnyH_take (i := 2) (oi := ?oi117) (v := .int .i64 (k : Nat)) ?hi117 (by kernel_rfl) (by kernel_rfl) (by kernel_rfl) ?hQ117 ?hy117 (by assumption) ?rest117
    case hi117 => (simp only [List.getElem?_toArray, List.getElem?_cons_zero, List.getElem?_cons_succ]; rfl)
    case hQ117 => exact fun _ _ _ h => h
    case hy117 => exact Or.inl ⟨by rfl, by (intro w hSw; (try dsimp only at hSw); go_simp )⟩
    simp only [Act.put, List.setIfInBounds_toArray, List.set_cons_zero, List.set_cons_succ]
    refine wpAnyH_take (i := 3) (oi := ?oi118) (v := .pointer (some ⟨w.heap.size + 2, k, none⟩)) ?hi118 (by kernel_rfl) (by kernel_rfl) (by kernel_rfl) ?hQ118 ?hy118 (by assumption) ?rest118
    case hi118 => (simp only [List.getElem?_toArray, List.getElem?_cons_zero, List.getElem?_cons_succ]; rfl)
    case hQ118 => exact fun _ _ _ h => h
    case hy118 => exact Or.inl ⟨by rfl, by (intro w hSw; (try dsimp only at hSw); go_simp )⟩
    simp only [Act.put, List.setIfInBounds_toArray, List.set_cons_zero, List.set_cons_succ]
    refine wpAnyH_take (i := 4) (oi := ?oi119) (v := .int .u32 (Rk : Nat)) ?hi119 (by kernel_rfl) (by kernel_rfl) (by kernel_rfl) ?hQ119 ?hy119 (by assumption) ?rest119
    case hi119 => (simp only [List.getElem?_toArray, List.getElem?_cons_zero, List.getElem?_cons_succ]; rfl)
    case hQ119 => exact fun _ _ _ h => h
    case hy119 => exact y_word (w.heap.size + 2) k _ (fun V hV => (hV.2.1.cell k).trans HG2.out) rfl
    simp only [Act.put, List.setIfInBounds_toArray, List.set_cons_zero, List.set_cons_succ]
    refine wpAnyH_ready (rs := [5]) (by kernel_rfl) (by simp) ?_
    refine AllReadyH.cons (o := ?oi120) ?hi120 (fun K hK => ?_) AllReadyH.nil
    case hi120 => (simp only [List.getElem?_toArray, List.getElem?_cons_zero, List.getElem?_cons_succ]; rfl)
    go_simp
    (with_reducible refine (HR3.out _).mono ?_)
    rintro e V ⟨rfl, hbc⟩
    have hH2 := hide (And.intro (hHeld.1.bl hbc) (And.intro (hHeld.2.1.bl hbc) (And.intro (hHeld.2.2.1.bl hbc) (below_bl rfl hHeld.2.2.2 hbc))))
    clear hHeld hbc
    go_simp
    refine hK.out _ _ ?_ (fun hHeld => ?_)
    · exact hH2.out
    clear hK K
    clear hH2
    refine wpAnyH_take (i := 6) (oi := ?oi121) (v := .tuple #[.int .u32 (C : Nat), .nilIface]) ?hi121 (by kernel_rfl) (by kernel_rfl) (by kernel_rfl) ?hQ121 ?hy121 (by assumption) ?rest121
    case hi121 => (simp only [List.getElem?_toArray, List.getElem?_cons_zero, List.getElem?_cons_succ]; rfl)
    case hQ121 => exact fun _ _ _ h => h
    case hy121 => exact Or.inl ⟨by rfl, by (intro w hSw; (try dsimp only at hSw); go_simp )⟩
    simp only [Act.put, List.setIfInBounds_toArray, List.set_cons_zero, List.set_cons_succ]
    refine wpAnyH_take (i := 7) (oi := ?oi122) (v := .int .u32 (C : Nat)) ?hi122 (by kernel_rfl) (by kernel_rfl) (by kernel_rfl) ?hQ122 ?hy122 (by assumption) ?rest122
    case hi122 => (simp only [List.getElem?_toArray, List.getElem?_cons_zero, List.getElem?_cons_succ]; rfl)
    case hQ122 => exact fun _ _ _ h => h
    case hy122 => exact Or.inl ⟨by rfl, by (intro w hSw; (try dsimp only at hSw); go_simp )⟩
    simp only [Act.put, List.setIfInBounds_toArray, List.set_cons_zero, List.set_cons_succ]
    refine wpAnyH_take (i := 8) (oi := ?oi123) (v := .nilIface) ?hi123 (by kernel_rfl) (by kernel_rfl) (by kernel_rfl) ?hQ123 ?hy123 (by assumption) ?rest123
    case hi123 => (simp only [List.getElem?_toArray, List.getElem?_cons_zero, List.getElem?_cons_succ]; rfl)
    case hQ123 => exact fun _ _ _ h => h
    case hy123 => exact Or.inl ⟨by rfl, by (intro w hSw; (try dsimp only at hSw); go_simp )⟩
    simp only [Act.put, List.setIfInBounds_toArray, List.set_cons_zero, List.set_cons_succ]
    refine wpAnyH_take (i := 9) (oi := ?oi124) (v := .int .u32 (C : Nat)) ?hi124 (by kernel_rfl) (by kernel_rfl) (by kernel_rfl) ?hQ124 ?hy124 (by assumption) ?rest124
    case hi124 => (simp only [List.getElem?_toArray, List.getElem?_cons_zero, List.getElem?_cons_succ]; rfl)
    case hQ124 => exact fun _ _ _ h => h
    case hy124 => exact Or.inl ⟨by rfl, by (intro w hSw; (try dsimp only at hSw); go_simp )⟩
    simp only [Act.put, List.setIfInBounds_toArray, List.set_cons_zero, List.set_cons_succ]
    refine wpAnyH_take (i := 10) (oi := ?oi125) (v := .nilIface) ?hi125 (by kernel_rfl) (by kernel_rfl) (by kernel_rfl) ?hQ125 ?hy125 (by assumption) ?rest125
    case hi125 => (simp only [List.getElem?_toArray, List.getElem?_cons_zero, List.getElem?_cons_succ]; rfl)
    case hQ125 => exact fun _ _ _ h => h
    case hy125 => exact Or.inl ⟨by rfl, by (intro w hSw; (try dsimp only at hSw); go_simp )⟩
    simp only [Act.put, List.setIfInBounds_toArray, List.set_cons_zero, List.set_cons_succ]
    refine wpAnyH_done (by kernel_rfl) ?_ _
    have hy := hHeld.1
    have hc := hHeld.2.1
    have hx := hHeld.2.2.1
    have hb := hHeld.2.2.2
    clear hHeld
    go_wp2_with (first | (with_reducible refine bs_five mskC _ rfl ?_ ?_; (kernel_rfl); intro W hm hb' hz2; replace hb := hb.trans (hb'.mono (by have := hb.size; omega))) | ((with_reducible refine ld_tab _ i _ _ hm HM.out ?_ ?_); exact rfl) | (go_at_call 6; refine (HS.out _).mono ?_; rintro e W ⟨rfl, hbc⟩; replace hb := below_bl rfl hb hbc))
    go_ret
    exact ⟨rfl, hb⟩
  case b88 =>
    obtain ⟨NY, hNY⟩ : ∃ n, V.heap.size = n := ⟨_, rfl⟩
    have lNY : w.heap.size + 4 ≤ NY := by have := hHeld.1.lt; omega
    replace hNY := hide hNY
    rw [if_pos (by rfl)]
    (with_reducible refine s_alloc NY ?_ _ zero_p ?_)
    · exact hNY.out
    intro V hy hb' hzY
    have hH2 := hide (And.intro (hHeld.1.bl (hNY.out ▸ hb')) (And.intro (hHeld.2.1.bl (hNY.out ▸ hb')) (hHeld.2.2.trans (hb'.mono (by omega)))))
    simp only [Act.put, List.setIfInBounds_toArray, List.set_cons_zero, List.set_cons_succ]
    clear hHeld
    refine hK.out _ _ ?_ (fun hHeld => ?_)
    · exact hH2.out
    clear hK K hH2
    refine wpAnyH_ready (rs := [6]) (by kernel_rfl) (by simp) ?_
    refine AllReadyH.cons (o := ?oi128) ?hi128 (fun K hK => ?_) AllReadyH.nil
    case hi128 => (simp only [List.getElem?_toArray, List.getElem?_cons_zero, List.getElem?_cons_succ]; rfl)
    go_simp
    (with_reducible refine (HW.out _).mono ?_)
    rintro e V ⟨rfl, hbc⟩
    have hH2 := hide (And.intro (hHeld.1.bl hbc) (And.intro (hHeld.2.1.bl hbc) (below_bl rfl hHeld.2.2 hbc)))
    replace hy := hy.bl hbc
    clear hHeld hbc
    go_simp
    refine hK.out _ _ ?_ (fun hHeld => ?_)
    · exact hH2.out
    clear hK K
    refine wpAnyH_take (i := 7) (oi := ?oi129) (v := .tuple #[.agg z.cells, .nilIface]) ?hi129 (by kernel_rfl) (by kernel_rfl) (by kernel_rfl) ?hQ129 ?hy129 (by assumption) ?rest129
    case hi129 => (simp only [List.getElem?_toArray, List.getElem?_cons_zero, List.getElem?_cons_succ]; rfl)
    case hQ129 => exact fun _ _ _ h => h
    case hy129 => exact Or.inl ⟨by rfl, by (intro w hSw; (try dsimp only at hSw); go_simp )⟩
    simp only [Act.put, List.setIfInBounds_toArray, List.set_cons_zero, List.set_cons_succ]
    refine wpAnyH_take (i := 8) (oi := ?oi130) (v := .agg z.cells) ?hi130 (by kernel_rfl) (by kernel_rfl) (by kernel_rfl) ?hQ130 ?hy130 (by assumption) ?rest130
    case hi130 => (simp only [List.getElem?_toArray, List.getElem?_cons_zero, List.getElem?_cons_succ]; rfl)
    case hQ130 => exact fun _ _ _ h => h
    case hy130 => exact Or.inl ⟨by rfl, by (intro w hSw; (try dsimp only at hSw); go_simp )⟩
    simp only [Act.put, List.setIfInBounds_toArray, List.set_cons_zero, List.set_cons_succ]
    refine wpAnyH_take (i := 9) (oi := ?oi131) (v := .nilIface) ?hi131 (by kernel_rfl) (by kernel_rfl) (by kernel_rfl) ?hQ131 ?hy131 (by assumption) ?rest131
    case hi131 => (simp only [List.getElem?_toArray, List.getElem?_cons_zero, List.getElem?_cons_succ]; rfl)
    case hQ131 => exact fun _ _ _ h => h
    case hy131 => exact Or.inl ⟨by rfl, by (intro w hSw; (try dsimp only at hSw); go_simp )⟩
    simp only [Act.put, List.setIfInBounds_toArray, List.set_cons_zero, List.set_cons_succ]
    refine wpAnyH_ready (rs := [11]) (by kernel_rfl) (by simp) ?_
    refine AllReadyH.cons (o := ?oi165) ?hi165 (fun K hK => ?_) AllReadyH.nil
    case hi165 => (simp only [List.getElem?_toArray, List.getElem?_cons_zero, List.getElem?_cons_succ]; rfl)
    rw [if_pos (by rfl)]
    (with_reducible refine s_p NY _ z hy ?_ ?_ ?_)
    · exact rfl
    · exact rfl
    intro V hnew ho
    have hH2 := hide (And.intro (hHeld.1.only ho (by omega)) (And.intro (hHeld.2.1.only ho (by omega)) (ho.bel _ _ (by omega) hHeld.2.2)))
    replace hy := hnew
    clear hHeld
    refine hK.out _ _ ?_ (fun hHeld => ?_)
    · exact hH2.out
    clear hK K
    refine wpAnyH_take (i := 12) (oi := ?oi166) (v := .nilIface) ?hi166 (by kernel_rfl) (by kernel_rfl) (by kernel_rfl) ?hQ166 ?hy166 (by assumption) ?rest166
    case hi166 => (simp only [List.getElem?_toArray, List.getElem?_cons_zero, List.getElem?_cons_succ]; rfl)
    case hQ166 => exact fun _ _ _ h => h
    case hy166 => exact Or.inl ⟨by rfl, by (intro w hSw; (try dsimp only at hSw); go_simp )⟩
    simp only [Act.put, List.setIfInBounds_toArray, List.set_cons_zero, List.set_cons_succ]
    refine wpAnyH_done (by kernel_rfl) ?_ _
    have hx := hHeld.1
    have hc := hHeld.2.1
    have hb := hHeld.2.2
    clear hHeld
    go_wp2_with (fail)
    refine wp_region_held_drew (S := (fun V => RowAt V NY z.cells 26 ∧ RowAt V (w.heap.size + 2) regC 22 ∧ RowAt V (w.heap.size + 3) s.cells 26 ∧ Below w.heap.size w V)) (by kernel_rfl) ?_ (fun hHeld => ?_)
    · exact ⟨hy.dr, hc.dr, hx.dr, hb.drew⟩
    clear hy hc hx hb
    refine wpAnyH_take (i := 0) (oi := ?oi132) (v := .agg z.cells) ?hi132 (by kernel_rfl) (by kernel_rfl) (by kernel_rfl) ?hQ132 ?hy132 (by assumption) ?rest132
    case hi132 => (simp only [List.getElem?_toArray, List.getElem?_cons_zero]; rfl)
    case hQ132 => exact fun _ _ _ h => h
    case hy132 => exact y_p NY z (fun V hV => hV.1) rfl
    simp only [Act.put, List.setIfInBounds_toArray, List.set_cons_zero, List.set_cons_succ]
    refine wpAnyH_take (i := 1) (oi := ?oi133) (v := .slice (some ⟨w.heap.size + 2, 0, none⟩) 5 5) ?hi133 (by kernel_rfl) (by kernel_rfl) (by kernel_rfl) ?hQ133 ?hy133 (by assumption) ?rest133
    case hi133 => (simp only [List.getElem?_toArray, List.getElem?_cons_zero, List.getElem?_cons_succ]; rfl)
    case hQ133 => exact fun _ _ _ h => h
    case hy133 => exact Or.inl ⟨by rfl, by (intro w hSw; (try dsimp only at hSw); go_simp )⟩
    simp only [Act.put, List.setIfInBounds_toArray, List.set_cons_zero, List.set_cons_succ]
    refine wpAnyH_take (i := 2) (oi := ?oi134) (v := .int .i64 (i : Nat)) ?hi134 (by kernel_rfl) (by kernel_rfl) (by kernel_rfl) ?hQ134 ?hy134 (by assumption) ?rest134
    case hi134 => (simp only [List.getElem?_toArray, List.getElem?_cons_zero, List.getElem?_cons_succ]; rfl)
    case hQ134 => exact fun _ _ _ h => h
    case hy134 => exact Or.inl ⟨by rfl, by (intro w hSw; (try dsimp only at hSw); go_simp )⟩
    simp only [Act.put, List.setIfInBounds_toArray, List.set_cons_zero, List.set_cons_succ]
    refine wpAnyH_take (i := 3) (oi := ?oi135) (v := .pointer (some ⟨w.heap.size + 2, i, none⟩)) ?hi135 (by kernel_rfl) (by kernel_rfl) (by kernel_rfl) ?hQ135 ?hy135 (by assumption) ?rest135
    case hi135 => (simp only [List.getElem?_toArray, List.getElem?_cons_zero, List.getElem?_cons_succ]; rfl)
    case hQ135 => exact fun _ _ _ h => h
    case hy135 => exact Or.inl ⟨by rfl, by (intro w hSw; (try dsimp only at hSw); go_simp )⟩
    simp only [Act.put, List.setIfInBounds_toArray, List.set_cons_zero, List.set_cons_succ]
    refine wpAnyH_take (i := 4) (oi := ?oi136) (v := .int .u32 (Ri : Nat)) ?hi136 (by kernel_rfl) (by kernel_rfl) (by kernel_rfl) ?hQ136 ?hy136 (by assumption) ?rest136
    case hi136 => (simp only [List.getElem?_toArray, List.getElem?_cons_zero, List.getElem?_cons_succ]; rfl)
    case hQ136 => exact fun _ _ _ h => h
    case hy136 => exact y_word (w.heap.size + 2) i _ (fun V hV => (hV.2.1.cell i).trans HG1.out) rfl
    simp only [Act.put, List.setIfInBounds_toArray, List.set_cons_zero, List.set_cons_succ]
    refine wpAnyH_ready (rs := [5]) (by kernel_rfl) (by simp) ?_
    refine AllReadyH.cons (o := ?oi137) ?hi137 (fun K hK => ?_) AllReadyH.nil
    case hi137 => (simp only [List.getElem?_toArray, List.getElem?_cons_zero, List.getElem?_cons_succ]; rfl)
    go_simp
    (with_reducible refine (HR1.out _).mono ?_)
    rintro e V ⟨rfl, hbc⟩
    have hH2 := hide (And.intro (hHeld.1.bl hbc) (And.intro (hHeld.2.1.bl hbc) (And.intro (hHeld.2.2.1.bl hbc) (below_bl rfl hHeld.2.2.2 hbc))))
    clear hHeld hbc
    go_simp
    refine hK.out _ _ ?_ (fun hHeld => ?_)
    · exact hH2.out
    clear hK K
    clear hH2
    refine wpAnyH_take (i := 6) (oi := ?oi138) (v := .tuple #[.int .u32 (A : Nat), .nilIface]) ?hi138 (by kernel_rfl) (by kernel_rfl) (by kernel_rfl) ?hQ138 ?hy138 (by assumption) ?rest138
    case hi138 => (simp only [List.getElem?_toArray, List.getElem?_cons_zero, List.getElem?_cons_succ]; rfl)
    case hQ138 => exact fun _ _ _ h => h
    case hy138 => exact Or.inl ⟨by rfl, by (intro w hSw; (try dsimp only at hSw); go_simp )⟩
    simp only [Act.put, List.setIfInBounds_toArray, List.set_cons_zero, List.set_cons_succ]
    refine wpAnyH_take (i := 7) (oi := ?oi139) (v := .int .u32 (A : Nat)) ?hi139 (by kernel_rfl) (by kernel_rfl) (by kernel_rfl) ?hQ139 ?hy139 (by assumption) ?rest139
    case hi139 => (simp only [List.getElem?_toArray, List.getElem?_cons_zero, List.getElem?_cons_succ]; rfl)
    case hQ139 => exact fun _ _ _ h => h
    case hy139 => exact Or.inl ⟨by rfl, by (intro w hSw; (try dsimp only at hSw); go_simp )⟩
    simp only [Act.put, List.setIfInBounds_toArray, List.set_cons_zero, List.set_cons_succ]
    refine wpAnyH_take (i := 8) (oi := ?oi140) (v := .nilIface) ?hi140 (by kernel_rfl) (by kernel_rfl) (by kernel_rfl) ?hQ140 ?hy140 (by assumption) ?rest140
    case hi140 => (simp only [List.getElem?_toArray, List.getElem?_cons_zero, List.getElem?_cons_succ]; rfl)
    case hQ140 => exact fun _ _ _ h => h
    case hy140 => exact Or.inl ⟨by rfl, by (intro w hSw; (try dsimp only at hSw); go_simp )⟩
    simp only [Act.put, List.setIfInBounds_toArray, List.set_cons_zero, List.set_cons_succ]
    refine wpAnyH_take (i := 9) (oi := ?oi141) (v := .int .u32 (A : Nat)) ?hi141 (by kernel_rfl) (by kernel_rfl) (by kernel_rfl) ?hQ141 ?hy141 (by assumption) ?rest141
    case hi141 => (simp only [List.getElem?_toArray, List.getElem?_cons_zero, List.getElem?_cons_succ]; rfl)
    case hQ141 => exact fun _ _ _ h => h
    case hy141 => exact Or.inl ⟨by rfl, by (intro w hSw; (try dsimp only at hSw); go_simp )⟩
    simp only [Act.put, List.setIfInBounds_toArray, List.set_cons_zero, List.set_cons_succ]
    refine wpAnyH_take (i := 10) (oi := ?oi142) (v := .nilIface) ?hi142 (by kernel_rfl) (by kernel_rfl) (by kernel_rfl) ?hQ142 ?hy142 (by assumption) ?rest142
    case hi142 => (simp only [List.getElem?_toArray, List.getElem?_cons_zero, List.getElem?_cons_succ]; rfl)
    case hQ142 => exact fun _ _ _ h => h
    case hy142 => exact Or.inl ⟨by rfl, by (intro w hSw; (try dsimp only at hSw); go_simp )⟩
    simp only [Act.put, List.setIfInBounds_toArray, List.set_cons_zero, List.set_cons_succ]
    refine wpAnyH_done (by kernel_rfl) ?_ _
    have hy := hHeld.1
    have hc := hHeld.2.1
    have hx := hHeld.2.2.1
    have hb := hHeld.2.2.2
    clear hHeld
    go_wp2_with (fail)
    refine wp_region_held_drew (S := (fun V => RowAt V NY z.cells 26 ∧ RowAt V (w.heap.size + 2) regC 22 ∧ RowAt V (w.heap.size + 3) s.cells 26 ∧ Below w.heap.size w V)) (by kernel_rfl) ?_ (fun hHeld => ?_)
    · exact ⟨hy.dr, hc.dr, hx.dr, hb.drew⟩
    clear hy hc hx hb
    refine wpAnyH_take (i := 0) (oi := ?oi143) (v := .agg z.cells) ?hi143 (by kernel_rfl) (by kernel_rfl) (by kernel_rfl) ?hQ143 ?hy143 (by assumption) ?rest143
    case hi143 => (simp only [List.getElem?_toArray, List.getElem?_cons_zero]; rfl)
    case hQ143 => exact fun _ _ _ h => h
    case hy143 => exact y_p NY z (fun V hV => hV.1) rfl
    simp only [Act.put, List.setIfInBounds_toArray, List.set_cons_zero, List.set_cons_succ]
    refine wpAnyH_take (i := 1) (oi := ?oi144) (v := .slice (some ⟨w.heap.size + 2, 0, none⟩) 5 5) ?hi144 (by kernel_rfl) (by kernel_rfl) (by kernel_rfl) ?hQ144 ?hy144 (by assumption) ?rest144
    case hi144 => (simp only [List.getElem?_toArray, List.getElem?_cons_zero, List.getElem?_cons_succ]; rfl)
    case hQ144 => exact fun _ _ _ h => h
    case hy144 => exact Or.inl ⟨by rfl, by (intro w hSw; (try dsimp only at hSw); go_simp )⟩
    simp only [Act.put, List.setIfInBounds_toArray, List.set_cons_zero, List.set_cons_succ]
    refine wpAnyH_take (i := 2) (oi := ?oi145) (v := .int .i64 (k : Nat)) ?hi145 (by kernel_rfl) (by kernel_rfl) (by kernel_rfl) ?hQ145 ?hy145 (by assumption) ?rest145
    case hi145 => (simp only [List.getElem?_toArray, List.getElem?_cons_zero, List.getElem?_cons_succ]; rfl)
    case hQ145 => exact fun _ _ _ h => h
    case hy145 => exact Or.inl ⟨by rfl, by (intro w hSw; (try dsimp only at hSw); go_simp )⟩
    simp only [Act.put, List.setIfInBounds_toArray, List.set_cons_zero, List.set_cons_succ]
    refine wpAnyH_take (i := 3) (oi := ?oi146) (v := .pointer (some ⟨w.heap.size + 2, k, none⟩)) ?hi146 (by kernel_rfl) (by kernel_rfl) (by kernel_rfl) ?hQ146 ?hy146 (by assumption) ?rest146
    case hi146 => (simp only [List.getElem?_toArray, List.getElem?_cons_zero, List.getElem?_cons_succ]; rfl)
    case hQ146 => exact fun _ _ _ h => h
    case hy146 => exact Or.inl ⟨by rfl, by (intro w hSw; (try dsimp only at hSw); go_simp )⟩
    simp only [Act.put, List.setIfInBounds_toArray, List.set_cons_zero, List.set_cons_succ]
    refine wpAnyH_take (i := 4) (oi := ?oi147) (v := .int .u32 (Rk : Nat)) ?hi147 (by kernel_rfl) (by kernel_rfl) (by kernel_rfl) ?hQ147 ?hy147 (by assumption) ?rest147
    case hi147 => (simp only [List.getElem?_toArray, List.getElem?_cons_zero, List.getElem?_cons_succ]; rfl)
    case hQ147 => exact fun _ _ _ h => h
    case hy147 => exact y_word (w.heap.size + 2) k _ (fun V hV => (hV.2.1.cell k).trans HG2.out) rfl
    simp only [Act.put, List.setIfInBounds_toArray, List.set_cons_zero, List.set_cons_succ]
    refine wpAnyH_ready (rs := [5]) (by kernel_rfl) (by simp) ?_
    refine AllReadyH.cons (o := ?oi148) ?hi148 (fun K hK => ?_) AllReadyH.nil
    case hi148 => (simp only [List.getElem?_toArray, List.getElem?_cons_zero, List.getElem?_cons_succ]; rfl)
    go_simp
    (with_reducible refine (HR2.out _).mono ?_)
    rintro e V ⟨rfl, hbc⟩
    have hH2 := hide (And.intro (hHeld.1.bl hbc) (And.intro (hHeld.2.1.bl hbc) (And.intro (hHeld.2.2.1.bl hbc) (below_bl rfl hHeld.2.2.2 hbc))))
    clear hHeld hbc
    go_simp
    refine hK.out _ _ ?_ (fun hHeld => ?_)
    · exact hH2.out
    clear hK K
    clear hH2
    refine wpAnyH_take (i := 6) (oi := ?oi149) (v := .tuple #[.int .u32 (B : Nat), .nilIface]) ?hi149 (by kernel_rfl) (by kernel_rfl) (by kernel_rfl) ?hQ149 ?hy149 (by assumption) ?rest149
    case hi149 => (simp only [List.getElem?_toArray, List.getElem?_cons_zero, List.getElem?_cons_succ]; rfl)
    case hQ149 => exact fun _ _ _ h => h
    case hy149 => exact Or.inl ⟨by rfl, by (intro w hSw; (try dsimp only at hSw); go_simp )⟩
    simp only [Act.put, List.setIfInBounds_toArray, List.set_cons_zero, List.set_cons_succ]
    refine wpAnyH_take (i := 7) (oi := ?oi150) (v := .int .u32 (B : Nat)) ?hi150 (by kernel_rfl) (by kernel_rfl) (by kernel_rfl) ?hQ150 ?hy150 (by assumption) ?rest150
    case hi150 => (simp only [List.getElem?_toArray, List.getElem?_cons_zero, List.getElem?_cons_succ]; rfl)
    case hQ150 => exact fun _ _ _ h => h
    case hy150 => exact Or.inl ⟨by rfl, by (intro w hSw; (try dsimp only at hSw); go_simp )⟩
    simp only [Act.put, List.setIfInBounds_toArray, List.set_cons_zero, List.set_cons_succ]
    refine wpAnyH_take (i := 8) (oi := ?oi151) (v := .nilIface) ?hi151 (by kernel_rfl) (by kernel_rfl) (by kernel_rfl) ?hQ151 ?hy151 (by assumption) ?rest151
    case hi151 => (simp only [List.getElem?_toArray, List.getElem?_cons_zero, List.getElem?_cons_succ]; rfl)
    case hQ151 => exact fun _ _ _ h => h
    case hy151 => exact Or.inl ⟨by rfl, by (intro w hSw; (try dsimp only at hSw); go_simp )⟩
    simp only [Act.put, List.setIfInBounds_toArray, List.set_cons_zero, List.set_cons_succ]
    refine wpAnyH_take (i := 9) (oi := ?oi152) (v := .int .u32 (B : Nat)) ?hi152 (by kernel_rfl) (by kernel_rfl) (by kernel_rfl) ?hQ152 ?hy152 (by assumption) ?rest152
    case hi152 => (simp only [List.getElem?_toArray, List.getElem?_cons_zero, List.getElem?_cons_succ]; rfl)
    case hQ152 => exact fun _ _ _ h => h
    case hy152 => exact Or.inl ⟨by rfl, by (intro w hSw; (try dsimp only at hSw); go_simp )⟩
    simp only [Act.put, List.setIfInBounds_toArray, List.set_cons_zero, List.set_cons_succ]
    refine wpAnyH_take (i := 10) (oi := ?oi153) (v := .nilIface) ?hi153 (by kernel_rfl) (by kernel_rfl) (by kernel_rfl) ?hQ153 ?hy153 (by assumption) ?rest153
    case hi153 => (simp only [List.getElem?_toArray, List.getElem?_cons_zero, List.getElem?_cons_succ]; rfl)
    case hQ153 => exact fun _ _ _ h => h
    case hy153 => exact Or.inl ⟨by rfl, by (intro w hSw; (try dsimp only at hSw); go_simp )⟩
    simp only [Act.put, List.setIfInBounds_toArray, List.set_cons_zero, List.set_cons_succ]
    refine wpAnyH_done (by kernel_rfl) ?_ _
    have hy := hHeld.1
    have hc := hHeld.2.1
    have hx := hHeld.2.2.1
    have hb := hHeld.2.2.2
    clear hHeld
    go_wp2_with (fail)
    refine wp_region_held_drew (S := (fun V => RowAt V NY z.cells 26 ∧ RowAt V (w.heap.size + 2) regC 22 ∧ RowAt V (w.heap.size + 3) s.cells 26 ∧ Below w.heap.size w V)) (by kernel_rfl) ?_ (fun hHeld => ?_)
    · exact ⟨hy.dr, hc.dr, hx.dr, hb.drew⟩
    clear hy hc hx hb
    refine wpAnyH_take (i := 0) (oi := ?oi154) (v := .agg s.cells) ?hi154 (by kernel_rfl) (by kernel_rfl) (by kernel_rfl) ?hQ154 ?hy154 (by assumption) ?rest154
    case hi154 => (simp only [List.getElem?_toArray, List.getElem?_cons_zero]; rfl)
    case hQ154 => exact fun _ _ _ h => h
    case hy154 => exact y_p (w.heap.size + 3) s (fun V hV => hV.2.2.1) rfl
    simp only [Act.put, List.setIfInBounds_toArray, List.set_cons_zero, List.set_cons_succ]
    refine wpAnyH_take (i := 1) (oi := ?oi155) (v := .slice (some ⟨w.heap.size + 2, 0, none⟩) 5 5) ?hi155 (by kernel_rfl) (by kernel_rfl) (by kernel_rfl) ?hQ155 ?hy155 (by assumption) ?rest155
    case hi155 => (simp only [List.getElem?_toArray, List.getElem?_cons_zero, List.getElem?_cons_succ]; rfl)
    case hQ155 => exact fun _ _ _ h => h
    case hy155 => exact Or.inl ⟨by rfl, by (intro w hSw; (try dsimp only at hSw); go_simp )⟩
    simp only [Act.put, List.setIfInBounds_toArray, List.set_cons_zero, List.set_cons_succ]
    refine wpAnyH_take (i := 2) (oi := ?oi156) (v := .int .i64 (k : Nat)) ?hi156 (by kernel_rfl) (by kernel_rfl) (by kernel_rfl) ?hQ156 ?hy156 (by assumption) ?rest156
    case hi156 => (simp only [List.getElem?_toArray, List.getElem?_cons_zero, List.getElem?_cons_succ]; rfl)
    case hQ156 => exact fun _ _ _ h => h
    case hy156 => exact Or.inl ⟨by rfl, by (intro w hSw; (try dsimp only at hSw); go_simp )⟩
    simp only [Act.put, List.setIfInBounds_toArray, List.set_cons_zero, List.set_cons_succ]
    refine wpAnyH_take (i := 3) (oi := ?oi157) (v := .pointer (some ⟨w.heap.size + 2, k, none⟩)) ?hi157 (by kernel_rfl) (by kernel_rfl) (by kernel_rfl) ?hQ157 ?hy157 (by assumption) ?rest157
    case hi157 => (simp only [List.getElem?_toArray, List.getElem?_cons_zero, List.getElem?_cons_succ]; rfl)
    case hQ157 => exact fun _ _ _ h => h
    case hy157 => exact Or.inl ⟨by rfl, by (intro w hSw; (try dsimp only at hSw); go_simp )⟩
    simp only [Act.put, List.setIfInBounds_toArray, List.set_cons_zero, List.set_cons_succ]
    refine wpAnyH_take (i := 4) (oi := ?oi158) (v := .int .u32 (Rk : Nat)) ?hi158 (by kernel_rfl) (by kernel_rfl) (by kernel_rfl) ?hQ158 ?hy158 (by assumption) ?rest158
    case hi158 => (simp only [List.getElem?_toArray, List.getElem?_cons_zero, List.getElem?_cons_succ]; rfl)
    case hQ158 => exact fun _ _ _ h => h
    case hy158 => exact y_word (w.heap.size + 2) k _ (fun V hV => (hV.2.1.cell k).trans HG2.out) rfl
    simp only [Act.put, List.setIfInBounds_toArray, List.set_cons_zero, List.set_cons_succ]
    refine wpAnyH_ready (rs := [5]) (by kernel_rfl) (by simp) ?_
    refine AllReadyH.cons (o := ?oi159) ?hi159 (fun K hK => ?_) AllReadyH.nil
    case hi159 => (simp only [List.getElem?_toArray, List.getElem?_cons_zero, List.getElem?_cons_succ]; rfl)
    go_simp
    (with_reducible refine (HR3.out _).mono ?_)
    rintro e V ⟨rfl, hbc⟩
    have hH2 := hide (And.intro (hHeld.1.bl hbc) (And.intro (hHeld.2.1.bl hbc) (And.intro (hHeld.2.2.1.bl hbc) (below_bl rfl hHeld.2.2.2 hbc))))
    clear hHeld hbc
    go_simp
    refine hK.out _ _ ?_ (fun hHeld => ?_)
    · exact hH2.out
    clear hK K
    clear hH2
    refine wpAnyH_take (i := 6) (oi := ?oi160) (v := .tuple #[.int .u32 (C : Nat), .nilIface]) ?hi160 (by kernel_rfl) (by kernel_rfl) (by kernel_rfl) ?hQ160 ?hy160 (by assumption) ?rest160
    case hi160 => (simp only [List.getElem?_toArray, List.getElem?_cons_zero, List.getElem?_cons_succ]; rfl)
    case hQ160 => exact fun _ _ _ h => h
    case hy160 => exact Or.inl ⟨by rfl, by (intro w hSw; (try dsimp only at hSw); go_simp )⟩
    simp only [Act.put, List.setIfInBounds_toArray, List.set_cons_zero, List.set_cons_succ]
    refine wpAnyH_take (i := 7) (oi := ?oi161) (v := .int .u32 (C : Nat)) ?hi161 (by kernel_rfl) (by kernel_rfl) (by kernel_rfl) ?hQ161 ?hy161 (by assumption) ?rest161
    case hi161 => (simp only [List.getElem?_toArray, List.getElem?_cons_zero, List.getElem?_cons_succ]; rfl)
    case hQ161 => exact fun _ _ _ h => h
    case hy161 => exact Or.inl ⟨by rfl, by (intro w hSw; (try dsimp only at hSw); go_simp )⟩
    simp only [Act.put, List.setIfInBounds_toArray, List.set_cons_zero, List.set_cons_succ]
    refine wpAnyH_take (i := 8) (oi := ?oi162) (v := .nilIface) ?hi162 (by kernel_rfl) (by kernel_rfl) (by kernel_rfl) ?hQ162 ?hy162 (by assumption) ?rest162
    case hi162 => (simp only [List.getElem?_toArray, List.getElem?_cons_zero, List.getElem?_cons_succ]; rfl)
    case hQ162 => exact fun _ _ _ h => h
    case hy162 => exact Or.inl ⟨by rfl, by (intro w hSw; (try dsimp only at hSw); go_simp )⟩
    simp only [Act.put, List.setIfInBounds_toArray, List.set_cons_zero, List.set_cons_succ]
    refine wpAnyH_take (i := 9) (oi := ?oi163) (v := .int .u32 (C : Nat)) ?hi163 (by kernel_rfl) (by kernel_rfl) (by kernel_rfl) ?hQ163 ?hy163 (by assumption) ?rest163
    case hi163 => (simp only [List.getElem?_toArray, List.getElem?_cons_zero, List.getElem?_cons_succ]; rfl)
    case hQ163 => exact fun _ _ _ h => h
    case hy163 => exact Or.inl ⟨by rfl, by (intro w hSw; (try dsimp only at hSw); go_simp )⟩
    simp only [Act.put, List.setIfInBounds_toArray, List.set_cons_zero, List.set_cons_succ]
    refine wpAnyH_take (i := 10) (oi := ?oi164) (v := .nilIface) ?hi164 (by kernel_rfl) (by kernel_rfl) (by kernel_rfl) ?hQ164 ?hy164 (by assumption) ?rest164
    case hi164 => (simp only [List.getElem?_toArray, List.getElem?_cons_zero, List.getElem?_cons_succ]; rfl)
    case hQ164 => exact fun _ _ _ h => h
    case hy164 => exact Or.inl ⟨by rfl, by (intro w hSw; (try dsimp only at hSw); go_simp )⟩
    simp only [Act.put, List.setIfInBounds_toArray, List.set_cons_zero, List.set_cons_succ]
    refine wpAnyH_done (by kernel_rfl) ?_ _
    have hy := hHeld.1
    have hc := hHeld.2.1
    have hx := hHeld.2.2.1
    have hb := hHeld.2.2.2
    clear hHeld
    go_wp2_with (first | (with_reducible refine bs_five mskC _ rfl ?_ ?_; (kernel_rfl); intro W hm hb' hz2; replace hb := hb.trans (hb'.mono (by have := hb.size; omega))) | ((with_reducible refine ld_tab _ i _ _ hm HM.out ?_ ?_); exact rfl) | (go_at_call 6; refine (HS.out _).mono ?_; rintro e W ⟨rfl, hbc⟩; replace hb := below_bl rfl hb hbc))
    go_ret
    exact ⟨rfl, hb⟩

theorem back_walk (s : S3) (hs : s.Ok) (o0 o1 : Int) (v : Nat) (hv : v < 4294967296) (w : World) :
    Calls Try.prog 4 #[.agg s.cells, .agg #[.int .i64 o0, .int .i64 o1], .int .u32 (v : Nat)] w fun e w' => e = .returned (.bool true) ∧ Below w.heap.size w w' := by
  obtain ⟨i, hi, hi5⟩ := five_nat o0
  obtain ⟨k, hk, hk5⟩ := five_nat o1
  by_cases h : i = k
  · exact back_eq s hs o0 o1 v hv i k hi hi5 hk hk5 h w
  · exact back_ne s hs o0 o1 v hv i k hi hi5 hk hk5 h w
end Go.Proofs.Ytjibjginafjpcaa
