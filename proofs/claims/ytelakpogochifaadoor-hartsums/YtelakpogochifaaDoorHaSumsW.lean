/-
  HartSums, walked.
-/
import Derived.Test.YtelakpogochifaaDoorHaSumM
import Derived.Deep.RegionHeld3
namespace Go.Proofs.YtelakpogochifaaDoor
open Go.RowKit
set_option linter.unusedVariables false

attribute [local go_sem] H.at0 H.at6 H.at7 H.at33

theorem s_alloc {P : Program} {dst : Option Tmp} {ty t : TypeId} {pos : String} {after : Array Edge} {a : Act} {w : World} {Q : Exit → Act → World → Prop} {K : Act → World → Prop} (N : Nat) (hN : w.heap.size = N) (cs : Array Value) (hz : ∀ w, (zeroValue t).run P w = .ok (.agg cs) w)
    (k : ∀ W, RowAt W N cs t → Below N w W → Hid (W.heap.size = N + 1) → K (a.put dst (.pointer (some ⟨N, 0, none⟩))) W) :
    Oper.wp P ⟨dst, .alloc t, ty, pos, after, none⟩ a w K Q := by
  subst hN
  have hrun : (execOp a.eval ⟨dst, .alloc t, ty, pos, after, none⟩).run P w = .ok (.value (.pointer (some ⟨w.heap.size, 0, none⟩))) (w.alloc (.cells cs t)) := by
    unfold execOp
    simp only [Instr.alloc, Sem.run_bind, hz, Result.andThen_ok, newVar, newRow, run_newObj_alloc, Sem.run_pure]
    rfl
  unfold Oper.wp
  rw [hrun, Oper.upon_value]
  exact k _ (RowAt.new w _ cs t rfl) (below_one w _) (hide (by simp))
theorem bs_code {ops : Array Oper} {rest : List Oper} {dst : Option Tmp} {ty : TypeId} {pos : String} {after : Array Edge} {a : Act} {w : World} {Q : Exit → Act → World → Prop} {parts : Array (Nat × Operand)} (N : Nat) (hN : w.heap.size = N) (hp : Tryd.prog.builtSlice 22 5 (parts.map fun (i, x) => (i, a.eval x)).toList = some codeC)
    (k : ∀ W, RowAt W N codeC 22 → Below N w W → Hid (W.heap.size = N + 1) → wpList Tryd.prog ops Q rest (a.put dst (.slice (some ⟨N, 0, none⟩) 5 5)) W) :
    wpList Tryd.prog ops Q (⟨dst, .buildSlice 53 5 parts, ty, pos, after, none⟩ :: rest) a w := by
  subst hN
  exact Great.wpList_buildSliceTo rfl _ 22 5 parts rfl _ rfl dst rfl Tryd.underlying53 codeC hp (k _ (RowAt.new w _ codeC 22 rfl) (below_one w _) (hide (by simp)))

set_option maxHeartbeats 4000000 in
set_option maxRecDepth 20000 in
theorem sums_walk (n : Int) (w : World) (hA : HartAt w) :
    Calls Tryd.prog 7 #[.int .i64 n] w fun e w' => e = .returned (.bool true) ∧ Below w.heap.size w w' := by
  have HA := hide hA
  clear hA
  obtain ⟨K, hK⟩ : ∃ K : Nat, n % 18446744073709551616 % 60 = (K : Int) := ⟨(n % 18446744073709551616 % 60).toNat, by omega⟩
  have hKl : K < 60 := by omega
  have HR := hide (fun w => reset_any 256 (by decide) w)
  rw [show (((256 : Nat) : Int)) = 256 from rfl] at HR
  have HS := hide (fun w hw => sure_any w hw)
  have hK1 : (IntKind.u64.wrap n).tmod 60 = (K : Int) := by
    rw [IntKind.wrap_u64, Int.tmod_eq_emod_of_nonneg (by omega)]; exact hK
  have hK2 : (IntKind.u64.wrap n).tmod 60 % 4294967296 = (K : Int) := by rw [hK1]; omega
  clear hK
  have b0 : (0 : Int) ≤ K := by omega
  have b1 : (K : Int) < 60 := by omega
  go_enter Tryd.func7, Tryd.ntmps7
  go_wp2_with (first | (go_at_call 17; refine (HR.out _).mono ?_; rintro e W ⟨rfl, hb⟩; obtain ⟨NI, hNI⟩ : ∃ n, W.heap.size = n := ⟨_, rfl⟩; have hlt : w.heap.size ≤ NI := (by (have := hb.size; omega)); replace hNI := hide hNI) | ((with_reducible refine al_h NI ?_ ?_); exact hNI.out; intro W hx hb' hz; replace hb := hb.trans (hb'.mono (by omega))) | ((with_reducible refine st_h NI _ (resetH 256) hx ?_ ?_ ?_); exact rfl; exact rfl; intro W hnew ho; replace hx := hnew; replace hb := ho.bel _ _ (by omega) hb; replace hz := hide (ho.size.trans hz.out)) | ((with_reducible refine st_x NI 5 (resetH 256) K ?_ hx ?_ ?_ ?_); decide; exact rfl; exact rfl; intro W hnew ho; replace hx : RowAt W NI (H.cells ⟨256, setX (fun _ => 0) 5 K, false, zeroS⟩) 31 := hnew; replace hb := ho.bel _ _ (by omega) hb; replace hz := hide (ho.size.trans hz.out)) | ((with_reducible refine bs_code (NI + 1) ?_ ?_ ?_); exact hz.out; (kernel_rfl); intro W hcd hb' hz'; replace hx := hx.bl (hz.out ▸ hb'); replace hb := hb.trans (hb'.mono (by omega))))
  clear hK1 hK2
  go_loopw [6] (fun iv wr => ∃ (i : Nat) (h : H), iv = .int .i64 i ∧ Inv K i h ∧ RowAt wr NI h.cells 31 ∧ RowAt wr (NI + 1) codeC 22 ∧ Below w.heap.size w wr) (fun iv _ => 300 - (intOf iv).toNat)
  case atStart => exact ⟨0, _, rfl, inv_start K hKl, hx, hcd, hb⟩
  case round =>
    clear hx hcd hb hz hz' hb'
    obtain ⟨i, h, rfl, hinv, hx, hcd, hb⟩ := hrel
    cases hw : h.wt with
    | false =>
      obtain ⟨t, ht, hpc, hi3, hnext⟩ := inv_step K hKl i h hinv hw
      have HD := hide (fun w hA => do_all h hinv.1 (codeN t) (codeN_lt t) 0 (by decide) w hA)
      rw [show (((0 : Nat) : Int)) = 0 from rfl] at HD
      have HN := hide hnext
      obtain ⟨h', hh'⟩ : ∃ x, (doH h (codeN t) 0).1 = x := ⟨_, rfl⟩
      obtain ⟨a', ha'⟩ : ∃ x, (doH h (codeN t) 0).2 = x := ⟨_, rfl⟩
      rw [hh'] at HN
      rw [hh', ha'] at HD
      have q1 : (i : Int) < 300 := by omega
      have q3 : ((h.pc : Int) - 256) / 4 = (t : Int) := by omega
      have q4 : (256 : Int) ≤ h.pc := by omega
      have q5 : (h.pc : Int) < 276 := by omega
      have q6 : (t : Int) < 5 := by omega
      have q7 : (0 : Int) ≤ t := by omega
      have fx := hx.cell
      clear hinv hnext hh' ha' hpc
      go_wp2_with (fail)
      refine wp_region_held_drew (S := (fun V => RowAt V NI h.cells 31 ∧ RowAt V (NI + 1) codeC 22 ∧ Below w.heap.size w V)) (by kernel_rfl) ?_ (fun hHeld => ?_)
      · exact ⟨hx.dr, hcd.dr, hb.drew⟩
      generalize wr.drew = V at hHeld ⊢
      refine wpAnyH_take (i := 0) (oi := ?oi1) (v := .agg h.cells) ?hi1 (by kernel_rfl) (by kernel_rfl) (by kernel_rfl) ?hQ1 ?hy1 (by assumption) ?rest1
      case hi1 => (simp only [List.getElem?_toArray, List.getElem?_cons_zero]; rfl)
      case hQ1 => exact fun _ _ _ h => h
      case hy1 => exact y_h NI h (fun V hV => hV.1) rfl
      simp only [Act.put, List.setIfInBounds_toArray, List.set_cons_zero, List.set_cons_succ]
      refine wpAnyH_take (i := 1) (oi := ?oi2) (v := .slice (some ⟨NI + 1, 0, none⟩) 5 5) ?hi2 (by kernel_rfl) (by kernel_rfl) (by kernel_rfl) ?hQ2 ?hy2 (by assumption) ?rest2
      case hi2 => (simp only [List.getElem?_toArray, List.getElem?_cons_zero, List.getElem?_cons_succ]; rfl)
      case hQ2 => exact fun _ _ _ h => h
      case hy2 => exact Or.inl ⟨by rfl, by (intro w hSw; (try dsimp only at hSw); go_simp )⟩
      simp only [Act.put, List.setIfInBounds_toArray, List.set_cons_zero, List.set_cons_succ]
      refine wpAnyH_take (i := 2) (oi := ?oi3) (v := .int .u32 (t : Nat)) ?hi3 (by kernel_rfl) (by kernel_rfl) (by kernel_rfl) ?hQ3 ?hy3 (by assumption) ?rest3
      case hi3 => (simp only [List.getElem?_toArray, List.getElem?_cons_zero, List.getElem?_cons_succ]; rfl)
      case hQ3 => exact fun _ _ _ h => h
      case hy3 => exact Or.inl ⟨by rfl, by (intro w hSw; (try dsimp only at hSw); go_simp )⟩
      simp only [Act.put, List.setIfInBounds_toArray, List.set_cons_zero, List.set_cons_succ]
      refine wpAnyH_take (i := 3) (oi := ?oi4) (v := .pointer (some ⟨NI + 1, t, none⟩)) ?hi4 (by kernel_rfl) (by kernel_rfl) (by kernel_rfl) ?hQ4 ?hy4 (by assumption) ?rest4
      case hi4 => (simp only [List.getElem?_toArray, List.getElem?_cons_zero, List.getElem?_cons_succ]; rfl)
      case hQ4 => exact fun _ _ _ h => h
      case hy4 => exact Or.inl ⟨by rfl, by (intro w hSw; (try dsimp only at hSw); go_simp )⟩
      simp only [Act.put, List.setIfInBounds_toArray, List.set_cons_zero, List.set_cons_succ]
      refine wpAnyH_take (i := 4) (oi := ?oi5) (v := .int .u32 (codeN t : Nat)) ?hi5 (by kernel_rfl) (by kernel_rfl) (by kernel_rfl) ?hQ5 ?hy5 (by assumption) ?rest5
      case hi5 => (simp only [List.getElem?_toArray, List.getElem?_cons_zero, List.getElem?_cons_succ]; rfl)
      case hQ5 => exact fun _ _ _ h => h
      case hy5 => exact y_word (NI + 1) t _ (fun V hV => (hV.2.1.cell t).trans (codeC_at t ht)) rfl
      simp only [Act.put, List.setIfInBounds_toArray, List.set_cons_zero, List.set_cons_succ]
      refine wpAnyH_ready (rs := [5, 9, 10]) (by kernel_rfl) (by simp) ?_
      refine AllReadyH.cons (o := ?oi6) ?hi6 (fun K hK => ?b6) (AllReadyH.cons (o := ?oi7) ?hi7 (fun K hK => ?b7) (AllReadyH.cons (o := ?oi8) ?hi8 (fun K hK => ?b8) AllReadyH.nil))
      case hi6 => (simp only [List.getElem?_toArray, List.getElem?_cons_zero, List.getElem?_cons_succ]; rfl)
      case hi7 => (simp only [List.getElem?_toArray, List.getElem?_cons_zero, List.getElem?_cons_succ]; rfl)
      case hi8 => (simp only [List.getElem?_toArray, List.getElem?_cons_zero, List.getElem?_cons_succ]; rfl)
      case b6 =>
        go_simp
        (with_reducible refine (HD.out _ ?_).mono ?_)
        · exact HA.out.below hHeld.2.2
        rintro e V ⟨rfl, hbc⟩
        replace hx := hHeld.1.bl hbc
        replace hcd := hHeld.2.1.bl hbc
        replace hb := below_bl rfl hHeld.2.2 hbc
        clear hHeld
        go_simp
        refine hK.out _ _ ?_ (fun hHeld => ?_)
        · exact ⟨hx, hcd, hb⟩
        clear hK K
        refine wpAnyH_take (i := 6) (oi := ?oi9) (v := .tuple #[.agg h'.cells, .agg a'.cells]) ?hi9 (by kernel_rfl) (by kernel_rfl) (by kernel_rfl) ?hQ9 ?hy9 (by assumption) ?rest9
        case hi9 => (simp only [List.getElem?_toArray, List.getElem?_cons_zero, List.getElem?_cons_succ]; rfl)
        case hQ9 => exact fun _ _ _ h => h
        case hy9 => exact Or.inl ⟨by rfl, by (intro w hSw; (try dsimp only at hSw); go_simp )⟩
        simp only [Act.put, List.setIfInBounds_toArray, List.set_cons_zero, List.set_cons_succ]
        refine wpAnyH_take (i := 7) (oi := ?oi10) (v := .agg h'.cells) ?hi10 (by kernel_rfl) (by kernel_rfl) (by kernel_rfl) ?hQ10 ?hy10 (by assumption) ?rest10
        case hi10 => (simp only [List.getElem?_toArray, List.getElem?_cons_zero, List.getElem?_cons_succ]; rfl)
        case hQ10 => exact fun _ _ _ h => h
        case hy10 => exact Or.inl ⟨by rfl, by (intro w hSw; (try dsimp only at hSw); go_simp )⟩
        simp only [Act.put, List.setIfInBounds_toArray, List.set_cons_zero, List.set_cons_succ]
        refine wpAnyH_take (i := 8) (oi := ?oi11) (v := .agg a'.cells) ?hi11 (by kernel_rfl) (by kernel_rfl) (by kernel_rfl) ?hQ11 ?hy11 (by assumption) ?rest11
        case hi11 => (simp only [List.getElem?_toArray, List.getElem?_cons_zero, List.getElem?_cons_succ]; rfl)
        case hQ11 => exact fun _ _ _ h => h
        case hy11 => exact Or.inl ⟨by rfl, by (intro w hSw; (try dsimp only at hSw); go_simp )⟩
        simp only [Act.put, List.setIfInBounds_toArray, List.set_cons_zero, List.set_cons_succ]
        refine wpAnyH_ready (rs := [9, 10]) (by kernel_rfl) (by simp) ?_
        refine AllReadyH.cons (o := ?oi12) ?hi12 (fun K hK => ?b12) (AllReadyH.cons (o := ?oi13) ?hi13 (fun K hK => ?b13) AllReadyH.nil)
        case hi12 => (simp only [List.getElem?_toArray, List.getElem?_cons_zero, List.getElem?_cons_succ]; rfl)
        case hi13 => (simp only [List.getElem?_toArray, List.getElem?_cons_zero, List.getElem?_cons_succ]; rfl)
        case b12 =>
          replace hx := hHeld.1
          replace hcd := hHeld.2.1
          replace hb := hHeld.2.2
          obtain ⟨NY, hNY⟩ : ∃ n, V.heap.size = n := ⟨_, rfl⟩
          have lNY : NI + 2 ≤ NY := by have := hcd.lt; omega
          replace hNY := hide hNY
          rw [if_pos (by rfl)]
          (with_reducible refine s_alloc NY ?_ _ zero_hart ?_)
          · exact hNY.out
          intro V hy hb' hzY
          replace hx := hx.bl (hNY.out ▸ hb')
          replace hcd := hcd.bl (hNY.out ▸ hb')
          replace hb := hb.trans (hb'.mono (by omega))
          simp only [Act.put, List.setIfInBounds_toArray, List.set_cons_zero, List.set_cons_succ]
          clear hHeld
          refine hK.out _ _ ?_ (fun hHeld => ?_)
          · exact ⟨hx, hcd, hb⟩
          clear hK K
          refine wpAnyH_ready (rs := [10]) (by kernel_rfl) (by simp) ?_
          refine AllReadyH.cons (o := ?oi14) ?hi14 (fun K hK => ?b14) AllReadyH.nil
          case hi14 => (simp only [List.getElem?_toArray, List.getElem?_cons_zero, List.getElem?_cons_succ]; rfl)
          case b14 =>
            replace hx := hHeld.1
            replace hcd := hHeld.2.1
            replace hb := hHeld.2.2
            obtain ⟨NA, hNA⟩ : ∃ n, V.heap.size = n := ⟨_, rfl⟩
            have lNA : NI + 2 ≤ NA := by have := hcd.lt; omega
            have neNA : NY < NA := by have := hy.lt; omega
            replace hNA := hide hNA
            rw [if_pos (by rfl)]
            (with_reducible refine s_alloc NA ?_ _ zero_acc ?_)
            · exact hNA.out
            intro V hya hb' hzY
            replace hx := hx.bl (hNA.out ▸ hb')
            replace hcd := hcd.bl (hNA.out ▸ hb')
            replace hy := hy.bl (hNA.out ▸ hb')
            replace hb := hb.trans (hb'.mono (by omega))
            simp only [Act.put, List.setIfInBounds_toArray, List.set_cons_zero, List.set_cons_succ]
            clear hHeld
            refine hK.out _ _ ?_ (fun hHeld => ?_)
            · exact ⟨hx, hcd, hb⟩
            clear hK K
            refine wpAnyH_ready (rs := [11]) (by kernel_rfl) (by simp) ?_
            refine AllReadyH.cons (o := ?oi15) ?hi15 (fun K hK => ?_) AllReadyH.nil
            case hi15 => (simp only [List.getElem?_toArray, List.getElem?_cons_zero, List.getElem?_cons_succ]; rfl)
            rw [if_pos (by rfl)]
            (with_reducible refine s_h NY _ h' hy ?_ ?_ ?_)
            · exact rfl
            · exact rfl
            intro V hnew ho
            replace hx := hx.only ho (by omega)
            replace hcd := hcd.only ho (by omega)
            replace hya := hya.only ho (by omega)
            replace hy := hnew
            replace hb := ho.bel _ _ (by omega) hb
            clear hHeld
            refine hK.out _ _ ?_ (fun hHeld => ?_)
            · exact ⟨hx, hcd, hb⟩
            clear hK K
            refine wpAnyH_ready (rs := [12]) (by kernel_rfl) (by simp) ?_
            refine AllReadyH.cons (o := ?oi16) ?hi16 (fun K hK => ?_) AllReadyH.nil
            case hi16 => (simp only [List.getElem?_toArray, List.getElem?_cons_zero, List.getElem?_cons_succ]; rfl)
            rw [if_pos (by rfl)]
            (with_reducible refine s_a NA _ a' hya ?_ ?_ ?_)
            · exact rfl
            · exact rfl
            intro V hnew ho
            replace hx := hx.only ho (by omega)
            replace hcd := hcd.only ho (by omega)
            replace hy := hy.only ho (by omega)
            replace hb := ho.bel _ _ (by omega) hb
            clear hHeld
            refine hK.out _ _ ?_ (fun hHeld => ?_)
            · exact ⟨hx, hcd, hb⟩
            clear hK K
            refine wpAnyH_done (by kernel_rfl) ?_ _
            go_wp2_with (first | ((with_reducible refine ld_h NY h' hy ?_ ?_); exact rfl) | ((with_reducible refine st_h NI _ h' hx ?_ ?_ ?_); exact rfl; exact rfl; intro V hnew ho; replace hcd := hcd.only ho (by omega); replace hx := hnew; replace hb := ho.bel _ _ (by omega) hb))
            go_roundw
            case rel => exact ⟨i + 1, h', by go_num, HN.out, hx, hcd, hb⟩
            case measure => simp [intOf]; omega
        case b13 =>
          replace hx := hHeld.1
          replace hcd := hHeld.2.1
          replace hb := hHeld.2.2
          obtain ⟨NA, hNA⟩ : ∃ n, V.heap.size = n := ⟨_, rfl⟩
          have lNA : NI + 2 ≤ NA := by have := hcd.lt; omega
          replace hNA := hide hNA
          rw [if_pos (by rfl)]
          (with_reducible refine s_alloc NA ?_ _ zero_acc ?_)
          · exact hNA.out
          intro V hya hb' hzY
          replace hx := hx.bl (hNA.out ▸ hb')
          replace hcd := hcd.bl (hNA.out ▸ hb')
          replace hb := hb.trans (hb'.mono (by omega))
          simp only [Act.put, List.setIfInBounds_toArray, List.set_cons_zero, List.set_cons_succ]
          clear hHeld
          refine hK.out _ _ ?_ (fun hHeld => ?_)
          · exact ⟨hx, hcd, hb⟩
          clear hK K
          refine wpAnyH_ready (rs := [9]) (by kernel_rfl) (by simp) ?_
          refine AllReadyH.cons (o := ?oi17) ?hi17 (fun K hK => ?b17) AllReadyH.nil
          case hi17 => (simp only [List.getElem?_toArray, List.getElem?_cons_zero, List.getElem?_cons_succ]; rfl)
          case b17 =>
            replace hx := hHeld.1
            replace hcd := hHeld.2.1
            replace hb := hHeld.2.2
            obtain ⟨NY, hNY⟩ : ∃ n, V.heap.size = n := ⟨_, rfl⟩
            have lNY : NI + 2 ≤ NY := by have := hcd.lt; omega
            have neNY : NA < NY := by have := hya.lt; omega
            replace hNY := hide hNY
            rw [if_pos (by rfl)]
            (with_reducible refine s_alloc NY ?_ _ zero_hart ?_)
            · exact hNY.out
            intro V hy hb' hzY
            replace hx := hx.bl (hNY.out ▸ hb')
            replace hcd := hcd.bl (hNY.out ▸ hb')
            replace hya := hya.bl (hNY.out ▸ hb')
            replace hb := hb.trans (hb'.mono (by omega))
            simp only [Act.put, List.setIfInBounds_toArray, List.set_cons_zero, List.set_cons_succ]
            clear hHeld
            refine hK.out _ _ ?_ (fun hHeld => ?_)
            · exact ⟨hx, hcd, hb⟩
            clear hK K
            refine wpAnyH_ready (rs := [11]) (by kernel_rfl) (by simp) ?_
            refine AllReadyH.cons (o := ?oi18) ?hi18 (fun K hK => ?_) AllReadyH.nil
            case hi18 => (simp only [List.getElem?_toArray, List.getElem?_cons_zero, List.getElem?_cons_succ]; rfl)
            rw [if_pos (by rfl)]
            (with_reducible refine s_h NY _ h' hy ?_ ?_ ?_)
            · exact rfl
            · exact rfl
            intro V hnew ho
            replace hx := hx.only ho (by omega)
            replace hcd := hcd.only ho (by omega)
            replace hya := hya.only ho (by omega)
            replace hy := hnew
            replace hb := ho.bel _ _ (by omega) hb
            clear hHeld
            refine hK.out _ _ ?_ (fun hHeld => ?_)
            · exact ⟨hx, hcd, hb⟩
            clear hK K
            refine wpAnyH_ready (rs := [12]) (by kernel_rfl) (by simp) ?_
            refine AllReadyH.cons (o := ?oi19) ?hi19 (fun K hK => ?_) AllReadyH.nil
            case hi19 => (simp only [List.getElem?_toArray, List.getElem?_cons_zero, List.getElem?_cons_succ]; rfl)
            rw [if_pos (by rfl)]
            (with_reducible refine s_a NA _ a' hya ?_ ?_ ?_)
            · exact rfl
            · exact rfl
            intro V hnew ho
            replace hx := hx.only ho (by omega)
            replace hcd := hcd.only ho (by omega)
            replace hy := hy.only ho (by omega)
            replace hb := ho.bel _ _ (by omega) hb
            clear hHeld
            refine hK.out _ _ ?_ (fun hHeld => ?_)
            · exact ⟨hx, hcd, hb⟩
            clear hK K
            refine wpAnyH_done (by kernel_rfl) ?_ _
            go_wp2_with (first | ((with_reducible refine ld_h NY h' hy ?_ ?_); exact rfl) | ((with_reducible refine st_h NI _ h' hx ?_ ?_ ?_); exact rfl; exact rfl; intro V hnew ho; replace hcd := hcd.only ho (by omega); replace hx := hnew; replace hb := ho.bel _ _ (by omega) hb))
            go_roundw
            case rel => exact ⟨i + 1, h', by go_num, HN.out, hx, hcd, hb⟩
            case measure => simp [intOf]; omega
      case b7 =>
        replace hx := hHeld.1
        replace hcd := hHeld.2.1
        replace hb := hHeld.2.2
        obtain ⟨NY, hNY⟩ : ∃ n, V.heap.size = n := ⟨_, rfl⟩
        have lNY : NI + 2 ≤ NY := by have := hcd.lt; omega
        replace hNY := hide hNY
        rw [if_pos (by rfl)]
        (with_reducible refine s_alloc NY ?_ _ zero_hart ?_)
        · exact hNY.out
        intro V hy hb' hzY
        replace hx := hx.bl (hNY.out ▸ hb')
        replace hcd := hcd.bl (hNY.out ▸ hb')
        replace hb := hb.trans (hb'.mono (by omega))
        simp only [Act.put, List.setIfInBounds_toArray, List.set_cons_zero, List.set_cons_succ]
        clear hHeld
        refine hK.out _ _ ?_ (fun hHeld => ?_)
        · exact ⟨hx, hcd, hb⟩
        clear hK K
        refine wpAnyH_ready (rs := [5, 10]) (by kernel_rfl) (by simp) ?_
        refine AllReadyH.cons (o := ?oi20) ?hi20 (fun K hK => ?b20) (AllReadyH.cons (o := ?oi21) ?hi21 (fun K hK => ?b21) AllReadyH.nil)
        case hi20 => (simp only [List.getElem?_toArray, List.getElem?_cons_zero, List.getElem?_cons_succ]; rfl)
        case hi21 => (simp only [List.getElem?_toArray, List.getElem?_cons_zero, List.getElem?_cons_succ]; rfl)
        case b20 =>
          go_simp
          (with_reducible refine (HD.out _ ?_).mono ?_)
          · exact HA.out.below hHeld.2.2
          rintro e V ⟨rfl, hbc⟩
          replace hx := hHeld.1.bl hbc
          replace hcd := hHeld.2.1.bl hbc
          replace hb := below_bl rfl hHeld.2.2 hbc
          replace hy := hy.bl hbc
          clear hHeld
          go_simp
          refine hK.out _ _ ?_ (fun hHeld => ?_)
          · exact ⟨hx, hcd, hb⟩
          clear hK K
          refine wpAnyH_take (i := 6) (oi := ?oi22) (v := .tuple #[.agg h'.cells, .agg a'.cells]) ?hi22 (by kernel_rfl) (by kernel_rfl) (by kernel_rfl) ?hQ22 ?hy22 (by assumption) ?rest22
          case hi22 => (simp only [List.getElem?_toArray, List.getElem?_cons_zero, List.getElem?_cons_succ]; rfl)
          case hQ22 => exact fun _ _ _ h => h
          case hy22 => exact Or.inl ⟨by rfl, by (intro w hSw; (try dsimp only at hSw); go_simp )⟩
          simp only [Act.put, List.setIfInBounds_toArray, List.set_cons_zero, List.set_cons_succ]
          refine wpAnyH_take (i := 7) (oi := ?oi23) (v := .agg h'.cells) ?hi23 (by kernel_rfl) (by kernel_rfl) (by kernel_rfl) ?hQ23 ?hy23 (by assumption) ?rest23
          case hi23 => (simp only [List.getElem?_toArray, List.getElem?_cons_zero, List.getElem?_cons_succ]; rfl)
          case hQ23 => exact fun _ _ _ h => h
          case hy23 => exact Or.inl ⟨by rfl, by (intro w hSw; (try dsimp only at hSw); go_simp )⟩
          simp only [Act.put, List.setIfInBounds_toArray, List.set_cons_zero, List.set_cons_succ]
          refine wpAnyH_take (i := 8) (oi := ?oi24) (v := .agg a'.cells) ?hi24 (by kernel_rfl) (by kernel_rfl) (by kernel_rfl) ?hQ24 ?hy24 (by assumption) ?rest24
          case hi24 => (simp only [List.getElem?_toArray, List.getElem?_cons_zero, List.getElem?_cons_succ]; rfl)
          case hQ24 => exact fun _ _ _ h => h
          case hy24 => exact Or.inl ⟨by rfl, by (intro w hSw; (try dsimp only at hSw); go_simp )⟩
          simp only [Act.put, List.setIfInBounds_toArray, List.set_cons_zero, List.set_cons_succ]
          refine wpAnyH_ready (rs := [10]) (by kernel_rfl) (by simp) ?_
          refine AllReadyH.cons (o := ?oi25) ?hi25 (fun K hK => ?b25) AllReadyH.nil
          case hi25 => (simp only [List.getElem?_toArray, List.getElem?_cons_zero, List.getElem?_cons_succ]; rfl)
          case b25 =>
            replace hx := hHeld.1
            replace hcd := hHeld.2.1
            replace hb := hHeld.2.2
            obtain ⟨NA, hNA⟩ : ∃ n, V.heap.size = n := ⟨_, rfl⟩
            have lNA : NI + 2 ≤ NA := by have := hcd.lt; omega
            have neNA : NY < NA := by have := hy.lt; omega
            replace hNA := hide hNA
            rw [if_pos (by rfl)]
            (with_reducible refine s_alloc NA ?_ _ zero_acc ?_)
            · exact hNA.out
            intro V hya hb' hzY
            replace hx := hx.bl (hNA.out ▸ hb')
            replace hcd := hcd.bl (hNA.out ▸ hb')
            replace hy := hy.bl (hNA.out ▸ hb')
            replace hb := hb.trans (hb'.mono (by omega))
            simp only [Act.put, List.setIfInBounds_toArray, List.set_cons_zero, List.set_cons_succ]
            clear hHeld
            refine hK.out _ _ ?_ (fun hHeld => ?_)
            · exact ⟨hx, hcd, hb⟩
            clear hK K
            refine wpAnyH_ready (rs := [11]) (by kernel_rfl) (by simp) ?_
            refine AllReadyH.cons (o := ?oi26) ?hi26 (fun K hK => ?_) AllReadyH.nil
            case hi26 => (simp only [List.getElem?_toArray, List.getElem?_cons_zero, List.getElem?_cons_succ]; rfl)
            rw [if_pos (by rfl)]
            (with_reducible refine s_h NY _ h' hy ?_ ?_ ?_)
            · exact rfl
            · exact rfl
            intro V hnew ho
            replace hx := hx.only ho (by omega)
            replace hcd := hcd.only ho (by omega)
            replace hya := hya.only ho (by omega)
            replace hy := hnew
            replace hb := ho.bel _ _ (by omega) hb
            clear hHeld
            refine hK.out _ _ ?_ (fun hHeld => ?_)
            · exact ⟨hx, hcd, hb⟩
            clear hK K
            refine wpAnyH_ready (rs := [12]) (by kernel_rfl) (by simp) ?_
            refine AllReadyH.cons (o := ?oi27) ?hi27 (fun K hK => ?_) AllReadyH.nil
            case hi27 => (simp only [List.getElem?_toArray, List.getElem?_cons_zero, List.getElem?_cons_succ]; rfl)
            rw [if_pos (by rfl)]
            (with_reducible refine s_a NA _ a' hya ?_ ?_ ?_)
            · exact rfl
            · exact rfl
            intro V hnew ho
            replace hx := hx.only ho (by omega)
            replace hcd := hcd.only ho (by omega)
            replace hy := hy.only ho (by omega)
            replace hb := ho.bel _ _ (by omega) hb
            clear hHeld
            refine hK.out _ _ ?_ (fun hHeld => ?_)
            · exact ⟨hx, hcd, hb⟩
            clear hK K
            refine wpAnyH_done (by kernel_rfl) ?_ _
            go_wp2_with (first | ((with_reducible refine ld_h NY h' hy ?_ ?_); exact rfl) | ((with_reducible refine st_h NI _ h' hx ?_ ?_ ?_); exact rfl; exact rfl; intro V hnew ho; replace hcd := hcd.only ho (by omega); replace hx := hnew; replace hb := ho.bel _ _ (by omega) hb))
            go_roundw
            case rel => exact ⟨i + 1, h', by go_num, HN.out, hx, hcd, hb⟩
            case measure => simp [intOf]; omega
        case b21 =>
          replace hx := hHeld.1
          replace hcd := hHeld.2.1
          replace hb := hHeld.2.2
          obtain ⟨NA, hNA⟩ : ∃ n, V.heap.size = n := ⟨_, rfl⟩
          have lNA : NI + 2 ≤ NA := by have := hcd.lt; omega
          have neNA : NY < NA := by have := hy.lt; omega
          replace hNA := hide hNA
          rw [if_pos (by rfl)]
          (with_reducible refine s_alloc NA ?_ _ zero_acc ?_)
          · exact hNA.out
          intro V hya hb' hzY
          replace hx := hx.bl (hNA.out ▸ hb')
          replace hcd := hcd.bl (hNA.out ▸ hb')
          replace hy := hy.bl (hNA.out ▸ hb')
          replace hb := hb.trans (hb'.mono (by omega))
          simp only [Act.put, List.setIfInBounds_toArray, List.set_cons_zero, List.set_cons_succ]
          clear hHeld
          refine hK.out _ _ ?_ (fun hHeld => ?_)
          · exact ⟨hx, hcd, hb⟩
          clear hK K
          refine wpAnyH_ready (rs := [5]) (by kernel_rfl) (by simp) ?_
          refine AllReadyH.cons (o := ?oi28) ?hi28 (fun K hK => ?b28) AllReadyH.nil
          case hi28 => (simp only [List.getElem?_toArray, List.getElem?_cons_zero, List.getElem?_cons_succ]; rfl)
          case b28 =>
            go_simp
            (with_reducible refine (HD.out _ ?_).mono ?_)
            · exact HA.out.below hHeld.2.2
            rintro e V ⟨rfl, hbc⟩
            replace hx := hHeld.1.bl hbc
            replace hcd := hHeld.2.1.bl hbc
            replace hb := below_bl rfl hHeld.2.2 hbc
            replace hy := hy.bl hbc
            replace hya := hya.bl hbc
            clear hHeld
            go_simp
            refine hK.out _ _ ?_ (fun hHeld => ?_)
            · exact ⟨hx, hcd, hb⟩
            clear hK K
            refine wpAnyH_take (i := 6) (oi := ?oi29) (v := .tuple #[.agg h'.cells, .agg a'.cells]) ?hi29 (by kernel_rfl) (by kernel_rfl) (by kernel_rfl) ?hQ29 ?hy29 (by assumption) ?rest29
            case hi29 => (simp only [List.getElem?_toArray, List.getElem?_cons_zero, List.getElem?_cons_succ]; rfl)
            case hQ29 => exact fun _ _ _ h => h
            case hy29 => exact Or.inl ⟨by rfl, by (intro w hSw; (try dsimp only at hSw); go_simp )⟩
            simp only [Act.put, List.setIfInBounds_toArray, List.set_cons_zero, List.set_cons_succ]
            refine wpAnyH_take (i := 7) (oi := ?oi30) (v := .agg h'.cells) ?hi30 (by kernel_rfl) (by kernel_rfl) (by kernel_rfl) ?hQ30 ?hy30 (by assumption) ?rest30
            case hi30 => (simp only [List.getElem?_toArray, List.getElem?_cons_zero, List.getElem?_cons_succ]; rfl)
            case hQ30 => exact fun _ _ _ h => h
            case hy30 => exact Or.inl ⟨by rfl, by (intro w hSw; (try dsimp only at hSw); go_simp )⟩
            simp only [Act.put, List.setIfInBounds_toArray, List.set_cons_zero, List.set_cons_succ]
            refine wpAnyH_take (i := 8) (oi := ?oi31) (v := .agg a'.cells) ?hi31 (by kernel_rfl) (by kernel_rfl) (by kernel_rfl) ?hQ31 ?hy31 (by assumption) ?rest31
            case hi31 => (simp only [List.getElem?_toArray, List.getElem?_cons_zero, List.getElem?_cons_succ]; rfl)
            case hQ31 => exact fun _ _ _ h => h
            case hy31 => exact Or.inl ⟨by rfl, by (intro w hSw; (try dsimp only at hSw); go_simp )⟩
            simp only [Act.put, List.setIfInBounds_toArray, List.set_cons_zero, List.set_cons_succ]
            refine wpAnyH_ready (rs := [11]) (by kernel_rfl) (by simp) ?_
            refine AllReadyH.cons (o := ?oi32) ?hi32 (fun K hK => ?_) AllReadyH.nil
            case hi32 => (simp only [List.getElem?_toArray, List.getElem?_cons_zero, List.getElem?_cons_succ]; rfl)
            rw [if_pos (by rfl)]
            (with_reducible refine s_h NY _ h' hy ?_ ?_ ?_)
            · exact rfl
            · exact rfl
            intro V hnew ho
            replace hx := hx.only ho (by omega)
            replace hcd := hcd.only ho (by omega)
            replace hya := hya.only ho (by omega)
            replace hy := hnew
            replace hb := ho.bel _ _ (by omega) hb
            clear hHeld
            refine hK.out _ _ ?_ (fun hHeld => ?_)
            · exact ⟨hx, hcd, hb⟩
            clear hK K
            refine wpAnyH_ready (rs := [12]) (by kernel_rfl) (by simp) ?_
            refine AllReadyH.cons (o := ?oi33) ?hi33 (fun K hK => ?_) AllReadyH.nil
            case hi33 => (simp only [List.getElem?_toArray, List.getElem?_cons_zero, List.getElem?_cons_succ]; rfl)
            rw [if_pos (by rfl)]
            (with_reducible refine s_a NA _ a' hya ?_ ?_ ?_)
            · exact rfl
            · exact rfl
            intro V hnew ho
            replace hx := hx.only ho (by omega)
            replace hcd := hcd.only ho (by omega)
            replace hy := hy.only ho (by omega)
            replace hb := ho.bel _ _ (by omega) hb
            clear hHeld
            refine hK.out _ _ ?_ (fun hHeld => ?_)
            · exact ⟨hx, hcd, hb⟩
            clear hK K
            refine wpAnyH_done (by kernel_rfl) ?_ _
            go_wp2_with (first | ((with_reducible refine ld_h NY h' hy ?_ ?_); exact rfl) | ((with_reducible refine st_h NI _ h' hx ?_ ?_ ?_); exact rfl; exact rfl; intro V hnew ho; replace hcd := hcd.only ho (by omega); replace hx := hnew; replace hb := ho.bel _ _ (by omega) hb))
            go_roundw
            case rel => exact ⟨i + 1, h', by go_num, HN.out, hx, hcd, hb⟩
            case measure => simp [intOf]; omega
      case b8 =>
        replace hx := hHeld.1
        replace hcd := hHeld.2.1
        replace hb := hHeld.2.2
        obtain ⟨NA, hNA⟩ : ∃ n, V.heap.size = n := ⟨_, rfl⟩
        have lNA : NI + 2 ≤ NA := by have := hcd.lt; omega
        replace hNA := hide hNA
        rw [if_pos (by rfl)]
        (with_reducible refine s_alloc NA ?_ _ zero_acc ?_)
        · exact hNA.out
        intro V hya hb' hzY
        replace hx := hx.bl (hNA.out ▸ hb')
        replace hcd := hcd.bl (hNA.out ▸ hb')
        replace hb := hb.trans (hb'.mono (by omega))
        simp only [Act.put, List.setIfInBounds_toArray, List.set_cons_zero, List.set_cons_succ]
        clear hHeld
        refine hK.out _ _ ?_ (fun hHeld => ?_)
        · exact ⟨hx, hcd, hb⟩
        clear hK K
        refine wpAnyH_ready (rs := [5, 9]) (by kernel_rfl) (by simp) ?_
        refine AllReadyH.cons (o := ?oi34) ?hi34 (fun K hK => ?b34) (AllReadyH.cons (o := ?oi35) ?hi35 (fun K hK => ?b35) AllReadyH.nil)
        case hi34 => (simp only [List.getElem?_toArray, List.getElem?_cons_zero, List.getElem?_cons_succ]; rfl)
        case hi35 => (simp only [List.getElem?_toArray, List.getElem?_cons_zero, List.getElem?_cons_succ]; rfl)
        case b34 =>
          go_simp
          (with_reducible refine (HD.out _ ?_).mono ?_)
          · exact HA.out.below hHeld.2.2
          rintro e V ⟨rfl, hbc⟩
          replace hx := hHeld.1.bl hbc
          replace hcd := hHeld.2.1.bl hbc
          replace hb := below_bl rfl hHeld.2.2 hbc
          replace hya := hya.bl hbc
          clear hHeld
          go_simp
          refine hK.out _ _ ?_ (fun hHeld => ?_)
          · exact ⟨hx, hcd, hb⟩
          clear hK K
          refine wpAnyH_take (i := 6) (oi := ?oi36) (v := .tuple #[.agg h'.cells, .agg a'.cells]) ?hi36 (by kernel_rfl) (by kernel_rfl) (by kernel_rfl) ?hQ36 ?hy36 (by assumption) ?rest36
          case hi36 => (simp only [List.getElem?_toArray, List.getElem?_cons_zero, List.getElem?_cons_succ]; rfl)
          case hQ36 => exact fun _ _ _ h => h
          case hy36 => exact Or.inl ⟨by rfl, by (intro w hSw; (try dsimp only at hSw); go_simp )⟩
          simp only [Act.put, List.setIfInBounds_toArray, List.set_cons_zero, List.set_cons_succ]
          refine wpAnyH_take (i := 7) (oi := ?oi37) (v := .agg h'.cells) ?hi37 (by kernel_rfl) (by kernel_rfl) (by kernel_rfl) ?hQ37 ?hy37 (by assumption) ?rest37
          case hi37 => (simp only [List.getElem?_toArray, List.getElem?_cons_zero, List.getElem?_cons_succ]; rfl)
          case hQ37 => exact fun _ _ _ h => h
          case hy37 => exact Or.inl ⟨by rfl, by (intro w hSw; (try dsimp only at hSw); go_simp )⟩
          simp only [Act.put, List.setIfInBounds_toArray, List.set_cons_zero, List.set_cons_succ]
          refine wpAnyH_take (i := 8) (oi := ?oi38) (v := .agg a'.cells) ?hi38 (by kernel_rfl) (by kernel_rfl) (by kernel_rfl) ?hQ38 ?hy38 (by assumption) ?rest38
          case hi38 => (simp only [List.getElem?_toArray, List.getElem?_cons_zero, List.getElem?_cons_succ]; rfl)
          case hQ38 => exact fun _ _ _ h => h
          case hy38 => exact Or.inl ⟨by rfl, by (intro w hSw; (try dsimp only at hSw); go_simp )⟩
          simp only [Act.put, List.setIfInBounds_toArray, List.set_cons_zero, List.set_cons_succ]
          refine wpAnyH_ready (rs := [9]) (by kernel_rfl) (by simp) ?_
          refine AllReadyH.cons (o := ?oi39) ?hi39 (fun K hK => ?b39) AllReadyH.nil
          case hi39 => (simp only [List.getElem?_toArray, List.getElem?_cons_zero, List.getElem?_cons_succ]; rfl)
          case b39 =>
            replace hx := hHeld.1
            replace hcd := hHeld.2.1
            replace hb := hHeld.2.2
            obtain ⟨NY, hNY⟩ : ∃ n, V.heap.size = n := ⟨_, rfl⟩
            have lNY : NI + 2 ≤ NY := by have := hcd.lt; omega
            have neNY : NA < NY := by have := hya.lt; omega
            replace hNY := hide hNY
            rw [if_pos (by rfl)]
            (with_reducible refine s_alloc NY ?_ _ zero_hart ?_)
            · exact hNY.out
            intro V hy hb' hzY
            replace hx := hx.bl (hNY.out ▸ hb')
            replace hcd := hcd.bl (hNY.out ▸ hb')
            replace hya := hya.bl (hNY.out ▸ hb')
            replace hb := hb.trans (hb'.mono (by omega))
            simp only [Act.put, List.setIfInBounds_toArray, List.set_cons_zero, List.set_cons_succ]
            clear hHeld
            refine hK.out _ _ ?_ (fun hHeld => ?_)
            · exact ⟨hx, hcd, hb⟩
            clear hK K
            refine wpAnyH_ready (rs := [11]) (by kernel_rfl) (by simp) ?_
            refine AllReadyH.cons (o := ?oi40) ?hi40 (fun K hK => ?_) AllReadyH.nil
            case hi40 => (simp only [List.getElem?_toArray, List.getElem?_cons_zero, List.getElem?_cons_succ]; rfl)
            rw [if_pos (by rfl)]
            (with_reducible refine s_h NY _ h' hy ?_ ?_ ?_)
            · exact rfl
            · exact rfl
            intro V hnew ho
            replace hx := hx.only ho (by omega)
            replace hcd := hcd.only ho (by omega)
            replace hya := hya.only ho (by omega)
            replace hy := hnew
            replace hb := ho.bel _ _ (by omega) hb
            clear hHeld
            refine hK.out _ _ ?_ (fun hHeld => ?_)
            · exact ⟨hx, hcd, hb⟩
            clear hK K
            refine wpAnyH_ready (rs := [12]) (by kernel_rfl) (by simp) ?_
            refine AllReadyH.cons (o := ?oi41) ?hi41 (fun K hK => ?_) AllReadyH.nil
            case hi41 => (simp only [List.getElem?_toArray, List.getElem?_cons_zero, List.getElem?_cons_succ]; rfl)
            rw [if_pos (by rfl)]
            (with_reducible refine s_a NA _ a' hya ?_ ?_ ?_)
            · exact rfl
            · exact rfl
            intro V hnew ho
            replace hx := hx.only ho (by omega)
            replace hcd := hcd.only ho (by omega)
            replace hy := hy.only ho (by omega)
            replace hb := ho.bel _ _ (by omega) hb
            clear hHeld
            refine hK.out _ _ ?_ (fun hHeld => ?_)
            · exact ⟨hx, hcd, hb⟩
            clear hK K
            refine wpAnyH_done (by kernel_rfl) ?_ _
            go_wp2_with (first | ((with_reducible refine ld_h NY h' hy ?_ ?_); exact rfl) | ((with_reducible refine st_h NI _ h' hx ?_ ?_ ?_); exact rfl; exact rfl; intro V hnew ho; replace hcd := hcd.only ho (by omega); replace hx := hnew; replace hb := ho.bel _ _ (by omega) hb))
            go_roundw
            case rel => exact ⟨i + 1, h', by go_num, HN.out, hx, hcd, hb⟩
            case measure => simp [intOf]; omega
        case b35 =>
          replace hx := hHeld.1
          replace hcd := hHeld.2.1
          replace hb := hHeld.2.2
          obtain ⟨NY, hNY⟩ : ∃ n, V.heap.size = n := ⟨_, rfl⟩
          have lNY : NI + 2 ≤ NY := by have := hcd.lt; omega
          have neNY : NA < NY := by have := hya.lt; omega
          replace hNY := hide hNY
          rw [if_pos (by rfl)]
          (with_reducible refine s_alloc NY ?_ _ zero_hart ?_)
          · exact hNY.out
          intro V hy hb' hzY
          replace hx := hx.bl (hNY.out ▸ hb')
          replace hcd := hcd.bl (hNY.out ▸ hb')
          replace hya := hya.bl (hNY.out ▸ hb')
          replace hb := hb.trans (hb'.mono (by omega))
          simp only [Act.put, List.setIfInBounds_toArray, List.set_cons_zero, List.set_cons_succ]
          clear hHeld
          refine hK.out _ _ ?_ (fun hHeld => ?_)
          · exact ⟨hx, hcd, hb⟩
          clear hK K
          refine wpAnyH_ready (rs := [5]) (by kernel_rfl) (by simp) ?_
          refine AllReadyH.cons (o := ?oi42) ?hi42 (fun K hK => ?b42) AllReadyH.nil
          case hi42 => (simp only [List.getElem?_toArray, List.getElem?_cons_zero, List.getElem?_cons_succ]; rfl)
          case b42 =>
            go_simp
            (with_reducible refine (HD.out _ ?_).mono ?_)
            · exact HA.out.below hHeld.2.2
            rintro e V ⟨rfl, hbc⟩
            replace hx := hHeld.1.bl hbc
            replace hcd := hHeld.2.1.bl hbc
            replace hb := below_bl rfl hHeld.2.2 hbc
            replace hya := hya.bl hbc
            replace hy := hy.bl hbc
            clear hHeld
            go_simp
            refine hK.out _ _ ?_ (fun hHeld => ?_)
            · exact ⟨hx, hcd, hb⟩
            clear hK K
            refine wpAnyH_take (i := 6) (oi := ?oi43) (v := .tuple #[.agg h'.cells, .agg a'.cells]) ?hi43 (by kernel_rfl) (by kernel_rfl) (by kernel_rfl) ?hQ43 ?hy43 (by assumption) ?rest43
            case hi43 => (simp only [List.getElem?_toArray, List.getElem?_cons_zero, List.getElem?_cons_succ]; rfl)
            case hQ43 => exact fun _ _ _ h => h
            case hy43 => exact Or.inl ⟨by rfl, by (intro w hSw; (try dsimp only at hSw); go_simp )⟩
            simp only [Act.put, List.setIfInBounds_toArray, List.set_cons_zero, List.set_cons_succ]
            refine wpAnyH_take (i := 7) (oi := ?oi44) (v := .agg h'.cells) ?hi44 (by kernel_rfl) (by kernel_rfl) (by kernel_rfl) ?hQ44 ?hy44 (by assumption) ?rest44
            case hi44 => (simp only [List.getElem?_toArray, List.getElem?_cons_zero, List.getElem?_cons_succ]; rfl)
            case hQ44 => exact fun _ _ _ h => h
            case hy44 => exact Or.inl ⟨by rfl, by (intro w hSw; (try dsimp only at hSw); go_simp )⟩
            simp only [Act.put, List.setIfInBounds_toArray, List.set_cons_zero, List.set_cons_succ]
            refine wpAnyH_take (i := 8) (oi := ?oi45) (v := .agg a'.cells) ?hi45 (by kernel_rfl) (by kernel_rfl) (by kernel_rfl) ?hQ45 ?hy45 (by assumption) ?rest45
            case hi45 => (simp only [List.getElem?_toArray, List.getElem?_cons_zero, List.getElem?_cons_succ]; rfl)
            case hQ45 => exact fun _ _ _ h => h
            case hy45 => exact Or.inl ⟨by rfl, by (intro w hSw; (try dsimp only at hSw); go_simp )⟩
            simp only [Act.put, List.setIfInBounds_toArray, List.set_cons_zero, List.set_cons_succ]
            refine wpAnyH_ready (rs := [11]) (by kernel_rfl) (by simp) ?_
            refine AllReadyH.cons (o := ?oi46) ?hi46 (fun K hK => ?_) AllReadyH.nil
            case hi46 => (simp only [List.getElem?_toArray, List.getElem?_cons_zero, List.getElem?_cons_succ]; rfl)
            rw [if_pos (by rfl)]
            (with_reducible refine s_h NY _ h' hy ?_ ?_ ?_)
            · exact rfl
            · exact rfl
            intro V hnew ho
            replace hx := hx.only ho (by omega)
            replace hcd := hcd.only ho (by omega)
            replace hya := hya.only ho (by omega)
            replace hy := hnew
            replace hb := ho.bel _ _ (by omega) hb
            clear hHeld
            refine hK.out _ _ ?_ (fun hHeld => ?_)
            · exact ⟨hx, hcd, hb⟩
            clear hK K
            refine wpAnyH_ready (rs := [12]) (by kernel_rfl) (by simp) ?_
            refine AllReadyH.cons (o := ?oi47) ?hi47 (fun K hK => ?_) AllReadyH.nil
            case hi47 => (simp only [List.getElem?_toArray, List.getElem?_cons_zero, List.getElem?_cons_succ]; rfl)
            rw [if_pos (by rfl)]
            (with_reducible refine s_a NA _ a' hya ?_ ?_ ?_)
            · exact rfl
            · exact rfl
            intro V hnew ho
            replace hx := hx.only ho (by omega)
            replace hcd := hcd.only ho (by omega)
            replace hy := hy.only ho (by omega)
            replace hb := ho.bel _ _ (by omega) hb
            clear hHeld
            refine hK.out _ _ ?_ (fun hHeld => ?_)
            · exact ⟨hx, hcd, hb⟩
            clear hK K
            refine wpAnyH_done (by kernel_rfl) ?_ _
            go_wp2_with (first | ((with_reducible refine ld_h NY h' hy ?_ ?_); exact rfl) | ((with_reducible refine st_h NI _ h' hx ?_ ?_ ?_); exact rfl; exact rfl; intro V hnew ho; replace hcd := hcd.only ho (by omega); replace hx := hnew; replace hb := ho.bel _ _ (by omega) hb))
            go_roundw
            case rel => exact ⟨i + 1, h', by go_num, HN.out, hx, hcd, hb⟩
            case measure => simp [intOf]; omega
    | true =>
      obtain ⟨h5, h6⟩ := inv_end K i h hinv hw
      have ht2 := tri_two K
      have ht3 := tri_le K hKl
      have fx := hx.cell
      have e5 : (K : Int) * ((K : Int) + 1) = 2 * ((tri K : Nat) : Int) := by
        have : ((2 * tri K : Nat) : Int) = ((K * (K + 1) : Nat) : Int) := by rw [ht2]
        simp only [Int.natCast_mul, Int.natCast_add] at this
        exact this.symm
      have e6 : (((tri K : Nat) : Int) == (K : Int) * ((K : Int) + 1) % 4294967296 / 2) = true := by
        rw [e5]; simp; omega
      clear hinv e5 ht2 ht3
      go_wp2_with (first | (go_at_call 11; refine (HS.out _ (HA.out.below hb)).mono ?_; rintro e W ⟨rfl, hbc⟩; replace hb := below_bl rfl hb hbc))
      all_goals (go_ret; exact ⟨rfl, hb⟩)
end Go.Proofs.YtelakpogochifaaDoor
