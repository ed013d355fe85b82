/-
  The document's TakeRun and Done.
-/
import Derived.Test.YtkahkkcbigifiaaDoorTvRef2
import Derived.Test.YtkahkkcbigifiaaDoorSmBy
namespace Go.Proofs.YtkahkkcbigifiaaDoor
open Go.RowKit
set_option linter.unusedVariables false
set_option linter.unusedSimpArgs false

variable {P : Program} {ops : Array Oper} {rest : List Oper} {dst : Option Tmp} {ty t t2 : TypeId} {pos : String} {after : Array Edge} {a : Act} {w : World} {Q : Exit → Act → World → Prop} {K : Act → World → Prop} {x y z : Operand} {gd : Option (Nat × Bool)}
set_option maxRecDepth 100000 in
set_option maxHeartbeats 4000000 in
theorem rtakeR_any {B : Nat} {vb : Value} {i : InS} (w : World) (h : Rd B w vb i.b) (hB : B ≤ w.heap.size) (most : Int) (hm63 : most ≤ 9223372036854775807) :
    Calls Tryd.prog 21 #[.agg #[vb, .int .i64 (i.err : Nat)], .int .i64 most] w fun e w' => ∃ vb' u, e = .returned (.tuple #[.agg #[vb', .int .i64 ((takeR i most).1.err : Nat)], u]) ∧ Rd B w' vb' (takeR i most).1.b ∧ Rd B w' u (takeR i most).2 ∧ Below w.heap.size w w' := by
  obtain ⟨l, er⟩ := i
  obtain ⟨ad, cap, rfl, hcap, hmax⟩ := h.form
  have HR := hide h
  replace hcap : l.length ≤ cap := hcap
  simp only at h ⊢
  clear h
  by_cases he : er ≠ 0
  · rw [takeR_eq, if_pos he]
    simp only
    go_enter Tryd.func21, Tryd.ntmps21
    go_wp2_with (first | ((with_reducible refine op_box w.heap.size ?_ (inC (.slice ad l.length cap) er) ?_ ?_); exact rfl; exact rfl; intro W hr hb hz) | ((with_reducible refine op_alloc (w.heap.size + 1) ?_ _ zero_in ?_); exact hz.out; intro W hq hb' hz'; replace hr := hr.bl (hz.out ▸ hb'); replace hb := hb.trans (hb'.mono (by omega)); clear hb' hz) | ((with_reducible refine ld_inb hr ?_ ?_); exact rfl) | ((with_reducible refine ld_ine hr ?_ ?_); exact rfl) | ((with_reducible refine ld_in hr ?_ ?_); exact rfl) | ((with_reducible refine st_in ad l.length cap er hq ?_ ?_ ?_); exact rfl; exact rfl; intro W hnew ho; replace hr := hr.only ho (by omega); replace hb := ho.bel _ _ (by omega) hb; replace hq := hnew; clear hnew ho))
    refine bodyPost_ret (results_cell_one Tryd.results21 _ _ (w.heap.size + 1) _ _ _ rfl hq Tryd.underlying49 rfl (size_in _ _)) rfl ?_
    exact ⟨_, _, rfl, HR.out.bel (hb.mono hB), Rd.nil _ _, hb⟩
  · obtain rfl : er = 0 := by omega
    by_cases h1 : most < 0
    · rw [takeR_eq, if_neg he, if_pos h1]
      simp only
      go_enter Tryd.func21, Tryd.ntmps21
      go_wp2_with (first | ((with_reducible refine op_box w.heap.size ?_ (inC (.slice ad l.length cap) 0) ?_ ?_); exact rfl; exact rfl; intro W hr hb hz) | ((with_reducible refine op_alloc (w.heap.size + 1) ?_ _ zero_in ?_); exact hz.out; intro W hq hb' hz'; replace hr := hr.bl (hz.out ▸ hb'); replace hb := hb.trans (hb'.mono (by omega)); clear hb' hz) | ((with_reducible refine ld_inb hr ?_ ?_); exact rfl) | ((with_reducible refine ld_ine hr ?_ ?_); exact rfl) | ((with_reducible refine st_ine 1 hr ?_ ?_ ?_); exact rfl; exact rfl; intro W hnew ho; replace hq := hq.only ho (by omega); replace hb := ho.bel _ _ (by omega) hb; replace hr := hnew; clear hnew ho) | ((with_reducible refine ld_in hr ?_ ?_); exact rfl) | ((with_reducible refine st_in ad l.length cap 1 hq ?_ ?_ ?_); exact rfl; exact rfl; intro W hnew ho; replace hr := hr.only ho (by omega); replace hb := ho.bel _ _ (by omega) hb; replace hq := hnew; clear hnew ho))
      refine bodyPost_ret (results_cell_one Tryd.results21 _ _ (w.heap.size + 1) _ _ _ rfl hq Tryd.underlying49 rfl (size_in _ _)) rfl ?_
      exact ⟨_, _, rfl, HR.out.bel (hb.mono hB), Rd.nil _ _, hb⟩
    · obtain ⟨mo, rfl⟩ := Int.eq_ofNat_of_zero_le (show 0 ≤ most by omega)
      by_cases h2 : l.length < 4
      · rw [takeR_eq, if_neg he, if_neg h1, if_pos h2]
        simp only
        clear h1
        go_enter Tryd.func21, Tryd.ntmps21
        go_wp2_with (first | ((with_reducible refine op_box w.heap.size ?_ (inC (.slice ad l.length cap) 0) ?_ ?_); exact rfl; exact rfl; intro W hr hb hz) | ((with_reducible refine op_alloc (w.heap.size + 1) ?_ _ zero_in ?_); exact hz.out; intro W hq hb' hz'; replace hr := hr.bl (hz.out ▸ hb'); replace hb := hb.trans (hb'.mono (by omega)); clear hb' hz) | ((with_reducible refine ld_inb hr ?_ ?_); exact rfl) | ((with_reducible refine ld_ine hr ?_ ?_); exact rfl) | ((with_reducible refine st_ine 12 hr ?_ ?_ ?_); exact rfl; exact rfl; intro W hnew ho; replace hq := hq.only ho (by omega); replace hb := ho.bel _ _ (by omega) hb; replace hr := hnew; clear hnew ho) | ((with_reducible refine ld_in hr ?_ ?_); exact rfl) | ((with_reducible refine st_in ad l.length cap 12 hq ?_ ?_ ?_); exact rfl; exact rfl; intro W hnew ho; replace hr := hr.only ho (by omega); replace hb := ho.bel _ _ (by omega) hb; replace hq := hnew; clear hnew ho))
        refine bodyPost_ret (results_cell_one Tryd.results21 _ _ (w.heap.size + 1) _ _ _ rfl hq Tryd.underlying49 rfl (size_in _ _)) rfl ?_
        exact ⟨_, _, rfl, HR.out.bel (hb.mono hB), Rd.nil _ _, hb⟩
      · obtain ⟨m, hm⟩ : ∃ m, l.length = m + 4 := ⟨l.length - 4, by omega⟩
        have HML := hide (show 4 ≤ l.length by omega)
        have HT := hide (HR.out.to HML.out)
        have HLE := hide (le4 (l := l.take 4) (take_lt HR.out.lt 4) (by rw [List.length_take]; omega))
        have HNM := hide (fun W hR => rnumber_any (B := B) (v := .slice ad 4 cap) (l := l.take 4) W hR (by rw [List.length_take]; omega))
        have hx := HLE.out.2
        rw [takeR_eq, if_neg he, if_neg h1, if_neg h2]
        have HHM := hide hm
        rw [hm] at HR hcap ⊢
        rw [Nat.add_sub_cancel]
        clear h1 he h2 hm HLE
        have hmc : 4 ≤ cap := by omega
        generalize numL (l.take 4) = x at *
        by_cases h3 : (mo : Int) < (x : Int)
        · rw [if_pos h3]
          simp only
          have h3n : mo < x := by omega
          go_enter Tryd.func21, Tryd.ntmps21
          go_wp2_with (first | ((with_reducible refine op_box w.heap.size ?_ (inC (.slice ad (m + 4) cap) 0) ?_ ?_); exact rfl; exact rfl; intro W hr hb hz) | ((with_reducible refine op_alloc (w.heap.size + 1) ?_ _ zero_in ?_); exact hz.out; intro W hq hb' hz'; replace hr := hr.bl (hz.out ▸ hb'); replace hb := hb.trans (hb'.mono (by omega)); clear hb' hz) | ((with_reducible refine ld_inb hr ?_ ?_); exact rfl) | ((with_reducible refine ld_ine hr ?_ ?_); exact rfl) | (go_at_call 47; refine (HNM.out _ (HT.out.bel (hb.mono hB))).mono ?_; rintro e W2 ⟨rfl, rfl⟩) | ((with_reducible refine st_ine 2 hr ?_ ?_ ?_); exact rfl; exact rfl; intro W hnew ho; replace hq := hq.only ho (by omega); replace hb := ho.bel _ _ (by omega) hb; replace hr := hnew; clear hnew ho) | ((with_reducible refine ld_in hr ?_ ?_); exact rfl) | ((with_reducible refine st_in ad (m + 4) cap 2 hq ?_ ?_ ?_); exact rfl; exact rfl; intro W hnew ho; replace hr := hr.only ho (by omega); replace hb := ho.bel _ _ (by omega) hb; replace hq := hnew; clear hnew ho))
          refine bodyPost_ret (results_cell_one Tryd.results21 _ _ (w.heap.size + 1) _ _ _ rfl hq Tryd.underlying49 rfl (size_in _ _)) rfl ?_
          exact ⟨_, _, rfl, HR.out.bel (hb.mono hB), Rd.nil _ _, hb⟩
        · have hxm : x ≤ mo := by omega
          rw [if_neg h3]
          clear h3
          have hx64 : (x : Int) ≤ (mo : Int) := by omega
          by_cases h4 : m < x
          · rw [if_pos h4]
            simp only
            go_enter Tryd.func21, Tryd.ntmps21
            go_wp2_with (first | ((with_reducible refine op_box w.heap.size ?_ (inC (.slice ad (m + 4) cap) 0) ?_ ?_); exact rfl; exact rfl; intro W hr hb hz) | ((with_reducible refine op_alloc (w.heap.size + 1) ?_ _ zero_in ?_); exact hz.out; intro W hq hb' hz'; replace hr := hr.bl (hz.out ▸ hb'); replace hb := hb.trans (hb'.mono (by omega)); clear hb' hz) | ((with_reducible refine ld_inb hr ?_ ?_); exact rfl) | ((with_reducible refine ld_ine hr ?_ ?_); exact rfl) | (go_at_call 47; refine (HNM.out _ (HT.out.bel (hb.mono hB))).mono ?_; rintro e W2 ⟨rfl, rfl⟩))
            refine wp_region_held_drew (S := (fun U => Below w.heap.size w U ∧ RowAt U w.heap.size (inC (.slice ad (m + 4) cap) 0) 49)) (by kernel_rfl) ?_ (fun hHeld => ?_)
            · exact ⟨hb.drew, hr.dr⟩
            replace hq := hq.dr
            generalize W2.drew = V at hHeld hq ⊢
            refine wpAnyH_take (i := 0) (oi := ?oi1) (v := .pointer (some ⟨w.heap.size, 0, none⟩)) ?hi1 (by kernel_rfl) (by kernel_rfl) (by kernel_rfl) ?hQ1 ?hy1 (by assumption) ?rest1
            case hi1 => (simp only [List.getElem?_toArray, List.getElem?_cons_zero]; rfl)
            case hQ1 => exact fun _ _ _ h => h
            case hy1 => exact Or.inl ⟨by rfl, by (intro w hSw; (try dsimp only at hSw); go_simp )⟩
            simp only [Act.put, List.setIfInBounds_toArray, List.set_cons_zero, List.set_cons_succ]
            refine wpAnyH_take (i := 1) (oi := ?oi2) (v := .slice ad (m + 4) cap) ?hi2 (by kernel_rfl) (by kernel_rfl) (by kernel_rfl) ?hQ2 ?hy2 (by assumption) ?rest2
            case hi2 => (simp only [List.getElem?_toArray, List.getElem?_cons_zero, List.getElem?_cons_succ]; rfl)
            case hQ2 => exact fun _ _ _ h => h
            case hy2 => exact y_cell w.heap.size 0 _ (fun U hU => hU.2.cell 0) _ Tryd.underlying26 rfl rfl
            simp only [Act.put, List.setIfInBounds_toArray, List.set_cons_zero, List.set_cons_succ]
            refine wpAnyH_take (i := 2) (oi := ?oi3) (v := .slice ad 4 cap) ?hi3 (by kernel_rfl) (by kernel_rfl) (by kernel_rfl) ?hQ3 ?hy3 (by assumption) ?rest3
            case hi3 => (simp only [List.getElem?_toArray, List.getElem?_cons_zero, List.getElem?_cons_succ]; rfl)
            case hQ3 => exact fun _ _ _ h => h
            case hy3 => exact Or.inl ⟨by rfl, fun U hU => ex_to HR.out HML.out und_sl siz_sl rfl rfl U⟩
            simp only [Act.put, List.setIfInBounds_toArray, List.set_cons_zero, List.set_cons_succ]
            refine wpAnyH_take (i := 4) (oi := ?oi4) (v := .pointer (some ⟨w.heap.size, 0, none⟩)) ?hi4 (by kernel_rfl) (by kernel_rfl) (by kernel_rfl) ?hQ4 ?hy4 (by assumption) ?rest4
            case hi4 => (simp only [List.getElem?_toArray, List.getElem?_cons_zero, List.getElem?_cons_succ]; rfl)
            case hQ4 => exact fun _ _ _ h => h
            case hy4 => exact Or.inl ⟨by rfl, by (intro w hSw; (try dsimp only at hSw); go_simp )⟩
            simp only [Act.put, List.setIfInBounds_toArray, List.set_cons_zero, List.set_cons_succ]
            refine wpAnyH_take (i := 5) (oi := ?oi5) (v := .slice ad (m + 4) cap) ?hi5 (by kernel_rfl) (by kernel_rfl) (by kernel_rfl) ?hQ5 ?hy5 (by assumption) ?rest5
            case hi5 => (simp only [List.getElem?_toArray, List.getElem?_cons_zero, List.getElem?_cons_succ]; rfl)
            case hQ5 => exact fun _ _ _ h => h
            case hy5 => exact y_cell w.heap.size 0 _ (fun U hU => hU.2.cell 0) _ Tryd.underlying26 rfl rfl
            simp only [Act.put, List.setIfInBounds_toArray, List.set_cons_zero, List.set_cons_succ]
            refine wpAnyH_take (i := 6) (oi := ?oi6) (v := .int .i64 ((m + 4 : Nat) : Int)) ?hi6 (by kernel_rfl) (by kernel_rfl) (by kernel_rfl) ?hQ6 ?hy6 (by assumption) ?rest6
            case hi6 => (simp only [List.getElem?_toArray, List.getElem?_cons_zero, List.getElem?_cons_succ]; rfl)
            case hQ6 => exact fun _ _ _ h => h
            case hy6 => exact Or.inl ⟨by rfl, by (intro w hSw; go_simp)⟩
            simp only [Act.put, List.setIfInBounds_toArray, List.set_cons_zero, List.set_cons_succ]
            refine wpAnyH_take (i := 7) (oi := ?oi7) (v := .int .i64 (m : Nat)) ?hi7 (by kernel_rfl) (by kernel_rfl) (by kernel_rfl) ?hQ7 ?hy7 (by assumption) ?rest7
            case hi7 => (simp only [List.getElem?_toArray, List.getElem?_cons_zero, List.getElem?_cons_succ]; rfl)
            case hQ7 => exact fun _ _ _ h => h
            case hy7 => exact Or.inl ⟨by rfl, by (intro w hSw; go_simp; exact i64_in _ (by omega) (by omega))⟩
            simp only [Act.put, List.setIfInBounds_toArray, List.set_cons_zero, List.set_cons_succ]
            refine wpAnyH_take (i := 8) (oi := ?oi8) (v := .int .u64 (m : Nat)) ?hi8 (by kernel_rfl) (by kernel_rfl) (by kernel_rfl) ?hQ8 ?hy8 (by assumption) ?rest8
            case hi8 => (simp only [List.getElem?_toArray, List.getElem?_cons_zero, List.getElem?_cons_succ]; rfl)
            case hQ8 => exact fun _ _ _ h => h
            case hy8 => exact Or.inl ⟨by rfl, by (intro w hSw; go_simp; rw [IntKind.wrap_u64]; omega)⟩
            simp only [Act.put, List.setIfInBounds_toArray, List.set_cons_zero, List.set_cons_succ]
            refine wpAnyH_ready (rs := [3]) (by kernel_rfl) (by simp) ?_
            refine AllReadyH.cons (o := ?oi9) ?hi9 (fun K hK => ?_) AllReadyH.nil
            case hi9 => (simp only [List.getElem?_toArray, List.getElem?_cons_zero, List.getElem?_cons_succ]; rfl)
            rw [if_pos (by rfl)]
            go_simp
            refine (HNM.out _ (HT.out.bel (hHeld.1.mono hB))).mono ?_
            rintro e V2 ⟨rfl, rfl⟩
            go_simp
            refine hK.out _ _ ?_ (fun hHeld => ?_)
            · exact hHeld
            clear hK K
            refine wpAnyH_take (i := 9) (oi := ?oi10) (v := .bool true) ?hi10 (by kernel_rfl) (by kernel_rfl) (by kernel_rfl) ?hQ10 ?hy10 (by assumption) ?rest10
            case hi10 => (simp only [List.getElem?_toArray, List.getElem?_cons_zero, List.getElem?_cons_succ]; rfl)
            case hQ10 => exact fun _ _ _ h => h
            case hy10 => exact Or.inl ⟨by rfl, by (intro w hSw; go_simp)⟩
            simp only [Act.put, List.setIfInBounds_toArray, List.set_cons_zero, List.set_cons_succ]
            refine wpAnyH_take (i := 10) (oi := ?oi11) (v := .bool true) ?hi11 (by kernel_rfl) (by kernel_rfl) (by kernel_rfl) ?hQ11 ?hy11 (by assumption) ?rest11
            case hi11 => (simp only [List.getElem?_toArray, List.getElem?_cons_zero, List.getElem?_cons_succ]; rfl)
            case hQ11 => exact fun _ _ _ h => h
            case hy11 => exact Or.inl ⟨by rfl, by (intro w hSw; (try dsimp only at hSw); go_simp )⟩
            simp only [Act.put, List.setIfInBounds_toArray, List.set_cons_zero, List.set_cons_succ]
            refine wpAnyH_done (by kernel_rfl) ?_ _
            replace hr := hHeld.2
            replace hb := hHeld.1
            clear hHeld
            go_wp2_with (first | ((with_reducible refine st_ine 12 hr ?_ ?_ ?_); exact rfl; exact rfl; intro W hnew ho; replace hq := hq.only ho (by omega); replace hb := ho.bel _ _ (by omega) hb; replace hr := hnew; clear hnew ho) | ((with_reducible refine ld_in hr ?_ ?_); exact rfl) | ((with_reducible refine st_in ad (m + 4) cap 12 hq ?_ ?_ ?_); exact rfl; exact rfl; intro W hnew ho; replace hr := hr.only ho (by omega); replace hb := ho.bel _ _ (by omega) hb; replace hq := hnew; clear hnew ho))
            refine bodyPost_ret (results_cell_one Tryd.results21 _ _ (w.heap.size + 1) _ _ _ rfl hq Tryd.underlying49 rfl (size_in _ _)) rfl ?_
            exact ⟨_, _, rfl, HR.out.bel (hb.mono hB), Rd.nil _ _, hb⟩
          · have hxm2 : x ≤ m := by omega
            rw [if_neg h4]
            simp only
            have H4X := hide (show 4 + x ≤ l.length by rw [HHM.out]; omega)
            have HMD := hide (HR.out.mid (lo := 4) (hi := 4 + x) (by omega) H4X.out)
            rw [Nat.add_sub_cancel_left] at HMD
            have HF := hide (HR.out.frm H4X.out)
            clear h4
            go_enter Tryd.func21, Tryd.ntmps21
            go_wp2_with (first | ((with_reducible refine op_box w.heap.size ?_ (inC (.slice ad (m + 4) cap) 0) ?_ ?_); exact rfl; exact rfl; intro W hr hb hz) | ((with_reducible refine op_alloc (w.heap.size + 1) ?_ _ zero_in ?_); exact hz.out; intro W hq hb' hz'; replace hr := hr.bl (hz.out ▸ hb'); replace hb := hb.trans (hb'.mono (by omega)); clear hb' hz) | ((with_reducible refine ld_inb hr ?_ ?_); exact rfl) | ((with_reducible refine ld_ine hr ?_ ?_); exact rfl) | (go_at_call 47; refine (HNM.out _ (HT.out.bel (hb.mono hB))).mono ?_; rintro e W2 ⟨rfl, rfl⟩))
            refine wp_region_held_drew (S := (fun U => Below w.heap.size w U ∧ RowAt U w.heap.size (inC (.slice ad (m + 4) cap) 0) 49)) (by kernel_rfl) ?_ (fun hHeld => ?_)
            · exact ⟨hb.drew, hr.dr⟩
            replace hq := hq.dr
            generalize W2.drew = V at hHeld hq ⊢
            refine wpAnyH_take (i := 0) (oi := ?oi12) (v := .pointer (some ⟨w.heap.size, 0, none⟩)) ?hi12 (by kernel_rfl) (by kernel_rfl) (by kernel_rfl) ?hQ12 ?hy12 (by assumption) ?rest12
            case hi12 => (simp only [List.getElem?_toArray, List.getElem?_cons_zero]; rfl)
            case hQ12 => exact fun _ _ _ h => h
            case hy12 => exact Or.inl ⟨by rfl, by (intro w hSw; (try dsimp only at hSw); go_simp )⟩
            simp only [Act.put, List.setIfInBounds_toArray, List.set_cons_zero, List.set_cons_succ]
            refine wpAnyH_take (i := 1) (oi := ?oi13) (v := .slice ad (m + 4) cap) ?hi13 (by kernel_rfl) (by kernel_rfl) (by kernel_rfl) ?hQ13 ?hy13 (by assumption) ?rest13
            case hi13 => (simp only [List.getElem?_toArray, List.getElem?_cons_zero, List.getElem?_cons_succ]; rfl)
            case hQ13 => exact fun _ _ _ h => h
            case hy13 => exact y_cell w.heap.size 0 _ (fun U hU => hU.2.cell 0) _ Tryd.underlying26 rfl rfl
            simp only [Act.put, List.setIfInBounds_toArray, List.set_cons_zero, List.set_cons_succ]
            refine wpAnyH_take (i := 2) (oi := ?oi14) (v := .slice ad 4 cap) ?hi14 (by kernel_rfl) (by kernel_rfl) (by kernel_rfl) ?hQ14 ?hy14 (by assumption) ?rest14
            case hi14 => (simp only [List.getElem?_toArray, List.getElem?_cons_zero, List.getElem?_cons_succ]; rfl)
            case hQ14 => exact fun _ _ _ h => h
            case hy14 => exact Or.inl ⟨by rfl, fun U hU => ex_to HR.out HML.out und_sl siz_sl rfl rfl U⟩
            simp only [Act.put, List.setIfInBounds_toArray, List.set_cons_zero, List.set_cons_succ]
            refine wpAnyH_take (i := 4) (oi := ?oi15) (v := .pointer (some ⟨w.heap.size, 0, none⟩)) ?hi15 (by kernel_rfl) (by kernel_rfl) (by kernel_rfl) ?hQ15 ?hy15 (by assumption) ?rest15
            case hi15 => (simp only [List.getElem?_toArray, List.getElem?_cons_zero, List.getElem?_cons_succ]; rfl)
            case hQ15 => exact fun _ _ _ h => h
            case hy15 => exact Or.inl ⟨by rfl, by (intro w hSw; (try dsimp only at hSw); go_simp )⟩
            simp only [Act.put, List.setIfInBounds_toArray, List.set_cons_zero, List.set_cons_succ]
            refine wpAnyH_take (i := 5) (oi := ?oi16) (v := .slice ad (m + 4) cap) ?hi16 (by kernel_rfl) (by kernel_rfl) (by kernel_rfl) ?hQ16 ?hy16 (by assumption) ?rest16
            case hi16 => (simp only [List.getElem?_toArray, List.getElem?_cons_zero, List.getElem?_cons_succ]; rfl)
            case hQ16 => exact fun _ _ _ h => h
            case hy16 => exact y_cell w.heap.size 0 _ (fun U hU => hU.2.cell 0) _ Tryd.underlying26 rfl rfl
            simp only [Act.put, List.setIfInBounds_toArray, List.set_cons_zero, List.set_cons_succ]
            refine wpAnyH_take (i := 6) (oi := ?oi17) (v := .int .i64 ((m + 4 : Nat) : Int)) ?hi17 (by kernel_rfl) (by kernel_rfl) (by kernel_rfl) ?hQ17 ?hy17 (by assumption) ?rest17
            case hi17 => (simp only [List.getElem?_toArray, List.getElem?_cons_zero, List.getElem?_cons_succ]; rfl)
            case hQ17 => exact fun _ _ _ h => h
            case hy17 => exact Or.inl ⟨by rfl, by (intro w hSw; go_simp)⟩
            simp only [Act.put, List.setIfInBounds_toArray, List.set_cons_zero, List.set_cons_succ]
            refine wpAnyH_take (i := 7) (oi := ?oi18) (v := .int .i64 (m : Nat)) ?hi18 (by kernel_rfl) (by kernel_rfl) (by kernel_rfl) ?hQ18 ?hy18 (by assumption) ?rest18
            case hi18 => (simp only [List.getElem?_toArray, List.getElem?_cons_zero, List.getElem?_cons_succ]; rfl)
            case hQ18 => exact fun _ _ _ h => h
            case hy18 => exact Or.inl ⟨by rfl, by (intro w hSw; go_simp; exact i64_in _ (by omega) (by omega))⟩
            simp only [Act.put, List.setIfInBounds_toArray, List.set_cons_zero, List.set_cons_succ]
            refine wpAnyH_take (i := 8) (oi := ?oi19) (v := .int .u64 (m : Nat)) ?hi19 (by kernel_rfl) (by kernel_rfl) (by kernel_rfl) ?hQ19 ?hy19 (by assumption) ?rest19
            case hi19 => (simp only [List.getElem?_toArray, List.getElem?_cons_zero, List.getElem?_cons_succ]; rfl)
            case hQ19 => exact fun _ _ _ h => h
            case hy19 => exact Or.inl ⟨by rfl, by (intro w hSw; go_simp; rw [IntKind.wrap_u64]; omega)⟩
            simp only [Act.put, List.setIfInBounds_toArray, List.set_cons_zero, List.set_cons_succ]
            refine wpAnyH_ready (rs := [3]) (by kernel_rfl) (by simp) ?_
            refine AllReadyH.cons (o := ?oi20) ?hi20 (fun K hK => ?_) AllReadyH.nil
            case hi20 => (simp only [List.getElem?_toArray, List.getElem?_cons_zero, List.getElem?_cons_succ]; rfl)
            rw [if_pos (by rfl)]
            go_simp
            refine (HNM.out _ (HT.out.bel (hHeld.1.mono hB))).mono ?_
            rintro e V2 ⟨rfl, rfl⟩
            go_simp
            refine hK.out _ _ ?_ (fun hHeld => ?_)
            · exact hHeld
            clear hK K
            refine wpAnyH_take (i := 9) (oi := ?oi21) (v := .bool false) ?hi21 (by kernel_rfl) (by kernel_rfl) (by kernel_rfl) ?hQ21 ?hy21 (by assumption) ?rest21
            case hi21 => (simp only [List.getElem?_toArray, List.getElem?_cons_zero, List.getElem?_cons_succ]; rfl)
            case hQ21 => exact fun _ _ _ h => h
            case hy21 => exact Or.inl ⟨by rfl, by (intro w hSw; go_simp)⟩
            simp only [Act.put, List.setIfInBounds_toArray, List.set_cons_zero, List.set_cons_succ]
            refine wpAnyH_take (i := 10) (oi := ?oi22) (v := .bool false) ?hi22 (by kernel_rfl) (by kernel_rfl) (by kernel_rfl) ?hQ22 ?hy22 (by assumption) ?rest22
            case hi22 => (simp only [List.getElem?_toArray, List.getElem?_cons_zero, List.getElem?_cons_succ]; rfl)
            case hQ22 => exact fun _ _ _ h => h
            case hy22 => exact Or.inl ⟨by rfl, by (intro w hSw; (try dsimp only at hSw); go_simp )⟩
            simp only [Act.put, List.setIfInBounds_toArray, List.set_cons_zero, List.set_cons_succ]
            refine wpAnyH_done (by kernel_rfl) ?_ _
            replace hr := hHeld.2
            replace hb := hHeld.1
            clear hHeld
            obtain ⟨af, cf, hvF, _, _⟩ := HF.out.form
            have hlF : (l.drop (4 + x)).length = m - x := by rw [List.length_drop, HHM.out]; omega
            rw [hlF] at hvF
            have HVF := hide hvF
            rw [hvF] at HF
            clear hlF hvF
            go_wp2_with (first | ((with_reducible refine ld_inb hr ?_ ?_); exact rfl) | (go_at_call 47; refine (HNM.out _ (HT.out.bel (hb.mono hB))).mono ?_; rintro e W4 ⟨rfl, rfl⟩))
            refine wp_region_held_drew (S := (fun U => Below w.heap.size w U ∧ RowAt U w.heap.size (inC (.slice ad (m + 4) cap) 0) 49)) (by kernel_rfl) ?_ (fun hHeld => ?_)
            · exact ⟨hb.drew, hr.dr⟩
            replace hq := hq.dr
            generalize W4.drew = V at hHeld hq ⊢
            refine wpAnyH_take (i := 0) (oi := ?oi23) (v := .pointer (some ⟨w.heap.size, 0, none⟩)) ?hi23 (by kernel_rfl) (by kernel_rfl) (by kernel_rfl) ?hQ23 ?hy23 (by assumption) ?rest23
            case hi23 => (simp only [List.getElem?_toArray, List.getElem?_cons_zero]; rfl)
            case hQ23 => exact fun _ _ _ h => h
            case hy23 => exact Or.inl ⟨by rfl, by (intro w hSw; (try dsimp only at hSw); go_simp )⟩
            simp only [Act.put, List.setIfInBounds_toArray, List.set_cons_zero, List.set_cons_succ]
            refine wpAnyH_take (i := 1) (oi := ?oi24) (v := .slice ad (m + 4) cap) ?hi24 (by kernel_rfl) (by kernel_rfl) (by kernel_rfl) ?hQ24 ?hy24 (by assumption) ?rest24
            case hi24 => (simp only [List.getElem?_toArray, List.getElem?_cons_zero, List.getElem?_cons_succ]; rfl)
            case hQ24 => exact fun _ _ _ h => h
            case hy24 => exact y_cell w.heap.size 0 _ (fun U hU => hU.2.cell 0) _ Tryd.underlying26 rfl rfl
            simp only [Act.put, List.setIfInBounds_toArray, List.set_cons_zero, List.set_cons_succ]
            refine wpAnyH_take (i := 2) (oi := ?oi25) (v := .int .i64 (x : Nat)) ?hi25 (by kernel_rfl) (by kernel_rfl) (by kernel_rfl) ?hQ25 ?hy25 (by assumption) ?rest25
            case hi25 => (simp only [List.getElem?_toArray, List.getElem?_cons_zero, List.getElem?_cons_succ]; rfl)
            case hQ25 => exact fun _ _ _ h => h
            case hy25 => exact Or.inl ⟨by rfl, by (intro w hSw; (try dsimp only at hSw); go_simp )⟩
            simp only [Act.put, List.setIfInBounds_toArray, List.set_cons_zero, List.set_cons_succ]
            refine wpAnyH_take (i := 3) (oi := ?oi26) (v := .int .i64 ((4 + x : Nat) : Int)) ?hi26 (by kernel_rfl) (by kernel_rfl) (by kernel_rfl) ?hQ26 ?hy26 (by assumption) ?rest26
            case hi26 => (simp only [List.getElem?_toArray, List.getElem?_cons_zero, List.getElem?_cons_succ]; rfl)
            case hQ26 => exact fun _ _ _ h => h
            case hy26 => exact Or.inl ⟨by rfl, by (intro w hSw; go_simp; exact i64_in _ (by omega) (by omega))⟩
            simp only [Act.put, List.setIfInBounds_toArray, List.set_cons_zero, List.set_cons_succ]
            refine wpAnyH_take (i := 4) (oi := ?oi27) (v := .slice af (m - x) cf) ?hi27 (by kernel_rfl) (by kernel_rfl) (by kernel_rfl) ?hQ27 ?hy27 (by assumption) ?rest27
            case hi27 => (simp only [List.getElem?_toArray, List.getElem?_cons_zero, List.getElem?_cons_succ]; rfl)
            case hQ27 => exact fun _ _ _ h => h
            case hy27 => exact Or.inl ⟨by rfl, fun U hU => (ex_frm HR.out H4X.out und_sl siz_sl rfl rfl U).trans (by rw [HVF.out])⟩
            simp only [Act.put, List.setIfInBounds_toArray, List.set_cons_zero, List.set_cons_succ]
            refine wpAnyH_take (i := 5) (oi := ?oi28) (v := .agg (inC (.slice af (m - x) cf) 0)) ?hi28 (by kernel_rfl) (by kernel_rfl) (by kernel_rfl) ?hQ28 ?hy28 (by assumption) ?rest28
            case hi28 => (simp only [List.getElem?_toArray, List.getElem?_cons_zero, List.getElem?_cons_succ]; rfl)
            case hQ28 => exact fun _ _ _ h => h
            case hy28 => exact Or.inl ⟨by rfl, by (intro w hSw; go_simp; rfl)⟩
            simp only [Act.put, List.setIfInBounds_toArray, List.set_cons_zero, List.set_cons_succ]
            refine wpAnyH_take (i := 6) (oi := ?oi29) (v := .pointer (some ⟨w.heap.size, 0, none⟩)) ?hi29 (by kernel_rfl) (by kernel_rfl) (by kernel_rfl) ?hQ29 ?hy29 (by assumption) ?rest29
            case hi29 => (simp only [List.getElem?_toArray, List.getElem?_cons_zero, List.getElem?_cons_succ]; rfl)
            case hQ29 => exact fun _ _ _ h => h
            case hy29 => exact Or.inl ⟨by rfl, by (intro w hSw; (try dsimp only at hSw); go_simp )⟩
            simp only [Act.put, List.setIfInBounds_toArray, List.set_cons_zero, List.set_cons_succ]
            refine wpAnyH_take (i := 7) (oi := ?oi30) (v := .slice ad (m + 4) cap) ?hi30 (by kernel_rfl) (by kernel_rfl) (by kernel_rfl) ?hQ30 ?hy30 (by assumption) ?rest30
            case hi30 => (simp only [List.getElem?_toArray, List.getElem?_cons_zero, List.getElem?_cons_succ]; rfl)
            case hQ30 => exact fun _ _ _ h => h
            case hy30 => exact y_cell w.heap.size 0 _ (fun U hU => hU.2.cell 0) _ Tryd.underlying26 rfl rfl
            simp only [Act.put, List.setIfInBounds_toArray, List.set_cons_zero, List.set_cons_succ]
            refine wpAnyH_take (i := 8) (oi := ?oi31) (v := .int .i64 (x : Nat)) ?hi31 (by kernel_rfl) (by kernel_rfl) (by kernel_rfl) ?hQ31 ?hy31 (by assumption) ?rest31
            case hi31 => (simp only [List.getElem?_toArray, List.getElem?_cons_zero, List.getElem?_cons_succ]; rfl)
            case hQ31 => exact fun _ _ _ h => h
            case hy31 => exact Or.inl ⟨by rfl, by (intro w hSw; (try dsimp only at hSw); go_simp )⟩
            simp only [Act.put, List.setIfInBounds_toArray, List.set_cons_zero, List.set_cons_succ]
            refine wpAnyH_take (i := 9) (oi := ?oi32) (v := .int .i64 ((4 + x : Nat) : Int)) ?hi32 (by kernel_rfl) (by kernel_rfl) (by kernel_rfl) ?hQ32 ?hy32 (by assumption) ?rest32
            case hi32 => (simp only [List.getElem?_toArray, List.getElem?_cons_zero, List.getElem?_cons_succ]; rfl)
            case hQ32 => exact fun _ _ _ h => h
            case hy32 => exact Or.inl ⟨by rfl, by (intro w hSw; go_simp; exact i64_in _ (by omega) (by omega))⟩
            simp only [Act.put, List.setIfInBounds_toArray, List.set_cons_zero, List.set_cons_succ]
            refine wpAnyH_take (i := 10) (oi := ?oi33) (v := (sFrom (sTo (.slice ad (m + 4) cap) (4 + x)) 4)) ?hi33 (by kernel_rfl) (by kernel_rfl) (by kernel_rfl) ?hQ33 ?hy33 (by assumption) ?rest33
            case hi33 => (simp only [List.getElem?_toArray, List.getElem?_cons_zero, List.getElem?_cons_succ]; rfl)
            case hQ33 => exact fun _ _ _ h => h
            case hy33 => exact Or.inl ⟨by rfl, fun U hU => ex_mid HR.out (by omega) H4X.out und_sl siz_sl rfl rfl rfl U⟩
            simp only [Act.put, List.setIfInBounds_toArray, List.set_cons_zero, List.set_cons_succ]
            refine wpAnyH_ready (rs := [11]) (by kernel_rfl) (by simp) ?_
            refine AllReadyH.cons (o := ?oi34) ?hi34 (fun K hK => ?_) AllReadyH.nil
            case hi34 => (simp only [List.getElem?_toArray, List.getElem?_cons_zero, List.getElem?_cons_succ]; rfl)
            rw [if_pos (by rfl)]
            refine s_in af (m - x) cf 0 hq rfl rfl ?_
            intro V3 hnew ho
            have hk3 : Below w.heap.size w V3 ∧ RowAt V3 w.heap.size (inC (.slice ad (m + 4) cap) 0) 49 := ⟨ho.bel _ _ (by omega) hHeld.1, hHeld.2.only ho (by omega)⟩
            refine hK.out _ _ ?_ (fun hHeld => ?_)
            · exact hk3
            clear hK K
            refine wpAnyH_take (i := 12) (oi := ?oi35) (v := (sFrom (sTo (.slice ad (m + 4) cap) (4 + x)) 4)) ?hi35 (by kernel_rfl) (by kernel_rfl) (by kernel_rfl) ?hQ35 ?hy35 (by assumption) ?rest35
            case hi35 => (simp only [List.getElem?_toArray, List.getElem?_cons_zero, List.getElem?_cons_succ]; rfl)
            case hQ35 => exact fun _ _ _ h => h
            case hy35 => exact Or.inl ⟨by rfl, by (intro w hSw; (try dsimp only at hSw); go_simp )⟩
            simp only [Act.put, List.setIfInBounds_toArray, List.set_cons_zero, List.set_cons_succ]
            refine wpAnyH_done (by kernel_rfl) ?_ _
            have hb := hk3.1
            replace hq := hnew
            clear hHeld
            go_wp2
            refine bodyPost_ret (results_cell_one Tryd.results21 _ _ (w.heap.size + 1) _ _ _ rfl hq Tryd.underlying49 rfl (size_in _ _)) rfl ?_
            exact ⟨_, _, rfl, HF.out.bel (hb.mono hB), HMD.out.bel (hb.mono hB), hb⟩
set_option maxRecDepth 100000 in
set_option maxHeartbeats 1000000 in
theorem rdone_any (ad : Option Addr) (cap : Nat) (i : InS) (w : World) :
    Calls Tryd.prog 26 #[.agg #[.slice ad i.b.length cap, .int .i64 (i.err : Nat)]] w fun e w' => e = .returned (.int .i64 (doneE i : Nat)) ∧ Below w.heap.size w w' := by
  obtain ⟨l, er⟩ := i
  simp only [doneE]
  by_cases h : er = 0
  · subst h
    by_cases h0 : 0 < l.length
    · rw [if_pos ⟨rfl, h0⟩]
      go_enter Tryd.func26, Tryd.ntmps26
      go_wp2
      go_ret
      exact ⟨rfl, below_one _ _⟩
    · rw [if_neg (by omega)]
      have h1 : l.length = 0 := by omega
      rw [h1]
      go_enter Tryd.func26, Tryd.ntmps26
      go_wp2
      go_ret
      exact ⟨rfl, below_one _ _⟩
  · rw [if_neg (by omega)]
    go_enter Tryd.func26, Tryd.ntmps26
    go_wp2
    go_ret
    exact ⟨rfl, below_one _ _⟩

end Go.Proofs.YtkahkkcbigifiaaDoor
