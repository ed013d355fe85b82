/-
  The document's Tail and Cut.
-/
import Derived.Test.YtkahkkcbigifiaaDoorSmRef
import Derived.Test.YtkahkkcbigifiaaDoorSmApp
namespace Go.Proofs.YtkahkkcbigifiaaDoor
open Go.RowKit
set_option linter.unusedVariables false
set_option linter.unusedSimpArgs false

variable {P : Program} {ops : Array Oper} {rest : List Oper} {dst : Option Tmp} {ty t t2 : TypeId} {pos : String} {after : Array Edge} {a : Act} {w : World} {Q : Exit → Act → World → Prop} {K : Act → World → Prop} {x y : Operand} {gd : Option (Nat × Bool)}
set_option maxRecDepth 100000 in
set_option maxHeartbeats 2000000 in
theorem rtail_any {B : Nat} {v : Value} {l : List Nat} (w : World) (h : Rd B w v l) (hB : B ≤ w.heap.size) (hn : l.length ≤ 100000) :
    Calls Tryd.prog 38 #[v] w fun e w' => ∃ v', e = .returned v' ∧ Own w.heap.size 5 w' v' (l ++ tail4 (sumL l)) ∧ Below w.heap.size w w' := by
  obtain ⟨i0, hi0, hz0, hs0, hb0⟩ := info_u8
  have HI := hide hi0
  have HZ := hide hz0
  have HS := hide hs0
  have HB := hide hb0
  clear hi0 hz0 hs0 hb0
  have hsum := sumL_lt l
  have HO := hide (fun w h => rof_any (B := B) (v := v) (l := l) w h)
  have HR := hide h
  have HT4 := hide (tail4_lt hsum)
  have HN := hide hn
  generalize hs : sumL l = s at *
  have HTE := hide (show #[Value.int .u8 ((s : Int) / 16777216), .int .u8 ((s : Int) / 65536 % 256), .int .u8 ((s : Int) / 256 % 256), .int .u8 ((s : Int) % 256)] = (byV (tail4 s)).toArray by simp [byV, tail4])
  clear h hs hn
  have hb : Below w.heap.size w w := Below.refl _ w
  have HNL := hide (Own.nil w.heap.size 5 w)
  have HTL := hide (show (tail4 s).length = 4 from rfl)
  go_enter Tryd.func38, Tryd.ntmps38
  go_wp2_with (first | (go_at_call 51; (with_reducible refine (HO.out _ HR.out).mono ?_); rintro e w1 ⟨rfl, rfl⟩) | ((with_reducible refine op_app i0 Tryd.underlying26 HI.out HZ.out HS.out HB.out HNL.out HR.out ?_ ?_ ?_ ?_ ?_); (have := HN.out; simp; omega); exact Nat.le_refl _; exact rfl; exact rfl; intro W vq hown hgr; replace hb := hb.grown hgr (Nat.le_refl _) (fun k hk => by cases hk); rw [List.nil_append] at hown; have HW := hide hown; clear hown hgr; obtain ⟨NX, hNX0⟩ : ∃ n, W.heap.size = n := ⟨_, rfl⟩; have hNX := hide hNX0; have hx0 : w1.heap.size ≤ NX := hNX0 ▸ hb.size; clear hNX0) | ((with_reducible refine op_app i0 Tryd.underlying26 HI.out HZ.out HS.out HB.out (HW.out.bl (below_one _ _)) (rd_new _ _ _ HTE.out HT4.out 4 HTL.out (by decide)) ?_ ?_ ?_ ?_ ?_); (have := HN.out; rw [HTL.out]; omega); (have := hb.size; simp; omega); exact rfl; exact rfl; intro W3 vr hown hgr; replace hb := (HW.out.bl (below_one _ _)).grown hgr (hb.trans ((below_one _ _).mono hb.size)) (by have := hb.size; simp; omega) (Nat.le_refl _)))
  go_ret
  exact ⟨_, rfl, hown, hb⟩
set_option maxRecDepth 100000 in
set_option maxHeartbeats 2000000 in
theorem rcut_short {B : Nat} {v : Value} {l : List Nat} (w : World) (h : Rd B w v l) (hn : l.length < 4) :
    Calls Tryd.prog 46 #[v] w fun e w' => e = .returned (.tuple #[.slice none 0 0, .int .i64 12]) ∧ w' = w := by
  obtain ⟨ad, cap, rfl, hcap, hmax⟩ := h.form
  clear h
  generalize l.length = n at *
  go_enter Tryd.func46, Tryd.ntmps46
  go_wp2
  go_ret2
  exact ⟨rfl, rfl⟩
def RCutAns (B : Nat) (w : World) (l : List Nat) (e : Ending) (w' : World) : Prop :=
  (okL l = true ∧ ∃ v', e = .returned (.tuple #[v', .int .i64 0]) ∧ Rd B w' v' (l.take (l.length - 4)) ∧ Below w.heap.size w w') ∨
  (okL l = false ∧ e = .returned (.tuple #[.slice none 0 0, .int .i64 11]) ∧ Below w.heap.size w w')
set_option maxRecDepth 100000 in
set_option maxHeartbeats 2000000 in
theorem rcut_long {B : Nat} {v : Value} {l : List Nat} (w : World) (h : Rd B w v l) (hB : B ≤ w.heap.size) (m : Nat) (hm : l.length = m + 4) (hn : m ≤ 100000) :
    Calls Tryd.prog 46 #[v] w fun e w' => RCutAns B w l e w' := by
  have hTo := h.to (n := m) (by omega)
  have hTl : (l.take m).length = m := by rw [List.length_take]; omega
  have HOK := hide (ok_whole l m hm)
  have HTK := hide (show l.take (l.length - 4) = l.take m by rw [hm, Nat.add_sub_cancel])
  have HO := hide (fun w v h hB => rtail_any (B := B) (v := v) (l := l.take m) w h hB (by omega))
  have HR := hide h
  have HLT := hide h.lt
  have HTO := hide hTo
  obtain ⟨ad, cap, hv, hcap, hmax⟩ := h.form
  rw [hm] at hv hcap
  subst hv
  have hM0 : m ≤ l.length := by omega
  have HM := hide hM0
  clear hTo hTl h hM0 hm
  unfold RCutAns
  rw [HTK.out, HOK.out]
  generalize hl2 : l.take m ++ tail4 (sumL (l.take m)) = l2 at *
  clear hl2
  have hb : Below w.heap.size w w := Below.refl _ w
  go_enter Tryd.func46, Tryd.ntmps46
  go_wp2
  refine wp_region_held_drew (S := (fun U => Below w.heap.size w U)) (by kernel_rfl) ?_ (fun hHeld => ?_)
  · exact hb.drew
  generalize w.drew = V at hHeld ⊢
  refine wpAnyH_take (i := 0) (oi := ?oi1) (v := .slice ad (m + 4) cap) ?hi1 (by kernel_rfl) (by kernel_rfl) (by kernel_rfl) ?hQ1 ?hy1 (by assumption) ?rest1
  case hi1 => (simp only [List.getElem?_toArray, List.getElem?_cons_zero]; rfl)
  case hQ1 => exact fun _ _ _ h => h
  case hy1 => exact Or.inl ⟨by rfl, by (intro w hSw; (try dsimp only at hSw); go_simp )⟩
  simp only [Act.put, List.setIfInBounds_toArray, List.set_cons_zero, List.set_cons_succ]
  refine wpAnyH_take (i := 1) (oi := ?oi2) (v := .slice ad (m + 4) cap) ?hi2 (by kernel_rfl) (by kernel_rfl) (by kernel_rfl) ?hQ2 ?hy2 (by assumption) ?rest2
  case hi2 => (simp only [List.getElem?_toArray, List.getElem?_cons_zero, List.getElem?_cons_succ]; rfl)
  case hQ2 => exact fun _ _ _ h => h
  case hy2 => exact Or.inl ⟨by rfl, by (intro w hSw; (try dsimp only at hSw); go_simp )⟩
  simp only [Act.put, List.setIfInBounds_toArray, List.set_cons_zero, List.set_cons_succ]
  refine wpAnyH_take (i := 2) (oi := ?oi3) (v := .int .i64 ((m : Int) + 4)) ?hi3 (by kernel_rfl) (by kernel_rfl) (by kernel_rfl) ?hQ3 ?hy3 (by assumption) ?rest3
  case hi3 => (simp only [List.getElem?_toArray, List.getElem?_cons_zero, List.getElem?_cons_succ]; rfl)
  case hQ3 => exact fun _ _ _ h => h
  case hy3 => exact Or.inl ⟨by rfl, by (intro w hSw; (try dsimp only at hSw); go_simp )⟩
  simp only [Act.put, List.setIfInBounds_toArray, List.set_cons_zero, List.set_cons_succ]
  refine wpAnyH_take (i := 3) (oi := ?oi4) (v := .int .i64 (m : Nat)) ?hi4 (by kernel_rfl) (by kernel_rfl) (by kernel_rfl) ?hQ4 ?hy4 (by assumption) ?rest4
  case hi4 => (simp only [List.getElem?_toArray, List.getElem?_cons_zero, List.getElem?_cons_succ]; rfl)
  case hQ4 => exact fun _ _ _ h => h
  case hy4 => exact Or.inl ⟨by rfl, by (intro w hSw; (try dsimp only at hSw); go_simp ; exact i64_in _ (by omega) (by omega))⟩
  simp only [Act.put, List.setIfInBounds_toArray, List.set_cons_zero, List.set_cons_succ]
  refine wpAnyH_take (i := 4) (oi := ?oi5) (v := .slice ad m cap) ?hi5 (by kernel_rfl) (by kernel_rfl) (by kernel_rfl) ?hQ5 ?hy5 (by assumption) ?rest5
  case hi5 => (simp only [List.getElem?_toArray, List.getElem?_cons_zero, List.getElem?_cons_succ]; rfl)
  case hQ5 => exact fun _ _ _ h => h
  case hy5 => exact Or.inl ⟨by rfl, fun V hV => ex_to HR.out HM.out und_sl siz_sl rfl rfl V⟩
  simp only [Act.put, List.setIfInBounds_toArray, List.set_cons_zero, List.set_cons_succ]
  refine wpAnyH_take (i := 7) (oi := ?oi6) (v := .slice ad (m + 4) cap) ?hi6 (by kernel_rfl) (by kernel_rfl) (by kernel_rfl) ?hQ6 ?hy6 (by assumption) ?rest6
  case hi6 => (simp only [List.getElem?_toArray, List.getElem?_cons_zero, List.getElem?_cons_succ]; rfl)
  case hQ6 => exact fun _ _ _ h => h
  case hy6 => exact Or.inl ⟨by rfl, by (intro w hSw; (try dsimp only at hSw); go_simp )⟩
  simp only [Act.put, List.setIfInBounds_toArray, List.set_cons_zero, List.set_cons_succ]
  refine wpAnyH_take (i := 8) (oi := ?oi7) (v := .string (strB l)) ?hi7 (by kernel_rfl) (by kernel_rfl) (by kernel_rfl) ?hQ7 ?hy7 (by assumption) ?rest7
  case hi7 => (simp only [List.getElem?_toArray, List.getElem?_cons_zero, List.getElem?_cons_succ]; rfl)
  case hQ7 => exact fun _ _ _ h => h
  case hy7 => exact Or.inl ⟨by rfl, fun V hV => ex_str (HR.out.bel (Below.mono hV hB)) 5 Tryd.underlying26 Tryd.underlying5 und_str rfl⟩
  simp only [Act.put, List.setIfInBounds_toArray, List.set_cons_zero, List.set_cons_succ]
  refine wpAnyH_ready (rs := [5]) (by kernel_rfl) (by simp) ?_
  refine AllReadyH.cons (o := ?oi8) ?hi8 (fun K hK => ?_) AllReadyH.nil
  case hi8 => (simp only [List.getElem?_toArray, List.getElem?_cons_zero, List.getElem?_cons_succ]; rfl)
  rw [if_pos (by rfl)]
  go_simp
  refine (HO.out _ (.slice ad m cap) (HTO.out.bel (Below.mono hHeld hB)) (Nat.le_trans hB hHeld.size)).mono ?_
  rintro e V2 ⟨v2, rfl, hown, hbc⟩
  replace hbc := below_bl rfl hHeld hbc
  go_simp
  refine hK.out _ _ ?_ (fun hHeld => ?_)
  · exact hbc
  clear hK K
  replace hb := hbc
  have HRL := hide hown.rd
  refine wpAnyH_more (S' := fun U => Below V2.heap.size V2 U) (fun U h => hbc.trans (h.mono hbc.size)) _ _ _ _ ?_
  have hHeld := Below.refl V2.heap.size V2
  refine wpAnyH_take (i := 6) (oi := ?oi9) (v := .string (strB l2)) ?hi9 (by kernel_rfl) (by kernel_rfl) (by kernel_rfl) ?hQ9 ?hy9 (by assumption) ?rest9
  case hi9 => (simp only [List.getElem?_toArray, List.getElem?_cons_zero, List.getElem?_cons_succ]; rfl)
  case hQ9 => exact fun _ _ _ h => h
  case hy9 => exact Or.inl ⟨by rfl, fun V hV => ex_str (HRL.out.bel hV) 5 Tryd.underlying26 Tryd.underlying5 und_str rfl⟩
  simp only [Act.put, List.setIfInBounds_toArray, List.set_cons_zero, List.set_cons_succ]
  refine wpAnyH_take (i := 9) (oi := ?oi10) (v := .bool (!decide (l2 = l))) ?hi10 (by kernel_rfl) (by kernel_rfl) (by kernel_rfl) ?hQ10 ?hy10 (by assumption) ?rest10
  case hi10 => (simp only [List.getElem?_toArray, List.getElem?_cons_zero, List.getElem?_cons_succ]; rfl)
  case hQ10 => exact fun _ _ _ h => h
  case hy10 => exact Or.inl ⟨by rfl, fun V hV => (ex_sneq (strB l2) (strB l) rfl rfl V).trans (by rw [strB_inj HRL.out.lt HLT.out])⟩
  simp only [Act.put, List.setIfInBounds_toArray, List.set_cons_zero, List.set_cons_succ]
  refine wpAnyH_done (by kernel_rfl) ?_ _
  by_cases hok : l2 = l
  · have HYES := hide (decide_eq_true hok)
    rw [decide_eq_true hok]
    have HT2 := hide (HTO.out.bel (Below.mono hb hB))
    clear hok hHeld
    go_wp2
    go_ret2
    exact .inl ⟨HYES.out, _, rfl, HT2.out, hb⟩
  · have HNO := hide (decide_eq_false hok)
    rw [decide_eq_false hok]
    clear hok hHeld
    go_wp2
    go_ret2
    exact .inr ⟨HNO.out, rfl, hb⟩
theorem rcut_any {B : Nat} {v : Value} {l : List Nat} (w : World) (h : Rd B w v l) (hB : B ≤ w.heap.size) (hn : l.length ≤ 100000) :
    Calls Tryd.prog 46 #[v] w fun e w' => (l.length < 4 ∧ e = .returned (.tuple #[.slice none 0 0, .int .i64 12]) ∧ w' = w) ∨ (4 ≤ l.length ∧ RCutAns B w l e w') := by
  by_cases h4 : l.length < 4
  · exact (rcut_short w h h4).mono fun e w' he => .inl ⟨h4, he⟩
  · exact (rcut_long w h hB (l.length - 4) (by omega) (by omega)).mono fun e w' he => .inr ⟨by omega, he⟩

end Go.Proofs.YtkahkkcbigifiaaDoor
