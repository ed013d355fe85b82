/-
  Bytes without the sum behind them: Cut.
-/
import Derived.Test.YtkahkkcbigifiaaDoorSmTl
import Derived.Stop.BytesEq
import Derived.Deep.MidRow
namespace Go.Proofs.YtkahkkcbigifiaaDoor
open Go.RowKit
set_option linter.unusedVariables false
set_option linter.unusedSimpArgs false

open Go.Extern.Stop (cell)
theorem byV_cells : ∀ (l : List Nat), (∀ x ∈ l, x < 256) → byV l = (l.map fun n => UInt8.ofNat n).map cell
  | [], _ => rfl
  | x :: l, h => by
    have h1 := h x (by simp)
    have h2 := byV_cells l (fun y hy => h y (by simp [hy]))
    simp only [byV, List.map_cons] at h2 ⊢
    rw [h2]
    congr 1
    unfold cell
    rw [UInt8.toNat_ofNat', Nat.mod_eq_of_lt h1]
    rfl
theorem u8_inj : ∀ (l m : List Nat), (∀ x ∈ l, x < 256) → (∀ x ∈ m, x < 256) → ((l.map fun n => UInt8.ofNat n) == (m.map fun n => UInt8.ofNat n)) = decide (l = m) := by
  intro l m hl hm
  have := strB_inj hl hm
  rw [ByteArray.toList_eq, ByteArray.toList_eq] at this
  have e : ∀ l : List Nat, (strB l).data.toList = l.map (fun n => UInt8.ofNat n) := by
    intro l
    unfold strB
    rw [strOfNums_data, List.map_map]
    rfl
  rwa [e, e] at this
theorem zl (m : Nat) : m ≤ (zeros m).toArray.size := by simp [zeros_len]
theorem guard_a4 : Tryd.prog.eqGuardType Tryd.prog.depth 74 = false := by kernel_rfl
theorem und_a4 : Tryd.prog.underlying 74 = some (.array 4 5) := by kernel_rfl
theorem siz_u8 : ∀ w : World, (sizeOf 5).run Tryd.prog w = .ok 1 w := fun w => by kernel_rfl
variable {ops : Array Oper} {rest : List Oper} {dst : Option Tmp} {ty t t2 : TypeId} {pos : String} {after : Array Edge} {a : Act} {w : World} {Q : Exit → Act → World → Prop} {K : Act → World → Prop} {x y : Operand} {gd : Option (Nat × Bool)}
theorem ex_neq4 (l m : List Nat) (hl : l.length = 4) (hm : m.length = 4) (h1 : ∀ x ∈ l, x < 256) (h2 : ∀ x ∈ m, x < 256) (hx : a.eval x = .agg (byV l).toArray) (hy : a.eval y = .agg (byV m).toArray) (w : World) :
    (execOp a.eval ⟨dst, .binOp .neq 74 x y t2, ty, pos, after, gd⟩).run Tryd.prog w = .ok (.value (.bool (!decide (l = m)))) w := by
  have hg := run_eqGuard_agg (P := Tryd.prog) w .neq 74 x y (byV l).toArray (byV m).toArray guard_a4
  have hq : (binOp .neq 74 (.agg (byV l).toArray) (.agg (byV m).toArray)).run Tryd.prog w = .ok (.bool (!decide (l = m))) w := by
    rw [run_neq_struct, byV_cells l h1, byV_cells m h2, run_equalIn_bytes w 9998 74 5 4 und_a4 Tryd.underlying5 siz_u8 _ _ (by rw [List.length_map]; exact hl) (by rw [List.length_map]; exact hm), u8_inj l m h1 h2]
    rfl
  unfold execOp
  simp only [hx, hy, Sem.run_bind, Sem.run_pure, hg, hq, Result.andThen_ok]
theorem ex_arr (b o c : Nat) (hx : a.eval x = .slice (some ⟨b, o, none⟩) 4 c) (w : World) :
    (execOp a.eval ⟨dst, .sliceToArrayPointer 74 x, ty, pos, after, gd⟩).run Tryd.prog w = .ok (.value (.pointer (some ⟨b, o, none⟩))) w := by
  unfold execOp
  simp [hx, Instr.arrayAt, run_underlying und_a4]
theorem range_rd {B : Nat} {w : World} {b o c : Nat} {l : List Nat} (h : Rd B w (.slice (some ⟨b, o, none⟩) 4 c) l) (hl : l.length = 4) : w.rangeAt b o (byV l) := by
  obtain ⟨b', o', c', e, _, hc⟩ := h.some1 (by omega)
  injection e with e1 _ _
  injection e1 with e1
  injection e1 with e1 e2 _
  subst e1 e2
  intro j u hj
  obtain ⟨hj', rfl⟩ := byV_at hj
  exact hc j hj'
set_option maxRecDepth 100000 in
set_option maxHeartbeats 2000000 in
theorem cut_short {B : Nat} {v : Value} {l : List Nat} (w : World) (h : Rd B w v l) (hn : l.length < 4) :
    Calls Tryd.prog 56 #[v] w fun e w' => e = .returned (.tuple #[.slice none 0 0, .iface 80 (.int .i64 12)]) ∧ w' = w := by
  obtain ⟨ad, cap, rfl, hcap, hmax⟩ := h.form
  clear h
  generalize l.length = n at *
  go_enter Tryd.func56, Tryd.ntmps56
  go_wp2
  go_ret2
  exact ⟨rfl, rfl⟩
def CutAns (w : World) (l : List Nat) (e : Ending) (w' : World) : Prop :=
  (okL l = true ∧ ∃ v', e = .returned (.tuple #[v', .nilIface]) ∧ Own w.heap.size 5 w' v' (l.take (l.length - 4)) ∧ Below w.heap.size w w') ∨
  (okL l = false ∧ e = .returned (.tuple #[.slice none 0 0, .iface 80 (.int .i64 11)]) ∧ Below w.heap.size w w')
set_option maxRecDepth 100000 in
set_option maxHeartbeats 2000000 in
theorem cut_long {B : Nat} {v : Value} {l : List Nat} (w : World) (h : Rd B w v l) (hB : B ≤ w.heap.size) (m : Nat) (hm : l.length = m + 4) (hn : m ≤ 100000) (hT : TabAt w) :
    Calls Tryd.prog 56 #[v] w fun e w' => CutAns w l e w' := by
  obtain ⟨i0, hi0, hz0, hs0, hb0⟩ := info_u8
  have HI := hide hi0
  have HZ := hide hz0
  have HS := hide hs0
  have HB := hide hb0
  clear hi0 hz0 hs0 hb0
  have hF := h.frm (n := m) (by omega)
  have hTo := h.to (n := m) (by omega)
  have hFl : (l.drop m).length = 4 := by rw [List.length_drop]; omega
  have hTl : (l.take m).length = m := by rw [List.length_take]; omega
  have hsum := sumL_lt (l.take m)
  have HOK := hide (show okL l = decide (l.drop m = tail4 (sumL (l.take m))) by
    unfold okL
    rw [hm, Nat.add_sub_cancel]
    simp)
  have HTK := hide (show l.take (l.length - 4) = l.take m by rw [hm, Nat.add_sub_cancel])
  have HO := hide (fun w v h hT => of_any (B := B) (v := v) (l := l.take m) w h hT)
  have HY := hide (fun w => bytesOf_any (sumL (l.take m)) hsum w)
  have HT4 := hide (tail4_lt hsum)
  have HTL := hide (show (tail4 (sumL (l.take m))).length = 4 from rfl)
  have HR := hide h
  have HT := hide hT
  have HFL := hide hFl
  have HF := hide hF
  have HTO := hide hTo
  have HTT := hide hTl
  obtain ⟨ad, cap, hv, hcap, hmax⟩ := h.form
  rw [hm] at hv hcap
  subst hv
  obtain ⟨b2, o2, c2, hvF, _, _⟩ := hF.some1 (by omega)
  rw [hFl] at hvF
  have HVF := hide hvF
  rw [hvF] at HF
  have hM0 : m ≤ l.length := by omega
  have HM := hide hM0
  clear hF hTo hFl hTl h hT hvF hsum hM0
  generalize tail4 (sumL (l.take m)) = ta at *
  generalize sumL (l.take m) = s at *
  have HHM := hide hm
  clear hm
  unfold CutAns
  rw [HTK.out, HOK.out]
  have HLT := hide HTO.out.lt
  have HPL := hide (show putAll (zeros m).toArray 0 (byV (l.take m)) = (byV (l.take m)).toArray by
    have e := HTT.out
    rw [putAll_list _ _ 0 (by rw [byV_len, zeros_len]; omega)]
    simp [byV_len, e, List.drop_eq_nil_of_le, zeros_len])
  have hb : Below w.heap.size w w := Below.refl _ w
  have hm3 : ((m : Int) + 4) - 4 = (m : Int) := by omega
  have HM3 := hide hm3
  clear hm3
  go_enter Tryd.func56, Tryd.ntmps56
  go_wp2
  refine wp_region_held_drew (S := (fun V => Below w.heap.size w V)) (by kernel_rfl) ?_ (fun hHeld => ?_)
  · exact hb.drew
  generalize w.drew = V at hHeld ⊢
  refine wpAnyH_take (i := 0) (oi := ?oi1) (v := .slice ad (m + 4) cap) ?hi1 (by kernel_rfl) (by kernel_rfl) (by kernel_rfl) ?hQ1 ?hy1 (by assumption) ?rest1
  case hi1 => (simp only [List.getElem?_toArray, List.getElem?_cons_zero]; rfl)
  case hQ1 => exact fun _ _ _ h => h
  case hy1 => exact Or.inl ⟨by rfl, by (intro w hSw; (try dsimp only at hSw); go_simp )⟩
  simp only [Act.put, List.setIfInBounds_toArray, List.set_cons_zero, List.set_cons_succ]
  refine wpAnyH_take (i := 1) (oi := ?oi2) (v := .int .i64 (m : Nat)) ?hi2 (by kernel_rfl) (by kernel_rfl) (by kernel_rfl) ?hQ2 ?hy2 (by assumption) ?rest2
  case hi2 => (simp only [List.getElem?_toArray, List.getElem?_cons_zero, List.getElem?_cons_succ]; rfl)
  case hQ2 => exact fun _ _ _ h => h
  case hy2 => exact Or.inl ⟨by rfl, by (intro w hSw; (try dsimp only at hSw); go_simp )⟩
  simp only [Act.put, List.setIfInBounds_toArray, List.set_cons_zero, List.set_cons_succ]
  refine wpAnyH_take (i := 2) (oi := ?oi3) (v := .slice (some ⟨b2, o2, none⟩) 4 c2) ?hi3 (by kernel_rfl) (by kernel_rfl) (by kernel_rfl) ?hQ3 ?hy3 (by assumption) ?rest3
  case hi3 => (simp only [List.getElem?_toArray, List.getElem?_cons_zero, List.getElem?_cons_succ]; rfl)
  case hQ3 => exact fun _ _ _ h => h
  case hy3 => exact Or.inl ⟨by rfl, fun V hV => (ex_frm HR.out HM.out und_sl siz_sl rfl rfl V).trans (by rw [HVF.out])⟩
  simp only [Act.put, List.setIfInBounds_toArray, List.set_cons_zero, List.set_cons_succ]
  refine wpAnyH_take (i := 3) (oi := ?oi4) (v := .pointer (some ⟨b2, o2, none⟩)) ?hi4 (by kernel_rfl) (by kernel_rfl) (by kernel_rfl) ?hQ4 ?hy4 (by assumption) ?rest4
  case hi4 => (simp only [List.getElem?_toArray, List.getElem?_cons_zero, List.getElem?_cons_succ]; rfl)
  case hQ4 => exact fun _ _ _ h => h
  case hy4 => exact Or.inl ⟨by rfl, fun V hV => ex_arr b2 o2 c2 rfl V⟩
  simp only [Act.put, List.setIfInBounds_toArray, List.set_cons_zero, List.set_cons_succ]
  refine wpAnyH_take (i := 4) (oi := ?oi5) (v := .agg (byV (l.drop m)).toArray) ?hi5 (by kernel_rfl) (by kernel_rfl) (by kernel_rfl) ?hQ5 ?hy5 (by assumption) ?rest5
  case hi5 => (simp only [List.getElem?_toArray, List.getElem?_cons_zero, List.getElem?_cons_succ]; rfl)
  case hQ5 => exact fun _ _ _ h => h
  case hy5 => exact yieldsIf_load_mid rfl 74 _ rfl b2 o2 rfl (byV (l.drop m)) _ (fun V hV => range_rd (HF.out.bel (Below.mono hV hB)) HFL.out) und_a4 rfl (by rw [byV_len, HFL.out]; exact size_a4)
  simp only [Act.put, List.setIfInBounds_toArray, List.set_cons_zero, List.set_cons_succ]
  refine wpAnyH_take (i := 5) (oi := ?oi6) (v := .slice ad (m + 4) cap) ?hi6 (by kernel_rfl) (by kernel_rfl) (by kernel_rfl) ?hQ6 ?hy6 (by assumption) ?rest6
  case hi6 => (simp only [List.getElem?_toArray, List.getElem?_cons_zero, List.getElem?_cons_succ]; rfl)
  case hQ6 => exact fun _ _ _ h => h
  case hy6 => exact Or.inl ⟨by rfl, by (intro w hSw; (try dsimp only at hSw); go_simp )⟩
  simp only [Act.put, List.setIfInBounds_toArray, List.set_cons_zero, List.set_cons_succ]
  refine wpAnyH_take (i := 6) (oi := ?oi7) (v := .int .i64 (m : Nat)) ?hi7 (by kernel_rfl) (by kernel_rfl) (by kernel_rfl) ?hQ7 ?hy7 (by assumption) ?rest7
  case hi7 => (simp only [List.getElem?_toArray, List.getElem?_cons_zero, List.getElem?_cons_succ]; rfl)
  case hQ7 => exact fun _ _ _ h => h
  case hy7 => exact Or.inl ⟨by rfl, by (intro w hSw; (try dsimp only at hSw); go_simp )⟩
  simp only [Act.put, List.setIfInBounds_toArray, List.set_cons_zero, List.set_cons_succ]
  refine wpAnyH_take (i := 7) (oi := ?oi8) (v := .slice ad m cap) ?hi8 (by kernel_rfl) (by kernel_rfl) (by kernel_rfl) ?hQ8 ?hy8 (by assumption) ?rest8
  case hi8 => (simp only [List.getElem?_toArray, List.getElem?_cons_zero, List.getElem?_cons_succ]; rfl)
  case hQ8 => exact fun _ _ _ h => h
  case hy8 => exact Or.inl ⟨by rfl, fun V hV => ex_to HR.out HM.out und_sl siz_sl rfl rfl V⟩
  simp only [Act.put, List.setIfInBounds_toArray, List.set_cons_zero, List.set_cons_succ]
  refine wpAnyH_ready (rs := [8]) (by kernel_rfl) (by simp) ?_
  refine AllReadyH.cons (o := ?oi9) ?hi9 (fun K hK => ?_) AllReadyH.nil
  case hi9 => (simp only [List.getElem?_toArray, List.getElem?_cons_zero, List.getElem?_cons_succ]; rfl)
  rw [if_pos (by rfl)]
  go_simp
  refine (HO.out _ (.slice ad m cap) (HTO.out.bel (Below.mono hHeld hB)) (HT.out.below hHeld)).mono ?_
  rintro e V2 ⟨rfl, rfl⟩
  go_simp
  refine hK.out _ _ ?_ (fun hHeld => ?_)
  · exact hHeld
  clear hK K
  refine wpAnyH_ready (rs := [9]) (by kernel_rfl) (by simp) ?_
  refine AllReadyH.cons (o := ?oi10) ?hi10 (fun K hK => ?_) AllReadyH.nil
  case hi10 => (simp only [List.getElem?_toArray, List.getElem?_cons_zero, List.getElem?_cons_succ]; rfl)
  rw [if_pos (by rfl)]
  go_simp
  refine (HY.out _).mono ?_
  rintro e V3 ⟨rfl, hbc⟩
  have hH2 := hide (below_bl rfl hHeld hbc)
  clear hHeld
  go_simp
  refine hK.out _ _ ?_ (fun hHeld => ?_)
  · exact hH2.out
  clear hK K
  clear hH2
  refine wpAnyH_take (i := 10) (oi := ?oi11) (v := .bool (!decide (l.drop m = ta))) ?hi11 (by kernel_rfl) (by kernel_rfl) (by kernel_rfl) ?hQ11 ?hy11 (by assumption) ?rest11
  case hi11 => (simp only [List.getElem?_toArray, List.getElem?_cons_zero, List.getElem?_cons_succ]; rfl)
  case hQ11 => exact fun _ _ _ h => h
  case hy11 => exact Or.inl ⟨by rfl, fun V hV => ex_neq4 (l.drop m) ta HFL.out HTL.out (fun x hx => HF.out.lt x hx) HT4.out rfl rfl V⟩
  simp only [Act.put, List.setIfInBounds_toArray, List.set_cons_zero, List.set_cons_succ]
  refine wpAnyH_done (by kernel_rfl) ?_ _
  have hb := hHeld
  by_cases hok : l.drop m = ta
  · have HYES := hide (decide_eq_true hok)
    rw [decide_eq_true hok]
    have hT2 := HR.out.bel (Below.mono hHeld hB)
    clear hHeld hok
    have HT2 := hide hT2
    clear hT2
    obtain ⟨NX, hNX0⟩ : ∃ n, V3.heap.size = n := ⟨_, rfl⟩
    have hx0 : w.heap.size ≤ NX := hNX0 ▸ hb.size
    have hNX := hide hNX0
    clear hNX0
    go_wp2_with (first | ((with_reducible refine op_make (n := m) NX ?_ i0 Tryd.underlying26 HI.out HZ.out HS.out HB.out (by omega) ?_ ?_ ?_); exact hNX.out; exact rfl; exact rfl; intro W hg hb' hz; have HT3 := hide (HT2.out.bel (hb'.mono (by omega))); replace hb := hb.trans (hb'.mono (by omega)); clear hb') | ((with_reducible refine op_copyC (d := m) (dCap := m) HT3.out Tryd.underlying26 size_u8 hg (zl m) HM.out ?_ ?_ ?_); exact rfl; exact rfl; intro W hnew ho; replace hb := ho.bel _ _ (by omega) hb; replace hg := hnew; clear hnew ho))
    go_ret2
    rw [HPL.out] at hg
    have hOwn := Own.of (B := w.heap.size) HLT.out (by rw [HTT.out]; omega) hg hx0
    rw [HTT.out] at hOwn
    exact .inl ⟨HYES.out, _, rfl, hOwn, hb⟩
  · have HNO := hide (decide_eq_false hok)
    rw [decide_eq_false hok]
    clear hHeld hok
    go_wp2
    go_ret2
    exact .inr ⟨HNO.out, rfl, hb⟩
/-- What Cut answers, of any bytes. -/
theorem cut_any {B : Nat} {v : Value} {l : List Nat} (w : World) (h : Rd B w v l) (hB : B ≤ w.heap.size) (hn : l.length ≤ 100000) (hT : TabAt w) :
    Calls Tryd.prog 56 #[v] w fun e w' => (l.length < 4 ∧ e = .returned (.tuple #[.slice none 0 0, .iface 80 (.int .i64 12)]) ∧ w' = w) ∨ (4 ≤ l.length ∧ CutAns w l e w') := by
  by_cases h4 : l.length < 4
  · exact (cut_short w h h4).mono fun e w' he => .inl ⟨h4, he⟩
  · exact (cut_long w h hB (l.length - 4) (by omega) (by omega) hT).mono fun e w' he => .inr ⟨by omega, he⟩
end Go.Proofs.YtkahkkcbigifiaaDoor
