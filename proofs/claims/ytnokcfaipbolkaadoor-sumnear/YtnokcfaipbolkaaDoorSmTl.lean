/-
  Bytes and their sum behind: Tail.
-/
import Derived.Test.YtnokcfaipbolkaaDoorSmTail
namespace Go.Proofs.YtnokcfaipbolkaaDoor
open Go.RowKit
set_option linter.unusedVariables false
set_option linter.unusedSimpArgs false

theorem info_u8 : ∃ i, Tryd.prog.info? 5 = some i ∧ i.zero = some (.int .u8 0) ∧ i.size = 1 ∧ i.bytes = 1 := by
  have hm : (Tryd.prog.info? 5).map (fun i => (i.zero, i.size, i.bytes)) = some (some (.int .u8 0), 1, 1) := by kernel_rfl
  obtain ⟨i, hi, hm⟩ := Option.map_eq_some_iff.1 hm
  exact ⟨i, hi, congrArg (·.1) hm, congrArg (·.2.1) hm, congrArg (·.2.2) hm⟩
theorem ex_frmC {P : Program} {dst : Option Tmp} {ty t : TypeId} {pos : String} {after : Array Edge} {a : Act} {x y : Operand} {gd : Option (Nat × Bool)} (g o len cap n : Nat) (hn : n ≤ len) (hc : n < cap) (ht : P.underlying t = some (.slice (P.elem t))) (hs : ∀ w, (sizeOf (P.elem t)).run P w = .ok 1 w) (hx : a.eval x = .slice (some ⟨g, o, none⟩) len cap) (hy : a.eval y = .int .i64 (n : Nat)) (w : World) :
    (execOp a.eval ⟨dst, .slice t x (some y) none none, ty, pos, after, gd⟩).run P w = .ok (.value (.slice (some ⟨g, o + n, none⟩) (len - n) (cap - n))) w := by
  unfold execOp
  simp only [hx, hy, Option.map_some, Option.map_none, Sem.run_bind, Sem.run_pure, run_sliceAt_slice w t _ _ _ _ ht, run_slice_l w t (some ⟨g, o, none⟩) len cap ht .i64 (n : Nat) (by omega) (by omega), hs, Result.andThen_ok, sliced]
  rw [if_neg (by simp; omega)]
  simp [Addr.add_lit]
theorem ex_frmT {P : Program} {dst : Option Tmp} {ty t : TypeId} {pos : String} {after : Array Edge} {a : Act} {x y : Operand} {gd : Option (Nat × Bool)} (g n : Nat) (ht : P.underlying t = some (.slice (P.elem t))) (hs : ∀ w, (sizeOf (P.elem t)).run P w = .ok 1 w) (hx : a.eval x = .slice (some ⟨g, 0, none⟩) (n + 4) (n + 4)) (hy : a.eval y = .int .i64 (n : Nat)) (w : World) :
    (execOp a.eval ⟨dst, .slice t x (some y) none none, ty, pos, after, gd⟩).run P w = .ok (.value (.slice (some ⟨g, n, none⟩) 4 4)) w := by
  have := ex_frmC (P := P) (dst := dst) (ty := ty) (pos := pos) (after := after) (gd := gd) g 0 (n + 4) (n + 4) n (by omega) (by omega) ht hs hx hy w
  rwa [Nat.add_sub_cancel_left, Nat.zero_add] at this
/-- What holds behind every operation from here on may be more than was asked so far. -/
theorem wpAnyH_more {P : Program} {md : Region.Mode} {ops : Array Oper} {Q : Exit → Act → World → Prop} {S S' : World → Prop} (hSS : ∀ w, S' w → S w) : ∀ (fuel : Nat) (listed : Array Bool) (a : Act) (w : World), wpAnyH P md ops Q S' fuel listed a w → wpAnyH P md ops Q S fuel listed a w
  | 0, _, _, _, h => h
  | fuel + 1, _, _, _, h => ⟨h.1, fun i hi => wpOp_mono (fun a' w' h' => ⟨hSS _ h'.1, wpAnyH_more hSS fuel _ a' w' h'.2⟩) (h.2 i hi)⟩
theorem und_sl : Tryd.prog.underlying 23 = some (.slice (Tryd.prog.elem 23)) := by kernel_rfl
theorem siz_sl : ∀ w : World, (sizeOf (Tryd.prog.elem 23)).run Tryd.prog w = .ok 1 w := fun w => by kernel_rfl
theorem tail4_len (s : Nat) : (tail4 s).length = 4 := rfl
/-- The array's bytes can be read. -/
theorem rd_row {w : World} {b : Nat} {l : List Nat} {t : TypeId} (h : RowAt w b (byV l).toArray t) (hl : ∀ x ∈ l, x < 256) (n : Nat) (hn : l.length = n) (hm : n ≤ 9223372036854775807) : Rd w.heap.size w (.slice (some ⟨b, 0, none⟩) n n) l := by
  subst hn
  refine ⟨hl, _, l.length, rfl, Nat.le_refl _, hm, fun _ => ⟨b, 0, rfl, h.lt, fun j hj => ?_⟩⟩
  rw [h.cell, Nat.zero_add, List.getElem?_toArray]
  exact byV_get hj
theorem put_one (l : List Nat) : putAll (zeros (l.length + 4)).toArray 0 (byV l) = (byV l ++ zeros 4).toArray := by
  rw [putAll_list _ _ 0 (by rw [byV_len, zeros_len]; omega)]
  simp only [List.take_zero, List.nil_append, Nat.zero_add, byV_len]
  congr 2
  unfold zeros byV
  rw [← List.map_drop, List.drop_replicate]
  congr 2; omega
theorem put_two (l : List Nat) (s : Nat) : putAll (byV l ++ zeros 4).toArray l.length (byV (tail4 s)) = (byV (l ++ tail4 s)).toArray := by
  rw [putAll_list _ _ _ (by rw [List.length_append, byV_len, byV_len, zeros_len, tail4_len]; omega)]
  congr 1
  have h1 : (byV l ++ zeros 4).take l.length = byV l := by rw [← byV_len l, List.take_left]
  have h2 : (byV l ++ zeros 4).drop (l.length + (byV (tail4 s)).length) = [] := List.drop_eq_nil_of_le (by rw [List.length_append, byV_len, byV_len, zeros_len, tail4_len]; omega)
  rw [h1, h2, List.append_nil, byV_app]
set_option maxHeartbeats 2000000 in
theorem tail_any {B : Nat} {v : Value} {l : List Nat} (w : World) (h : Rd B w v l) (hB : B ≤ w.heap.size) (hn : l.length ≤ 100000) (hT : TabAt w) :
    Calls Tryd.prog 15 #[v] w fun e w' => ∃ v', e = .returned v' ∧ Own w.heap.size 5 w' v' (l ++ tail4 (sumL l)) ∧ Below w.heap.size w w' := by
  obtain ⟨i0, hi0, hz0, hs0, hb0⟩ := info_u8
  have HI := hide hi0
  have HZ := hide hz0
  have HS := hide hs0
  have HB := hide hb0
  clear hi0 hz0 hs0 hb0
  have hsum := sumL_lt l
  have HO := hide (fun w h hT => of_any (B := B) (v := v) (l := l) w h hT)
  have HY := hide (fun w => bytesOf_any (sumL l) hsum w)
  have hlt := h.lt
  have HLT := hide hlt
  obtain ⟨ad, cap, hv, hcap, hmax⟩ := h.form
  have HR := hide h
  have HT := hide hT
  clear h hT hlt
  have HP := hide (put_one l)
  have HP2 := hide (put_two l (sumL l))
  have HT4 := hide (tail4_lt hsum)
  have HLA := hide (show (l ++ tail4 (sumL l)).length = l.length + 4 by rw [List.length_append]; rfl)
  generalize hs : sumL l = s at *
  have H1 := hide (size_t4 s)
  have H2 := hide (eqs_t4 s)
  have H3 := hide (one_t4 s)
  clear hs
  generalize hta : tail4 s = ta at *
  have HTL := hide (show ta.length = 4 by rw [← hta]; rfl)
  have hb : Below w.heap.size w w := Below.refl _ w
  clear hta
  obtain ⟨n, hnn⟩ : ∃ n, l.length = n := ⟨_, rfl⟩
  have HN := hide hnn
  have HV := hide hv
  rw [hnn] at hn hcap HV HP HP2 HLA
  clear hnn
  subst hv
  clear HV
  rw [HN.out] at HO HR ⊢
  go_enter Tryd.func15, Tryd.ntmps15
  go_wp2_with (first | (go_at_call 9; (with_reducible refine (HO.out _ HR.out HT.out).mono ?_); rintro e w1 ⟨rfl, rfl⟩) | (go_at_call 23; (with_reducible refine (HY.out _).mono ?_); rintro e W ⟨rfl, hb⟩; obtain ⟨NX, hNX0⟩ : ∃ n, W.heap.size = n := ⟨_, rfl⟩; have hNX := hide hNX0; have hx0 : w1.heap.size ≤ NX := hNX0 ▸ hb.size; clear hNX0) | ((with_reducible refine op_alloc NX ?_ _ zero_a4 ?_); exact hNX.out; intro W hx hb' hz; replace hb := hb.trans (hb'.mono (by omega)); clear hb') | ((with_reducible refine op_store NX ?_ (byV ta).toArray ?_ _ _ hx H1.out H2.out H3.out ?_); exact rfl; exact rfl; intro W hnew ho; replace hb := ho.bel _ _ (by omega) hb; have hz2 := hide (ho.size.trans hz.out); replace hx := hnew; clear hnew ho hz) | ((with_reducible refine op_make (n := n + 4) (NX + 1) ?_ i0 Tryd.underlying23 HI.out HZ.out HS.out HB.out (by omega) ?_ ?_ ?_); exact hz2.out; exact congrArg (Value.int .i64) (by omega); exact congrArg (Value.int .i64) (by omega); intro W hg hb' hz3; replace hx := hx.bl (hz2.out ▸ hb'); replace hb := hb.trans (hb'.mono (by omega)); clear hb'))
  refine wp_region_held_drew (S := (fun _ => True)) (by kernel_rfl) ?_ (fun hHeld => ?_)
  · exact trivial
  replace hx := hx.dr
  replace hg := hg.dr
  replace hb := hb.drew
  generalize W.drew = V at hx hg hb hHeld ⊢
  refine wpAnyH_take (i := 0) (oi := ?oi1) (v := .slice (some ⟨NX + 1, 0, none⟩) (n + 4) (n + 4)) ?hi1 (by kernel_rfl) (by kernel_rfl) (by kernel_rfl) ?hQ1 ?hy1 (by assumption) ?rest1
  case hi1 => (simp only [List.getElem?_toArray, List.getElem?_cons_zero]; rfl)
  case hQ1 => exact fun _ _ _ h => h
  case hy1 => exact Or.inl ⟨by rfl, by (intro w hSw; (try dsimp only at hSw); go_simp )⟩
  simp only [Act.put, List.setIfInBounds_toArray, List.set_cons_zero, List.set_cons_succ]
  refine wpAnyH_take (i := 1) (oi := ?oi2) (v := .slice (some ⟨NX + 1, 0, none⟩) (n + 4) (n + 4)) ?hi2 (by kernel_rfl) (by kernel_rfl) (by kernel_rfl) ?hQ2 ?hy2 (by assumption) ?rest2
  case hi2 => (simp only [List.getElem?_toArray, List.getElem?_cons_zero, List.getElem?_cons_succ]; rfl)
  case hQ2 => exact fun _ _ _ h => h
  case hy2 => exact Or.inl ⟨by rfl, by (intro w hSw; (try dsimp only at hSw); go_simp )⟩
  simp only [Act.put, List.setIfInBounds_toArray, List.set_cons_zero, List.set_cons_succ]
  refine wpAnyH_take (i := 2) (oi := ?oi3) (v := .slice ad n cap) ?hi3 (by kernel_rfl) (by kernel_rfl) (by kernel_rfl) ?hQ3 ?hy3 (by assumption) ?rest3
  case hi3 => (simp only [List.getElem?_toArray, List.getElem?_cons_zero, List.getElem?_cons_succ]; rfl)
  case hQ3 => exact fun _ _ _ h => h
  case hy3 => exact Or.inl ⟨by rfl, by (intro w hSw; (try dsimp only at hSw); go_simp )⟩
  simp only [Act.put, List.setIfInBounds_toArray, List.set_cons_zero, List.set_cons_succ]
  refine wpAnyH_take (i := 5) (oi := ?oi4) (v := .slice (some ⟨NX, 0, none⟩) 4 4) ?hi4 (by kernel_rfl) (by kernel_rfl) (by kernel_rfl) ?hQ4 ?hy4 (by assumption) ?rest4
  case hi4 => (simp only [List.getElem?_toArray, List.getElem?_cons_zero, List.getElem?_cons_succ]; rfl)
  case hQ4 => exact fun _ _ _ h => h
  case hy4 => exact Or.inl ⟨by rfl, by (intro w hSw; (try dsimp only at hSw); go_simp )⟩
  simp only [Act.put, List.setIfInBounds_toArray, List.set_cons_zero, List.set_cons_succ]
  refine wpAnyH_ready (rs := [3]) (by kernel_rfl) (by simp) ?_
  refine AllReadyH.cons (o := ?oi5) ?hi5 (fun K hK => ?_) AllReadyH.nil
  case hi5 => (simp only [List.getElem?_toArray, List.getElem?_cons_zero, List.getElem?_cons_succ]; rfl)
  rw [if_pos (by rfl)]
  refine s_copy (HR.out.bel (hb.mono hB)) Tryd.underlying23 size_u8 hg ?_ ?_ rfl rfl ?_
  · rw [HN.out]; simp [zeros_len]
  · rw [HN.out]; omega
  intro V2 hnew ho
  replace hb := ho.bel _ _ (by omega) hb
  replace hx := hx.only ho (by omega)
  replace hg := hnew
  clear hnew ho
  rw [HP.out] at hg
  rw [HN.out]
  refine hK.out _ _ ?_ (fun hHeld => ?_)
  · exact trivial
  clear hK K
  refine wpAnyH_take (i := 4) (oi := ?oi6) (v := .slice (some ⟨NX + 1, n, none⟩) 4 4) ?hi6 (by kernel_rfl) (by kernel_rfl) (by kernel_rfl) ?hQ6 ?hy6 (by assumption) ?rest6
  case hi6 => (simp only [List.getElem?_toArray, List.getElem?_cons_zero, List.getElem?_cons_succ]; rfl)
  case hQ6 => exact fun _ _ _ h => h
  case hy6 => exact Or.inl ⟨by rfl, fun V _ => ex_frmT (NX + 1) n und_sl siz_sl rfl rfl V⟩
  simp only [Act.put, List.setIfInBounds_toArray, List.set_cons_zero, List.set_cons_succ]
  refine wpAnyH_ready (rs := [6]) (by kernel_rfl) (by simp) ?_
  refine AllReadyH.cons (o := ?oi7) ?hi7 (fun K hK => ?_) AllReadyH.nil
  case hi7 => (simp only [List.getElem?_toArray, List.getElem?_cons_zero, List.getElem?_cons_succ]; rfl)
  rw [if_pos (by rfl)]
  refine s_copy (rd_row hx HT4.out 4 HTL.out (by decide)) Tryd.underlying23 size_u8 hg ?_ ?_ rfl rfl ?_
  · rw [HTL.out]; simp [zeros_len, byV_len, HN.out]
  · rw [HTL.out]; omega
  intro V3 hnew ho
  replace hb := ho.bel _ _ (by omega) hb
  replace hx := hx.only ho (by omega)
  replace hg := hnew
  clear hnew ho
  rw [HP2.out] at hg
  refine hK.out _ _ ?_ (fun hHeld => ?_)
  · exact trivial
  clear hK K
  refine wpAnyH_done (by kernel_rfl) ?_ _
  go_wp2
  go_ret
  have HL4 := HLA.out
  refine ⟨_, rfl, ?_, hb⟩
  rw [← HL4]
  exact Own.of (fun x hx => by
    rcases List.mem_append.1 hx with hx | hx
    · exact HLT.out x hx
    · exact HT4.out x hx) (by rw [HL4]; omega) hg (by omega)
end Go.Proofs.YtnokcfaipbolkaaDoor
