/-
  TlvSpoilt, walked.
-/
import Derived.Test.YtkahkkcbigifiaaDoorTvDecW
import Derived.Test.YtkahkkcbigifiaaDoorSmNear
namespace Go.Proofs.YtkahkkcbigifiaaDoor
open Go.RowKit
set_option linter.unusedVariables false
set_option linter.unusedSimpArgs false

def spL (b : List Nat) (i : Nat) (y : List Nat) : Nat → List Nat
  | 0 => b
  | k + 1 => (spL b i y k).set (i + k) ((spL b i y k).getD (i + k) 0 ^^^ y.getD k 0)
theorem sp_len (b : List Nat) (i : Nat) (y : List Nat) : ∀ k, (spL b i y k).length = b.length
  | 0 => rfl
  | k + 1 => by rw [spL, List.length_set, sp_len b i y k]
theorem sp_far (b : List Nat) (i : Nat) (y : List Nat) (j : Nat) : ∀ k, k ≤ 4 → (j < i ∨ i + 4 ≤ j) → (spL b i y k)[j]? = b[j]?
  | 0, _, _ => rfl
  | k + 1, hk, h => by
    rw [spL, List.getElem?_set_ne (by omega), sp_far b i y j k (by omega) h]
theorem place_lt (at' : Int) (n : Nat) (h0 : 0 < n) (hn : n ≤ 1000000) : ∃ fr : Nat, fr < n ∧ wrap64 ((IntKind.u64.wrap at').tmod (n : Int)) = (fr : Int) := by
  have hz : 0 ≤ IntKind.u64.wrap at' := by rw [IntKind.wrap_u64]; exact Int.emod_nonneg _ (by decide)
  obtain ⟨q, hq⟩ := Int.eq_ofNat_of_zero_le hz
  have hm := Nat.mod_lt q h0
  refine ⟨q % n, hm, ?_⟩
  rw [hq, show ((q : Int)).tmod (n : Int) = ((q % n : Nat) : Int) from rfl]
  unfold wrap64
  omega
theorem size_y4 (y : List Nat) (h : y.length = 4) : (Tryd.prog.info? 74).map (·.size) = some (byV y).toArray.size := by
  rw [show (byV y).toArray.size = 4 by simp [byV_len, h]]
  kernel_rfl
theorem byV_gD (y : List Nat) (k : Nat) (h : k < y.length) : (byV y)[k]? = some (.int .u8 (y.getD k 0 : Nat)) := by
  simp [byV, List.getD_eq_getElem?_getD, List.getElem?_eq_getElem h]
theorem und_y4 : Tryd.prog.underlying 74 = some (.array 4 5) := by kernel_rfl
variable {P : Program} {ops : Array Oper} {rest : List Oper} {dst : Option Tmp} {ty t t2 : TypeId} {pos : String} {after : Array Edge} {a : Act} {w : World} {Q : Exit → Act → World → Prop} {K : Act → World → Prop} {x y z : Operand} {gd : Option (Nat × Bool)}
theorem ex_idx4 (b k : Nat) (hk : k < 4) (hx : a.eval x = .pointer (some ⟨b, 0, none⟩)) (hy : a.eval y = .int .i64 (k : Nat)) (w : World) :
    (execOp a.eval ⟨dst, .indexAddr 74 x y, ty, pos, after, gd⟩).run Tryd.prog w = .ok (.value (.pointer (some ⟨b, k, none⟩))) w := by
  have hk1 : (0 : Int) ≤ (k : Int) ∧ (k : Int) < 4 := by omega
  have hk2 : ¬ 4 ≤ k := by omega
  unfold execOp
  simp [hx, hy, Instr.indexAt, asIntOf, run_underlying und_y4, Instr.sureAddr, hk1, hk2, siz_u8, Addr.add_lit, hk]
theorem ex_xor8' (m n : Nat) (hm : m < 256) (hn : n < 256) (hx : a.eval x = .int .u8 (m : Nat)) (hy : a.eval y = .int .u8 (n : Nat)) (w : World) :
    (execOp a.eval ⟨dst, .binOp .xor 5 x y t2, ty, pos, after, gd⟩).run Tryd.prog w = .ok (.value (.int .u8 ((m ^^^ n : Nat) : Int))) w := by
  have hb : bits .xor .u8 (m : Nat) (n : Nat) = ((m ^^^ n : Nat) : Int) := by
    have ha' : m % 2 ^ 8 = m := Nat.mod_eq_of_lt hm
    have hb' : n % 2 ^ 8 = n := Nat.mod_eq_of_lt hn
    have := Nat.xor_lt_two_pow (n := 8) hm hn
    simp only [bits, show IntKind.u8.bits = 8 from rfl, BitVec.ofInt_natCast, BitVec.toNat_xor, BitVec.toNat_ofNat, ha', hb', IntKind.wrap_u8]
    omega
  unfold execOp
  simp only [hx, hy]
  go_simp
theorem ex_isnil' (n : Nat) (hx : a.eval x = errS n) (w : World) :
    (execOp a.eval ⟨dst, .binOp .eql 28 x (.const .nilIface) t2, ty, pos, after, gd⟩).run Tryd.prog w = .ok (.value (.bool (decide (n = 0)))) w := by
  have hc : a.eval (.const .nilIface) = .nilIface := rfl
  by_cases h : n = 0
  · subst h
    have hx' : a.eval x = .nilIface := hx
    unfold execOp
    simp only [hx', hc]
    go_simp
  · rw [errS, if_neg h] at hx
    unfold execOp
    simp only [hx, hc, decide_eq_false h]
    go_simp
theorem wp_ex' {o : Oper} {v : Value} {w' : World} (h : (execOp a.eval o).run P w = .ok (.value v) w') (k : K (a.put o.dst v) w') : Oper.wp P o a w K Q := by
  unfold Oper.wp
  rw [h, Oper.upon_value]
  exact k
theorem ex_ld8' (b j : Nat) (v : Value) (hc : w.cell? ⟨b, j, none⟩ = some v) (hx : a.eval x = .pointer (some ⟨b, j, none⟩)) :
    (execOp a.eval ⟨dst, .load 5 x, ty, pos, after, gd⟩).run Tryd.prog w = .ok (.value v) w := by
  have hrun : (loadVar 5 ⟨b, j, none⟩).run Tryd.prog w = .ok v w := by
    have hagg : (isAgg 5).run Tryd.prog w = .ok false w := by
      unfold isAgg
      rw [Sem.run_bind, run_underlying Tryd.underlying5 w]
      rfl
    simp [loadVar, Sem.run_bind, hagg, hc]
  unfold execOp
  simp only [hx, Instr.loadAt, Instr.sureAddr, Sem.run_bind, Sem.run_pure, Result.andThen_ok, hrun]
theorem ex_idx0' (b len cap k : Nat) (hk : k < len) (hx : a.eval x = .slice (some ⟨b, 0, none⟩) len cap) (hy : a.eval y = .int .i64 (k : Nat)) (w : World) :
    (execOp a.eval ⟨dst, .indexAddr 26 x y, ty, pos, after, gd⟩).run Tryd.prog w = .ok (.value (.pointer (some ⟨b, k, none⟩))) w := by
  have hk1 : (0 : Int) ≤ (k : Int) ∧ (k : Int) < (len : Int) := by omega
  have hk2 : ¬ len ≤ k := by omega
  have hu : Tryd.prog.underlying 26 = some (.slice 5) := Tryd.underlying26
  unfold execOp
  simp [hx, hy, Instr.indexAt, asIntOf, run_underlying hu, hk1, hk2, siz_u8, Addr.add_lit]
theorem min15 (P : Program) (i : Nat) (ts : Array TypeId) (t : TypeId) (w : World) : (Builtin.min_ ts t #[.int .i64 (i : Nat), .int .i64 15]).run P w = .ok (.int .i64 ((min i 15 : Nat) : Int)) w := by
  have h : (Builtin.min_ ts t #[.int .i64 (i : Nat), .int .i64 15]).run P w = .ok (.int .i64 (if (15 : Int) < (i : Int) then (15 : Int) else (i : Int))) w := by
    simp [Builtin.min_, Builtin.min2]
  rw [h]
  congr 2
  split <;> omega
theorem g_toE {B : Nat} {w0 : World} {v v' : Value} {l : List Nat} (h : Rd B w0 v l) (n : Nat) (hv : sTo v n = v') (hn : n ≤ l.length) (ht : P.underlying t = some (.slice (P.elem t))) (hs : ∀ w, (sizeOf (P.elem t)).run P w = .ok 1 w) (hx : a.eval x = v) (hy : a.eval y = .int .i64 (n : Nat)) (hw : Region.wanted ⟨dst, .slice t x none (some y) none, ty, pos, after, gd⟩ (yielded ops a.tmps) = true)
    (k : wpList P ops Q rest (a.put dst v') w) : wpList P ops Q (⟨dst, .slice t x none (some y) none, ty, pos, after, gd⟩ :: rest) a w := by
  subst hv
  exact g_to h n hn ht hs hx hy hw k
theorem dec_same {fl y : List Nat} {p : Nat × List Sct} (hf : decL fl = .inr p) (h : ∀ q, decL y = .inr q → y = fl) : decide (decE y = 0) = decide (y = fl) := by
  cases hd : decL y with
  | inl e =>
    have h1 := dec_err hd
    have h2 := dec_pos hd
    rw [decide_eq_false (by omega), decide_eq_false]
    rintro rfl
    rw [hd] at hf
    cases hf
  | inr q =>
    obtain ⟨v, L⟩ := q
    rw [(dec_fine hd).1, h _ hd]
    simp
theorem dec_sh16 {b : List Nat} (h : b.length < 16) : decE b = 12 := by
  have : decL b = .inl 12 := by
    unfold decL
    rw [if_neg (by omega), if_pos h]
  exact (dec_err this).1
def SpRel (fl y4 : List Nat) (m i g cx N M : Nat) (vb : Value) (w0 : World) (iv : Value) (wr : World) : Prop := Rd M wr vb fl ∧ M ≤ wr.heap.size ∧ ∃ k : Nat, k ≤ 4 ∧ iv = .int .i64 (k : Nat) ∧ Own (N + 1) 5 wr (.slice (some ⟨g, 0, none⟩) m cx) (spL fl i y4 k) ∧ RowAt wr N (byV y4).toArray 74 ∧ Below N w0 wr
set_option maxRecDepth 100000 in
set_option maxHeartbeats 8000000 in
theorem spoilt_walk {Gd : World → Prop} (C : Con Gd) (at' : Int) (y4 : List Nat) (hy4 : y4.length = 4) (hyl : ∀ c ∈ y4, c < 256) {v : Value} {L : List Sct} (w : World) (h : Secs w.heap.size w v L) (htot : totL (L.take 5000) ≤ 4611686018427387904) (hG : Gd w) :
    Calls Tryd.prog 8 #[v, .int .i64 at', .agg (byV y4).toArray] w fun e w' => e = .returned (.bool true) ∧ Below w.heap.size w w' := by
  obtain ⟨i0, hi0, hz0, hs0, hb0⟩ := info_u8
  have HI := hide hi0
  have HZ := hide hz0
  have HSI := hide hs0
  have HBT := hide hb0
  clear hi0 hz0 hs0 hb0
  have HL := hide (fun W (hb : Below w.heap.size w W) => long_any W (h.bel hb) htot)
  have HS := hide (fun W hg => tsure_any C W hg)
  have HG := hide (fun W hb => C.bel w W hG hb)
  have HY4 := hide hyl
  have HYL := hide hy4
  obtain ⟨ad, cap, rfl, hcap, hmax⟩ := h.form
  cases hlg : longB L with
  | true =>
    rw [hlg] at HL
    clear h hG hlg hyl hy4
    go_enter Tryd.func8, Tryd.ntmps8
    go_wp2_with (first | ((with_reducible refine op_box w.heap.size ?_ (byV y4).toArray ?_ ?_); exact rfl; exact rfl; intro W hrw hb hz; have HRW := hide hrw; have HZ0 := hide hz.out; clear hrw hz) | (go_at_call 9; (with_reducible refine (HL.out _ hb).mono ?_); rintro e w1 ⟨rfl, rfl⟩) | (go_at_call 10; (with_reducible refine (HS.out _ (HG.out _ hb)).mono ?_); rintro e W ⟨rfl, hb2⟩; replace hb := below_bl rfl hb hb2; clear hb2))
    go_ret
    exact ⟨rfl, hb⟩
  | false =>
  rw [hlg] at HL
  obtain ⟨h200, h20, hsz⟩ := not_long hlg
  have hLok := h.ok fun s hs => by have := b_le L s hs; omega
  have HSE := hide (fun W (hb : Below w.heap.size w W) => h.bel hb)
  have HGV := hide (fun W hR hB => give_any (B := w.heap.size) (v := .slice ad L.length cap) (L := L) W hR hB (by omega))
  have HE := hide (fun (W : World) (B : Nat) (v : Value) (hg : Gd W) hR hB => C.enc W B v L 3 hg hR hB (by decide) (by omega) (by omega))
  simp only [show ((3 : Nat) : Int) = 3 from rfl] at HE
  have h0 : errS 0 = .nilIface := rfl
  by_cases he : encE L = 0
  · have hdf := dec_file 3 L (by decide) hLok he
    have hfl := file_len 3 L
    have hs16 := secs_len L
    rw [he, encB, if_pos he, h0] at HE
    have hspo := fun (y : List Nat) hx hy hl i hf q hd => dec_spoilt 3 L hx y hy hl i hf (q := q) hd
    generalize fileL 3 L = fl at *
    obtain ⟨m, hm⟩ : ∃ m, fl.length = m := ⟨_, rfl⟩
    have hm16 : 16 ≤ m := by omega
    have hm5 : m ≤ 30000 := by omega
    obtain ⟨i, hi, hfrom⟩ := place_lt at' m (by omega) (by omega)
    have HM := hide hm
    have HSPO := hide hspo
    have HDF := hide hdf
    clear h hG hlg hLok hdf hfl hs16 he h0 hspo hm hyl hy4
    go_enter Tryd.func8, Tryd.ntmps8
    go_wp2_with (first | ((with_reducible refine op_box w.heap.size ?_ (byV y4).toArray ?_ ?_); exact rfl; exact rfl; intro W hrw hb hz; have HRW := hide hrw; have HZ0 := hide hz.out; clear hrw hz) | (go_at_call 9; (with_reducible refine (HL.out _ hb).mono ?_); rintro e w1 ⟨rfl, rfl⟩) | (go_at_call 12; (with_reducible refine (HGV.out _ (HSE.out _ hb) hb.size).mono ?_); rintro e W ⟨vg, rfl, hog, hb2⟩; have hsg := hog.secs (Nat.le_trans hb.size hb2.size); replace hb := below_bl rfl hb hb2; replace HRW := hide (HRW.out.bl hb2); have HGS := hide hsg; clear hog hb2 hsg) | (go_at_call 11; (with_reducible refine (HE.out _ _ _ (HG.out _ hb) HGS.out (Nat.le_refl _)).mono ?_); rintro e W ⟨vx, rfl, hr, hb2⟩; have HB := hide hr; obtain ⟨ab, cb, hvb, _, _⟩ := hr.form; rw [HM.out] at hvb; subst hvb; have HNN := hide (show w.heap.size + 1 ≤ W.heap.size from Nat.le_trans (HRW.out.bl hb2).lt (Nat.le_refl _)); replace hb := below_bl rfl hb hb2; replace HRW := hide (HRW.out.bl hb2); clear hr hb2) | ((with_reducible refine op_app i0 Tryd.underlying26 HI.out HZ.out HSI.out HBT.out (Own.nil _ _ _) HB.out ?_ (Nat.le_refl _) ?_ ?_ ?_); (have := HM.out; simp; omega); exact rfl; exact rfl; intro W2 vq hown hgr; rw [List.nil_append] at hown; have hb3 := (Below.refl _ _).grown hgr (Nat.le_refl _) (fun k hk => by cases hk); replace HRW := hide (HRW.out.bl hb3); have HMS := hide hb3.size; replace HB := hide (HB.out.bel hb3); replace hb := below_bl rfl hb hb3; obtain ⟨g, cx, hvx, hgB, hcx, hcm⟩ := hown.block (by have := HM.out; omega); rw [HM.out] at hvx hcx; subst hvx; have HX := hide (hown.mono (show w.heap.size + 1 ≤ _ from HNN.out)); have hgN : w.heap.size + 1 ≤ g := Nat.le_trans HNN.out hgB; have hgM := hgB; obtain ⟨M0, hM0⟩ : ∃ q, W.heap.size = q := ⟨_, rfl⟩; rw [hM0] at HB HMS hgM; clear hown hgr hb3 hgB hM0))
    clear hfrom
    go_loopw [11] (SpRel fl y4 m i g cx w.heap.size M0 (.slice ab m cb) w) (fun iv _ => 4 - (intOf iv).toNat)
    case atStart => exact ⟨HB.out, HMS.out, 0, by decide, rfl, HX.out, HRW.out, hb⟩
    case round =>
      clear hb HX HRW HB HMS
      obtain ⟨hB, hMS, k, hk, rfl, hox, hrw, hb⟩ := hrel
      have HX := hide hox
      have HRW := hide hrw
      have HB := hide hB
      have hxl := (sp_len fl i y4 k).trans HM.out
      have HXL := hide hxl
      have hxl2 := hxl
      clear hox hrw hB hxl
      by_cases hin : k < 4 ∧ i + k < m
      · obtain ⟨hk4, hik⟩ := hin
        have HGL := hide (getD_lt HX.out.lt (i + k))
        have HGY := hide (getD_lt HY4.out k)
        have hkI : (i : Int) + (k : Int) < (m : Int) := by omega
        clear hxl2
        go_wp2
        refine wp_region_held_drew (S := (fun U => Below w.heap.size w U ∧ RowAt U w.heap.size (byV y4).toArray 74)) (by kernel_rfl) ?_ (fun hHeld => ?_)
        · exact ⟨hb.drew, HRW.out.dr⟩
        replace HX := hide (⟨HX.out.lt, HX.out.row⟩ : Own (w.heap.size + 1) 5 wr.drew (.slice (some ⟨g, 0, none⟩) m cx) (spL fl i y4 k))
        replace HB := hide HB.out.dr
        have hMS2 : M0 ≤ wr.drew.heap.size := hMS
        clear hb hMS
        generalize wr.drew = V at hHeld HX HB hMS2 ⊢
        refine wpAnyH_take (i := 0) (oi := ?oi1) (v := .slice (some ⟨g, 0, none⟩) m cx) ?hi1 (by kernel_rfl) (by kernel_rfl) (by kernel_rfl) ?hQ1 ?hy1 (by assumption) ?rest1
        case hi1 => (simp only [List.getElem?_toArray, List.getElem?_cons_zero]; rfl)
        case hQ1 => exact fun _ _ _ h => h
        case hy1 => exact Or.inl ⟨by rfl, by (intro w hSw; (try dsimp only at hSw); go_simp )⟩
        simp only [Act.put, List.setIfInBounds_toArray, List.set_cons_zero, List.set_cons_succ]
        refine wpAnyH_take (i := 1) (oi := ?oi2) (v := .int .i64 (i : Nat)) ?hi2 (by kernel_rfl) (by kernel_rfl) (by kernel_rfl) ?hQ2 ?hy2 (by assumption) ?rest2
        case hi2 => (simp only [List.getElem?_toArray, List.getElem?_cons_zero, List.getElem?_cons_succ]; rfl)
        case hQ2 => exact fun _ _ _ h => h
        case hy2 => exact Or.inl ⟨by rfl, by (intro w hSw; (try dsimp only at hSw); go_simp )⟩
        simp only [Act.put, List.setIfInBounds_toArray, List.set_cons_zero, List.set_cons_succ]
        refine wpAnyH_take (i := 2) (oi := ?oi3) (v := .int .i64 (k : Nat)) ?hi3 (by kernel_rfl) (by kernel_rfl) (by kernel_rfl) ?hQ3 ?hy3 (by assumption) ?rest3
        case hi3 => (simp only [List.getElem?_toArray, List.getElem?_cons_zero, List.getElem?_cons_succ]; rfl)
        case hQ3 => exact fun _ _ _ h => h
        case hy3 => exact Or.inl ⟨by rfl, by (intro w hSw; (try dsimp only at hSw); go_simp )⟩
        simp only [Act.put, List.setIfInBounds_toArray, List.set_cons_zero, List.set_cons_succ]
        refine wpAnyH_take (i := 3) (oi := ?oi4) (v := .int .i64 ((i + k : Nat) : Int)) ?hi4 (by kernel_rfl) (by kernel_rfl) (by kernel_rfl) ?hQ4 ?hy4 (by assumption) ?rest4
        case hi4 => (simp only [List.getElem?_toArray, List.getElem?_cons_zero, List.getElem?_cons_succ]; rfl)
        case hQ4 => exact fun _ _ _ h => h
        case hy4 => exact Or.inl ⟨by rfl, by (intro w hSw; go_simp; exact i64_in _ (by omega) (by omega))⟩
        simp only [Act.put, List.setIfInBounds_toArray, List.set_cons_zero, List.set_cons_succ]
        refine wpAnyH_take (i := 4) (oi := ?oi5) (v := .slice (some ⟨g, 0, none⟩) m cx) ?hi5 (by kernel_rfl) (by kernel_rfl) (by kernel_rfl) ?hQ5 ?hy5 (by assumption) ?rest5
        case hi5 => (simp only [List.getElem?_toArray, List.getElem?_cons_zero, List.getElem?_cons_succ]; rfl)
        case hQ5 => exact fun _ _ _ h => h
        case hy5 => exact Or.inl ⟨by rfl, by (intro w hSw; (try dsimp only at hSw); go_simp )⟩
        simp only [Act.put, List.setIfInBounds_toArray, List.set_cons_zero, List.set_cons_succ]
        refine wpAnyH_take (i := 5) (oi := ?oi6) (v := .int .i64 (i : Nat)) ?hi6 (by kernel_rfl) (by kernel_rfl) (by kernel_rfl) ?hQ6 ?hy6 (by assumption) ?rest6
        case hi6 => (simp only [List.getElem?_toArray, List.getElem?_cons_zero, List.getElem?_cons_succ]; rfl)
        case hQ6 => exact fun _ _ _ h => h
        case hy6 => exact Or.inl ⟨by rfl, by (intro w hSw; (try dsimp only at hSw); go_simp )⟩
        simp only [Act.put, List.setIfInBounds_toArray, List.set_cons_zero, List.set_cons_succ]
        refine wpAnyH_take (i := 6) (oi := ?oi7) (v := .int .i64 (k : Nat)) ?hi7 (by kernel_rfl) (by kernel_rfl) (by kernel_rfl) ?hQ7 ?hy7 (by assumption) ?rest7
        case hi7 => (simp only [List.getElem?_toArray, List.getElem?_cons_zero, List.getElem?_cons_succ]; rfl)
        case hQ7 => exact fun _ _ _ h => h
        case hy7 => exact Or.inl ⟨by rfl, by (intro w hSw; (try dsimp only at hSw); go_simp )⟩
        simp only [Act.put, List.setIfInBounds_toArray, List.set_cons_zero, List.set_cons_succ]
        refine wpAnyH_take (i := 7) (oi := ?oi8) (v := .int .i64 ((i + k : Nat) : Int)) ?hi8 (by kernel_rfl) (by kernel_rfl) (by kernel_rfl) ?hQ8 ?hy8 (by assumption) ?rest8
        case hi8 => (simp only [List.getElem?_toArray, List.getElem?_cons_zero, List.getElem?_cons_succ]; rfl)
        case hQ8 => exact fun _ _ _ h => h
        case hy8 => exact Or.inl ⟨by rfl, by (intro w hSw; go_simp; exact i64_in _ (by omega) (by omega))⟩
        simp only [Act.put, List.setIfInBounds_toArray, List.set_cons_zero, List.set_cons_succ]
        refine wpAnyH_take (i := 8) (oi := ?oi9) (v := .pointer (some ⟨g, i + k, none⟩)) ?hi9 (by kernel_rfl) (by kernel_rfl) (by kernel_rfl) ?hQ9 ?hy9 (by assumption) ?rest9
        case hi9 => (simp only [List.getElem?_toArray, List.getElem?_cons_zero, List.getElem?_cons_succ]; rfl)
        case hQ9 => exact fun _ _ _ h => h
        case hy9 => exact Or.inl ⟨by rfl, fun U hU => ex_idx0' g m cx (i + k) hik rfl rfl U⟩
        simp only [Act.put, List.setIfInBounds_toArray, List.set_cons_zero, List.set_cons_succ]
        refine wpAnyH_take (i := 10) (oi := ?oi10) (v := .int .i64 (k : Nat)) ?hi10 (by kernel_rfl) (by kernel_rfl) (by kernel_rfl) ?hQ10 ?hy10 (by assumption) ?rest10
        case hi10 => (simp only [List.getElem?_toArray, List.getElem?_cons_zero, List.getElem?_cons_succ]; rfl)
        case hQ10 => exact fun _ _ _ h => h
        case hy10 => exact Or.inl ⟨by rfl, by (intro w hSw; (try dsimp only at hSw); go_simp )⟩
        simp only [Act.put, List.setIfInBounds_toArray, List.set_cons_zero, List.set_cons_succ]
        refine wpAnyH_take (i := 11) (oi := ?oi11) (v := .pointer (some ⟨w.heap.size, k, none⟩)) ?hi11 (by kernel_rfl) (by kernel_rfl) (by kernel_rfl) ?hQ11 ?hy11 (by assumption) ?rest11
        case hi11 => (simp only [List.getElem?_toArray, List.getElem?_cons_zero, List.getElem?_cons_succ]; rfl)
        case hQ11 => exact fun _ _ _ h => h
        case hy11 => exact Or.inl ⟨by rfl, fun U hU => ex_idx4 w.heap.size k hk4 rfl rfl U⟩
        simp only [Act.put, List.setIfInBounds_toArray, List.set_cons_zero, List.set_cons_succ]
        refine wpAnyH_take (i := 12) (oi := ?oi12) (v := .int .u8 (y4.getD k 0 : Nat)) ?hi12 (by kernel_rfl) (by kernel_rfl) (by kernel_rfl) ?hQ12 ?hy12 (by assumption) ?rest12
        case hi12 => (simp only [List.getElem?_toArray, List.getElem?_cons_zero, List.getElem?_cons_succ]; rfl)
        case hQ12 => exact fun _ _ _ h => h
        case hy12 => exact y_any w.heap.size k _ (fun U hU => (hU.2.cell k).trans (by rw [List.getElem?_toArray]; exact (byV_gD y4 k (by rw [HYL.out]; exact hk4)))) _ Tryd.underlying5 rfl rfl rfl
        simp only [Act.put, List.setIfInBounds_toArray, List.set_cons_zero, List.set_cons_succ]
        refine wpAnyH_ready (rs := [9]) (by kernel_rfl) (by simp) ?_
        refine AllReadyH.cons (o := ?oi13) ?hi13 (fun K hK => ?_) AllReadyH.nil
        case hi13 => (simp only [List.getElem?_toArray, List.getElem?_cons_zero, List.getElem?_cons_succ]; rfl)
        rw [if_pos (by rfl)]
        refine wp_ex' (ex_ld8' g (i + k) _ (HX.out.cell (i + k) (by rw [HXL.out]; exact hik)) rfl) ?_
        refine hK.out _ _ ?_ (fun hHeld => ?_)
        · exact hHeld
        clear hK K
        refine wpAnyH_take (i := 13) (oi := ?oi14) (v := .int .u8 (((spL fl i y4 k).getD (i + k) 0 ^^^ y4.getD k 0 : Nat) : Int)) ?hi14 (by kernel_rfl) (by kernel_rfl) (by kernel_rfl) ?hQ14 ?hy14 (by assumption) ?rest14
        case hi14 => (simp only [List.getElem?_toArray, List.getElem?_cons_zero, List.getElem?_cons_succ]; rfl)
        case hQ14 => exact fun _ _ _ h => h
        case hy14 => exact Or.inl ⟨by rfl, fun U hU => ex_xor8' _ _ HGL.out HGY.out rfl rfl U⟩
        simp only [Act.put, List.setIfInBounds_toArray, List.set_cons_zero, List.set_cons_succ]
        refine wpAnyH_take (i := 14) (oi := ?oi15) (v := .pointer (some ⟨g, i + k, none⟩)) ?hi15 (by kernel_rfl) (by kernel_rfl) (by kernel_rfl) ?hQ15 ?hy15 (by assumption) ?rest15
        case hi15 => (simp only [List.getElem?_toArray, List.getElem?_cons_zero, List.getElem?_cons_succ]; rfl)
        case hQ15 => exact fun _ _ _ h => h
        case hy15 => exact Or.inl ⟨by rfl, fun U hU => ex_idx0' g m cx (i + k) hik rfl rfl U⟩
        simp only [Act.put, List.setIfInBounds_toArray, List.set_cons_zero, List.set_cons_succ]
        have HX2 := HX.out
        rw [← HXL.out] at HX2
        refine wpAnyH_ready (rs := [15]) (by kernel_rfl) (by simp) ?_
        refine AllReadyH.cons (o := ?oi16) ?hi16 (fun K hK => ?_) AllReadyH.nil
        case hi16 => (simp only [List.getElem?_toArray, List.getElem?_cons_zero, List.getElem?_cons_succ]; rfl)
        rw [if_pos (by rfl)]
        refine wp_set HX2 (i + k) _ (by rw [HXL.out]; exact hik) (Nat.xor_lt_two_pow (n := 8) HGL.out HGY.out) size_u8 rfl rfl ?_
        intro V2 hox ho
        have hk2 : Below w.heap.size w V2 ∧ RowAt V2 w.heap.size (byV y4).toArray 74 := ⟨ho.bel _ _ (by omega) hHeld.1, hHeld.2.only ho (by omega)⟩
        have hB2 := HB.out.only ho hgM
        have hMS3 : M0 ≤ V2.heap.size := by rw [ho.size]; exact hMS2
        refine hK.out _ _ ?_ (fun hHeld => ?_)
        · exact hk2
        clear hK K
        refine wpAnyH_done (by kernel_rfl) ?_ _
        rw [HXL.out] at hox
        clear hHeld HX2
        go_wp2
        go_roundw
        case rel => exact ⟨hB2, hMS3, k + 1, hk4, by go_num, hox, hk2.2, hk2.1⟩
        case measure => simp [intOf]; omega
      · have hfar := fun j hj => sp_far fl i y4 j k hk hj
        have hlt2 := HX.out.lt
        have HXR := hide HX.out.rd
        have HBV := hide HB.out.top
        have hcov : k = 4 ∨ (k < 4 ∧ m ≤ i + k) := by omega
        have hen := dec_same HDF.out (fun q hq => HSPO.out _ HB.out.lt hlt2 (hxl2.trans HM.out.symm) i hfar q hq)
        clear hfar hlt2 HX HB hMS hin
        generalize spL fl i y4 k = y at *
        obtain ⟨sm, hsm⟩ : ∃ b, decide (y = fl) = b := ⟨_, rfl⟩
        rw [hsm] at hen
        have HEN := hide hen
        have HSM2 := hide hsm
        clear hsm hen
        obtain ⟨q, hq⟩ : ∃ q, min i 15 = q := ⟨_, rfl⟩
        have hmin := fun (ts : Array TypeId) (t : TypeId) (w : World) => min15 Tryd.prog i ts t w
        rw [hq] at hmin
        have hq15 : q ≤ 15 := by omega
        have HQL := hide (show q ≤ fl.length by rw [HM.out]; omega)
        have hqtl : (fl.take q).length = q := by rw [List.length_take, HM.out]; omega
        have HDX := hide (fun (W : World) (B : Nat) (hg : Gd W) hR hB => C.dec W B (.slice (some ⟨g, 0, none⟩) m cx) y hg hR hB (by rw [hxl2]; omega))
        have HDQ := hide (fun (W : World) (B : Nat) (hg : Gd W) hR hB => C.dec W B (.slice ab q cb) (fl.take q) hg hR hB (by rw [hqtl]; omega))
        rw [dec_sh16 (b := fl.take q) (by rw [hqtl]; omega), errS, if_neg (by decide)] at HDQ
        clear hq hqtl hxl2
        rcases hcov with rfl | ⟨hk4, him⟩
        · go_wp2_with (go_at_call 17; (with_reducible refine (HDX.out _ _ (HG.out _ hb) HXR.out (Nat.le_refl _)).mono ?_); rintro e W5 ⟨vm, rfl, _, hb2⟩; replace HXR := hide (HXR.out.bel hb2).top; replace HBV := hide (HBV.out.bel hb2).top; replace hb := below_bl rfl hb hb2; clear hb2)
          refine wp_region_held_drew (S := (fun U => Below W5.heap.size W5 U)) (by kernel_rfl) ?_ (fun hHeld => ?_)
          · exact (Below.refl _ W5).drew
          generalize W5.drew = V5 at hHeld ⊢
          replace hb := below_bl rfl hb hHeld
          replace HXR := hide (HXR.out.bel hHeld).top
          replace HBV := hide (HBV.out.bel hHeld).top
          refine wpAnyH_more (S' := fun U => Below V5.heap.size V5 U) (fun U h => hHeld.trans (h.mono hHeld.size)) _ _ _ _ ?_
          clear hHeld
          have hHeld := Below.refl V5.heap.size V5
          refine wpAnyH_take (i := 0) (oi := ?oi17) (v := errS (decE y)) ?hi17 (by kernel_rfl) (by kernel_rfl) (by kernel_rfl) ?hQ17 ?hy17 (by assumption) ?rest17
          case hi17 => (simp only [List.getElem?_toArray, List.getElem?_cons_zero]; rfl)
          case hQ17 => exact fun _ _ _ h => h
          case hy17 => exact Or.inl ⟨by rfl, by (intro w hSw; (try dsimp only at hSw); go_simp )⟩
          simp only [Act.put, List.setIfInBounds_toArray, List.set_cons_zero, List.set_cons_succ]
          refine wpAnyH_take (i := 1) (oi := ?oi18) (v := .bool sm) ?hi18 (by kernel_rfl) (by kernel_rfl) (by kernel_rfl) ?hQ18 ?hy18 (by assumption) ?rest18
          case hi18 => (simp only [List.getElem?_toArray, List.getElem?_cons_zero, List.getElem?_cons_succ]; rfl)
          case hQ18 => exact fun _ _ _ h => h
          case hy18 => exact Or.inl ⟨by rfl, fun U hU => (ex_isnil' (decE y) rfl U).trans (by rw [HEN.out])⟩
          simp only [Act.put, List.setIfInBounds_toArray, List.set_cons_zero, List.set_cons_succ]
          refine wpAnyH_take (i := 2) (oi := ?oi19) (v := .slice (some ⟨g, 0, none⟩) m cx) ?hi19 (by kernel_rfl) (by kernel_rfl) (by kernel_rfl) ?hQ19 ?hy19 (by assumption) ?rest19
          case hi19 => (simp only [List.getElem?_toArray, List.getElem?_cons_zero, List.getElem?_cons_succ]; rfl)
          case hQ19 => exact fun _ _ _ h => h
          case hy19 => exact Or.inl ⟨by rfl, by (intro w hSw; (try dsimp only at hSw); go_simp )⟩
          simp only [Act.put, List.setIfInBounds_toArray, List.set_cons_zero, List.set_cons_succ]
          refine wpAnyH_take (i := 3) (oi := ?oi20) (v := .string (strB y)) ?hi20 (by kernel_rfl) (by kernel_rfl) (by kernel_rfl) ?hQ20 ?hy20 (by assumption) ?rest20
          case hi20 => (simp only [List.getElem?_toArray, List.getElem?_cons_zero, List.getElem?_cons_succ]; rfl)
          case hQ20 => exact fun _ _ _ h => h
          case hy20 => exact Or.inl ⟨by rfl, fun U hU => ex_str (HXR.out.bel hU) 5 Tryd.underlying26 Tryd.underlying5 und_str rfl⟩
          simp only [Act.put, List.setIfInBounds_toArray, List.set_cons_zero, List.set_cons_succ]
          refine wpAnyH_take (i := 4) (oi := ?oi21) (v := .slice ab m cb) ?hi21 (by kernel_rfl) (by kernel_rfl) (by kernel_rfl) ?hQ21 ?hy21 (by assumption) ?rest21
          case hi21 => (simp only [List.getElem?_toArray, List.getElem?_cons_zero, List.getElem?_cons_succ]; rfl)
          case hQ21 => exact fun _ _ _ h => h
          case hy21 => exact Or.inl ⟨by rfl, by (intro w hSw; (try dsimp only at hSw); go_simp )⟩
          simp only [Act.put, List.setIfInBounds_toArray, List.set_cons_zero, List.set_cons_succ]
          refine wpAnyH_take (i := 5) (oi := ?oi22) (v := .string (strB fl)) ?hi22 (by kernel_rfl) (by kernel_rfl) (by kernel_rfl) ?hQ22 ?hy22 (by assumption) ?rest22
          case hi22 => (simp only [List.getElem?_toArray, List.getElem?_cons_zero, List.getElem?_cons_succ]; rfl)
          case hQ22 => exact fun _ _ _ h => h
          case hy22 => exact Or.inl ⟨by rfl, fun U hU => ex_str (HBV.out.bel hU) 5 Tryd.underlying26 Tryd.underlying5 und_str rfl⟩
          simp only [Act.put, List.setIfInBounds_toArray, List.set_cons_zero, List.set_cons_succ]
          refine wpAnyH_take (i := 6) (oi := ?oi23) (v := .bool sm) ?hi23 (by kernel_rfl) (by kernel_rfl) (by kernel_rfl) ?hQ23 ?hy23 (by assumption) ?rest23
          case hi23 => (simp only [List.getElem?_toArray, List.getElem?_cons_zero, List.getElem?_cons_succ]; rfl)
          case hQ23 => exact fun _ _ _ h => h
          case hy23 => exact Or.inl ⟨by rfl, fun U hU => (ex_seq (strB y) (strB fl) rfl rfl U).trans (by rw [strB_inj HXR.out.lt HBV.out.lt, HSM2.out])⟩
          simp only [Act.put, List.setIfInBounds_toArray, List.set_cons_zero, List.set_cons_succ]
          refine wpAnyH_take (i := 7) (oi := ?oi24) (v := .bool false) ?hi24 (by kernel_rfl) (by kernel_rfl) (by kernel_rfl) ?hQ24 ?hy24 (by assumption) ?rest24
          case hi24 => (simp only [List.getElem?_toArray, List.getElem?_cons_zero, List.getElem?_cons_succ]; rfl)
          case hQ24 => exact fun _ _ _ h => h
          case hy24 => exact Or.inl ⟨by rfl, by (intro w hSw; go_simp)⟩
          simp only [Act.put, List.setIfInBounds_toArray, List.set_cons_zero, List.set_cons_succ]
          refine wpAnyH_done (by kernel_rfl) ?_ _
          clear hHeld
          have HTO := hide (HBV.out.to HQL.out)
          go_wp2_with (first | ((with_reducible refine g_toE (v' := .slice ab q cb) HBV.out q ?_ HQL.out und_sl siz_sl ?_ ?_ ?_ ?_); exact rfl; exact rfl; exact rfl; exact rfl) | (go_at_call 17; (with_reducible refine (HDQ.out _ _ (HG.out _ hb) HTO.out (Nat.le_refl _)).mono ?_); rintro e W6 ⟨vm6, rfl, _, hb2⟩; replace hb := below_bl rfl hb hb2; clear hb2) | (go_at_call 10; (with_reducible refine (HS.out _ (HG.out _ hb)).mono ?_); rintro e W ⟨rfl, hb2⟩; replace hb := below_bl rfl hb hb2; clear hb2))
          go_ret
          exact ⟨rfl, hb⟩
        · go_wp2_with (go_at_call 17; (with_reducible refine (HDX.out _ _ (HG.out _ hb) HXR.out (Nat.le_refl _)).mono ?_); rintro e W5 ⟨vm, rfl, _, hb2⟩; replace HXR := hide (HXR.out.bel hb2).top; replace HBV := hide (HBV.out.bel hb2).top; replace hb := below_bl rfl hb hb2; clear hb2)
          refine wp_region_held_drew (S := (fun U => Below W5.heap.size W5 U)) (by kernel_rfl) ?_ (fun hHeld => ?_)
          · exact (Below.refl _ W5).drew
          generalize W5.drew = V5 at hHeld ⊢
          replace hb := below_bl rfl hb hHeld
          replace HXR := hide (HXR.out.bel hHeld).top
          replace HBV := hide (HBV.out.bel hHeld).top
          refine wpAnyH_more (S' := fun U => Below V5.heap.size V5 U) (fun U h => hHeld.trans (h.mono hHeld.size)) _ _ _ _ ?_
          clear hHeld
          have hHeld := Below.refl V5.heap.size V5
          refine wpAnyH_take (i := 0) (oi := ?oi25) (v := errS (decE y)) ?hi25 (by kernel_rfl) (by kernel_rfl) (by kernel_rfl) ?hQ25 ?hy25 (by assumption) ?rest25
          case hi25 => (simp only [List.getElem?_toArray, List.getElem?_cons_zero]; rfl)
          case hQ25 => exact fun _ _ _ h => h
          case hy25 => exact Or.inl ⟨by rfl, by (intro w hSw; (try dsimp only at hSw); go_simp )⟩
          simp only [Act.put, List.setIfInBounds_toArray, List.set_cons_zero, List.set_cons_succ]
          refine wpAnyH_take (i := 1) (oi := ?oi26) (v := .bool sm) ?hi26 (by kernel_rfl) (by kernel_rfl) (by kernel_rfl) ?hQ26 ?hy26 (by assumption) ?rest26
          case hi26 => (simp only [List.getElem?_toArray, List.getElem?_cons_zero, List.getElem?_cons_succ]; rfl)
          case hQ26 => exact fun _ _ _ h => h
          case hy26 => exact Or.inl ⟨by rfl, fun U hU => (ex_isnil' (decE y) rfl U).trans (by rw [HEN.out])⟩
          simp only [Act.put, List.setIfInBounds_toArray, List.set_cons_zero, List.set_cons_succ]
          refine wpAnyH_take (i := 2) (oi := ?oi27) (v := .slice (some ⟨g, 0, none⟩) m cx) ?hi27 (by kernel_rfl) (by kernel_rfl) (by kernel_rfl) ?hQ27 ?hy27 (by assumption) ?rest27
          case hi27 => (simp only [List.getElem?_toArray, List.getElem?_cons_zero, List.getElem?_cons_succ]; rfl)
          case hQ27 => exact fun _ _ _ h => h
          case hy27 => exact Or.inl ⟨by rfl, by (intro w hSw; (try dsimp only at hSw); go_simp )⟩
          simp only [Act.put, List.setIfInBounds_toArray, List.set_cons_zero, List.set_cons_succ]
          refine wpAnyH_take (i := 3) (oi := ?oi28) (v := .string (strB y)) ?hi28 (by kernel_rfl) (by kernel_rfl) (by kernel_rfl) ?hQ28 ?hy28 (by assumption) ?rest28
          case hi28 => (simp only [List.getElem?_toArray, List.getElem?_cons_zero, List.getElem?_cons_succ]; rfl)
          case hQ28 => exact fun _ _ _ h => h
          case hy28 => exact Or.inl ⟨by rfl, fun U hU => ex_str (HXR.out.bel hU) 5 Tryd.underlying26 Tryd.underlying5 und_str rfl⟩
          simp only [Act.put, List.setIfInBounds_toArray, List.set_cons_zero, List.set_cons_succ]
          refine wpAnyH_take (i := 4) (oi := ?oi29) (v := .slice ab m cb) ?hi29 (by kernel_rfl) (by kernel_rfl) (by kernel_rfl) ?hQ29 ?hy29 (by assumption) ?rest29
          case hi29 => (simp only [List.getElem?_toArray, List.getElem?_cons_zero, List.getElem?_cons_succ]; rfl)
          case hQ29 => exact fun _ _ _ h => h
          case hy29 => exact Or.inl ⟨by rfl, by (intro w hSw; (try dsimp only at hSw); go_simp )⟩
          simp only [Act.put, List.setIfInBounds_toArray, List.set_cons_zero, List.set_cons_succ]
          refine wpAnyH_take (i := 5) (oi := ?oi30) (v := .string (strB fl)) ?hi30 (by kernel_rfl) (by kernel_rfl) (by kernel_rfl) ?hQ30 ?hy30 (by assumption) ?rest30
          case hi30 => (simp only [List.getElem?_toArray, List.getElem?_cons_zero, List.getElem?_cons_succ]; rfl)
          case hQ30 => exact fun _ _ _ h => h
          case hy30 => exact Or.inl ⟨by rfl, fun U hU => ex_str (HBV.out.bel hU) 5 Tryd.underlying26 Tryd.underlying5 und_str rfl⟩
          simp only [Act.put, List.setIfInBounds_toArray, List.set_cons_zero, List.set_cons_succ]
          refine wpAnyH_take (i := 6) (oi := ?oi31) (v := .bool sm) ?hi31 (by kernel_rfl) (by kernel_rfl) (by kernel_rfl) ?hQ31 ?hy31 (by assumption) ?rest31
          case hi31 => (simp only [List.getElem?_toArray, List.getElem?_cons_zero, List.getElem?_cons_succ]; rfl)
          case hQ31 => exact fun _ _ _ h => h
          case hy31 => exact Or.inl ⟨by rfl, fun U hU => (ex_seq (strB y) (strB fl) rfl rfl U).trans (by rw [strB_inj HXR.out.lt HBV.out.lt, HSM2.out])⟩
          simp only [Act.put, List.setIfInBounds_toArray, List.set_cons_zero, List.set_cons_succ]
          refine wpAnyH_take (i := 7) (oi := ?oi32) (v := .bool false) ?hi32 (by kernel_rfl) (by kernel_rfl) (by kernel_rfl) ?hQ32 ?hy32 (by assumption) ?rest32
          case hi32 => (simp only [List.getElem?_toArray, List.getElem?_cons_zero, List.getElem?_cons_succ]; rfl)
          case hQ32 => exact fun _ _ _ h => h
          case hy32 => exact Or.inl ⟨by rfl, by (intro w hSw; go_simp)⟩
          simp only [Act.put, List.setIfInBounds_toArray, List.set_cons_zero, List.set_cons_succ]
          refine wpAnyH_done (by kernel_rfl) ?_ _
          clear hHeld
          have HTO := hide (HBV.out.to HQL.out)
          go_wp2_with (first | ((with_reducible refine g_toE (v' := .slice ab q cb) HBV.out q ?_ HQL.out und_sl siz_sl ?_ ?_ ?_ ?_); exact rfl; exact rfl; exact rfl; exact rfl) | (go_at_call 17; (with_reducible refine (HDQ.out _ _ (HG.out _ hb) HTO.out (Nat.le_refl _)).mono ?_); rintro e W6 ⟨vm6, rfl, _, hb2⟩; replace hb := below_bl rfl hb hb2; clear hb2) | (go_at_call 10; (with_reducible refine (HS.out _ (HG.out _ hb)).mono ?_); rintro e W ⟨rfl, hb2⟩; replace hb := below_bl rfl hb hb2; clear hb2))
          go_ret
          exact ⟨rfl, hb⟩
  · have hen : ¬ encE L = 0 := he
    rw [errS, if_neg he] at HE
    clear h hG hlg hLok he h0 hen hyl hy4
    go_enter Tryd.func8, Tryd.ntmps8
    go_wp2_with (first | ((with_reducible refine op_box w.heap.size ?_ (byV y4).toArray ?_ ?_); exact rfl; exact rfl; intro W hrw hb hz; have HRW := hide hrw; have HZ0 := hide hz.out; clear hrw hz) | (go_at_call 9; (with_reducible refine (HL.out _ hb).mono ?_); rintro e w1 ⟨rfl, rfl⟩) | (go_at_call 12; (with_reducible refine (HGV.out _ (HSE.out _ hb) hb.size).mono ?_); rintro e W ⟨vg, rfl, hog, hb2⟩; have hsg := hog.secs (Nat.le_trans hb.size hb2.size); replace hb := below_bl rfl hb hb2; replace HRW := hide (HRW.out.bl hb2); have HGS := hide hsg; clear hog hb2 hsg) | (go_at_call 11; (with_reducible refine (HE.out _ _ _ (HG.out _ hb) HGS.out (Nat.le_refl _)).mono ?_); rintro e W ⟨vx, rfl, hr, hb2⟩; replace hb := below_bl rfl hb hb2; replace HRW := hide (HRW.out.bl hb2); clear hr hb2) | (go_at_call 10; (with_reducible refine (HS.out _ (HG.out _ hb)).mono ?_); rintro e W ⟨rfl, hb2⟩; replace hb := below_bl rfl hb hb2; clear hb2))
    go_ret
    exact ⟨rfl, hb⟩
end Go.Proofs.YtkahkkcbigifiaaDoor
