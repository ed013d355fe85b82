/-
  TlvDecodes and TlvBack, walked.
-/
import Derived.Test.YtkahkkcbigifiaaDoorTvEncW
namespace Go.Proofs.YtkahkkcbigifiaaDoor
open Go.RowKit
set_option linter.unusedVariables false
set_option linter.unusedSimpArgs false

set_option maxRecDepth 100000 in
set_option maxHeartbeats 8000000 in
theorem decodes_walk {Gd : World → Prop} (C : Con Gd) {v : Value} {l : List Nat} (w : World) (h : Rd w.heap.size w v l) (hH : HandleAt w) (hG : Gd w) :
    Calls Tryd.prog 4 #[v] w fun e w' => e = .returned (.bool true) ∧ Below w.heap.size w w' := by
  have HS := hide (fun W hg => tsure_any C W hg)
  have HG := hide (fun W hb => C.bel w W hG hb)
  obtain ⟨ad, cap, rfl, hcap, hmax⟩ := h.form
  have hb : Below w.heap.size w w := Below.refl _ w
  by_cases hbig : 20000 < l.length
  · clear h hG hH
    go_enter Tryd.func4, Tryd.ntmps4
    go_wp2_with ((go_at_call 10; (with_reducible refine (HS.out _ (HG.out _ hb)).mono ?_); rintro e W ⟨rfl, hb2⟩; replace hb := below_bl rfl hb hb2; clear hb2))
    go_ret
    exact ⟨rfl, hb⟩
  · have hle : l.length ≤ 20000 := by omega
    have HH := hide (fun W (hb : Below w.heap.size w W) => hH.below hb)
    have HR := hide (fun W (hb : Below w.heap.size w W) => h.bel hb)
    have HD := hide (fun (W : World) (B : Nat) (hg : Gd W) hR hB => C.dec W B (.slice ad l.length cap) l hg hR hB (by omega))
    have HRD := hide (fun W hR hB => rdecode_any (B := w.heap.size) (v := .slice ad l.length cap) (b := l) W hR hB (by omega))
    have HSM := hide (fun (W : World) (A B : Nat) (va vb : Value) ha hb hA hB => same_any (A := A) (B := B) (va := va) (vb := vb) (L := decM l) W ha hb hA hB)
    have HN1 := hide (fun W hg => nums_any (decE l) W hg)
    generalize decM l = M at *
    generalize decV l = vr at *
    generalize decE l = e1 at *
    generalize hev1 : errS e1 = ev1 at *
    clear h hG hH hbig hev1
    go_enter Tryd.func4, Tryd.ntmps4
    go_wp2_with (first | (go_at_call 17; (with_reducible refine (HD.out _ _ (HG.out _ hb) (HR.out _ hb) hb.size).mono ?_); rintro e W ⟨v1, rfl, hs, hb2⟩; have HS1 := hide hs; replace hb := below_bl rfl hb hb2; clear hs hb2) | (go_at_call 18; (with_reducible refine (HRD.out _ (HR.out _ hb) hb.size).mono ?_); rintro e W ⟨v2, rfl, hs, hb2⟩; replace HS1 := hide ((HS1.out.bel hb2).mono hb2.size); have HS2 := hide hs; replace hb := below_bl rfl hb hb2; clear hs hb2) | (go_at_call 19; (with_reducible refine (HSM.out _ _ _ _ _ HS1.out HS2.out (Nat.le_refl _) (Nat.le_refl _)).mono ?_); rintro e W ⟨rfl, hb2⟩; replace hb := below_bl rfl hb hb2; clear hb2) | (go_at_call 16; (with_reducible refine (HN1.out _ (HH.out _ hb)).mono ?_); rintro e W ⟨rfl, hb2⟩; replace hb := below_bl rfl hb hb2; clear hb2) | (go_at_call 10; (with_reducible refine (HS.out _ (HG.out _ hb)).mono ?_); rintro e W ⟨rfl, hb2⟩; replace hb := below_bl rfl hb hb2; clear hb2))
    go_ret
    exact ⟨rfl, hb⟩
set_option maxRecDepth 100000 in
set_option maxHeartbeats 8000000 in
theorem back_walk {Gd : World → Prop} (C : Con Gd) (ver : Nat) (hv : ver < 4294967296) {v vb : Value} {L : List Sct} {l : List Nat} (w : World) (h : Secs w.heap.size w v L) (hl : Rd w.heap.size w vb l) (htot : totL (L.take 5000) ≤ 4611686018427387904) (hG : Gd w) :
    Calls Tryd.prog 7 #[.int .u32 (ver : Nat), v, vb] w fun e w' => e = .returned (.bool true) ∧ Below w.heap.size w w' := by
  have HL := hide (long_any w h htot)
  have HS := hide (fun W hg => tsure_any C W hg)
  have HG := hide (fun W hb => C.bel w W hG hb)
  obtain ⟨ad, cap, rfl, hcap, hmax⟩ := h.form
  obtain ⟨bd, bcap, rfl, hbcap, hbmax⟩ := hl.form
  have hb : Below w.heap.size w w := Below.refl _ w
  cases hlg : longB L with
  | true =>
    rw [hlg] at HL
    clear h hl hG hlg
    go_enter Tryd.func7, Tryd.ntmps7
    go_wp2_with (first | (go_at_call 9; (with_reducible refine (HL.out).mono ?_); rintro e w1 ⟨rfl, rfl⟩) | (go_at_call 10; (with_reducible refine (HS.out _ (HG.out _ hb)).mono ?_); rintro e W ⟨rfl, hb2⟩; replace hb := below_bl rfl hb hb2; clear hb2))
    go_ret
    exact ⟨rfl, hb⟩
  | false =>
  rw [hlg] at HL
  by_cases hbig : 20000 < l.length
  · clear h hl hG hlg
    go_enter Tryd.func7, Tryd.ntmps7
    go_wp2_with (first | (go_at_call 9; (with_reducible refine (HL.out).mono ?_); rintro e w1 ⟨rfl, rfl⟩) | (go_at_call 10; (with_reducible refine (HS.out _ (HG.out _ hb)).mono ?_); rintro e W ⟨rfl, hb2⟩; replace hb := below_bl rfl hb hb2; clear hb2))
    go_ret
    exact ⟨rfl, hb⟩
  have hle : l.length ≤ 20000 := by omega
  obtain ⟨h200, h20, hsz⟩ := not_long hlg
  have hLok := h.ok fun s hs => by have := b_le L s hs; omega
  have HSE := hide (fun W (hb : Below w.heap.size w W) => h.bel hb)
  have HR := hide (fun W (hb : Below w.heap.size w W) => hl.bel hb)
  have HGV := hide (fun W hR hB => give_any (B := w.heap.size) (v := .slice ad L.length cap) (L := L) W hR hB (by omega))
  have HE := hide (fun (W : World) (B : Nat) (v : Value) (hg : Gd W) hR hB => C.enc W B v L ver hg hR hB hv (by omega) (by omega))
  have HSM := hide (fun (W : World) (A B : Nat) (va vb : Value) ha hb hA hB => same_any (A := A) (B := B) (va := va) (vb := vb) (L := L) W ha hb hA hB)
  have HD2 := hide (fun (W : World) (B : Nat) (hg : Gd W) hR hB => C.dec W B (.slice bd l.length bcap) l hg hR hB (by omega))
  have HLT := hide hl.lt
  have h0 : errS 0 = .nilIface := rfl
  have hdl : ∀ q, decL l = .inr q → encE q.2 = 0 ∧ fileL q.1 q.2 = l ∧ q.1 < 4294967296 ∧ q.2.length ≤ 4096 ∧ sizeL q.2 ≤ 100000 := fun q hq => by
    obtain ⟨f1, f2, f3, f4⟩ := file_dec l hl.lt q.1 q.2 hq
    have f5 := file_len q.1 q.2
    rw [f2] at f5
    refine ⟨f1, f2, f3, ?_, by omega⟩
    unfold encE at f1
    split at f1
    · cases f1
    split at f1
    · cases f1
    omega
  by_cases he : encE L = 0
  · have hdf := dec_fine (dec_file ver L hv hLok he)
    have hfl := file_len ver L
    rw [he, encB, if_pos he, h0] at HE
    have HD1 := hide (fun (W : World) (B : Nat) (v : Value) (hg : Gd W) (hR : Rd B W v (fileL ver L)) hB => C.dec W B v _ hg hR hB (by rw [hfl]; omega))
    rw [hdf.1, hdf.2.1, hdf.2.2, h0] at HD1
    generalize fileL ver L = fl at *
    cases hd : decL l with
    | inl e2 =>
      have hf := dec_err hd
      have hp := dec_pos hd
      rw [hf.1, hf.2.1, hf.2.2, errS, if_neg (by omega)] at HD2
      clear h hl hG hlg hdl hLok hdf hfl hd hf he h0
      go_enter Tryd.func7, Tryd.ntmps7
      go_wp2_with (first | (go_at_call 9; (with_reducible refine (HL.out).mono ?_); rintro e w1 ⟨rfl, rfl⟩) | (go_at_call 12; (with_reducible refine (HGV.out _ (HSE.out _ hb) hb.size).mono ?_); rintro e W ⟨vg, rfl, hog, hb2⟩; have hsg := hog.secs (Nat.le_trans hb.size hb2.size); replace hb := below_bl rfl hb hb2; have HGS := hide hsg; clear hog hb2 hsg) | (go_at_call 11; (with_reducible refine (HE.out _ _ _ (HG.out _ hb) HGS.out (Nat.le_refl _)).mono ?_); rintro e W ⟨vx, rfl, hr, hb2⟩; have HX := hide hr; replace hb := below_bl rfl hb hb2; clear hr hb2) | (go_at_call 17; (with_reducible refine (HD1.out _ _ _ (HG.out _ hb) HX.out (Nat.le_refl _)).mono ?_); rintro e W ⟨vm, rfl, hs, hb2⟩; have HS1 := hide hs; replace hb := below_bl rfl hb hb2; clear hs hb2) | (go_at_call 19; (with_reducible refine (HSM.out _ _ _ _ _ HS1.out (HSE.out _ hb) (Nat.le_refl _) hb.size).mono ?_); rintro e W ⟨rfl, hb2⟩; replace hb := below_bl rfl hb hb2; clear hb2) | (go_at_call 17; (with_reducible refine (HD2.out _ _ (HG.out _ hb) (HR.out _ hb) hb.size).mono ?_); rintro e W ⟨vm2, rfl, hs, hb2⟩; have HS2 := hide hs; replace hb := below_bl rfl hb hb2; clear hs hb2) | (go_at_call 10; (with_reducible refine (HS.out _ (HG.out _ hb)).mono ?_); rintro e W ⟨rfl, hb2⟩; replace hb := below_bl rfl hb hb2; clear hb2))
      go_ret
      exact ⟨rfl, hb⟩
    | inr q =>
      obtain ⟨g1, g2, g3, g4, g5⟩ := hdl q hd
      have hf := dec_fine (v := q.1) (L := q.2) hd
      rw [hf.1, hf.2.1, hf.2.2, h0] at HD2
      have HE2 := hide (fun (W : World) (B : Nat) (v : Value) (hg : Gd W) hR hB => C.enc W B v q.2 q.1 hg hR hB g3 g4 g5)
      rw [g1, encB, if_pos g1, g2, h0] at HE2
      obtain ⟨q1, q2⟩ := q
      simp only at HE2 HD2
      clear h hl hG hlg hdl hLok hdf hfl hd hf he h0 g1 g2 g3 g4 g5
      go_enter Tryd.func7, Tryd.ntmps7
      go_wp2_with (first | (go_at_call 9; (with_reducible refine (HL.out).mono ?_); rintro e w1 ⟨rfl, rfl⟩) | (go_at_call 12; (with_reducible refine (HGV.out _ (HSE.out _ hb) hb.size).mono ?_); rintro e W ⟨vg, rfl, hog, hb2⟩; have hsg := hog.secs (Nat.le_trans hb.size hb2.size); replace hb := below_bl rfl hb hb2; have HGS := hide hsg; clear hog hb2 hsg) | (go_at_call 11; (with_reducible refine (HE.out _ _ _ (HG.out _ hb) HGS.out (Nat.le_refl _)).mono ?_); rintro e W ⟨vx, rfl, hr, hb2⟩; have HX := hide hr; replace hb := below_bl rfl hb hb2; clear hr hb2) | (go_at_call 17; (with_reducible refine (HD1.out _ _ _ (HG.out _ hb) HX.out (Nat.le_refl _)).mono ?_); rintro e W ⟨vm, rfl, hs, hb2⟩; have HS1 := hide hs; replace hb := below_bl rfl hb hb2; clear hs hb2) | (go_at_call 19; (with_reducible refine (HSM.out _ _ _ _ _ HS1.out (HSE.out _ hb) (Nat.le_refl _) hb.size).mono ?_); rintro e W ⟨rfl, hb2⟩; replace hb := below_bl rfl hb hb2; clear hb2) | (go_at_call 17; (with_reducible refine (HD2.out _ _ (HG.out _ hb) (HR.out _ hb) hb.size).mono ?_); rintro e W ⟨vm2, rfl, hs, hb2⟩; have HS2 := hide hs; replace hb := below_bl rfl hb hb2; clear hs hb2) | (go_at_call 11; (with_reducible refine (HE2.out _ _ _ (HG.out _ hb) HS2.out (Nat.le_refl _)).mono ?_); rintro e W ⟨vy, rfl, hr, hb2⟩; have HY := hide hr; replace hb := below_bl rfl hb hb2; have HRV := hide (HR.out _ hb); clear hr hb2) | ((with_reducible refine g_str HY.out 5 Tryd.underlying26 Tryd.underlying5 und_str ?_ ?_ ?_); exact rfl; exact rfl) | ((with_reducible refine g_str HRV.out 5 Tryd.underlying26 Tryd.underlying5 und_str ?_ ?_ ?_); exact rfl; exact rfl) | (go_at_call 10; (with_reducible refine (HS.out _ (HG.out _ hb)).mono ?_); rintro e W ⟨rfl, hb2⟩; replace hb := below_bl rfl hb hb2; clear hb2))
      go_ret
      exact ⟨rfl, hb⟩
  · rw [errS, if_neg he] at HE
    cases hd : decL l with
    | inl e2 =>
      have hf := dec_err hd
      have hp := dec_pos hd
      rw [hf.1, hf.2.1, hf.2.2, errS, if_neg (by omega)] at HD2
      clear h hl hG hlg hdl hLok hd hf he h0
      go_enter Tryd.func7, Tryd.ntmps7
      go_wp2_with (first | (go_at_call 9; (with_reducible refine (HL.out).mono ?_); rintro e w1 ⟨rfl, rfl⟩) | (go_at_call 12; (with_reducible refine (HGV.out _ (HSE.out _ hb) hb.size).mono ?_); rintro e W ⟨vg, rfl, hog, hb2⟩; have hsg := hog.secs (Nat.le_trans hb.size hb2.size); replace hb := below_bl rfl hb hb2; have HGS := hide hsg; clear hog hb2 hsg) | (go_at_call 11; (with_reducible refine (HE.out _ _ _ (HG.out _ hb) HGS.out (Nat.le_refl _)).mono ?_); rintro e W ⟨vx, rfl, hr, hb2⟩; have HX := hide hr; replace hb := below_bl rfl hb hb2; clear hr hb2) | (go_at_call 17; (with_reducible refine (HD2.out _ _ (HG.out _ hb) (HR.out _ hb) hb.size).mono ?_); rintro e W ⟨vm2, rfl, hs, hb2⟩; have HS2 := hide hs; replace hb := below_bl rfl hb hb2; clear hs hb2) | (go_at_call 10; (with_reducible refine (HS.out _ (HG.out _ hb)).mono ?_); rintro e W ⟨rfl, hb2⟩; replace hb := below_bl rfl hb hb2; clear hb2))
      go_ret
      exact ⟨rfl, hb⟩
    | inr q =>
      obtain ⟨g1, g2, g3, g4, g5⟩ := hdl q hd
      have hf := dec_fine (v := q.1) (L := q.2) hd
      rw [hf.1, hf.2.1, hf.2.2, h0] at HD2
      have HE2 := hide (fun (W : World) (B : Nat) (v : Value) (hg : Gd W) hR hB => C.enc W B v q.2 q.1 hg hR hB g3 g4 g5)
      rw [g1, encB, if_pos g1, g2, h0] at HE2
      obtain ⟨q1, q2⟩ := q
      simp only at HE2 HD2
      clear h hl hG hlg hdl hLok hd hf he h0 g1 g2 g3 g4 g5
      go_enter Tryd.func7, Tryd.ntmps7
      go_wp2_with (first | (go_at_call 9; (with_reducible refine (HL.out).mono ?_); rintro e w1 ⟨rfl, rfl⟩) | (go_at_call 12; (with_reducible refine (HGV.out _ (HSE.out _ hb) hb.size).mono ?_); rintro e W ⟨vg, rfl, hog, hb2⟩; have hsg := hog.secs (Nat.le_trans hb.size hb2.size); replace hb := below_bl rfl hb hb2; have HGS := hide hsg; clear hog hb2 hsg) | (go_at_call 11; (with_reducible refine (HE.out _ _ _ (HG.out _ hb) HGS.out (Nat.le_refl _)).mono ?_); rintro e W ⟨vx, rfl, hr, hb2⟩; have HX := hide hr; replace hb := below_bl rfl hb hb2; clear hr hb2) | (go_at_call 17; (with_reducible refine (HD2.out _ _ (HG.out _ hb) (HR.out _ hb) hb.size).mono ?_); rintro e W ⟨vm2, rfl, hs, hb2⟩; have HS2 := hide hs; replace hb := below_bl rfl hb hb2; clear hs hb2) | (go_at_call 11; (with_reducible refine (HE2.out _ _ _ (HG.out _ hb) HS2.out (Nat.le_refl _)).mono ?_); rintro e W ⟨vy, rfl, hr, hb2⟩; have HY := hide hr; replace hb := below_bl rfl hb hb2; have HRV := hide (HR.out _ hb); clear hr hb2) | ((with_reducible refine g_str HY.out 5 Tryd.underlying26 Tryd.underlying5 und_str ?_ ?_ ?_); exact rfl; exact rfl) | ((with_reducible refine g_str HRV.out 5 Tryd.underlying26 Tryd.underlying5 und_str ?_ ?_ ?_); exact rfl; exact rfl) | (go_at_call 10; (with_reducible refine (HS.out _ (HG.out _ hb)).mono ?_); rintro e W ⟨rfl, hb2⟩; replace hb := below_bl rfl hb hb2; clear hb2))
      go_ret
      exact ⟨rfl, hb⟩
end Go.Proofs.YtkahkkcbigifiaaDoor
