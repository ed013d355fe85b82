/-
  TlvLays, walked.
-/
import Derived.Test.YtkahkkcbigifiaaDoorTvLyA
namespace Go.Proofs.YtkahkkcbigifiaaDoor
open Go.RowKit
set_option linter.unusedVariables false
set_option linter.unusedSimpArgs false

theorem apart_drew {p : Nat} {u : Value} {w : World} {v : Value} {l : List Nat} (h : Apart p u w v l) : Apart p u w.drew v l := h
set_option maxRecDepth 100000 in
set_option maxHeartbeats 8000000 in
theorem lays_walk {v : Value} {A : List ThingS} (w : World) (hA : ThingsAt w.heap.size w v A) (hR : ∀ s ∈ A, s.b.length ≤ 1048576) (hT : TabAt w) :
    Calls Tryd.prog 6 #[v] w fun e w' => e = .returned (.bool true) ∧ Below w.heap.size w w' := by
  have HA := hide hA
  have HV := hide hA.1
  have HRB := hide hR
  have HT := hide hT
  have HNO := hide (newOutQ_any w)
  have HSU := hide (fun W hg => tsure_any con_tab W hg)
  obtain ⟨la, cap, hlv, hlcap, hlmax⟩ := ElemsAt.form hA.2
  subst hlv
  obtain ⟨len, hlen⟩ : ∃ q, A.length = q := ⟨_, rfl⟩
  have HLEN := hide hlen
  rw [hlen] at hlcap ⊢
  obtain ⟨n, hnn⟩ : ∃ q, min len 60 = q := ⟨_, rfl⟩
  have hn60 : n ≤ 60 := by omega
  have hnl : n ≤ len := by omega
  have HLN := hide (fun (k : Nat) (hk : k ≤ 60) => show (pcs (A.take k)).length ≤ 100000000 from Nat.le_trans (pcs_len A k hR) (by have := Nat.mul_le_mul hk (Nat.le_refl (1048576 + 8)); omega))
  clear hA hR hT hlen
  go_enter Tryd.func6, Tryd.ntmps6
  go_wp2_with (go_at_call 30; (with_reducible refine (HNO.out).mono ?_); rintro e W ⟨po, rfl, hpo, hq, hb⟩)
  go_loopw [3, 4, 5] (LzRel A po n w.heap.size w) (fun _ _ iv _ => n - (intOf iv).toNat)
  case atStart => exact ⟨0, _, Nat.zero_le _, rfl, rfl, hq, Apart.nil _ _ _, hb⟩
  case round =>
    clear hb hq
    obtain ⟨k, u, hk, rfl, rfl, hq, hap, hb⟩ := hrel
    have HQ := hide hq
    have HAP := hide hap
    clear hq hap
    by_cases hlt : k < n
    · obtain ⟨b, off, c', hv, _, _, hbB, HC⟩ := HA.out.all (by have := HLEN.out; omega)
      injection hv with hv hv2 hv3
      subst hv hv3
      clear hv2
      have hkA : k < A.length := by have := HLEN.out; omega
      have hlk : k < len := by omega
      have hk60 : k < 60 := by omega
      obtain ⟨c0, c1, c2, uu, c3, hrd⟩ := HC.out k hkA
      have hv64 := HV.out _ (List.getElem_mem hkA)
      have hblen := HRB.out _ (List.getElem_mem hkA)
      have HPC := hide (pcs_succ A k hkA)
      obtain ⟨s, hs⟩ : ∃ q, A[k] = q := ⟨_, rfl⟩
      rw [hs] at c0 c1 c2 hrd hv64 hblen HPC
      obtain ⟨ux, cx, rfl, _, _⟩ := hrd.form
      have HC1 := hide c1
      have HC2 := hide c2
      have HC3 := hide c3
      have HRX := hide hrd
      have HL := hide (HLN.out k (by omega))
      have hcc0 := (hb.cell (p := ⟨b, off + k * 4, none⟩) hbB).trans c0
      have hpow : po < wr.heap.size := HQ.out.1.lt
      have HOB := hide (HQ.out.own)
      obtain ⟨ab, cb, hbv, _, _⟩ := HAP.out.rd.form
      subst hbv
      clear c0 c1 c2 c3 hs hrd
      cases hrun : s.run with
      | true =>
        rw [hrun] at hcc0
        have HPR := hide (layR_piece (pcs (A.take k)) s hrun)
        have hcc3 := (hb.cell (p := ⟨b, off + k * 4 + 3, none⟩) hbB).trans HC3.out
        have HO := hide (outRG_any po (pcs (A.take k)) s.b u (.slice ux s.b.length cx) wr HQ.out ((HRX.out.bel hb).mono hpo) HL.out (by omega))
        obtain ⟨q, hqq⟩ : ∃ q, pcs (A.take k) = q := ⟨_, rfl⟩
        rw [hqq] at HO HAP HL HPR HPC HQ
        have hblen2 := hblen
        go_wp2_with (first | (go_at_call 28; (with_reducible refine (HO.out).mono ?_); rintro e W1 ⟨rfl, u2, hq2, htc, hnw⟩; have hb1 := hb.trans (htc.below hpo (fun k hk => Nat.le_trans hpo (Nat.le_trans (Nat.le_succ _) (HOB.out k hk).1)) hb.size); have HAP1 := hide (HAP.out.tch htc hnw); have hcc4 := (hb1.cell (p := ⟨b, off + k * 4 + 3, none⟩) hbB).trans HC3.out; replace hb := hb1; clear hb1 hcc3) | (go_at_call 31; (with_reducible refine (rRun_any _ HAP1.out.rd (HRX.out.bel hb) hb.size HL.out (by omega)).mono ?_); rintro e W2 ⟨vb, rfl, hown, hb2⟩; have hpo2 := hq2.1.lt; have hub := (fun k hk => (hq2.own k hk).2 : ∀ k, u2.ownBlock = some k → k < W1.heap.size); replace hb := below_bl rfl hb hb2))
        go_roundw
        case rel => exact ⟨k + 1, u2, hlt, by go_num, rfl, by rw [HPC.out, ← HPR.out]; exact hq2.bl hb2, by rw [HPC.out, ← HPR.out]; exact hown.apart hpo2 hub, hb⟩
        case measure => simp [intOf]; omega
      | false =>
        rw [hrun] at hcc0
        have HPR := hide (layN_piece (pcs (A.take k)) s hrun)
        have HO := hide (outNG_any po (pcs (A.take k)) u wr HQ.out HL.out s.v hv64 s.n)
        obtain ⟨q, hqq⟩ : ∃ q, pcs (A.take k) = q := ⟨_, rfl⟩
        rw [hqq] at HO HAP HL HPR HPC HQ
        go_wp2
        refine wp_region_held_drew (S := (fun U => Below w.heap.size w U)) (by kernel_rfl) ?_ (fun hHeld => ?_)
        · exact hb.drew
        have HQ1 := hide (HQ.out.bl (Below.refl _ wr).drew)
        have HAP0 := hide (apart_drew HAP.out)
        have hbw := hb.drew
        generalize wr.drew = V at hHeld HQ1 HAP0 hbw ⊢
        refine wpAnyH_take (i := 0) (oi := ?oi1) (v := .pointer (some ⟨po, 0, none⟩)) ?hi1 (by kernel_rfl) (by kernel_rfl) (by kernel_rfl) ?hQ1 ?hy1 (by assumption) ?rest1
        case hi1 => (simp only [List.getElem?_toArray, List.getElem?_cons_zero]; rfl)
        case hQ1 => exact fun _ _ _ h => h
        case hy1 => exact Or.inl ⟨by rfl, by (intro w hSw; (try dsimp only at hSw); go_simp )⟩
        simp only [Act.put, List.setIfInBounds_toArray, List.set_cons_zero, List.set_cons_succ]
        refine wpAnyH_take (i := 1) (oi := ?oi2) (v := .slice (some ⟨b, off, none⟩) len cap) ?hi2 (by kernel_rfl) (by kernel_rfl) (by kernel_rfl) ?hQ2 ?hy2 (by assumption) ?rest2
        case hi2 => (simp only [List.getElem?_toArray, List.getElem?_cons_zero, List.getElem?_cons_succ]; rfl)
        case hQ2 => exact fun _ _ _ h => h
        case hy2 => exact Or.inl ⟨by rfl, by (intro w hSw; (try dsimp only at hSw); go_simp )⟩
        simp only [Act.put, List.setIfInBounds_toArray, List.set_cons_zero, List.set_cons_succ]
        refine wpAnyH_take (i := 2) (oi := ?oi3) (v := .int .i64 (k : Nat)) ?hi3 (by kernel_rfl) (by kernel_rfl) (by kernel_rfl) ?hQ3 ?hy3 (by assumption) ?rest3
        case hi3 => (simp only [List.getElem?_toArray, List.getElem?_cons_zero, List.getElem?_cons_succ]; rfl)
        case hQ3 => exact fun _ _ _ h => h
        case hy3 => exact Or.inl ⟨by rfl, by (intro w hSw; (try dsimp only at hSw); go_simp )⟩
        simp only [Act.put, List.setIfInBounds_toArray, List.set_cons_zero, List.set_cons_succ]
        refine wpAnyH_take (i := 3) (oi := ?oi4) (v := .pointer (some ⟨b, off + k * 4, none⟩)) ?hi4 (by kernel_rfl) (by kernel_rfl) (by kernel_rfl) ?hQ4 ?hy4 (by assumption) ?rest4
        case hi4 => (simp only [List.getElem?_toArray, List.getElem?_cons_zero, List.getElem?_cons_succ]; rfl)
        case hQ4 => exact fun _ _ _ h => h
        case hy4 => exact Or.inl ⟨by rfl, fun U hU => ex_idxG b off len cap k (by omega) rfl rfl U⟩
        simp only [Act.put, List.setIfInBounds_toArray, List.set_cons_zero, List.set_cons_succ]
        refine wpAnyH_take (i := 4) (oi := ?oi5) (v := .pointer (some ⟨b, off + k * 4 + 1, none⟩)) ?hi5 (by kernel_rfl) (by kernel_rfl) (by kernel_rfl) ?hQ5 ?hy5 (by assumption) ?rest5
        case hi5 => (simp only [List.getElem?_toArray, List.getElem?_cons_zero, List.getElem?_cons_succ]; rfl)
        case hQ5 => exact fun _ _ _ h => h
        case hy5 => exact Or.inl ⟨by rfl, by (intro w hSw; (try dsimp only at hSw); go_simp )⟩
        simp only [Act.put, List.setIfInBounds_toArray, List.set_cons_zero, List.set_cons_succ]
        refine wpAnyH_take (i := 5) (oi := ?oi6) (v := .int .u64 (s.v : Nat)) ?hi6 (by kernel_rfl) (by kernel_rfl) (by kernel_rfl) ?hQ6 ?hy6 (by assumption) ?rest6
        case hi6 => (simp only [List.getElem?_toArray, List.getElem?_cons_zero, List.getElem?_cons_succ]; rfl)
        case hQ6 => exact fun _ _ _ h => h
        case hy6 => exact y_any b (off + k * 4 + 1) _ (fun U hU => (hU.cell (p := ⟨b, off + k * 4 + 1, none⟩) hbB).trans HC1.out) _ Tryd.underlying55 rfl rfl rfl
        simp only [Act.put, List.setIfInBounds_toArray, List.set_cons_zero, List.set_cons_succ]
        refine wpAnyH_take (i := 6) (oi := ?oi7) (v := .slice (some ⟨b, off, none⟩) len cap) ?hi7 (by kernel_rfl) (by kernel_rfl) (by kernel_rfl) ?hQ7 ?hy7 (by assumption) ?rest7
        case hi7 => (simp only [List.getElem?_toArray, List.getElem?_cons_zero, List.getElem?_cons_succ]; rfl)
        case hQ7 => exact fun _ _ _ h => h
        case hy7 => exact Or.inl ⟨by rfl, by (intro w hSw; (try dsimp only at hSw); go_simp )⟩
        simp only [Act.put, List.setIfInBounds_toArray, List.set_cons_zero, List.set_cons_succ]
        refine wpAnyH_take (i := 7) (oi := ?oi8) (v := .int .i64 (k : Nat)) ?hi8 (by kernel_rfl) (by kernel_rfl) (by kernel_rfl) ?hQ8 ?hy8 (by assumption) ?rest8
        case hi8 => (simp only [List.getElem?_toArray, List.getElem?_cons_zero, List.getElem?_cons_succ]; rfl)
        case hQ8 => exact fun _ _ _ h => h
        case hy8 => exact Or.inl ⟨by rfl, by (intro w hSw; (try dsimp only at hSw); go_simp )⟩
        simp only [Act.put, List.setIfInBounds_toArray, List.set_cons_zero, List.set_cons_succ]
        refine wpAnyH_take (i := 8) (oi := ?oi9) (v := .pointer (some ⟨b, off + k * 4, none⟩)) ?hi9 (by kernel_rfl) (by kernel_rfl) (by kernel_rfl) ?hQ9 ?hy9 (by assumption) ?rest9
        case hi9 => (simp only [List.getElem?_toArray, List.getElem?_cons_zero, List.getElem?_cons_succ]; rfl)
        case hQ9 => exact fun _ _ _ h => h
        case hy9 => exact Or.inl ⟨by rfl, fun U hU => ex_idxG b off len cap k (by omega) rfl rfl U⟩
        simp only [Act.put, List.setIfInBounds_toArray, List.set_cons_zero, List.set_cons_succ]
        refine wpAnyH_take (i := 9) (oi := ?oi10) (v := .pointer (some ⟨b, off + k * 4 + 2, none⟩)) ?hi10 (by kernel_rfl) (by kernel_rfl) (by kernel_rfl) ?hQ10 ?hy10 (by assumption) ?rest10
        case hi10 => (simp only [List.getElem?_toArray, List.getElem?_cons_zero, List.getElem?_cons_succ]; rfl)
        case hQ10 => exact fun _ _ _ h => h
        case hy10 => exact Or.inl ⟨by rfl, by (intro w hSw; (try dsimp only at hSw); go_simp )⟩
        simp only [Act.put, List.setIfInBounds_toArray, List.set_cons_zero, List.set_cons_succ]
        refine wpAnyH_take (i := 10) (oi := ?oi11) (v := .int .i64 s.n) ?hi11 (by kernel_rfl) (by kernel_rfl) (by kernel_rfl) ?hQ11 ?hy11 (by assumption) ?rest11
        case hi11 => (simp only [List.getElem?_toArray, List.getElem?_cons_zero, List.getElem?_cons_succ]; rfl)
        case hQ11 => exact fun _ _ _ h => h
        case hy11 => exact y_any b (off + k * 4 + 2) _ (fun U hU => (hU.cell (p := ⟨b, off + k * 4 + 2, none⟩) hbB).trans HC2.out) _ Tryd.underlying3 rfl rfl rfl
        simp only [Act.put, List.setIfInBounds_toArray, List.set_cons_zero, List.set_cons_succ]
        refine wpAnyH_ready (rs := [11]) (by kernel_rfl) (by simp) ?_
        refine AllReadyH.cons (o := ?oi12) ?hi12 (fun K hK => ?_) AllReadyH.nil
        case hi12 => (simp only [List.getElem?_toArray, List.getElem?_cons_zero, List.getElem?_cons_succ]; rfl)
        rw [if_pos (by rfl)]
        go_simp
        refine (outNG_any po q u V HQ1.out HL.out s.v hv64 s.n).mono ?_
        rintro e V2 ⟨rfl, u2, hq2, htc, hnw⟩
        have hH2 := hide (hHeld.trans (htc.below hpo (fun k hk => Nat.le_trans hpo (Nat.le_trans (Nat.le_succ _) (HQ1.out.own k hk).1)) hHeld.size))
        have HAP1 := hide (HAP0.out.tch htc hnw)
        clear hHeld htc hnw
        go_simp
        refine hK.out _ _ ?_ (fun hHeld => ?_)
        · exact hH2.out
        clear hK K
        refine wpAnyH_take (i := 12) (oi := ?oi13) (v := .pointer (some ⟨po, 0, none⟩)) ?hi13 (by kernel_rfl) (by kernel_rfl) (by kernel_rfl) ?hQ13 ?hy13 (by assumption) ?rest13
        case hi13 => (simp only [List.getElem?_toArray, List.getElem?_cons_zero, List.getElem?_cons_succ]; rfl)
        case hQ13 => exact fun _ _ _ h => h
        case hy13 => exact Or.inl ⟨by rfl, by (intro w hSw; (try dsimp only at hSw); go_simp )⟩
        simp only [Act.put, List.setIfInBounds_toArray, List.set_cons_zero, List.set_cons_succ]
        refine wpAnyH_done (by kernel_rfl) ?_ _
        have hb := hHeld
        clear hHeld hH2 hbw
        go_wp2
        refine wp_region_held_drew (S := (fun U => Below w.heap.size w U)) (by kernel_rfl) ?_ (fun hHeld => ?_)
        · exact hb.drew
        have HQ2 := hide (hq2.bl (Below.refl _ V2).drew)
        have HAP2 := hide (apart_drew HAP1.out)
        generalize V2.drew = Z at hHeld HQ2 HAP2 ⊢
        refine wpAnyH_take (i := 0) (oi := ?oi14) (v := .slice ab q.length cb) ?hi14 (by kernel_rfl) (by kernel_rfl) (by kernel_rfl) ?hQ14 ?hy14 (by assumption) ?rest14
        case hi14 => (simp only [List.getElem?_toArray, List.getElem?_cons_zero]; rfl)
        case hQ14 => exact fun _ _ _ h => h
        case hy14 => exact Or.inl ⟨by rfl, by (intro w hSw; (try dsimp only at hSw); go_simp )⟩
        simp only [Act.put, List.setIfInBounds_toArray, List.set_cons_zero, List.set_cons_succ]
        refine wpAnyH_take (i := 1) (oi := ?oi15) (v := .slice (some ⟨b, off, none⟩) len cap) ?hi15 (by kernel_rfl) (by kernel_rfl) (by kernel_rfl) ?hQ15 ?hy15 (by assumption) ?rest15
        case hi15 => (simp only [List.getElem?_toArray, List.getElem?_cons_zero, List.getElem?_cons_succ]; rfl)
        case hQ15 => exact fun _ _ _ h => h
        case hy15 => exact Or.inl ⟨by rfl, by (intro w hSw; (try dsimp only at hSw); go_simp )⟩
        simp only [Act.put, List.setIfInBounds_toArray, List.set_cons_zero, List.set_cons_succ]
        refine wpAnyH_take (i := 2) (oi := ?oi16) (v := .int .i64 (k : Nat)) ?hi16 (by kernel_rfl) (by kernel_rfl) (by kernel_rfl) ?hQ16 ?hy16 (by assumption) ?rest16
        case hi16 => (simp only [List.getElem?_toArray, List.getElem?_cons_zero, List.getElem?_cons_succ]; rfl)
        case hQ16 => exact fun _ _ _ h => h
        case hy16 => exact Or.inl ⟨by rfl, by (intro w hSw; (try dsimp only at hSw); go_simp )⟩
        simp only [Act.put, List.setIfInBounds_toArray, List.set_cons_zero, List.set_cons_succ]
        refine wpAnyH_take (i := 3) (oi := ?oi17) (v := .pointer (some ⟨b, off + k * 4, none⟩)) ?hi17 (by kernel_rfl) (by kernel_rfl) (by kernel_rfl) ?hQ17 ?hy17 (by assumption) ?rest17
        case hi17 => (simp only [List.getElem?_toArray, List.getElem?_cons_zero, List.getElem?_cons_succ]; rfl)
        case hQ17 => exact fun _ _ _ h => h
        case hy17 => exact Or.inl ⟨by rfl, fun U hU => ex_idxG b off len cap k (by omega) rfl rfl U⟩
        simp only [Act.put, List.setIfInBounds_toArray, List.set_cons_zero, List.set_cons_succ]
        refine wpAnyH_take (i := 4) (oi := ?oi18) (v := .pointer (some ⟨b, off + k * 4 + 1, none⟩)) ?hi18 (by kernel_rfl) (by kernel_rfl) (by kernel_rfl) ?hQ18 ?hy18 (by assumption) ?rest18
        case hi18 => (simp only [List.getElem?_toArray, List.getElem?_cons_zero, List.getElem?_cons_succ]; rfl)
        case hQ18 => exact fun _ _ _ h => h
        case hy18 => exact Or.inl ⟨by rfl, by (intro w hSw; (try dsimp only at hSw); go_simp )⟩
        simp only [Act.put, List.setIfInBounds_toArray, List.set_cons_zero, List.set_cons_succ]
        refine wpAnyH_take (i := 5) (oi := ?oi19) (v := .int .u64 (s.v : Nat)) ?hi19 (by kernel_rfl) (by kernel_rfl) (by kernel_rfl) ?hQ19 ?hy19 (by assumption) ?rest19
        case hi19 => (simp only [List.getElem?_toArray, List.getElem?_cons_zero, List.getElem?_cons_succ]; rfl)
        case hQ19 => exact fun _ _ _ h => h
        case hy19 => exact y_any b (off + k * 4 + 1) _ (fun U hU => (hU.cell (p := ⟨b, off + k * 4 + 1, none⟩) hbB).trans HC1.out) _ Tryd.underlying55 rfl rfl rfl
        simp only [Act.put, List.setIfInBounds_toArray, List.set_cons_zero, List.set_cons_succ]
        refine wpAnyH_take (i := 6) (oi := ?oi20) (v := .slice (some ⟨b, off, none⟩) len cap) ?hi20 (by kernel_rfl) (by kernel_rfl) (by kernel_rfl) ?hQ20 ?hy20 (by assumption) ?rest20
        case hi20 => (simp only [List.getElem?_toArray, List.getElem?_cons_zero, List.getElem?_cons_succ]; rfl)
        case hQ20 => exact fun _ _ _ h => h
        case hy20 => exact Or.inl ⟨by rfl, by (intro w hSw; (try dsimp only at hSw); go_simp )⟩
        simp only [Act.put, List.setIfInBounds_toArray, List.set_cons_zero, List.set_cons_succ]
        refine wpAnyH_take (i := 7) (oi := ?oi21) (v := .int .i64 (k : Nat)) ?hi21 (by kernel_rfl) (by kernel_rfl) (by kernel_rfl) ?hQ21 ?hy21 (by assumption) ?rest21
        case hi21 => (simp only [List.getElem?_toArray, List.getElem?_cons_zero, List.getElem?_cons_succ]; rfl)
        case hQ21 => exact fun _ _ _ h => h
        case hy21 => exact Or.inl ⟨by rfl, by (intro w hSw; (try dsimp only at hSw); go_simp )⟩
        simp only [Act.put, List.setIfInBounds_toArray, List.set_cons_zero, List.set_cons_succ]
        refine wpAnyH_take (i := 8) (oi := ?oi22) (v := .pointer (some ⟨b, off + k * 4, none⟩)) ?hi22 (by kernel_rfl) (by kernel_rfl) (by kernel_rfl) ?hQ22 ?hy22 (by assumption) ?rest22
        case hi22 => (simp only [List.getElem?_toArray, List.getElem?_cons_zero, List.getElem?_cons_succ]; rfl)
        case hQ22 => exact fun _ _ _ h => h
        case hy22 => exact Or.inl ⟨by rfl, fun U hU => ex_idxG b off len cap k (by omega) rfl rfl U⟩
        simp only [Act.put, List.setIfInBounds_toArray, List.set_cons_zero, List.set_cons_succ]
        refine wpAnyH_take (i := 9) (oi := ?oi23) (v := .pointer (some ⟨b, off + k * 4 + 2, none⟩)) ?hi23 (by kernel_rfl) (by kernel_rfl) (by kernel_rfl) ?hQ23 ?hy23 (by assumption) ?rest23
        case hi23 => (simp only [List.getElem?_toArray, List.getElem?_cons_zero, List.getElem?_cons_succ]; rfl)
        case hQ23 => exact fun _ _ _ h => h
        case hy23 => exact Or.inl ⟨by rfl, by (intro w hSw; (try dsimp only at hSw); go_simp )⟩
        simp only [Act.put, List.setIfInBounds_toArray, List.set_cons_zero, List.set_cons_succ]
        refine wpAnyH_take (i := 10) (oi := ?oi24) (v := .int .i64 s.n) ?hi24 (by kernel_rfl) (by kernel_rfl) (by kernel_rfl) ?hQ24 ?hy24 (by assumption) ?rest24
        case hi24 => (simp only [List.getElem?_toArray, List.getElem?_cons_zero, List.getElem?_cons_succ]; rfl)
        case hQ24 => exact fun _ _ _ h => h
        case hy24 => exact y_any b (off + k * 4 + 2) _ (fun U hU => (hU.cell (p := ⟨b, off + k * 4 + 2, none⟩) hbB).trans HC2.out) _ Tryd.underlying3 rfl rfl rfl
        simp only [Act.put, List.setIfInBounds_toArray, List.set_cons_zero, List.set_cons_succ]
        refine wpAnyH_ready (rs := [11]) (by kernel_rfl) (by simp) ?_
        refine AllReadyH.cons (o := ?oi25) ?hi25 (fun K hK => ?_) AllReadyH.nil
        case hi25 => (simp only [List.getElem?_toArray, List.getElem?_cons_zero, List.getElem?_cons_succ]; rfl)
        rw [if_pos (by rfl)]
        go_simp
        refine (rN_any Z HAP2.out.rd HL.out s.v hv64 s.n).mono ?_
        rintro e Z2 ⟨vb, rfl, hown, hb2⟩
        have hpo2 := HQ2.out.1.lt
        have hub := (fun k hk => (HQ2.out.own k hk).2 : ∀ k, u2.ownBlock = some k → k < Z.heap.size)
        have hq3 := HQ2.out.bl hb2
        have hH2 := hide (below_bl rfl hHeld hb2)
        obtain ⟨a5, c5, hv5, _, _⟩ := hown.rd.form
        subst hv5
        clear hHeld
        go_simp
        refine hK.out _ _ ?_ (fun hHeld => ?_)
        · exact hH2.out
        clear hK K
        refine wpAnyH_take (i := 12) (oi := ?oi26) (v := .slice a5 (layN q s.v s.n).length c5) ?hi26 (by kernel_rfl) (by kernel_rfl) (by kernel_rfl) ?hQ26 ?hy26 (by assumption) ?rest26
        case hi26 => (simp only [List.getElem?_toArray, List.getElem?_cons_zero, List.getElem?_cons_succ]; rfl)
        case hQ26 => exact fun _ _ _ h => h
        case hy26 => exact Or.inl ⟨by rfl, by (intro w hSw; (try dsimp only at hSw); go_simp )⟩
        simp only [Act.put, List.setIfInBounds_toArray, List.set_cons_zero, List.set_cons_succ]
        refine wpAnyH_done (by kernel_rfl) ?_ _
        have hb := hHeld
        clear hHeld hH2
        go_wp2
        go_roundw
        case rel => exact ⟨k + 1, u2, hlt, by go_num, rfl, by rw [HPC.out, ← HPR.out]; exact hq3, by rw [HPC.out, ← HPR.out]; exact hown.apart hpo2 hub, hb⟩
        case measure => simp [intOf]; omega
    · obtain rfl : k = n := by omega
      have hk60 : k < len → 60 ≤ k := by omega
      clear hnn
      have HL := hide (HLN.out k hn60)
      have HD := hide (fun U (hU : OutQ po U u (pcs (A.take k))) => outD_any po (pcs (A.take k)) U hU.p HL.out)
      obtain ⟨ab, cb, hbv, _, _⟩ := HAP.out.rd.form
      subst hbv
      have HALL := hide (show pcs ((A.take k).drop 0) = pcs (A.take k) by rw [List.drop_zero])
      obtain ⟨q, hqq⟩ : ∃ q, pcs (A.take k) = q := ⟨_, rfl⟩
      rw [hqq] at HD HAP HL HQ HALL
      by_cases hkl : k < len
      · go_wp2
        refine wp_region_held_drew (S := (fun U => Below wr.heap.size wr U)) (by kernel_rfl) ?_ (fun hHeld => ?_)
        · exact (Below.refl _ wr).drew
        have HAPR := hide HAP.out.rd
        generalize wr.drew = V at hHeld ⊢
        refine wpAnyH_take (i := 0) (oi := ?oi27) (v := .pointer (some ⟨po, 0, none⟩)) ?hi27 (by kernel_rfl) (by kernel_rfl) (by kernel_rfl) ?hQ27 ?hy27 (by assumption) ?rest27
        case hi27 => (simp only [List.getElem?_toArray, List.getElem?_cons_zero]; rfl)
        case hQ27 => exact fun _ _ _ h => h
        case hy27 => exact Or.inl ⟨by rfl, by (intro w hSw; (try dsimp only at hSw); go_simp )⟩
        simp only [Act.put, List.setIfInBounds_toArray, List.set_cons_zero, List.set_cons_succ]
        refine wpAnyH_take (i := 3) (oi := ?oi28) (v := .slice ab q.length cb) ?hi28 (by kernel_rfl) (by kernel_rfl) (by kernel_rfl) ?hQ28 ?hy28 (by assumption) ?rest28
        case hi28 => (simp only [List.getElem?_toArray, List.getElem?_cons_zero, List.getElem?_cons_succ]; rfl)
        case hQ28 => exact fun _ _ _ h => h
        case hy28 => exact Or.inl ⟨by rfl, by (intro w hSw; (try dsimp only at hSw); go_simp )⟩
        simp only [Act.put, List.setIfInBounds_toArray, List.set_cons_zero, List.set_cons_succ]
        refine wpAnyH_take (i := 4) (oi := ?oi29) (v := .string (strB q)) ?hi29 (by kernel_rfl) (by kernel_rfl) (by kernel_rfl) ?hQ29 ?hy29 (by assumption) ?rest29
        case hi29 => (simp only [List.getElem?_toArray, List.getElem?_cons_zero, List.getElem?_cons_succ]; rfl)
        case hQ29 => exact fun _ _ _ h => h
        case hy29 => exact Or.inl ⟨by rfl, fun U hU => ex_str (HAPR.out.bel hU) 5 Tryd.underlying26 Tryd.underlying5 und_str rfl⟩
        simp only [Act.put, List.setIfInBounds_toArray, List.set_cons_zero, List.set_cons_succ]
        refine wpAnyH_ready (rs := [1]) (by kernel_rfl) (by simp) ?_
        refine AllReadyH.cons (o := ?oi30) ?hi30 (fun K hK => ?_) AllReadyH.nil
        case hi30 => (simp only [List.getElem?_toArray, List.getElem?_cons_zero, List.getElem?_cons_succ]; rfl)
        rw [if_pos (by rfl)]
        go_simp
        refine (HD.out V (HQ.out.bl hHeld)).mono ?_
        rintro e V2 ⟨vd, rfl, hrd, hb2⟩
        obtain ⟨a5, c5, hv5, _, _⟩ := hrd.form
        subst hv5
        have HDD := hide hrd
        have hH2 := hide (below_bl rfl hHeld hb2)
        have HAQ := hide ((HAPR.out.bel hH2.out).mono hH2.out.size)
        clear hHeld hrd hb2
        go_simp
        refine hK.out _ _ ?_ (fun hHeld => ?_)
        · exact hH2.out
        clear hK K
        have HVW := hide hHeld
        replace hb := below_bl rfl hb hHeld
        clear hHeld hH2
        refine wpAnyH_more (S' := fun U => Below V2.heap.size V2 U) (fun U h => below_bl rfl HVW.out h) _ _ _ _ ?_
        have hHeld := Below.refl V2.heap.size V2
        refine wpAnyH_take (i := 2) (oi := ?oi31) (v := .string (strB q)) ?hi31 (by kernel_rfl) (by kernel_rfl) (by kernel_rfl) ?hQ31 ?hy31 (by assumption) ?rest31
        case hi31 => (simp only [List.getElem?_toArray, List.getElem?_cons_zero, List.getElem?_cons_succ]; rfl)
        case hQ31 => exact fun _ _ _ h => h
        case hy31 => exact Or.inl ⟨by rfl, fun U hU => ex_str (HDD.out.bel hU) 5 Tryd.underlying26 Tryd.underlying5 und_str rfl⟩
        simp only [Act.put, List.setIfInBounds_toArray, List.set_cons_zero, List.set_cons_succ]
        refine wpAnyH_take (i := 5) (oi := ?oi32) (v := .bool false) ?hi32 (by kernel_rfl) (by kernel_rfl) (by kernel_rfl) ?hQ32 ?hy32 (by assumption) ?rest32
        case hi32 => (simp only [List.getElem?_toArray, List.getElem?_cons_zero, List.getElem?_cons_succ]; rfl)
        case hQ32 => exact fun _ _ _ h => h
        case hy32 => exact Or.inl ⟨by rfl, fun U hU => (ex_sneq (strB q) (strB q) rfl rfl U).trans (by rw [beq_self_eq_true]; rfl)⟩
        simp only [Act.put, List.setIfInBounds_toArray, List.set_cons_zero, List.set_cons_succ]
        refine wpAnyH_done (by kernel_rfl) ?_ _
        clear hHeld
        go_wp2_with (go_at_call 20; (with_reducible refine (newIn_any _ HAQ.out (Nat.le_refl _) (by have := HL.out; omega)).mono ?_); rintro e W5 ⟨p, rfl, hp5, _, hin, hb5⟩; have hpN : w.heap.size ≤ p := Nat.le_trans hb.size hp5; replace hb := below_bl rfl hb hb5; clear hb5)
        go_loopw [7] (TzRel A p k w.heap.size w) (fun iv _ => k - (intOf iv).toNat)
        case atStart => exact ⟨0, Nat.zero_le _, rfl, by rw [HALL.out]; exact hin, hb⟩
        case round =>
          clear hb hin
          obtain ⟨i, hi, rfl, hin, hb⟩ := hrel
          by_cases hlt2 : i < k
          · obtain ⟨b, off, c', hv, _, _, hbB, HC⟩ := HA.out.all (by have := HLEN.out; omega)
            injection hv with hv hv2 hv3
            subst hv hv3
            clear hv2
            have hkA : i < A.length := by have := HLEN.out; omega
            have hlk : i < len := by omega
            have hi60 : i < 60 := by omega
            obtain ⟨c0, c1, c2, uu, c3, hrd⟩ := HC.out i hkA
            have hv64 := HV.out _ (List.getElem_mem hkA)
            have hblen := HRB.out _ (List.getElem_mem hkA)
            have hpd := pcs_drop (A.take k) i (by rw [List.length_take]; omega)
            rw [List.getElem_take] at hpd
            obtain ⟨s, hs⟩ : ∃ q, A[i] = q := ⟨_, rfl⟩
            rw [hs] at c0 c1 c2 hrd hv64 hblen hpd
            rw [hpd] at hin
            obtain ⟨ux, cx, rfl, _, _⟩ := hrd.form
            have HC1 := hide c1
            have HC2 := hide c2
            have HC3 := hide c3
            have HRX := hide hrd
            obtain ⟨r, hr⟩ : ∃ q, pcs ((A.take k).drop (i + 1)) = q := ⟨_, rfl⟩
            have HRR := hide hr
            rw [hr] at hin
            have hpl := InP.row hin
            have hcc0 := (hb.cell (p := ⟨b, off + i * 4, none⟩) hbB).trans c0
            have HLP : Hid ((piece s ++ r).length ≤ 140737488355328) := hide (by
              have h1 := HL.out
              rw [← hqq] at h1
              have h2 : (pcs ((A.take k).drop i)).length ≤ (pcs (A.take k)).length := by
                have h3 := pcs_app ((A.take k).take i) ((A.take k).drop i)
                rw [List.take_append_drop] at h3
                rw [h3, List.length_append]
                omega
              rw [hpd, hr] at h2
              omega)
            clear c0 c1 c2 c3 hs hrd hpd hr
            cases hrun : s.run with
            | true =>
              rw [hrun] at hcc0
              have HRUN : Hid (∀ U, InP p U ⟨piece s ++ r, 0⟩ → Calls Tryd.prog 22 #[.pointer (some ⟨p, 0, none⟩), .int .i64 (s.b.length : Nat)] U fun e w' => ∃ v', e = .returned v' ∧ Rd w'.heap.size w' v' s.b ∧ InP p w' ⟨r, 0⟩ ∧ Hole p (p + 1) U w') := hide (fun U hU => by
                have := inR_any p ⟨piece s ++ r, 0⟩ U hU HLP.out (s.b.length : Nat) (by omega)
                rw [take_run s hrun (by omega) r] at this
                exact this)
              go_wp2
              refine wp_region_held_drew (S := (fun U => Below w.heap.size w U)) (by kernel_rfl) ?_ (fun hHeld => ?_)
              · exact hb.drew
              have hin8 := hin.bl (Below.refl _ wr).drew
              generalize wr.drew = Z at hHeld hin8 ⊢
              refine wpAnyH_take (i := 0) (oi := ?oi33) (v := .pointer (some ⟨p, 0, none⟩)) ?hi33 (by kernel_rfl) (by kernel_rfl) (by kernel_rfl) ?hQ33 ?hy33 (by assumption) ?rest33
              case hi33 => (simp only [List.getElem?_toArray, List.getElem?_cons_zero]; rfl)
              case hQ33 => exact fun _ _ _ h => h
              case hy33 => exact Or.inl ⟨by rfl, by (intro w hSw; (try dsimp only at hSw); go_simp )⟩
              simp only [Act.put, List.setIfInBounds_toArray, List.set_cons_zero, List.set_cons_succ]
              refine wpAnyH_take (i := 1) (oi := ?oi34) (v := .slice (some ⟨b, off, none⟩) len cap) ?hi34 (by kernel_rfl) (by kernel_rfl) (by kernel_rfl) ?hQ34 ?hy34 (by assumption) ?rest34
              case hi34 => (simp only [List.getElem?_toArray, List.getElem?_cons_zero, List.getElem?_cons_succ]; rfl)
              case hQ34 => exact fun _ _ _ h => h
              case hy34 => exact Or.inl ⟨by rfl, by (intro w hSw; (try dsimp only at hSw); go_simp )⟩
              simp only [Act.put, List.setIfInBounds_toArray, List.set_cons_zero, List.set_cons_succ]
              refine wpAnyH_take (i := 2) (oi := ?oi35) (v := .int .i64 (i : Nat)) ?hi35 (by kernel_rfl) (by kernel_rfl) (by kernel_rfl) ?hQ35 ?hy35 (by assumption) ?rest35
              case hi35 => (simp only [List.getElem?_toArray, List.getElem?_cons_zero, List.getElem?_cons_succ]; rfl)
              case hQ35 => exact fun _ _ _ h => h
              case hy35 => exact Or.inl ⟨by rfl, by (intro w hSw; (try dsimp only at hSw); go_simp )⟩
              simp only [Act.put, List.setIfInBounds_toArray, List.set_cons_zero, List.set_cons_succ]
              refine wpAnyH_take (i := 3) (oi := ?oi36) (v := .pointer (some ⟨b, off + i * 4, none⟩)) ?hi36 (by kernel_rfl) (by kernel_rfl) (by kernel_rfl) ?hQ36 ?hy36 (by assumption) ?rest36
              case hi36 => (simp only [List.getElem?_toArray, List.getElem?_cons_zero, List.getElem?_cons_succ]; rfl)
              case hQ36 => exact fun _ _ _ h => h
              case hy36 => exact Or.inl ⟨by rfl, fun U hU => ex_idxG b off len cap i (by omega) rfl rfl U⟩
              simp only [Act.put, List.setIfInBounds_toArray, List.set_cons_zero, List.set_cons_succ]
              refine wpAnyH_take (i := 4) (oi := ?oi37) (v := .pointer (some ⟨b, off + i * 4 + 3, none⟩)) ?hi37 (by kernel_rfl) (by kernel_rfl) (by kernel_rfl) ?hQ37 ?hy37 (by assumption) ?rest37
              case hi37 => (simp only [List.getElem?_toArray, List.getElem?_cons_zero, List.getElem?_cons_succ]; rfl)
              case hQ37 => exact fun _ _ _ h => h
              case hy37 => exact Or.inl ⟨by rfl, by (intro w hSw; (try dsimp only at hSw); go_simp )⟩
              simp only [Act.put, List.setIfInBounds_toArray, List.set_cons_zero, List.set_cons_succ]
              refine wpAnyH_take (i := 5) (oi := ?oi38) (v := .slice ux s.b.length cx) ?hi38 (by kernel_rfl) (by kernel_rfl) (by kernel_rfl) ?hQ38 ?hy38 (by assumption) ?rest38
              case hi38 => (simp only [List.getElem?_toArray, List.getElem?_cons_zero, List.getElem?_cons_succ]; rfl)
              case hQ38 => exact fun _ _ _ h => h
              case hy38 => exact y_any b (off + i * 4 + 3) _ (fun U hU => (hU.cell (p := ⟨b, off + i * 4 + 3, none⟩) hbB).trans HC3.out) _ Tryd.underlying26 rfl rfl rfl
              simp only [Act.put, List.setIfInBounds_toArray, List.set_cons_zero, List.set_cons_succ]
              refine wpAnyH_take (i := 6) (oi := ?oi39) (v := .int .i64 (s.b.length : Nat)) ?hi39 (by kernel_rfl) (by kernel_rfl) (by kernel_rfl) ?hQ39 ?hy39 (by assumption) ?rest39
              case hi39 => (simp only [List.getElem?_toArray, List.getElem?_cons_zero, List.getElem?_cons_succ]; rfl)
              case hQ39 => exact fun _ _ _ h => h
              case hy39 => exact Or.inl ⟨by rfl, by (intro w hSw; (try dsimp only at hSw); go_simp )⟩
              simp only [Act.put, List.setIfInBounds_toArray, List.set_cons_zero, List.set_cons_succ]
              refine wpAnyH_take (i := 9) (oi := ?oi40) (v := .slice (some ⟨b, off, none⟩) len cap) ?hi40 (by kernel_rfl) (by kernel_rfl) (by kernel_rfl) ?hQ40 ?hy40 (by assumption) ?rest40
              case hi40 => (simp only [List.getElem?_toArray, List.getElem?_cons_zero, List.getElem?_cons_succ]; rfl)
              case hQ40 => exact fun _ _ _ h => h
              case hy40 => exact Or.inl ⟨by rfl, by (intro w hSw; (try dsimp only at hSw); go_simp )⟩
              simp only [Act.put, List.setIfInBounds_toArray, List.set_cons_zero, List.set_cons_succ]
              refine wpAnyH_take (i := 10) (oi := ?oi41) (v := .int .i64 (i : Nat)) ?hi41 (by kernel_rfl) (by kernel_rfl) (by kernel_rfl) ?hQ41 ?hy41 (by assumption) ?rest41
              case hi41 => (simp only [List.getElem?_toArray, List.getElem?_cons_zero, List.getElem?_cons_succ]; rfl)
              case hQ41 => exact fun _ _ _ h => h
              case hy41 => exact Or.inl ⟨by rfl, by (intro w hSw; (try dsimp only at hSw); go_simp )⟩
              simp only [Act.put, List.setIfInBounds_toArray, List.set_cons_zero, List.set_cons_succ]
              refine wpAnyH_take (i := 11) (oi := ?oi42) (v := .pointer (some ⟨b, off + i * 4, none⟩)) ?hi42 (by kernel_rfl) (by kernel_rfl) (by kernel_rfl) ?hQ42 ?hy42 (by assumption) ?rest42
              case hi42 => (simp only [List.getElem?_toArray, List.getElem?_cons_zero, List.getElem?_cons_succ]; rfl)
              case hQ42 => exact fun _ _ _ h => h
              case hy42 => exact Or.inl ⟨by rfl, fun U hU => ex_idxG b off len cap i (by omega) rfl rfl U⟩
              simp only [Act.put, List.setIfInBounds_toArray, List.set_cons_zero, List.set_cons_succ]
              refine wpAnyH_take (i := 12) (oi := ?oi43) (v := .pointer (some ⟨b, off + i * 4 + 3, none⟩)) ?hi43 (by kernel_rfl) (by kernel_rfl) (by kernel_rfl) ?hQ43 ?hy43 (by assumption) ?rest43
              case hi43 => (simp only [List.getElem?_toArray, List.getElem?_cons_zero, List.getElem?_cons_succ]; rfl)
              case hQ43 => exact fun _ _ _ h => h
              case hy43 => exact Or.inl ⟨by rfl, by (intro w hSw; (try dsimp only at hSw); go_simp )⟩
              simp only [Act.put, List.setIfInBounds_toArray, List.set_cons_zero, List.set_cons_succ]
              refine wpAnyH_take (i := 13) (oi := ?oi44) (v := .slice ux s.b.length cx) ?hi44 (by kernel_rfl) (by kernel_rfl) (by kernel_rfl) ?hQ44 ?hy44 (by assumption) ?rest44
              case hi44 => (simp only [List.getElem?_toArray, List.getElem?_cons_zero, List.getElem?_cons_succ]; rfl)
              case hQ44 => exact fun _ _ _ h => h
              case hy44 => exact y_any b (off + i * 4 + 3) _ (fun U hU => (hU.cell (p := ⟨b, off + i * 4 + 3, none⟩) hbB).trans HC3.out) _ Tryd.underlying26 rfl rfl rfl
              simp only [Act.put, List.setIfInBounds_toArray, List.set_cons_zero, List.set_cons_succ]
              refine wpAnyH_take (i := 14) (oi := ?oi45) (v := .string (strB s.b)) ?hi45 (by kernel_rfl) (by kernel_rfl) (by kernel_rfl) ?hQ45 ?hy45 (by assumption) ?rest45
              case hi45 => (simp only [List.getElem?_toArray, List.getElem?_cons_zero, List.getElem?_cons_succ]; rfl)
              case hQ45 => exact fun _ _ _ h => h
              case hy45 => exact Or.inl ⟨by rfl, fun U hU => ex_str (HRX.out.bel hU) 5 Tryd.underlying26 Tryd.underlying5 und_str rfl⟩
              simp only [Act.put, List.setIfInBounds_toArray, List.set_cons_zero, List.set_cons_succ]
              refine wpAnyH_ready (rs := [7]) (by kernel_rfl) (by simp) ?_
              refine AllReadyH.cons (o := ?oi46) ?hi46 (fun K hK => ?_) AllReadyH.nil
              case hi46 => (simp only [List.getElem?_toArray, List.getElem?_cons_zero, List.getElem?_cons_succ]; rfl)
              rw [if_pos (by rfl)]
              go_simp
              refine (HRUN.out _ hin8).mono ?_
              rintro e Z2 ⟨v2, rfl, hrv, hin9, hhl⟩
              obtain ⟨a9, c9, hv9, _, _⟩ := hrv.form
              subst hv9
              have hH2 := hide (hHeld.trans ((hhl.below (Nat.le_of_lt hin8.row)).mono hpN))
              have HRV := hide hrv
              clear hHeld hhl hrv
              go_simp
              refine hK.out _ _ ?_ (fun hHeld => ?_)
              · exact hH2.out
              clear hK K
              have hb6 := hHeld
              clear hHeld hH2
              refine wpAnyH_more (S' := fun U => Below Z2.heap.size Z2 U) (fun U h => below_bl rfl hb6 h) _ _ _ _ ?_
              have hHeld := Below.refl Z2.heap.size Z2
              refine wpAnyH_take (i := 8) (oi := ?oi47) (v := .string (strB s.b)) ?hi47 (by kernel_rfl) (by kernel_rfl) (by kernel_rfl) ?hQ47 ?hy47 (by assumption) ?rest47
              case hi47 => (simp only [List.getElem?_toArray, List.getElem?_cons_zero, List.getElem?_cons_succ]; rfl)
              case hQ47 => exact fun _ _ _ h => h
              case hy47 => exact Or.inl ⟨by rfl, fun U hU => ex_str (HRV.out.bel hU) 5 Tryd.underlying26 Tryd.underlying5 und_str rfl⟩
              simp only [Act.put, List.setIfInBounds_toArray, List.set_cons_zero, List.set_cons_succ]
              refine wpAnyH_take (i := 15) (oi := ?oi48) (v := .bool false) ?hi48 (by kernel_rfl) (by kernel_rfl) (by kernel_rfl) ?hQ48 ?hy48 (by assumption) ?rest48
              case hi48 => (simp only [List.getElem?_toArray, List.getElem?_cons_zero, List.getElem?_cons_succ]; rfl)
              case hQ48 => exact fun _ _ _ h => h
              case hy48 => exact Or.inl ⟨by rfl, fun U hU => (ex_sneq (strB s.b) (strB s.b) rfl rfl U).trans (by rw [beq_self_eq_true]; rfl)⟩
              simp only [Act.put, List.setIfInBounds_toArray, List.set_cons_zero, List.set_cons_succ]
              refine wpAnyH_done (by kernel_rfl) ?_ _
              clear hHeld
              go_wp2
              go_roundw
              case rel => exact ⟨i + 1, hlt2, by go_num, by rw [HRR.out]; exact hin9, hb6⟩
              case measure => simp [intOf]; omega
            | false =>
              rw [hrun] at hcc0
              have hcc1 := (hb.cell (p := ⟨b, off + i * 4 + 1, none⟩) hbB).trans HC1.out
              have hcc2 := (hb.cell (p := ⟨b, off + i * 4 + 2, none⟩) hbB).trans HC2.out
              by_cases hbad : s.n < 1 ∨ 8 < s.n
              · rw [piece_none s hrun hbad, List.nil_append] at hin
                rcases Int.lt_or_le s.n 1 with hb1 | hb1
                · clear hbad
                  go_wp2
                  go_roundw
                  case rel => exact ⟨i + 1, hlt2, by go_num, by rw [HRR.out]; exact hin, hb⟩
                  case measure => simp [intOf]; omega
                · have hb8 : 8 < s.n := by omega
                  clear hbad
                  go_wp2
                  go_roundw
                  case rel => exact ⟨i + 1, hlt2, by go_num, by rw [HRR.out]; exact hin, hb⟩
                  case measure => simp [intOf]; omega
              · obtain ⟨m, hm⟩ := Int.eq_ofNat_of_zero_le (show 0 ≤ s.n by omega)
                have hm1 : 1 ≤ m := by omega
                have hm8 : m ≤ 8 := by omega
                have HN : Hid (∀ U, InP p U ⟨piece s ++ r, 0⟩ → Calls Tryd.prog 24 #[.pointer (some ⟨p, 0, none⟩), .int .i64 (m : Nat), .int .u64 18446744073709551615] U fun e w' => e = .returned (.int .u64 (s.v % 256 ^ m : Nat)) ∧ InP p w' ⟨r, 0⟩ ∧ Hole p (p + 1) U w' ∧ w'.heap.size = U.heap.size) := hide (fun U hU => by
                  have := inN_any p ⟨piece s ++ r, 0⟩ U hU (m : Nat) 18446744073709551615 (by decide)
                  rw [take_num s hrun m hm hm1 hm8 r] at this
                  exact this)
                rw [hm] at hcc2 hbad
                have HAND := hide (fun h8 => and_low s.v m hv64 h8)
                obtain ⟨sv, hsv⟩ : ∃ q, s.v = q := ⟨_, rfl⟩
                rw [hsv] at hcc1 HN HAND hv64
                clear hm hbad hsv
                by_cases h8 : m < 8
                · have hand := HAND.out h8
                  obtain ⟨z, hz⟩ : ∃ q, sv % 256 ^ m = q := ⟨_, rfl⟩
                  rw [hz] at HN hand
                  clear hz HAND
                  go_wp2_with (go_at_call 24; (with_reducible refine (HN.out _ hin).mono ?_); rintro e W6 ⟨rfl, hin6, hhl, _⟩; have hb6 := hb.trans ((hhl.below (Nat.le_of_lt hpl)).mono hpN); clear hhl)
                  go_roundw
                  case rel => exact ⟨i + 1, hlt2, by go_num, by rw [HRR.out]; exact hin6, hb6⟩
                  case measure => simp [intOf]; omega
                · have hm88 : m = 8 := by omega
                  have h256 : (256 : Nat) ^ 8 = 18446744073709551616 := by decide
                  have hmod : sv % 256 ^ m = sv := by rw [hm88]; exact Nat.mod_eq_of_lt (by omega)
                  rw [hmod] at HN
                  clear HAND hmod h256 hm88
                  go_wp2_with (go_at_call 24; (with_reducible refine (HN.out _ hin).mono ?_); rintro e W6 ⟨rfl, hin6, hhl, _⟩; have hb6 := hb.trans ((hhl.below (Nat.le_of_lt hpl)).mono hpN); clear hhl)
                  go_roundw
                  case rel => exact ⟨i + 1, hlt2, by go_num, by rw [HRR.out]; exact hin6, hb6⟩
                  case measure => simp [intOf]; omega
          · obtain rfl : i = k := by omega
            have hdn : (A.take i).drop i = [] := List.drop_eq_nil_of_le (by rw [List.length_take]; omega)
            rw [hdn] at hin
            have HDI := hide (inD_any p ⟨pcs [], 0⟩ wr hin)
            rw [show errS (doneE ⟨pcs [], 0⟩) = .nilIface from rfl] at HDI
            go_wp2_with (first | (go_at_call 25; (with_reducible refine (HDI.out).mono ?_); rintro e W9 ⟨rfl, rfl⟩) | (go_at_call 10; (with_reducible refine (HSU.out _ (HT.out.below hb)).mono ?_); rintro e W9 ⟨rfl, hb9⟩; replace hb := below_bl rfl hb hb9; clear hb9))
            go_ret
            exact ⟨rfl, hb⟩
      · go_wp2
        refine wp_region_held_drew (S := (fun U => Below wr.heap.size wr U)) (by kernel_rfl) ?_ (fun hHeld => ?_)
        · exact (Below.refl _ wr).drew
        have HAPR := hide HAP.out.rd
        generalize wr.drew = V at hHeld ⊢
        refine wpAnyH_take (i := 0) (oi := ?oi49) (v := .pointer (some ⟨po, 0, none⟩)) ?hi49 (by kernel_rfl) (by kernel_rfl) (by kernel_rfl) ?hQ49 ?hy49 (by assumption) ?rest49
        case hi49 => (simp only [List.getElem?_toArray, List.getElem?_cons_zero]; rfl)
        case hQ49 => exact fun _ _ _ h => h
        case hy49 => exact Or.inl ⟨by rfl, by (intro w hSw; (try dsimp only at hSw); go_simp )⟩
        simp only [Act.put, List.setIfInBounds_toArray, List.set_cons_zero, List.set_cons_succ]
        refine wpAnyH_take (i := 3) (oi := ?oi50) (v := .slice ab q.length cb) ?hi50 (by kernel_rfl) (by kernel_rfl) (by kernel_rfl) ?hQ50 ?hy50 (by assumption) ?rest50
        case hi50 => (simp only [List.getElem?_toArray, List.getElem?_cons_zero, List.getElem?_cons_succ]; rfl)
        case hQ50 => exact fun _ _ _ h => h
        case hy50 => exact Or.inl ⟨by rfl, by (intro w hSw; (try dsimp only at hSw); go_simp )⟩
        simp only [Act.put, List.setIfInBounds_toArray, List.set_cons_zero, List.set_cons_succ]
        refine wpAnyH_take (i := 4) (oi := ?oi51) (v := .string (strB q)) ?hi51 (by kernel_rfl) (by kernel_rfl) (by kernel_rfl) ?hQ51 ?hy51 (by assumption) ?rest51
        case hi51 => (simp only [List.getElem?_toArray, List.getElem?_cons_zero, List.getElem?_cons_succ]; rfl)
        case hQ51 => exact fun _ _ _ h => h
        case hy51 => exact Or.inl ⟨by rfl, fun U hU => ex_str (HAPR.out.bel hU) 5 Tryd.underlying26 Tryd.underlying5 und_str rfl⟩
        simp only [Act.put, List.setIfInBounds_toArray, List.set_cons_zero, List.set_cons_succ]
        refine wpAnyH_ready (rs := [1]) (by kernel_rfl) (by simp) ?_
        refine AllReadyH.cons (o := ?oi52) ?hi52 (fun K hK => ?_) AllReadyH.nil
        case hi52 => (simp only [List.getElem?_toArray, List.getElem?_cons_zero, List.getElem?_cons_succ]; rfl)
        rw [if_pos (by rfl)]
        go_simp
        refine (HD.out V (HQ.out.bl hHeld)).mono ?_
        rintro e V2 ⟨vd, rfl, hrd, hb2⟩
        obtain ⟨a5, c5, hv5, _, _⟩ := hrd.form
        subst hv5
        have HDD := hide hrd
        have hH2 := hide (below_bl rfl hHeld hb2)
        have HAQ := hide ((HAPR.out.bel hH2.out).mono hH2.out.size)
        clear hHeld hrd hb2
        go_simp
        refine hK.out _ _ ?_ (fun hHeld => ?_)
        · exact hH2.out
        clear hK K
        have HVW := hide hHeld
        replace hb := below_bl rfl hb hHeld
        clear hHeld hH2
        refine wpAnyH_more (S' := fun U => Below V2.heap.size V2 U) (fun U h => below_bl rfl HVW.out h) _ _ _ _ ?_
        have hHeld := Below.refl V2.heap.size V2
        refine wpAnyH_take (i := 2) (oi := ?oi53) (v := .string (strB q)) ?hi53 (by kernel_rfl) (by kernel_rfl) (by kernel_rfl) ?hQ53 ?hy53 (by assumption) ?rest53
        case hi53 => (simp only [List.getElem?_toArray, List.getElem?_cons_zero, List.getElem?_cons_succ]; rfl)
        case hQ53 => exact fun _ _ _ h => h
        case hy53 => exact Or.inl ⟨by rfl, fun U hU => ex_str (HDD.out.bel hU) 5 Tryd.underlying26 Tryd.underlying5 und_str rfl⟩
        simp only [Act.put, List.setIfInBounds_toArray, List.set_cons_zero, List.set_cons_succ]
        refine wpAnyH_take (i := 5) (oi := ?oi54) (v := .bool false) ?hi54 (by kernel_rfl) (by kernel_rfl) (by kernel_rfl) ?hQ54 ?hy54 (by assumption) ?rest54
        case hi54 => (simp only [List.getElem?_toArray, List.getElem?_cons_zero, List.getElem?_cons_succ]; rfl)
        case hQ54 => exact fun _ _ _ h => h
        case hy54 => exact Or.inl ⟨by rfl, fun U hU => (ex_sneq (strB q) (strB q) rfl rfl U).trans (by rw [beq_self_eq_true]; rfl)⟩
        simp only [Act.put, List.setIfInBounds_toArray, List.set_cons_zero, List.set_cons_succ]
        refine wpAnyH_done (by kernel_rfl) ?_ _
        clear hHeld
        go_wp2_with (go_at_call 20; (with_reducible refine (newIn_any _ HAQ.out (Nat.le_refl _) (by have := HL.out; omega)).mono ?_); rintro e W5 ⟨p, rfl, hp5, _, hin, hb5⟩; have hpN : w.heap.size ≤ p := Nat.le_trans hb.size hp5; replace hb := below_bl rfl hb hb5; clear hb5)
        go_loopw [7] (TzRel A p k w.heap.size w) (fun iv _ => k - (intOf iv).toNat)
        case atStart => exact ⟨0, Nat.zero_le _, rfl, by rw [HALL.out]; exact hin, hb⟩
        case round =>
          clear hb hin
          obtain ⟨i, hi, rfl, hin, hb⟩ := hrel
          by_cases hlt2 : i < k
          · obtain ⟨b, off, c', hv, _, _, hbB, HC⟩ := HA.out.all (by have := HLEN.out; omega)
            injection hv with hv hv2 hv3
            subst hv hv3
            clear hv2
            have hkA : i < A.length := by have := HLEN.out; omega
            have hlk : i < len := by omega
            have hi60 : i < 60 := by omega
            obtain ⟨c0, c1, c2, uu, c3, hrd⟩ := HC.out i hkA
            have hv64 := HV.out _ (List.getElem_mem hkA)
            have hblen := HRB.out _ (List.getElem_mem hkA)
            have hpd := pcs_drop (A.take k) i (by rw [List.length_take]; omega)
            rw [List.getElem_take] at hpd
            obtain ⟨s, hs⟩ : ∃ q, A[i] = q := ⟨_, rfl⟩
            rw [hs] at c0 c1 c2 hrd hv64 hblen hpd
            rw [hpd] at hin
            obtain ⟨ux, cx, rfl, _, _⟩ := hrd.form
            have HC1 := hide c1
            have HC2 := hide c2
            have HC3 := hide c3
            have HRX := hide hrd
            obtain ⟨r, hr⟩ : ∃ q, pcs ((A.take k).drop (i + 1)) = q := ⟨_, rfl⟩
            have HRR := hide hr
            rw [hr] at hin
            have hpl := InP.row hin
            have hcc0 := (hb.cell (p := ⟨b, off + i * 4, none⟩) hbB).trans c0
            have HLP : Hid ((piece s ++ r).length ≤ 140737488355328) := hide (by
              have h1 := HL.out
              rw [← hqq] at h1
              have h2 : (pcs ((A.take k).drop i)).length ≤ (pcs (A.take k)).length := by
                have h3 := pcs_app ((A.take k).take i) ((A.take k).drop i)
                rw [List.take_append_drop] at h3
                rw [h3, List.length_append]
                omega
              rw [hpd, hr] at h2
              omega)
            clear c0 c1 c2 c3 hs hrd hpd hr
            cases hrun : s.run with
            | true =>
              rw [hrun] at hcc0
              have HRUN : Hid (∀ U, InP p U ⟨piece s ++ r, 0⟩ → Calls Tryd.prog 22 #[.pointer (some ⟨p, 0, none⟩), .int .i64 (s.b.length : Nat)] U fun e w' => ∃ v', e = .returned v' ∧ Rd w'.heap.size w' v' s.b ∧ InP p w' ⟨r, 0⟩ ∧ Hole p (p + 1) U w') := hide (fun U hU => by
                have := inR_any p ⟨piece s ++ r, 0⟩ U hU HLP.out (s.b.length : Nat) (by omega)
                rw [take_run s hrun (by omega) r] at this
                exact this)
              go_wp2
              refine wp_region_held_drew (S := (fun U => Below w.heap.size w U)) (by kernel_rfl) ?_ (fun hHeld => ?_)
              · exact hb.drew
              have hin8 := hin.bl (Below.refl _ wr).drew
              generalize wr.drew = Z at hHeld hin8 ⊢
              refine wpAnyH_take (i := 0) (oi := ?oi55) (v := .pointer (some ⟨p, 0, none⟩)) ?hi55 (by kernel_rfl) (by kernel_rfl) (by kernel_rfl) ?hQ55 ?hy55 (by assumption) ?rest55
              case hi55 => (simp only [List.getElem?_toArray, List.getElem?_cons_zero]; rfl)
              case hQ55 => exact fun _ _ _ h => h
              case hy55 => exact Or.inl ⟨by rfl, by (intro w hSw; (try dsimp only at hSw); go_simp )⟩
              simp only [Act.put, List.setIfInBounds_toArray, List.set_cons_zero, List.set_cons_succ]
              refine wpAnyH_take (i := 1) (oi := ?oi56) (v := .slice (some ⟨b, off, none⟩) len cap) ?hi56 (by kernel_rfl) (by kernel_rfl) (by kernel_rfl) ?hQ56 ?hy56 (by assumption) ?rest56
              case hi56 => (simp only [List.getElem?_toArray, List.getElem?_cons_zero, List.getElem?_cons_succ]; rfl)
              case hQ56 => exact fun _ _ _ h => h
              case hy56 => exact Or.inl ⟨by rfl, by (intro w hSw; (try dsimp only at hSw); go_simp )⟩
              simp only [Act.put, List.setIfInBounds_toArray, List.set_cons_zero, List.set_cons_succ]
              refine wpAnyH_take (i := 2) (oi := ?oi57) (v := .int .i64 (i : Nat)) ?hi57 (by kernel_rfl) (by kernel_rfl) (by kernel_rfl) ?hQ57 ?hy57 (by assumption) ?rest57
              case hi57 => (simp only [List.getElem?_toArray, List.getElem?_cons_zero, List.getElem?_cons_succ]; rfl)
              case hQ57 => exact fun _ _ _ h => h
              case hy57 => exact Or.inl ⟨by rfl, by (intro w hSw; (try dsimp only at hSw); go_simp )⟩
              simp only [Act.put, List.setIfInBounds_toArray, List.set_cons_zero, List.set_cons_succ]
              refine wpAnyH_take (i := 3) (oi := ?oi58) (v := .pointer (some ⟨b, off + i * 4, none⟩)) ?hi58 (by kernel_rfl) (by kernel_rfl) (by kernel_rfl) ?hQ58 ?hy58 (by assumption) ?rest58
              case hi58 => (simp only [List.getElem?_toArray, List.getElem?_cons_zero, List.getElem?_cons_succ]; rfl)
              case hQ58 => exact fun _ _ _ h => h
              case hy58 => exact Or.inl ⟨by rfl, fun U hU => ex_idxG b off len cap i (by omega) rfl rfl U⟩
              simp only [Act.put, List.setIfInBounds_toArray, List.set_cons_zero, List.set_cons_succ]
              refine wpAnyH_take (i := 4) (oi := ?oi59) (v := .pointer (some ⟨b, off + i * 4 + 3, none⟩)) ?hi59 (by kernel_rfl) (by kernel_rfl) (by kernel_rfl) ?hQ59 ?hy59 (by assumption) ?rest59
              case hi59 => (simp only [List.getElem?_toArray, List.getElem?_cons_zero, List.getElem?_cons_succ]; rfl)
              case hQ59 => exact fun _ _ _ h => h
              case hy59 => exact Or.inl ⟨by rfl, by (intro w hSw; (try dsimp only at hSw); go_simp )⟩
              simp only [Act.put, List.setIfInBounds_toArray, List.set_cons_zero, List.set_cons_succ]
              refine wpAnyH_take (i := 5) (oi := ?oi60) (v := .slice ux s.b.length cx) ?hi60 (by kernel_rfl) (by kernel_rfl) (by kernel_rfl) ?hQ60 ?hy60 (by assumption) ?rest60
              case hi60 => (simp only [List.getElem?_toArray, List.getElem?_cons_zero, List.getElem?_cons_succ]; rfl)
              case hQ60 => exact fun _ _ _ h => h
              case hy60 => exact y_any b (off + i * 4 + 3) _ (fun U hU => (hU.cell (p := ⟨b, off + i * 4 + 3, none⟩) hbB).trans HC3.out) _ Tryd.underlying26 rfl rfl rfl
              simp only [Act.put, List.setIfInBounds_toArray, List.set_cons_zero, List.set_cons_succ]
              refine wpAnyH_take (i := 6) (oi := ?oi61) (v := .int .i64 (s.b.length : Nat)) ?hi61 (by kernel_rfl) (by kernel_rfl) (by kernel_rfl) ?hQ61 ?hy61 (by assumption) ?rest61
              case hi61 => (simp only [List.getElem?_toArray, List.getElem?_cons_zero, List.getElem?_cons_succ]; rfl)
              case hQ61 => exact fun _ _ _ h => h
              case hy61 => exact Or.inl ⟨by rfl, by (intro w hSw; (try dsimp only at hSw); go_simp )⟩
              simp only [Act.put, List.setIfInBounds_toArray, List.set_cons_zero, List.set_cons_succ]
              refine wpAnyH_take (i := 9) (oi := ?oi62) (v := .slice (some ⟨b, off, none⟩) len cap) ?hi62 (by kernel_rfl) (by kernel_rfl) (by kernel_rfl) ?hQ62 ?hy62 (by assumption) ?rest62
              case hi62 => (simp only [List.getElem?_toArray, List.getElem?_cons_zero, List.getElem?_cons_succ]; rfl)
              case hQ62 => exact fun _ _ _ h => h
              case hy62 => exact Or.inl ⟨by rfl, by (intro w hSw; (try dsimp only at hSw); go_simp )⟩
              simp only [Act.put, List.setIfInBounds_toArray, List.set_cons_zero, List.set_cons_succ]
              refine wpAnyH_take (i := 10) (oi := ?oi63) (v := .int .i64 (i : Nat)) ?hi63 (by kernel_rfl) (by kernel_rfl) (by kernel_rfl) ?hQ63 ?hy63 (by assumption) ?rest63
              case hi63 => (simp only [List.getElem?_toArray, List.getElem?_cons_zero, List.getElem?_cons_succ]; rfl)
              case hQ63 => exact fun _ _ _ h => h
              case hy63 => exact Or.inl ⟨by rfl, by (intro w hSw; (try dsimp only at hSw); go_simp )⟩
              simp only [Act.put, List.setIfInBounds_toArray, List.set_cons_zero, List.set_cons_succ]
              refine wpAnyH_take (i := 11) (oi := ?oi64) (v := .pointer (some ⟨b, off + i * 4, none⟩)) ?hi64 (by kernel_rfl) (by kernel_rfl) (by kernel_rfl) ?hQ64 ?hy64 (by assumption) ?rest64
              case hi64 => (simp only [List.getElem?_toArray, List.getElem?_cons_zero, List.getElem?_cons_succ]; rfl)
              case hQ64 => exact fun _ _ _ h => h
              case hy64 => exact Or.inl ⟨by rfl, fun U hU => ex_idxG b off len cap i (by omega) rfl rfl U⟩
              simp only [Act.put, List.setIfInBounds_toArray, List.set_cons_zero, List.set_cons_succ]
              refine wpAnyH_take (i := 12) (oi := ?oi65) (v := .pointer (some ⟨b, off + i * 4 + 3, none⟩)) ?hi65 (by kernel_rfl) (by kernel_rfl) (by kernel_rfl) ?hQ65 ?hy65 (by assumption) ?rest65
              case hi65 => (simp only [List.getElem?_toArray, List.getElem?_cons_zero, List.getElem?_cons_succ]; rfl)
              case hQ65 => exact fun _ _ _ h => h
              case hy65 => exact Or.inl ⟨by rfl, by (intro w hSw; (try dsimp only at hSw); go_simp )⟩
              simp only [Act.put, List.setIfInBounds_toArray, List.set_cons_zero, List.set_cons_succ]
              refine wpAnyH_take (i := 13) (oi := ?oi66) (v := .slice ux s.b.length cx) ?hi66 (by kernel_rfl) (by kernel_rfl) (by kernel_rfl) ?hQ66 ?hy66 (by assumption) ?rest66
              case hi66 => (simp only [List.getElem?_toArray, List.getElem?_cons_zero, List.getElem?_cons_succ]; rfl)
              case hQ66 => exact fun _ _ _ h => h
              case hy66 => exact y_any b (off + i * 4 + 3) _ (fun U hU => (hU.cell (p := ⟨b, off + i * 4 + 3, none⟩) hbB).trans HC3.out) _ Tryd.underlying26 rfl rfl rfl
              simp only [Act.put, List.setIfInBounds_toArray, List.set_cons_zero, List.set_cons_succ]
              refine wpAnyH_take (i := 14) (oi := ?oi67) (v := .string (strB s.b)) ?hi67 (by kernel_rfl) (by kernel_rfl) (by kernel_rfl) ?hQ67 ?hy67 (by assumption) ?rest67
              case hi67 => (simp only [List.getElem?_toArray, List.getElem?_cons_zero, List.getElem?_cons_succ]; rfl)
              case hQ67 => exact fun _ _ _ h => h
              case hy67 => exact Or.inl ⟨by rfl, fun U hU => ex_str (HRX.out.bel hU) 5 Tryd.underlying26 Tryd.underlying5 und_str rfl⟩
              simp only [Act.put, List.setIfInBounds_toArray, List.set_cons_zero, List.set_cons_succ]
              refine wpAnyH_ready (rs := [7]) (by kernel_rfl) (by simp) ?_
              refine AllReadyH.cons (o := ?oi68) ?hi68 (fun K hK => ?_) AllReadyH.nil
              case hi68 => (simp only [List.getElem?_toArray, List.getElem?_cons_zero, List.getElem?_cons_succ]; rfl)
              rw [if_pos (by rfl)]
              go_simp
              refine (HRUN.out _ hin8).mono ?_
              rintro e Z2 ⟨v2, rfl, hrv, hin9, hhl⟩
              obtain ⟨a9, c9, hv9, _, _⟩ := hrv.form
              subst hv9
              have hH2 := hide (hHeld.trans ((hhl.below (Nat.le_of_lt hin8.row)).mono hpN))
              have HRV := hide hrv
              clear hHeld hhl hrv
              go_simp
              refine hK.out _ _ ?_ (fun hHeld => ?_)
              · exact hH2.out
              clear hK K
              have hb6 := hHeld
              clear hHeld hH2
              refine wpAnyH_more (S' := fun U => Below Z2.heap.size Z2 U) (fun U h => below_bl rfl hb6 h) _ _ _ _ ?_
              have hHeld := Below.refl Z2.heap.size Z2
              refine wpAnyH_take (i := 8) (oi := ?oi69) (v := .string (strB s.b)) ?hi69 (by kernel_rfl) (by kernel_rfl) (by kernel_rfl) ?hQ69 ?hy69 (by assumption) ?rest69
              case hi69 => (simp only [List.getElem?_toArray, List.getElem?_cons_zero, List.getElem?_cons_succ]; rfl)
              case hQ69 => exact fun _ _ _ h => h
              case hy69 => exact Or.inl ⟨by rfl, fun U hU => ex_str (HRV.out.bel hU) 5 Tryd.underlying26 Tryd.underlying5 und_str rfl⟩
              simp only [Act.put, List.setIfInBounds_toArray, List.set_cons_zero, List.set_cons_succ]
              refine wpAnyH_take (i := 15) (oi := ?oi70) (v := .bool false) ?hi70 (by kernel_rfl) (by kernel_rfl) (by kernel_rfl) ?hQ70 ?hy70 (by assumption) ?rest70
              case hi70 => (simp only [List.getElem?_toArray, List.getElem?_cons_zero, List.getElem?_cons_succ]; rfl)
              case hQ70 => exact fun _ _ _ h => h
              case hy70 => exact Or.inl ⟨by rfl, fun U hU => (ex_sneq (strB s.b) (strB s.b) rfl rfl U).trans (by rw [beq_self_eq_true]; rfl)⟩
              simp only [Act.put, List.setIfInBounds_toArray, List.set_cons_zero, List.set_cons_succ]
              refine wpAnyH_done (by kernel_rfl) ?_ _
              clear hHeld
              go_wp2
              go_roundw
              case rel => exact ⟨i + 1, hlt2, by go_num, by rw [HRR.out]; exact hin9, hb6⟩
              case measure => simp [intOf]; omega
            | false =>
              rw [hrun] at hcc0
              have hcc1 := (hb.cell (p := ⟨b, off + i * 4 + 1, none⟩) hbB).trans HC1.out
              have hcc2 := (hb.cell (p := ⟨b, off + i * 4 + 2, none⟩) hbB).trans HC2.out
              by_cases hbad : s.n < 1 ∨ 8 < s.n
              · rw [piece_none s hrun hbad, List.nil_append] at hin
                rcases Int.lt_or_le s.n 1 with hb1 | hb1
                · clear hbad
                  go_wp2
                  go_roundw
                  case rel => exact ⟨i + 1, hlt2, by go_num, by rw [HRR.out]; exact hin, hb⟩
                  case measure => simp [intOf]; omega
                · have hb8 : 8 < s.n := by omega
                  clear hbad
                  go_wp2
                  go_roundw
                  case rel => exact ⟨i + 1, hlt2, by go_num, by rw [HRR.out]; exact hin, hb⟩
                  case measure => simp [intOf]; omega
              · obtain ⟨m, hm⟩ := Int.eq_ofNat_of_zero_le (show 0 ≤ s.n by omega)
                have hm1 : 1 ≤ m := by omega
                have hm8 : m ≤ 8 := by omega
                have HN : Hid (∀ U, InP p U ⟨piece s ++ r, 0⟩ → Calls Tryd.prog 24 #[.pointer (some ⟨p, 0, none⟩), .int .i64 (m : Nat), .int .u64 18446744073709551615] U fun e w' => e = .returned (.int .u64 (s.v % 256 ^ m : Nat)) ∧ InP p w' ⟨r, 0⟩ ∧ Hole p (p + 1) U w' ∧ w'.heap.size = U.heap.size) := hide (fun U hU => by
                  have := inN_any p ⟨piece s ++ r, 0⟩ U hU (m : Nat) 18446744073709551615 (by decide)
                  rw [take_num s hrun m hm hm1 hm8 r] at this
                  exact this)
                rw [hm] at hcc2 hbad
                have HAND := hide (fun h8 => and_low s.v m hv64 h8)
                obtain ⟨sv, hsv⟩ : ∃ q, s.v = q := ⟨_, rfl⟩
                rw [hsv] at hcc1 HN HAND hv64
                clear hm hbad hsv
                by_cases h8 : m < 8
                · have hand := HAND.out h8
                  obtain ⟨z, hz⟩ : ∃ q, sv % 256 ^ m = q := ⟨_, rfl⟩
                  rw [hz] at HN hand
                  clear hz HAND
                  go_wp2_with (go_at_call 24; (with_reducible refine (HN.out _ hin).mono ?_); rintro e W6 ⟨rfl, hin6, hhl, _⟩; have hb6 := hb.trans ((hhl.below (Nat.le_of_lt hpl)).mono hpN); clear hhl)
                  go_roundw
                  case rel => exact ⟨i + 1, hlt2, by go_num, by rw [HRR.out]; exact hin6, hb6⟩
                  case measure => simp [intOf]; omega
                · have hm88 : m = 8 := by omega
                  have h256 : (256 : Nat) ^ 8 = 18446744073709551616 := by decide
                  have hmod : sv % 256 ^ m = sv := by rw [hm88]; exact Nat.mod_eq_of_lt (by omega)
                  rw [hmod] at HN
                  clear HAND hmod h256 hm88
                  go_wp2_with (go_at_call 24; (with_reducible refine (HN.out _ hin).mono ?_); rintro e W6 ⟨rfl, hin6, hhl, _⟩; have hb6 := hb.trans ((hhl.below (Nat.le_of_lt hpl)).mono hpN); clear hhl)
                  go_roundw
                  case rel => exact ⟨i + 1, hlt2, by go_num, by rw [HRR.out]; exact hin6, hb6⟩
                  case measure => simp [intOf]; omega
          · obtain rfl : i = k := by omega
            have hdn : (A.take i).drop i = [] := List.drop_eq_nil_of_le (by rw [List.length_take]; omega)
            rw [hdn] at hin
            have HDI := hide (inD_any p ⟨pcs [], 0⟩ wr hin)
            rw [show errS (doneE ⟨pcs [], 0⟩) = .nilIface from rfl] at HDI
            go_wp2_with (first | (go_at_call 25; (with_reducible refine (HDI.out).mono ?_); rintro e W9 ⟨rfl, rfl⟩) | (go_at_call 10; (with_reducible refine (HSU.out _ (HT.out.below hb)).mono ?_); rintro e W9 ⟨rfl, hb9⟩; replace hb := below_bl rfl hb hb9; clear hb9))
            go_ret
            exact ⟨rfl, hb⟩
end Go.Proofs.YtkahkkcbigifiaaDoor
