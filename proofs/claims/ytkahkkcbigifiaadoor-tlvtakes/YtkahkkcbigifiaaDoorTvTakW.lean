/-
  TlvTakes, walked.
-/
import Derived.Test.YtkahkkcbigifiaaDoorTvTakA
namespace Go.Proofs.YtkahkkcbigifiaaDoor
open Go.RowKit
set_option linter.unusedVariables false
set_option linter.unusedSimpArgs false

set_option maxRecDepth 100000 in
set_option maxHeartbeats 8000000 in
theorem takes_walk {v lv : Value} {l : List Nat} {A : List AskS} (w : World) (h : Rd w.heap.size w v l) (hA : AsksAt w.heap.size w lv A) (hn : l.length ≤ 140737488355328) (hm63 : ∀ s ∈ A, s.most ≤ 9223372036854775807) (hH : HandleAt w) (hT : TabAt w) :
    Calls Tryd.prog 5 #[v, lv] w fun e w' => e = .returned (.bool true) ∧ Below w.heap.size w w' := by
  have HR := hide h
  have HA := hide hA
  have HM := hide hm63
  have HH := hide hH
  have HT := hide hT
  have HNL := hide hn
  have HNI := hide (newIn_any w h (Nat.le_refl _) hn)
  have HSU := hide (fun W hg => tsure_any con_tab W hg)
  have HNN := hide (fun (w : World) => (show Calls Tryd.prog 24 #[.pointer none, .int .i64 4, .int .u64 9] w fun e w' => e = .returned (.int .u64 0) ∧ w' = w from nilN_any 4 9 w))
  have HNR := hide (fun w => nilR_any 9 w)
  have HND := hide (fun w => nilD_any w)
  have HON := hide (fun (w : World) => (show Calls Tryd.prog 27 #[.pointer none, .int .u64 1, .int .i64 4] w fun e w' => e = .returned (.pointer none) ∧ w' = w from nilON_any 1 4 w))
  have HOD := hide (fun w => nilOD_any w)
  have HN1 := hide (fun W hg => num_err 1 W hg)
  have HNM := hide (fun (e : Nat) W hg => nums_any e W hg)
  obtain ⟨ad, cap, rfl, hcap, hmax⟩ := h.form
  obtain ⟨la, lc, hlv, hlcap, hlmax⟩ := ElemsAt.form hA
  subst hlv
  have HOR := hide (fun w => nilOR_any (.slice ad l.length cap) w)
  obtain ⟨len, hlen⟩ : ∃ q, A.length = q := ⟨_, rfl⟩
  have HLEN := hide hlen
  rw [hlen] at hlcap ⊢
  obtain ⟨ll, hll⟩ : ∃ q, l.length = q := ⟨_, rfl⟩
  have HLL := hide hll
  have hNIr := HNI.out
  have hORr := HOR.out
  have hRr := HR.out
  rw [hll] at hNIr hORr hRr hcap hn ⊢
  replace HNI := hide hNIr
  replace HOR := hide hORr
  replace HR := hide hRr
  obtain ⟨n, hnn⟩ : ∃ q, min len 60 = q := ⟨_, rfl⟩
  have hn60 : n ≤ 60 := by omega
  have hnl : n ≤ len := by omega
  clear h hA hm63 hH hT hlen hNIr hORr hRr hll
  go_enter Tryd.func5, Tryd.ntmps5
  go_wp2_with (first | (go_at_call 20; (with_reducible refine (HNI.out).mono ?_); rintro e W ⟨p, rfl, hp0, hpz, hin, hb⟩; have HPZ := hide hpz; clear hpz) | ((with_reducible refine op_allocT (inC (.slice none 0 0) 0) zero_in ?_); intro W2 py hpy hry hb2; have hpp : p + 1 ≤ py := by (have := HPZ.out; omega)) | ((with_reducible refine st_in ad ll cap 0 hry ?_ ?_ ?_); exact rfl; exact rfl; intro W3 hnew ho; replace hb2 := ho.bel _ _ hpy hb2; replace hin := hin.bl hb2; replace hry := hnew; replace hb := below_bl rfl hb hb2; clear hnew ho hb2))
  have hppy : p < py := by omega
  have HPY := hide (show py < W3.heap.size from hry.lt)
  go_loopw [7] (TkRel p py w.heap.size n w l) (fun iv _ => n - (intOf iv).toNat)
  case atStart => exact ⟨0, ⟨l, 0⟩, _, Nat.zero_le _, rfl, hin, Nat.le_refl _, hry, HR.out, hb⟩
  case round =>
    clear hb hry hin
    obtain ⟨k, i, vy, hk, rfl, hin, hil, hry, hvy, hb⟩ := hrel
    have HVY := hide hvy
    have HIL := hide hil
    have hpyw : py < wr.heap.size := hry.lt
    clear hvy hil
    by_cases hlt : k < n
    · obtain ⟨b, off, c', hv, _, _, hbB, HC⟩ := HA.out.all (by have := HLEN.out; omega)
      injection hv with hv hv2 hv3
      subst hv hv3
      clear hv2
      have hkA : k < A.length := by have := HLEN.out; omega
      have hlk : k < len := by omega
      have hk60 : k < 60 := by omega
      obtain ⟨c0, c1, c2⟩ := HC.out k hkA
      have hm1 := HM.out _ (List.getElem_mem hkA)
      obtain ⟨s, hs⟩ : ∃ q, A[k] = q := ⟨_, rfl⟩
      rw [hs] at c0 c1 c2 hm1
      have HC1 := hide c1
      have HC2 := hide c2
      have hcc0 := (hb.cell (p := ⟨b, off + k * 3, none⟩) hbB).trans c0
      clear c0 c1 c2 hs
      cases hrun : s.run with
      | true =>
        rw [hrun] at hcc0
        obtain ⟨⟨i2, bs⟩, hres⟩ : ∃ q : InS × List Nat, takeR i s.most = q := ⟨_, rfl⟩
        have hil2 := takeR_len i s.most
        have HTK : Hid (∀ U, Below w.heap.size w U → Calls Tryd.prog 21 #[.agg (inC vy i.err), .int .i64 s.most] U fun e w' => ∃ vy2 u, e = .returned (.tuple #[.agg (inC vy2 i2.err), u]) ∧ Rd w.heap.size w vy2 i2.b ∧ Rd w.heap.size w u bs ∧ Below U.heap.size U w') := hide (fun U hU => by
          refine (rtakeR_any (i := i) U (HVY.out.bel hU) hU.size s.most hm1).mono ?_
          rintro e w' ⟨vy2, u, rfl, h1, h2, h3⟩
          rw [hres] at h1 h2
          exact ⟨vy2, u, by rw [hres]; rfl, h1.back (below_bl' hU h3), h2.back (below_bl' hU h3), h3⟩)
        have HRUN : Hid (∀ U, InP p U i → Calls Tryd.prog 22 #[.pointer (some ⟨p, 0, none⟩), .int .i64 s.most] U fun e w' => ∃ v', e = .returned v' ∧ Rd w'.heap.size w' v' bs ∧ InP p w' i2 ∧ Hole p (p + 1) U w') := hide (fun U hU => by
          have := inR_any p i U hU (Nat.le_trans HIL.out HNL.out) s.most hm1
          rw [hres] at this
          exact this)
        rw [hres] at hil2
        replace hil2 : i2.b.length ≤ i.b.length := hil2
        have HIL2 := hide (Nat.le_trans hil2 HIL.out)
        clear hres hil2
        go_wp2
        refine wp_region_held_drew (S := (fun U => Below wr.heap.size wr U)) (by kernel_rfl) ?_ (fun hHeld => ?_)
        · exact (Below.refl _ wr).drew
        generalize wr.drew = V at hHeld ⊢
        refine wpAnyH_take (i := 0) (oi := ?oi1) (v := .agg (inC vy i.err)) ?hi1 (by kernel_rfl) (by kernel_rfl) (by kernel_rfl) ?hQ1 ?hy1 (by assumption) ?rest1
        case hi1 => (simp only [List.getElem?_toArray, List.getElem?_cons_zero]; rfl)
        case hQ1 => exact fun _ _ _ h => h
        case hy1 => exact y_rowY py (fun U hU => hry.bl hU) rfl rfl
        simp only [Act.put, List.setIfInBounds_toArray, List.set_cons_zero, List.set_cons_succ]
        refine wpAnyH_take (i := 1) (oi := ?oi2) (v := .slice (some ⟨b, off, none⟩) len lc) ?hi2 (by kernel_rfl) (by kernel_rfl) (by kernel_rfl) ?hQ2 ?hy2 (by assumption) ?rest2
        case hi2 => (simp only [List.getElem?_toArray, List.getElem?_cons_zero, List.getElem?_cons_succ]; rfl)
        case hQ2 => exact fun _ _ _ h => h
        case hy2 => exact Or.inl ⟨by rfl, by (intro w hSw; (try dsimp only at hSw); go_simp )⟩
        simp only [Act.put, List.setIfInBounds_toArray, List.set_cons_zero, List.set_cons_succ]
        refine wpAnyH_take (i := 2) (oi := ?oi3) (v := .int .i64 (k : Nat)) ?hi3 (by kernel_rfl) (by kernel_rfl) (by kernel_rfl) ?hQ3 ?hy3 (by assumption) ?rest3
        case hi3 => (simp only [List.getElem?_toArray, List.getElem?_cons_zero, List.getElem?_cons_succ]; rfl)
        case hQ3 => exact fun _ _ _ h => h
        case hy3 => exact Or.inl ⟨by rfl, by (intro w hSw; (try dsimp only at hSw); go_simp )⟩
        simp only [Act.put, List.setIfInBounds_toArray, List.set_cons_zero, List.set_cons_succ]
        refine wpAnyH_take (i := 3) (oi := ?oi4) (v := .pointer (some ⟨b, off + k * 3, none⟩)) ?hi4 (by kernel_rfl) (by kernel_rfl) (by kernel_rfl) ?hQ4 ?hy4 (by assumption) ?rest4
        case hi4 => (simp only [List.getElem?_toArray, List.getElem?_cons_zero, List.getElem?_cons_succ]; rfl)
        case hQ4 => exact fun _ _ _ h => h
        case hy4 => exact Or.inl ⟨by rfl, fun U hU => ex_idxA b off len lc k (by omega) rfl rfl U⟩
        simp only [Act.put, List.setIfInBounds_toArray, List.set_cons_zero, List.set_cons_succ]
        refine wpAnyH_take (i := 4) (oi := ?oi5) (v := .pointer (some ⟨b, off + k * 3 + 2, none⟩)) ?hi5 (by kernel_rfl) (by kernel_rfl) (by kernel_rfl) ?hQ5 ?hy5 (by assumption) ?rest5
        case hi5 => (simp only [List.getElem?_toArray, List.getElem?_cons_zero, List.getElem?_cons_succ]; rfl)
        case hQ5 => exact fun _ _ _ h => h
        case hy5 => exact Or.inl ⟨by rfl, by (intro w hSw; (try dsimp only at hSw); go_simp )⟩
        simp only [Act.put, List.setIfInBounds_toArray, List.set_cons_zero, List.set_cons_succ]
        refine wpAnyH_take (i := 5) (oi := ?oi6) (v := .int .i64 s.most) ?hi6 (by kernel_rfl) (by kernel_rfl) (by kernel_rfl) ?hQ6 ?hy6 (by assumption) ?rest6
        case hi6 => (simp only [List.getElem?_toArray, List.getElem?_cons_zero, List.getElem?_cons_succ]; rfl)
        case hQ6 => exact fun _ _ _ h => h
        case hy6 => exact y_any b (off + k * 3 + 2) _ (fun U hU => ((below_bl rfl hb hU).cell (p := ⟨b, off + k * 3 + 2, none⟩) hbB).trans HC2.out) _ Tryd.underlying3 rfl rfl rfl
        simp only [Act.put, List.setIfInBounds_toArray, List.set_cons_zero, List.set_cons_succ]
        refine wpAnyH_ready (rs := [6, 10]) (by kernel_rfl) (by simp) ?_
        refine AllReadyH.cons (o := ?oi7) ?hi7 (fun K hK => ?b7) (AllReadyH.cons (o := ?oi8) ?hi8 (fun K hK => ?b8) (AllReadyH.nil))
        case hi7 => (simp only [List.getElem?_toArray, List.getElem?_cons_zero, List.getElem?_cons_succ]; rfl)
        case hi8 => (simp only [List.getElem?_toArray, List.getElem?_cons_zero, List.getElem?_cons_succ]; rfl)
        case b7 =>
          rw [if_pos (by rfl)]
          go_simp
          refine (HTK.out _ (below_bl rfl hb hHeld)).mono ?_
          rintro e V6 ⟨vy2, uu, rfl, hv2, hu2, hbc⟩
          have hH2 := hide (below_bl rfl hHeld hbc)
          (try replace hq := hq.bl hbc)
          have HV2 := hide hv2
          have HU2 := hide hu2
          obtain ⟨a2, c2, hvq, _, _⟩ := hv2.form
          subst hvq
          obtain ⟨a3, c3, hvq, _, _⟩ := hu2.form
          subst hvq
          clear hHeld hbc hv2 hu2
          go_simp
          refine hK.out _ _ ?_ (fun hHeld => ?_)
          · exact hH2.out
          clear hK K
          clear hH2
          refine wpAnyH_take (i := 7) (oi := ?oi9) (v := .tuple #[.agg (inC (.slice a2 i2.b.length c2) i2.err), .slice a3 bs.length c3]) ?hi9 (by kernel_rfl) (by kernel_rfl) (by kernel_rfl) ?hQ9 ?hy9 (by assumption) ?rest9
          case hi9 => (simp only [List.getElem?_toArray, List.getElem?_cons_zero, List.getElem?_cons_succ]; rfl)
          case hQ9 => exact fun _ _ _ h => h
          case hy9 => exact Or.inl ⟨by rfl, by (intro w hSw; (try dsimp only at hSw); go_simp )⟩
          simp only [Act.put, List.setIfInBounds_toArray, List.set_cons_zero, List.set_cons_succ]
          refine wpAnyH_take (i := 8) (oi := ?oi10) (v := .agg (inC (.slice a2 i2.b.length c2) i2.err)) ?hi10 (by kernel_rfl) (by kernel_rfl) (by kernel_rfl) ?hQ10 ?hy10 (by assumption) ?rest10
          case hi10 => (simp only [List.getElem?_toArray, List.getElem?_cons_zero, List.getElem?_cons_succ]; rfl)
          case hQ10 => exact fun _ _ _ h => h
          case hy10 => exact Or.inl ⟨by rfl, by (intro w hSw; (try dsimp only at hSw); go_simp )⟩
          simp only [Act.put, List.setIfInBounds_toArray, List.set_cons_zero, List.set_cons_succ]
          refine wpAnyH_take (i := 9) (oi := ?oi11) (v := .slice a3 bs.length c3) ?hi11 (by kernel_rfl) (by kernel_rfl) (by kernel_rfl) ?hQ11 ?hy11 (by assumption) ?rest11
          case hi11 => (simp only [List.getElem?_toArray, List.getElem?_cons_zero, List.getElem?_cons_succ]; rfl)
          case hQ11 => exact fun _ _ _ h => h
          case hy11 => exact Or.inl ⟨by rfl, by (intro w hSw; (try dsimp only at hSw); go_simp )⟩
          simp only [Act.put, List.setIfInBounds_toArray, List.set_cons_zero, List.set_cons_succ]
          refine wpAnyH_ready (rs := [10]) (by kernel_rfl) (by simp) ?_
          refine AllReadyH.cons (o := ?oi12) ?hi12 (fun K hK => ?_) AllReadyH.nil
          case hi12 => (simp only [List.getElem?_toArray, List.getElem?_cons_zero, List.getElem?_cons_succ]; rfl)
          rw [if_pos (by rfl)]
          refine s_allocT (inC (.slice none 0 0) 0) zero_in ?_
          intro V10 e8 he8 hq hbc
          have HE8 := hide (Nat.le_trans hHeld.size he8)
          have hH2 := hide (below_bl rfl hHeld hbc)
          clear hHeld hbc he8
          refine hK.out _ _ ?_ (fun hHeld => ?_)
          · exact hH2.out
          clear hK K
          clear hH2
          refine wpAnyH_ready (rs := [11]) (by kernel_rfl) (by simp) ?_
          refine AllReadyH.cons (o := ?oi13) ?hi13 (fun K hK => ?_) AllReadyH.nil
          case hi13 => (simp only [List.getElem?_toArray, List.getElem?_cons_zero, List.getElem?_cons_succ]; rfl)
          rw [if_pos (by rfl)]
          refine s_in a2 i2.b.length c2 i2.err hq rfl rfl ?_
          intro V11 hnew ho
          have hH2 := hide (ho.bel _ _ HE8.out hHeld)
          replace hq := hnew
          clear hHeld hnew ho
          refine hK.out _ _ ?_ (fun hHeld => ?_)
          · exact hH2.out
          clear hK K
          clear hH2
          refine wpAnyH_take (i := 12) (oi := ?oi14) (v := .slice a3 bs.length c3) ?hi14 (by kernel_rfl) (by kernel_rfl) (by kernel_rfl) ?hQ14 ?hy14 (by assumption) ?rest14
          case hi14 => (simp only [List.getElem?_toArray, List.getElem?_cons_zero, List.getElem?_cons_succ]; rfl)
          case hQ14 => exact fun _ _ _ h => h
          case hy14 => exact Or.inl ⟨by rfl, by (intro w hSw; (try dsimp only at hSw); go_simp )⟩
          simp only [Act.put, List.setIfInBounds_toArray, List.set_cons_zero, List.set_cons_succ]
          refine wpAnyH_done (by kernel_rfl) ?_ _
          replace hb := below_bl rfl hb hHeld
          replace hin := hin.bl hHeld
          replace hry := hry.bl hHeld
          have hqp : e8 ≠ py := by have := HE8.out; omega
          clear hHeld
          go_wp2_with (first | ((with_reducible refine ld_in hq ?_ ?_); exact rfl) | ((with_reducible refine st_in a2 i2.b.length c2 i2.err hry ?_ ?_ ?_); exact rfl; exact rfl; intro W7 hnew ho; have hin7 := inP_only hin ho hppy; replace hb := ho.bel _ _ (by omega) hb; replace hry := hnew; clear hnew ho hin hq hqp))
          refine wp_region_held_drew (S := (fun U => Below w.heap.size w U)) (by kernel_rfl) ?_ (fun hHeld => ?_)
          · exact hb.drew
          have hin8 := hin7.bl (Below.refl _ W7).drew
          replace hry := hry.dr
          clear hin7
          generalize W7.drew = Z at hHeld hin8 hry ⊢
          refine wpAnyH_take (i := 0) (oi := ?oi15) (v := .pointer (some ⟨p, 0, none⟩)) ?hi15 (by kernel_rfl) (by kernel_rfl) (by kernel_rfl) ?hQ15 ?hy15 (by assumption) ?rest15
          case hi15 => (simp only [List.getElem?_toArray, List.getElem?_cons_zero]; rfl)
          case hQ15 => exact fun _ _ _ h => h
          case hy15 => exact Or.inl ⟨by rfl, by (intro w hSw; (try dsimp only at hSw); go_simp )⟩
          simp only [Act.put, List.setIfInBounds_toArray, List.set_cons_zero, List.set_cons_succ]
          refine wpAnyH_take (i := 1) (oi := ?oi16) (v := .slice (some ⟨b, off, none⟩) len lc) ?hi16 (by kernel_rfl) (by kernel_rfl) (by kernel_rfl) ?hQ16 ?hy16 (by assumption) ?rest16
          case hi16 => (simp only [List.getElem?_toArray, List.getElem?_cons_zero, List.getElem?_cons_succ]; rfl)
          case hQ16 => exact fun _ _ _ h => h
          case hy16 => exact Or.inl ⟨by rfl, by (intro w hSw; (try dsimp only at hSw); go_simp )⟩
          simp only [Act.put, List.setIfInBounds_toArray, List.set_cons_zero, List.set_cons_succ]
          refine wpAnyH_take (i := 2) (oi := ?oi17) (v := .int .i64 (k : Nat)) ?hi17 (by kernel_rfl) (by kernel_rfl) (by kernel_rfl) ?hQ17 ?hy17 (by assumption) ?rest17
          case hi17 => (simp only [List.getElem?_toArray, List.getElem?_cons_zero, List.getElem?_cons_succ]; rfl)
          case hQ17 => exact fun _ _ _ h => h
          case hy17 => exact Or.inl ⟨by rfl, by (intro w hSw; (try dsimp only at hSw); go_simp )⟩
          simp only [Act.put, List.setIfInBounds_toArray, List.set_cons_zero, List.set_cons_succ]
          refine wpAnyH_take (i := 3) (oi := ?oi18) (v := .pointer (some ⟨b, off + k * 3, none⟩)) ?hi18 (by kernel_rfl) (by kernel_rfl) (by kernel_rfl) ?hQ18 ?hy18 (by assumption) ?rest18
          case hi18 => (simp only [List.getElem?_toArray, List.getElem?_cons_zero, List.getElem?_cons_succ]; rfl)
          case hQ18 => exact fun _ _ _ h => h
          case hy18 => exact Or.inl ⟨by rfl, fun U hU => ex_idxA b off len lc k (by omega) rfl rfl U⟩
          simp only [Act.put, List.setIfInBounds_toArray, List.set_cons_zero, List.set_cons_succ]
          refine wpAnyH_take (i := 4) (oi := ?oi19) (v := .pointer (some ⟨b, off + k * 3 + 2, none⟩)) ?hi19 (by kernel_rfl) (by kernel_rfl) (by kernel_rfl) ?hQ19 ?hy19 (by assumption) ?rest19
          case hi19 => (simp only [List.getElem?_toArray, List.getElem?_cons_zero, List.getElem?_cons_succ]; rfl)
          case hQ19 => exact fun _ _ _ h => h
          case hy19 => exact Or.inl ⟨by rfl, by (intro w hSw; (try dsimp only at hSw); go_simp )⟩
          simp only [Act.put, List.setIfInBounds_toArray, List.set_cons_zero, List.set_cons_succ]
          refine wpAnyH_take (i := 5) (oi := ?oi20) (v := .int .i64 s.most) ?hi20 (by kernel_rfl) (by kernel_rfl) (by kernel_rfl) ?hQ20 ?hy20 (by assumption) ?rest20
          case hi20 => (simp only [List.getElem?_toArray, List.getElem?_cons_zero, List.getElem?_cons_succ]; rfl)
          case hQ20 => exact fun _ _ _ h => h
          case hy20 => exact y_any b (off + k * 3 + 2) _ (fun U hU => (hU.cell (p := ⟨b, off + k * 3 + 2, none⟩) hbB).trans HC2.out) _ Tryd.underlying3 rfl rfl rfl
          simp only [Act.put, List.setIfInBounds_toArray, List.set_cons_zero, List.set_cons_succ]
          refine wpAnyH_take (i := 8) (oi := ?oi21) (v := .slice a3 bs.length c3) ?hi21 (by kernel_rfl) (by kernel_rfl) (by kernel_rfl) ?hQ21 ?hy21 (by assumption) ?rest21
          case hi21 => (simp only [List.getElem?_toArray, List.getElem?_cons_zero, List.getElem?_cons_succ]; rfl)
          case hQ21 => exact fun _ _ _ h => h
          case hy21 => exact Or.inl ⟨by rfl, by (intro w hSw; (try dsimp only at hSw); go_simp )⟩
          simp only [Act.put, List.setIfInBounds_toArray, List.set_cons_zero, List.set_cons_succ]
          refine wpAnyH_take (i := 9) (oi := ?oi22) (v := .string (strB bs)) ?hi22 (by kernel_rfl) (by kernel_rfl) (by kernel_rfl) ?hQ22 ?hy22 (by assumption) ?rest22
          case hi22 => (simp only [List.getElem?_toArray, List.getElem?_cons_zero, List.getElem?_cons_succ]; rfl)
          case hQ22 => exact fun _ _ _ h => h
          case hy22 => exact Or.inl ⟨by rfl, fun U hU => ex_str (HU2.out.bel hU) 5 Tryd.underlying26 Tryd.underlying5 und_str rfl⟩
          simp only [Act.put, List.setIfInBounds_toArray, List.set_cons_zero, List.set_cons_succ]
          refine wpAnyH_ready (rs := [6]) (by kernel_rfl) (by simp) ?_
          refine AllReadyH.cons (o := ?oi23) ?hi23 (fun K hK => ?_) AllReadyH.nil
          case hi23 => (simp only [List.getElem?_toArray, List.getElem?_cons_zero, List.getElem?_cons_succ]; rfl)
          rw [if_pos (by rfl)]
          go_simp
          refine (HRUN.out _ hin8).mono ?_
          rintro e Z2 ⟨v2, rfl, hrv, hin9, hhl⟩
          obtain ⟨a9, c9, hv9, _, _⟩ := hrv.form
          subst hv9
          have hH2 := hide (hHeld.trans ((hhl.below (Nat.le_of_lt hin8.row)).mono (by omega)))
          replace hry := hhl.row hry (Or.inr (by omega))
          clear hHeld hhl
          go_simp
          refine hK.out _ _ ?_ (fun hHeld => ?_)
          · exact hH2.out
          clear hK K
          have HRV := hide hrv
          replace hb := hH2.out
          clear hrv hHeld hH2
          refine wpAnyH_more (S' := fun U => Below Z2.heap.size Z2 U) (fun U h => below_bl rfl hb h) _ _ _ _ ?_
          have hHeld := Below.refl Z2.heap.size Z2
          refine wpAnyH_take (i := 7) (oi := ?oi24) (v := .string (strB bs)) ?hi24 (by kernel_rfl) (by kernel_rfl) (by kernel_rfl) ?hQ24 ?hy24 (by assumption) ?rest24
          case hi24 => (simp only [List.getElem?_toArray, List.getElem?_cons_zero, List.getElem?_cons_succ]; rfl)
          case hQ24 => exact fun _ _ _ h => h
          case hy24 => exact Or.inl ⟨by rfl, fun U hU => ex_str (HRV.out.bel hU) 5 Tryd.underlying26 Tryd.underlying5 und_str rfl⟩
          simp only [Act.put, List.setIfInBounds_toArray, List.set_cons_zero, List.set_cons_succ]
          refine wpAnyH_take (i := 10) (oi := ?oi25) (v := .bool false) ?hi25 (by kernel_rfl) (by kernel_rfl) (by kernel_rfl) ?hQ25 ?hy25 (by assumption) ?rest25
          case hi25 => (simp only [List.getElem?_toArray, List.getElem?_cons_zero, List.getElem?_cons_succ]; rfl)
          case hQ25 => exact fun _ _ _ h => h
          case hy25 => exact Or.inl ⟨by rfl, fun U hU => (ex_sneq (strB bs) (strB bs) rfl rfl U).trans (by rw [beq_self_eq_true]; rfl)⟩
          simp only [Act.put, List.setIfInBounds_toArray, List.set_cons_zero, List.set_cons_succ]
          refine wpAnyH_done (by kernel_rfl) ?_ _
          clear hHeld
          have hin := hin9
          clear hin9 hin8
          go_wp2
          refine wp_region_held_drew (S := (fun U => Below Z2.heap.size Z2 U)) (by kernel_rfl) ?_ (fun hHeld => ?_)
          · exact (Below.refl _ Z2).drew
          generalize Z2.drew = Y at hHeld ⊢
          refine wpAnyH_take (i := 0) (oi := ?oi26) (v := .pointer (some ⟨p, 0, none⟩)) ?hi26 (by kernel_rfl) (by kernel_rfl) (by kernel_rfl) ?hQ26 ?hy26 (by assumption) ?rest26
          case hi26 => (simp only [List.getElem?_toArray, List.getElem?_cons_zero]; rfl)
          case hQ26 => exact fun _ _ _ h => h
          case hy26 => exact Or.inl ⟨by rfl, by (intro w hSw; (try dsimp only at hSw); go_simp )⟩
          simp only [Act.put, List.setIfInBounds_toArray, List.set_cons_zero, List.set_cons_succ]
          refine wpAnyH_take (i := 3) (oi := ?oi27) (v := .agg (inC (.slice a2 i2.b.length c2) i2.err)) ?hi27 (by kernel_rfl) (by kernel_rfl) (by kernel_rfl) ?hQ27 ?hy27 (by assumption) ?rest27
          case hi27 => (simp only [List.getElem?_toArray, List.getElem?_cons_zero, List.getElem?_cons_succ]; rfl)
          case hQ27 => exact fun _ _ _ h => h
          case hy27 => exact y_rowY py (fun U hU => hry.bl hU) rfl rfl
          simp only [Act.put, List.setIfInBounds_toArray, List.set_cons_zero, List.set_cons_succ]
          refine wpAnyH_ready (rs := [1]) (by kernel_rfl) (by simp) ?_
          refine AllReadyH.cons (o := ?oi28) ?hi28 (fun K hK => ?_) AllReadyH.nil
          case hi28 => (simp only [List.getElem?_toArray, List.getElem?_cons_zero, List.getElem?_cons_succ]; rfl)
          rw [if_pos (by rfl)]
          go_simp
          refine (inD_any p i2 _ (hin.bl hHeld)).mono ?_
          rintro e Y1 ⟨rfl, rfl⟩
          have hH2 := hide hHeld
          clear hHeld
          go_simp
          refine hK.out _ _ ?_ (fun hHeld => ?_)
          · exact hH2.out
          clear hK K
          clear hH2
          refine wpAnyH_ready (rs := [2]) (by kernel_rfl) (by simp) ?_
          refine AllReadyH.cons (o := ?oi29) ?hi29 (fun K hK => ?_) AllReadyH.nil
          case hi29 => (simp only [List.getElem?_toArray, List.getElem?_cons_zero, List.getElem?_cons_succ]; rfl)
          rw [if_pos (by rfl)]
          go_simp
          refine (HNM.out (doneE i2) _ (HH.out.below (below_bl rfl hb hHeld))).mono ?_
          rintro e Y2 ⟨rfl, hbc⟩
          have hH2 := hide (below_bl rfl hHeld hbc)
          clear hHeld hbc
          go_simp
          refine hK.out _ _ ?_ (fun hHeld => ?_)
          · exact hH2.out
          clear hK K
          clear hH2
          refine wpAnyH_ready (rs := [4]) (by kernel_rfl) (by simp) ?_
          refine AllReadyH.cons (o := ?oi30) ?hi30 (fun K hK => ?_) AllReadyH.nil
          case hi30 => (simp only [List.getElem?_toArray, List.getElem?_cons_zero, List.getElem?_cons_succ]; rfl)
          rw [if_pos (by rfl)]
          go_simp
          refine (rdone_any a2 c2 i2 _).mono ?_
          rintro e Y4 ⟨rfl, hbc⟩
          have hH2 := hide (below_bl rfl hHeld hbc)
          clear hHeld hbc
          go_simp
          refine hK.out _ _ ?_ (fun hHeld => ?_)
          · exact hH2.out
          clear hK K
          clear hH2
          refine wpAnyH_take (i := 5) (oi := ?oi31) (v := .bool false) ?hi31 (by kernel_rfl) (by kernel_rfl) (by kernel_rfl) ?hQ31 ?hy31 (by assumption) ?rest31
          case hi31 => (simp only [List.getElem?_toArray, List.getElem?_cons_zero, List.getElem?_cons_succ]; rfl)
          case hQ31 => exact fun _ _ _ h => h
          case hy31 => exact Or.inl ⟨by rfl, by (intro w hSw; go_simp)⟩
          simp only [Act.put, List.setIfInBounds_toArray, List.set_cons_zero, List.set_cons_succ]
          refine wpAnyH_done (by kernel_rfl) ?_ _
          replace hin := hin.bl hHeld
          replace hry := hry.bl hHeld
          replace hb := below_bl rfl hb hHeld
          clear hHeld
          go_wp2
          go_roundw
          case rel => exact ⟨k + 1, i2, _, hlt, by go_num, hin, HIL2.out, hry, HV2.out, hb⟩
          case measure => simp [intOf]; omega
        case b8 =>
          rw [if_pos (by rfl)]
          refine s_allocT (inC (.slice none 0 0) 0) zero_in ?_
          intro V10 e8 he8 hq hbc
          have HE8 := hide (Nat.le_trans hHeld.size he8)
          have hH2 := hide (below_bl rfl hHeld hbc)
          clear hHeld hbc he8
          refine hK.out _ _ ?_ (fun hHeld => ?_)
          · exact hH2.out
          clear hK K
          clear hH2
          refine wpAnyH_ready (rs := [6]) (by kernel_rfl) (by simp) ?_
          refine AllReadyH.cons (o := ?oi32) ?hi32 (fun K hK => ?_) AllReadyH.nil
          case hi32 => (simp only [List.getElem?_toArray, List.getElem?_cons_zero, List.getElem?_cons_succ]; rfl)
          rw [if_pos (by rfl)]
          go_simp
          refine (HTK.out _ (below_bl rfl hb hHeld)).mono ?_
          rintro e V6 ⟨vy2, uu, rfl, hv2, hu2, hbc⟩
          have hH2 := hide (below_bl rfl hHeld hbc)
          (try replace hq := hq.bl hbc)
          have HV2 := hide hv2
          have HU2 := hide hu2
          obtain ⟨a2, c2, hvq, _, _⟩ := hv2.form
          subst hvq
          obtain ⟨a3, c3, hvq, _, _⟩ := hu2.form
          subst hvq
          clear hHeld hbc hv2 hu2
          go_simp
          refine hK.out _ _ ?_ (fun hHeld => ?_)
          · exact hH2.out
          clear hK K
          clear hH2
          refine wpAnyH_take (i := 7) (oi := ?oi33) (v := .tuple #[.agg (inC (.slice a2 i2.b.length c2) i2.err), .slice a3 bs.length c3]) ?hi33 (by kernel_rfl) (by kernel_rfl) (by kernel_rfl) ?hQ33 ?hy33 (by assumption) ?rest33
          case hi33 => (simp only [List.getElem?_toArray, List.getElem?_cons_zero, List.getElem?_cons_succ]; rfl)
          case hQ33 => exact fun _ _ _ h => h
          case hy33 => exact Or.inl ⟨by rfl, by (intro w hSw; (try dsimp only at hSw); go_simp )⟩
          simp only [Act.put, List.setIfInBounds_toArray, List.set_cons_zero, List.set_cons_succ]
          refine wpAnyH_take (i := 8) (oi := ?oi34) (v := .agg (inC (.slice a2 i2.b.length c2) i2.err)) ?hi34 (by kernel_rfl) (by kernel_rfl) (by kernel_rfl) ?hQ34 ?hy34 (by assumption) ?rest34
          case hi34 => (simp only [List.getElem?_toArray, List.getElem?_cons_zero, List.getElem?_cons_succ]; rfl)
          case hQ34 => exact fun _ _ _ h => h
          case hy34 => exact Or.inl ⟨by rfl, by (intro w hSw; (try dsimp only at hSw); go_simp )⟩
          simp only [Act.put, List.setIfInBounds_toArray, List.set_cons_zero, List.set_cons_succ]
          refine wpAnyH_take (i := 9) (oi := ?oi35) (v := .slice a3 bs.length c3) ?hi35 (by kernel_rfl) (by kernel_rfl) (by kernel_rfl) ?hQ35 ?hy35 (by assumption) ?rest35
          case hi35 => (simp only [List.getElem?_toArray, List.getElem?_cons_zero, List.getElem?_cons_succ]; rfl)
          case hQ35 => exact fun _ _ _ h => h
          case hy35 => exact Or.inl ⟨by rfl, by (intro w hSw; (try dsimp only at hSw); go_simp )⟩
          simp only [Act.put, List.setIfInBounds_toArray, List.set_cons_zero, List.set_cons_succ]
          refine wpAnyH_ready (rs := [11]) (by kernel_rfl) (by simp) ?_
          refine AllReadyH.cons (o := ?oi36) ?hi36 (fun K hK => ?_) AllReadyH.nil
          case hi36 => (simp only [List.getElem?_toArray, List.getElem?_cons_zero, List.getElem?_cons_succ]; rfl)
          rw [if_pos (by rfl)]
          refine s_in a2 i2.b.length c2 i2.err hq rfl rfl ?_
          intro V11 hnew ho
          have hH2 := hide (ho.bel _ _ HE8.out hHeld)
          replace hq := hnew
          clear hHeld hnew ho
          refine hK.out _ _ ?_ (fun hHeld => ?_)
          · exact hH2.out
          clear hK K
          clear hH2
          refine wpAnyH_take (i := 12) (oi := ?oi37) (v := .slice a3 bs.length c3) ?hi37 (by kernel_rfl) (by kernel_rfl) (by kernel_rfl) ?hQ37 ?hy37 (by assumption) ?rest37
          case hi37 => (simp only [List.getElem?_toArray, List.getElem?_cons_zero, List.getElem?_cons_succ]; rfl)
          case hQ37 => exact fun _ _ _ h => h
          case hy37 => exact Or.inl ⟨by rfl, by (intro w hSw; (try dsimp only at hSw); go_simp )⟩
          simp only [Act.put, List.setIfInBounds_toArray, List.set_cons_zero, List.set_cons_succ]
          refine wpAnyH_done (by kernel_rfl) ?_ _
          replace hb := below_bl rfl hb hHeld
          replace hin := hin.bl hHeld
          replace hry := hry.bl hHeld
          have hqp : e8 ≠ py := by have := HE8.out; omega
          clear hHeld
          go_wp2_with (first | ((with_reducible refine ld_in hq ?_ ?_); exact rfl) | ((with_reducible refine st_in a2 i2.b.length c2 i2.err hry ?_ ?_ ?_); exact rfl; exact rfl; intro W7 hnew ho; have hin7 := inP_only hin ho hppy; replace hb := ho.bel _ _ (by omega) hb; replace hry := hnew; clear hnew ho hin hq hqp))
          refine wp_region_held_drew (S := (fun U => Below w.heap.size w U)) (by kernel_rfl) ?_ (fun hHeld => ?_)
          · exact hb.drew
          have hin8 := hin7.bl (Below.refl _ W7).drew
          replace hry := hry.dr
          clear hin7
          generalize W7.drew = Z at hHeld hin8 hry ⊢
          refine wpAnyH_take (i := 0) (oi := ?oi38) (v := .pointer (some ⟨p, 0, none⟩)) ?hi38 (by kernel_rfl) (by kernel_rfl) (by kernel_rfl) ?hQ38 ?hy38 (by assumption) ?rest38
          case hi38 => (simp only [List.getElem?_toArray, List.getElem?_cons_zero]; rfl)
          case hQ38 => exact fun _ _ _ h => h
          case hy38 => exact Or.inl ⟨by rfl, by (intro w hSw; (try dsimp only at hSw); go_simp )⟩
          simp only [Act.put, List.setIfInBounds_toArray, List.set_cons_zero, List.set_cons_succ]
          refine wpAnyH_take (i := 1) (oi := ?oi39) (v := .slice (some ⟨b, off, none⟩) len lc) ?hi39 (by kernel_rfl) (by kernel_rfl) (by kernel_rfl) ?hQ39 ?hy39 (by assumption) ?rest39
          case hi39 => (simp only [List.getElem?_toArray, List.getElem?_cons_zero, List.getElem?_cons_succ]; rfl)
          case hQ39 => exact fun _ _ _ h => h
          case hy39 => exact Or.inl ⟨by rfl, by (intro w hSw; (try dsimp only at hSw); go_simp )⟩
          simp only [Act.put, List.setIfInBounds_toArray, List.set_cons_zero, List.set_cons_succ]
          refine wpAnyH_take (i := 2) (oi := ?oi40) (v := .int .i64 (k : Nat)) ?hi40 (by kernel_rfl) (by kernel_rfl) (by kernel_rfl) ?hQ40 ?hy40 (by assumption) ?rest40
          case hi40 => (simp only [List.getElem?_toArray, List.getElem?_cons_zero, List.getElem?_cons_succ]; rfl)
          case hQ40 => exact fun _ _ _ h => h
          case hy40 => exact Or.inl ⟨by rfl, by (intro w hSw; (try dsimp only at hSw); go_simp )⟩
          simp only [Act.put, List.setIfInBounds_toArray, List.set_cons_zero, List.set_cons_succ]
          refine wpAnyH_take (i := 3) (oi := ?oi41) (v := .pointer (some ⟨b, off + k * 3, none⟩)) ?hi41 (by kernel_rfl) (by kernel_rfl) (by kernel_rfl) ?hQ41 ?hy41 (by assumption) ?rest41
          case hi41 => (simp only [List.getElem?_toArray, List.getElem?_cons_zero, List.getElem?_cons_succ]; rfl)
          case hQ41 => exact fun _ _ _ h => h
          case hy41 => exact Or.inl ⟨by rfl, fun U hU => ex_idxA b off len lc k (by omega) rfl rfl U⟩
          simp only [Act.put, List.setIfInBounds_toArray, List.set_cons_zero, List.set_cons_succ]
          refine wpAnyH_take (i := 4) (oi := ?oi42) (v := .pointer (some ⟨b, off + k * 3 + 2, none⟩)) ?hi42 (by kernel_rfl) (by kernel_rfl) (by kernel_rfl) ?hQ42 ?hy42 (by assumption) ?rest42
          case hi42 => (simp only [List.getElem?_toArray, List.getElem?_cons_zero, List.getElem?_cons_succ]; rfl)
          case hQ42 => exact fun _ _ _ h => h
          case hy42 => exact Or.inl ⟨by rfl, by (intro w hSw; (try dsimp only at hSw); go_simp )⟩
          simp only [Act.put, List.setIfInBounds_toArray, List.set_cons_zero, List.set_cons_succ]
          refine wpAnyH_take (i := 5) (oi := ?oi43) (v := .int .i64 s.most) ?hi43 (by kernel_rfl) (by kernel_rfl) (by kernel_rfl) ?hQ43 ?hy43 (by assumption) ?rest43
          case hi43 => (simp only [List.getElem?_toArray, List.getElem?_cons_zero, List.getElem?_cons_succ]; rfl)
          case hQ43 => exact fun _ _ _ h => h
          case hy43 => exact y_any b (off + k * 3 + 2) _ (fun U hU => (hU.cell (p := ⟨b, off + k * 3 + 2, none⟩) hbB).trans HC2.out) _ Tryd.underlying3 rfl rfl rfl
          simp only [Act.put, List.setIfInBounds_toArray, List.set_cons_zero, List.set_cons_succ]
          refine wpAnyH_take (i := 8) (oi := ?oi44) (v := .slice a3 bs.length c3) ?hi44 (by kernel_rfl) (by kernel_rfl) (by kernel_rfl) ?hQ44 ?hy44 (by assumption) ?rest44
          case hi44 => (simp only [List.getElem?_toArray, List.getElem?_cons_zero, List.getElem?_cons_succ]; rfl)
          case hQ44 => exact fun _ _ _ h => h
          case hy44 => exact Or.inl ⟨by rfl, by (intro w hSw; (try dsimp only at hSw); go_simp )⟩
          simp only [Act.put, List.setIfInBounds_toArray, List.set_cons_zero, List.set_cons_succ]
          refine wpAnyH_take (i := 9) (oi := ?oi45) (v := .string (strB bs)) ?hi45 (by kernel_rfl) (by kernel_rfl) (by kernel_rfl) ?hQ45 ?hy45 (by assumption) ?rest45
          case hi45 => (simp only [List.getElem?_toArray, List.getElem?_cons_zero, List.getElem?_cons_succ]; rfl)
          case hQ45 => exact fun _ _ _ h => h
          case hy45 => exact Or.inl ⟨by rfl, fun U hU => ex_str (HU2.out.bel hU) 5 Tryd.underlying26 Tryd.underlying5 und_str rfl⟩
          simp only [Act.put, List.setIfInBounds_toArray, List.set_cons_zero, List.set_cons_succ]
          refine wpAnyH_ready (rs := [6]) (by kernel_rfl) (by simp) ?_
          refine AllReadyH.cons (o := ?oi46) ?hi46 (fun K hK => ?_) AllReadyH.nil
          case hi46 => (simp only [List.getElem?_toArray, List.getElem?_cons_zero, List.getElem?_cons_succ]; rfl)
          rw [if_pos (by rfl)]
          go_simp
          refine (HRUN.out _ hin8).mono ?_
          rintro e Z2 ⟨v2, rfl, hrv, hin9, hhl⟩
          obtain ⟨a9, c9, hv9, _, _⟩ := hrv.form
          subst hv9
          have hH2 := hide (hHeld.trans ((hhl.below (Nat.le_of_lt hin8.row)).mono (by omega)))
          replace hry := hhl.row hry (Or.inr (by omega))
          clear hHeld hhl
          go_simp
          refine hK.out _ _ ?_ (fun hHeld => ?_)
          · exact hH2.out
          clear hK K
          have HRV := hide hrv
          replace hb := hH2.out
          clear hrv hHeld hH2
          refine wpAnyH_more (S' := fun U => Below Z2.heap.size Z2 U) (fun U h => below_bl rfl hb h) _ _ _ _ ?_
          have hHeld := Below.refl Z2.heap.size Z2
          refine wpAnyH_take (i := 7) (oi := ?oi47) (v := .string (strB bs)) ?hi47 (by kernel_rfl) (by kernel_rfl) (by kernel_rfl) ?hQ47 ?hy47 (by assumption) ?rest47
          case hi47 => (simp only [List.getElem?_toArray, List.getElem?_cons_zero, List.getElem?_cons_succ]; rfl)
          case hQ47 => exact fun _ _ _ h => h
          case hy47 => exact Or.inl ⟨by rfl, fun U hU => ex_str (HRV.out.bel hU) 5 Tryd.underlying26 Tryd.underlying5 und_str rfl⟩
          simp only [Act.put, List.setIfInBounds_toArray, List.set_cons_zero, List.set_cons_succ]
          refine wpAnyH_take (i := 10) (oi := ?oi48) (v := .bool false) ?hi48 (by kernel_rfl) (by kernel_rfl) (by kernel_rfl) ?hQ48 ?hy48 (by assumption) ?rest48
          case hi48 => (simp only [List.getElem?_toArray, List.getElem?_cons_zero, List.getElem?_cons_succ]; rfl)
          case hQ48 => exact fun _ _ _ h => h
          case hy48 => exact Or.inl ⟨by rfl, fun U hU => (ex_sneq (strB bs) (strB bs) rfl rfl U).trans (by rw [beq_self_eq_true]; rfl)⟩
          simp only [Act.put, List.setIfInBounds_toArray, List.set_cons_zero, List.set_cons_succ]
          refine wpAnyH_done (by kernel_rfl) ?_ _
          clear hHeld
          have hin := hin9
          clear hin9 hin8
          go_wp2
          refine wp_region_held_drew (S := (fun U => Below Z2.heap.size Z2 U)) (by kernel_rfl) ?_ (fun hHeld => ?_)
          · exact (Below.refl _ Z2).drew
          generalize Z2.drew = Y at hHeld ⊢
          refine wpAnyH_take (i := 0) (oi := ?oi49) (v := .pointer (some ⟨p, 0, none⟩)) ?hi49 (by kernel_rfl) (by kernel_rfl) (by kernel_rfl) ?hQ49 ?hy49 (by assumption) ?rest49
          case hi49 => (simp only [List.getElem?_toArray, List.getElem?_cons_zero]; rfl)
          case hQ49 => exact fun _ _ _ h => h
          case hy49 => exact Or.inl ⟨by rfl, by (intro w hSw; (try dsimp only at hSw); go_simp )⟩
          simp only [Act.put, List.setIfInBounds_toArray, List.set_cons_zero, List.set_cons_succ]
          refine wpAnyH_take (i := 3) (oi := ?oi50) (v := .agg (inC (.slice a2 i2.b.length c2) i2.err)) ?hi50 (by kernel_rfl) (by kernel_rfl) (by kernel_rfl) ?hQ50 ?hy50 (by assumption) ?rest50
          case hi50 => (simp only [List.getElem?_toArray, List.getElem?_cons_zero, List.getElem?_cons_succ]; rfl)
          case hQ50 => exact fun _ _ _ h => h
          case hy50 => exact y_rowY py (fun U hU => hry.bl hU) rfl rfl
          simp only [Act.put, List.setIfInBounds_toArray, List.set_cons_zero, List.set_cons_succ]
          refine wpAnyH_ready (rs := [1]) (by kernel_rfl) (by simp) ?_
          refine AllReadyH.cons (o := ?oi51) ?hi51 (fun K hK => ?_) AllReadyH.nil
          case hi51 => (simp only [List.getElem?_toArray, List.getElem?_cons_zero, List.getElem?_cons_succ]; rfl)
          rw [if_pos (by rfl)]
          go_simp
          refine (inD_any p i2 _ (hin.bl hHeld)).mono ?_
          rintro e Y1 ⟨rfl, rfl⟩
          have hH2 := hide hHeld
          clear hHeld
          go_simp
          refine hK.out _ _ ?_ (fun hHeld => ?_)
          · exact hH2.out
          clear hK K
          clear hH2
          refine wpAnyH_ready (rs := [2]) (by kernel_rfl) (by simp) ?_
          refine AllReadyH.cons (o := ?oi52) ?hi52 (fun K hK => ?_) AllReadyH.nil
          case hi52 => (simp only [List.getElem?_toArray, List.getElem?_cons_zero, List.getElem?_cons_succ]; rfl)
          rw [if_pos (by rfl)]
          go_simp
          refine (HNM.out (doneE i2) _ (HH.out.below (below_bl rfl hb hHeld))).mono ?_
          rintro e Y2 ⟨rfl, hbc⟩
          have hH2 := hide (below_bl rfl hHeld hbc)
          clear hHeld hbc
          go_simp
          refine hK.out _ _ ?_ (fun hHeld => ?_)
          · exact hH2.out
          clear hK K
          clear hH2
          refine wpAnyH_ready (rs := [4]) (by kernel_rfl) (by simp) ?_
          refine AllReadyH.cons (o := ?oi53) ?hi53 (fun K hK => ?_) AllReadyH.nil
          case hi53 => (simp only [List.getElem?_toArray, List.getElem?_cons_zero, List.getElem?_cons_succ]; rfl)
          rw [if_pos (by rfl)]
          go_simp
          refine (rdone_any a2 c2 i2 _).mono ?_
          rintro e Y4 ⟨rfl, hbc⟩
          have hH2 := hide (below_bl rfl hHeld hbc)
          clear hHeld hbc
          go_simp
          refine hK.out _ _ ?_ (fun hHeld => ?_)
          · exact hH2.out
          clear hK K
          clear hH2
          refine wpAnyH_take (i := 5) (oi := ?oi54) (v := .bool false) ?hi54 (by kernel_rfl) (by kernel_rfl) (by kernel_rfl) ?hQ54 ?hy54 (by assumption) ?rest54
          case hi54 => (simp only [List.getElem?_toArray, List.getElem?_cons_zero, List.getElem?_cons_succ]; rfl)
          case hQ54 => exact fun _ _ _ h => h
          case hy54 => exact Or.inl ⟨by rfl, by (intro w hSw; go_simp)⟩
          simp only [Act.put, List.setIfInBounds_toArray, List.set_cons_zero, List.set_cons_succ]
          refine wpAnyH_done (by kernel_rfl) ?_ _
          replace hin := hin.bl hHeld
          replace hry := hry.bl hHeld
          replace hb := below_bl rfl hb hHeld
          clear hHeld
          go_wp2
          go_roundw
          case rel => exact ⟨k + 1, i2, _, hlt, by go_num, hin, HIL2.out, hry, HV2.out, hb⟩
          case measure => simp [intOf]; omega
      | false =>
        rw [hrun] at hcc0
        obtain ⟨mm, hmm, hm64⟩ := u64_of s.most
        obtain ⟨⟨i2, z⟩, hres⟩ : ∃ q : InS × Nat, takeN i s.n mm = q := ⟨_, rfl⟩
        have hil2 := takeN_len i s.n mm
        have HTK : Hid (∀ U, Below w.heap.size w U → Calls Tryd.prog 23 #[.agg (inC vy i.err), .int .i64 s.n, .int .u64 (mm : Nat)] U fun e w' => ∃ vy2, e = .returned (.tuple #[.agg (inC vy2 i2.err), .int .u64 (z : Nat)]) ∧ Rd w.heap.size w vy2 i2.b ∧ Below U.heap.size U w') := hide (fun U hU => by
          refine (rtakeN_any (i := i) U (HVY.out.bel hU) hU.size s.n mm hm64).mono ?_
          rintro e w' ⟨vy2, rfl, h1, h3⟩
          rw [hres] at h1
          exact ⟨vy2, by rw [hres]; rfl, h1.back (below_bl' hU h3), h3⟩)
        have HRUN : Hid (∀ U, InP p U i → Calls Tryd.prog 24 #[.pointer (some ⟨p, 0, none⟩), .int .i64 s.n, .int .u64 (mm : Nat)] U fun e w' => e = .returned (.int .u64 (z : Nat)) ∧ InP p w' i2 ∧ Hole p (p + 1) U w' ∧ w'.heap.size = U.heap.size) := hide (fun U hU => by
          have := inN_any p i U hU s.n mm hm64
          rw [hres] at this
          exact this)
        rw [hres] at hil2
        replace hil2 : i2.b.length ≤ i.b.length := hil2
        have HIL2 := hide (Nat.le_trans hil2 HIL.out)
        have HMM := hide hmm
        clear hres hil2 hmm
        go_wp2
        refine wp_region_held_drew (S := (fun U => Below wr.heap.size wr U)) (by kernel_rfl) ?_ (fun hHeld => ?_)
        · exact (Below.refl _ wr).drew
        generalize wr.drew = V at hHeld ⊢
        refine wpAnyH_take (i := 0) (oi := ?oi55) (v := .agg (inC vy i.err)) ?hi55 (by kernel_rfl) (by kernel_rfl) (by kernel_rfl) ?hQ55 ?hy55 (by assumption) ?rest55
        case hi55 => (simp only [List.getElem?_toArray, List.getElem?_cons_zero]; rfl)
        case hQ55 => exact fun _ _ _ h => h
        case hy55 => exact y_rowY py (fun U hU => hry.bl hU) rfl rfl
        simp only [Act.put, List.setIfInBounds_toArray, List.set_cons_zero, List.set_cons_succ]
        refine wpAnyH_take (i := 1) (oi := ?oi56) (v := .slice (some ⟨b, off, none⟩) len lc) ?hi56 (by kernel_rfl) (by kernel_rfl) (by kernel_rfl) ?hQ56 ?hy56 (by assumption) ?rest56
        case hi56 => (simp only [List.getElem?_toArray, List.getElem?_cons_zero, List.getElem?_cons_succ]; rfl)
        case hQ56 => exact fun _ _ _ h => h
        case hy56 => exact Or.inl ⟨by rfl, by (intro w hSw; (try dsimp only at hSw); go_simp )⟩
        simp only [Act.put, List.setIfInBounds_toArray, List.set_cons_zero, List.set_cons_succ]
        refine wpAnyH_take (i := 2) (oi := ?oi57) (v := .int .i64 (k : Nat)) ?hi57 (by kernel_rfl) (by kernel_rfl) (by kernel_rfl) ?hQ57 ?hy57 (by assumption) ?rest57
        case hi57 => (simp only [List.getElem?_toArray, List.getElem?_cons_zero, List.getElem?_cons_succ]; rfl)
        case hQ57 => exact fun _ _ _ h => h
        case hy57 => exact Or.inl ⟨by rfl, by (intro w hSw; (try dsimp only at hSw); go_simp )⟩
        simp only [Act.put, List.setIfInBounds_toArray, List.set_cons_zero, List.set_cons_succ]
        refine wpAnyH_take (i := 6) (oi := ?oi58) (v := .slice (some ⟨b, off, none⟩) len lc) ?hi58 (by kernel_rfl) (by kernel_rfl) (by kernel_rfl) ?hQ58 ?hy58 (by assumption) ?rest58
        case hi58 => (simp only [List.getElem?_toArray, List.getElem?_cons_zero, List.getElem?_cons_succ]; rfl)
        case hQ58 => exact fun _ _ _ h => h
        case hy58 => exact Or.inl ⟨by rfl, by (intro w hSw; (try dsimp only at hSw); go_simp )⟩
        simp only [Act.put, List.setIfInBounds_toArray, List.set_cons_zero, List.set_cons_succ]
        refine wpAnyH_take (i := 7) (oi := ?oi59) (v := .int .i64 (k : Nat)) ?hi59 (by kernel_rfl) (by kernel_rfl) (by kernel_rfl) ?hQ59 ?hy59 (by assumption) ?rest59
        case hi59 => (simp only [List.getElem?_toArray, List.getElem?_cons_zero, List.getElem?_cons_succ]; rfl)
        case hQ59 => exact fun _ _ _ h => h
        case hy59 => exact Or.inl ⟨by rfl, by (intro w hSw; (try dsimp only at hSw); go_simp )⟩
        simp only [Act.put, List.setIfInBounds_toArray, List.set_cons_zero, List.set_cons_succ]
        refine wpAnyH_take (i := 3) (oi := ?oi60) (v := .pointer (some ⟨b, off + k * 3, none⟩)) ?hi60 (by kernel_rfl) (by kernel_rfl) (by kernel_rfl) ?hQ60 ?hy60 (by assumption) ?rest60
        case hi60 => (simp only [List.getElem?_toArray, List.getElem?_cons_zero, List.getElem?_cons_succ]; rfl)
        case hQ60 => exact fun _ _ _ h => h
        case hy60 => exact Or.inl ⟨by rfl, fun U hU => ex_idxA b off len lc k (by omega) rfl rfl U⟩
        simp only [Act.put, List.setIfInBounds_toArray, List.set_cons_zero, List.set_cons_succ]
        refine wpAnyH_take (i := 8) (oi := ?oi61) (v := .pointer (some ⟨b, off + k * 3, none⟩)) ?hi61 (by kernel_rfl) (by kernel_rfl) (by kernel_rfl) ?hQ61 ?hy61 (by assumption) ?rest61
        case hi61 => (simp only [List.getElem?_toArray, List.getElem?_cons_zero, List.getElem?_cons_succ]; rfl)
        case hQ61 => exact fun _ _ _ h => h
        case hy61 => exact Or.inl ⟨by rfl, fun U hU => ex_idxA b off len lc k (by omega) rfl rfl U⟩
        simp only [Act.put, List.setIfInBounds_toArray, List.set_cons_zero, List.set_cons_succ]
        refine wpAnyH_take (i := 4) (oi := ?oi62) (v := .pointer (some ⟨b, off + k * 3 + 1, none⟩)) ?hi62 (by kernel_rfl) (by kernel_rfl) (by kernel_rfl) ?hQ62 ?hy62 (by assumption) ?rest62
        case hi62 => (simp only [List.getElem?_toArray, List.getElem?_cons_zero, List.getElem?_cons_succ]; rfl)
        case hQ62 => exact fun _ _ _ h => h
        case hy62 => exact Or.inl ⟨by rfl, by (intro w hSw; (try dsimp only at hSw); go_simp )⟩
        simp only [Act.put, List.setIfInBounds_toArray, List.set_cons_zero, List.set_cons_succ]
        refine wpAnyH_take (i := 9) (oi := ?oi63) (v := .pointer (some ⟨b, off + k * 3 + 2, none⟩)) ?hi63 (by kernel_rfl) (by kernel_rfl) (by kernel_rfl) ?hQ63 ?hy63 (by assumption) ?rest63
        case hi63 => (simp only [List.getElem?_toArray, List.getElem?_cons_zero, List.getElem?_cons_succ]; rfl)
        case hQ63 => exact fun _ _ _ h => h
        case hy63 => exact Or.inl ⟨by rfl, by (intro w hSw; (try dsimp only at hSw); go_simp )⟩
        simp only [Act.put, List.setIfInBounds_toArray, List.set_cons_zero, List.set_cons_succ]
        refine wpAnyH_take (i := 5) (oi := ?oi64) (v := .int .i64 s.n) ?hi64 (by kernel_rfl) (by kernel_rfl) (by kernel_rfl) ?hQ64 ?hy64 (by assumption) ?rest64
        case hi64 => (simp only [List.getElem?_toArray, List.getElem?_cons_zero, List.getElem?_cons_succ]; rfl)
        case hQ64 => exact fun _ _ _ h => h
        case hy64 => exact y_any b (off + k * 3 + 1) _ (fun U hU => ((below_bl rfl hb hU).cell (p := ⟨b, off + k * 3 + 1, none⟩) hbB).trans HC1.out) _ Tryd.underlying3 rfl rfl rfl
        simp only [Act.put, List.setIfInBounds_toArray, List.set_cons_zero, List.set_cons_succ]
        refine wpAnyH_take (i := 10) (oi := ?oi65) (v := .int .i64 s.most) ?hi65 (by kernel_rfl) (by kernel_rfl) (by kernel_rfl) ?hQ65 ?hy65 (by assumption) ?rest65
        case hi65 => (simp only [List.getElem?_toArray, List.getElem?_cons_zero, List.getElem?_cons_succ]; rfl)
        case hQ65 => exact fun _ _ _ h => h
        case hy65 => exact y_any b (off + k * 3 + 2) _ (fun U hU => ((below_bl rfl hb hU).cell (p := ⟨b, off + k * 3 + 2, none⟩) hbB).trans HC2.out) _ Tryd.underlying3 rfl rfl rfl
        simp only [Act.put, List.setIfInBounds_toArray, List.set_cons_zero, List.set_cons_succ]
        refine wpAnyH_take (i := 11) (oi := ?oi66) (v := .int .u64 (mm : Nat)) ?hi66 (by kernel_rfl) (by kernel_rfl) (by kernel_rfl) ?hQ66 ?hy66 (by assumption) ?rest66
        case hi66 => (simp only [List.getElem?_toArray, List.getElem?_cons_zero, List.getElem?_cons_succ]; rfl)
        case hQ66 => exact fun _ _ _ h => h
        case hy66 => exact Or.inl ⟨by rfl, by (intro w hSw; go_simp; exact HMM.out)⟩
        simp only [Act.put, List.setIfInBounds_toArray, List.set_cons_zero, List.set_cons_succ]
        refine wpAnyH_ready (rs := [12, 16]) (by kernel_rfl) (by simp) ?_
        refine AllReadyH.cons (o := ?oi67) ?hi67 (fun K hK => ?b67) (AllReadyH.cons (o := ?oi68) ?hi68 (fun K hK => ?b68) (AllReadyH.nil))
        case hi67 => (simp only [List.getElem?_toArray, List.getElem?_cons_zero, List.getElem?_cons_succ]; rfl)
        case hi68 => (simp only [List.getElem?_toArray, List.getElem?_cons_zero, List.getElem?_cons_succ]; rfl)
        case b67 =>
          rw [if_pos (by rfl)]
          go_simp
          refine (HTK.out _ (below_bl rfl hb hHeld)).mono ?_
          rintro e V12 ⟨vy2, rfl, hv2, hbc⟩
          have hH2 := hide (below_bl rfl hHeld hbc)
          (try replace hq := hq.bl hbc)
          have HV2 := hide hv2
          obtain ⟨a2, c2, hvq, _, _⟩ := hv2.form
          subst hvq
          clear hHeld hbc hv2
          go_simp
          refine hK.out _ _ ?_ (fun hHeld => ?_)
          · exact hH2.out
          clear hK K
          clear hH2
          refine wpAnyH_take (i := 13) (oi := ?oi69) (v := .tuple #[.agg (inC (.slice a2 i2.b.length c2) i2.err), .int .u64 (z : Nat)]) ?hi69 (by kernel_rfl) (by kernel_rfl) (by kernel_rfl) ?hQ69 ?hy69 (by assumption) ?rest69
          case hi69 => (simp only [List.getElem?_toArray, List.getElem?_cons_zero, List.getElem?_cons_succ]; rfl)
          case hQ69 => exact fun _ _ _ h => h
          case hy69 => exact Or.inl ⟨by rfl, by (intro w hSw; (try dsimp only at hSw); go_simp )⟩
          simp only [Act.put, List.setIfInBounds_toArray, List.set_cons_zero, List.set_cons_succ]
          refine wpAnyH_take (i := 14) (oi := ?oi70) (v := .agg (inC (.slice a2 i2.b.length c2) i2.err)) ?hi70 (by kernel_rfl) (by kernel_rfl) (by kernel_rfl) ?hQ70 ?hy70 (by assumption) ?rest70
          case hi70 => (simp only [List.getElem?_toArray, List.getElem?_cons_zero, List.getElem?_cons_succ]; rfl)
          case hQ70 => exact fun _ _ _ h => h
          case hy70 => exact Or.inl ⟨by rfl, by (intro w hSw; (try dsimp only at hSw); go_simp )⟩
          simp only [Act.put, List.setIfInBounds_toArray, List.set_cons_zero, List.set_cons_succ]
          refine wpAnyH_take (i := 15) (oi := ?oi71) (v := .int .u64 (z : Nat)) ?hi71 (by kernel_rfl) (by kernel_rfl) (by kernel_rfl) ?hQ71 ?hy71 (by assumption) ?rest71
          case hi71 => (simp only [List.getElem?_toArray, List.getElem?_cons_zero, List.getElem?_cons_succ]; rfl)
          case hQ71 => exact fun _ _ _ h => h
          case hy71 => exact Or.inl ⟨by rfl, by (intro w hSw; (try dsimp only at hSw); go_simp )⟩
          simp only [Act.put, List.setIfInBounds_toArray, List.set_cons_zero, List.set_cons_succ]
          refine wpAnyH_ready (rs := [16]) (by kernel_rfl) (by simp) ?_
          refine AllReadyH.cons (o := ?oi72) ?hi72 (fun K hK => ?_) AllReadyH.nil
          case hi72 => (simp only [List.getElem?_toArray, List.getElem?_cons_zero, List.getElem?_cons_succ]; rfl)
          rw [if_pos (by rfl)]
          refine s_allocT (inC (.slice none 0 0) 0) zero_in ?_
          intro V16 e8 he8 hq hbc
          have HE8 := hide (Nat.le_trans hHeld.size he8)
          have hH2 := hide (below_bl rfl hHeld hbc)
          clear hHeld hbc he8
          refine hK.out _ _ ?_ (fun hHeld => ?_)
          · exact hH2.out
          clear hK K
          clear hH2
          refine wpAnyH_ready (rs := [17]) (by kernel_rfl) (by simp) ?_
          refine AllReadyH.cons (o := ?oi73) ?hi73 (fun K hK => ?_) AllReadyH.nil
          case hi73 => (simp only [List.getElem?_toArray, List.getElem?_cons_zero, List.getElem?_cons_succ]; rfl)
          rw [if_pos (by rfl)]
          refine s_in a2 i2.b.length c2 i2.err hq rfl rfl ?_
          intro V17 hnew ho
          have hH2 := hide (ho.bel _ _ HE8.out hHeld)
          replace hq := hnew
          clear hHeld hnew ho
          refine hK.out _ _ ?_ (fun hHeld => ?_)
          · exact hH2.out
          clear hK K
          clear hH2
          refine wpAnyH_take (i := 18) (oi := ?oi74) (v := .int .u64 (z : Nat)) ?hi74 (by kernel_rfl) (by kernel_rfl) (by kernel_rfl) ?hQ74 ?hy74 (by assumption) ?rest74
          case hi74 => (simp only [List.getElem?_toArray, List.getElem?_cons_zero, List.getElem?_cons_succ]; rfl)
          case hQ74 => exact fun _ _ _ h => h
          case hy74 => exact Or.inl ⟨by rfl, by (intro w hSw; (try dsimp only at hSw); go_simp )⟩
          simp only [Act.put, List.setIfInBounds_toArray, List.set_cons_zero, List.set_cons_succ]
          refine wpAnyH_done (by kernel_rfl) ?_ _
          replace hb := below_bl rfl hb hHeld
          replace hin := hin.bl hHeld
          replace hry := hry.bl hHeld
          have hqp : e8 ≠ py := by have := HE8.out; omega
          clear hHeld
          go_wp2_with (first | ((with_reducible refine ld_in hq ?_ ?_); exact rfl) | ((with_reducible refine st_in a2 i2.b.length c2 i2.err hry ?_ ?_ ?_); exact rfl; exact rfl; intro W7 hnew ho; have hin7 := inP_only hin ho hppy; replace hb := ho.bel _ _ (by omega) hb; replace hry := hnew; clear hnew ho hin hq hqp))
          refine wp_region_held_drew (S := (fun U => Below w.heap.size w U)) (by kernel_rfl) ?_ (fun hHeld => ?_)
          · exact hb.drew
          have hin8 := hin7.bl (Below.refl _ W7).drew
          replace hry := hry.dr
          clear hin7
          generalize W7.drew = Z at hHeld hin8 hry ⊢
          refine wpAnyH_take (i := 0) (oi := ?oi75) (v := .pointer (some ⟨p, 0, none⟩)) ?hi75 (by kernel_rfl) (by kernel_rfl) (by kernel_rfl) ?hQ75 ?hy75 (by assumption) ?rest75
          case hi75 => (simp only [List.getElem?_toArray, List.getElem?_cons_zero]; rfl)
          case hQ75 => exact fun _ _ _ h => h
          case hy75 => exact Or.inl ⟨by rfl, by (intro w hSw; (try dsimp only at hSw); go_simp )⟩
          simp only [Act.put, List.setIfInBounds_toArray, List.set_cons_zero, List.set_cons_succ]
          refine wpAnyH_take (i := 1) (oi := ?oi76) (v := .slice (some ⟨b, off, none⟩) len lc) ?hi76 (by kernel_rfl) (by kernel_rfl) (by kernel_rfl) ?hQ76 ?hy76 (by assumption) ?rest76
          case hi76 => (simp only [List.getElem?_toArray, List.getElem?_cons_zero, List.getElem?_cons_succ]; rfl)
          case hQ76 => exact fun _ _ _ h => h
          case hy76 => exact Or.inl ⟨by rfl, by (intro w hSw; (try dsimp only at hSw); go_simp )⟩
          simp only [Act.put, List.setIfInBounds_toArray, List.set_cons_zero, List.set_cons_succ]
          refine wpAnyH_take (i := 2) (oi := ?oi77) (v := .int .i64 (k : Nat)) ?hi77 (by kernel_rfl) (by kernel_rfl) (by kernel_rfl) ?hQ77 ?hy77 (by assumption) ?rest77
          case hi77 => (simp only [List.getElem?_toArray, List.getElem?_cons_zero, List.getElem?_cons_succ]; rfl)
          case hQ77 => exact fun _ _ _ h => h
          case hy77 => exact Or.inl ⟨by rfl, by (intro w hSw; (try dsimp only at hSw); go_simp )⟩
          simp only [Act.put, List.setIfInBounds_toArray, List.set_cons_zero, List.set_cons_succ]
          refine wpAnyH_take (i := 3) (oi := ?oi78) (v := .pointer (some ⟨b, off + k * 3, none⟩)) ?hi78 (by kernel_rfl) (by kernel_rfl) (by kernel_rfl) ?hQ78 ?hy78 (by assumption) ?rest78
          case hi78 => (simp only [List.getElem?_toArray, List.getElem?_cons_zero, List.getElem?_cons_succ]; rfl)
          case hQ78 => exact fun _ _ _ h => h
          case hy78 => exact Or.inl ⟨by rfl, fun U hU => ex_idxA b off len lc k (by omega) rfl rfl U⟩
          simp only [Act.put, List.setIfInBounds_toArray, List.set_cons_zero, List.set_cons_succ]
          refine wpAnyH_take (i := 4) (oi := ?oi79) (v := .pointer (some ⟨b, off + k * 3 + 1, none⟩)) ?hi79 (by kernel_rfl) (by kernel_rfl) (by kernel_rfl) ?hQ79 ?hy79 (by assumption) ?rest79
          case hi79 => (simp only [List.getElem?_toArray, List.getElem?_cons_zero, List.getElem?_cons_succ]; rfl)
          case hQ79 => exact fun _ _ _ h => h
          case hy79 => exact Or.inl ⟨by rfl, by (intro w hSw; (try dsimp only at hSw); go_simp )⟩
          simp only [Act.put, List.setIfInBounds_toArray, List.set_cons_zero, List.set_cons_succ]
          refine wpAnyH_take (i := 5) (oi := ?oi80) (v := .int .i64 s.n) ?hi80 (by kernel_rfl) (by kernel_rfl) (by kernel_rfl) ?hQ80 ?hy80 (by assumption) ?rest80
          case hi80 => (simp only [List.getElem?_toArray, List.getElem?_cons_zero, List.getElem?_cons_succ]; rfl)
          case hQ80 => exact fun _ _ _ h => h
          case hy80 => exact y_any b (off + k * 3 + 1) _ (fun U hU => (hU.cell (p := ⟨b, off + k * 3 + 1, none⟩) hbB).trans HC1.out) _ Tryd.underlying3 rfl rfl rfl
          simp only [Act.put, List.setIfInBounds_toArray, List.set_cons_zero, List.set_cons_succ]
          refine wpAnyH_take (i := 6) (oi := ?oi81) (v := .slice (some ⟨b, off, none⟩) len lc) ?hi81 (by kernel_rfl) (by kernel_rfl) (by kernel_rfl) ?hQ81 ?hy81 (by assumption) ?rest81
          case hi81 => (simp only [List.getElem?_toArray, List.getElem?_cons_zero, List.getElem?_cons_succ]; rfl)
          case hQ81 => exact fun _ _ _ h => h
          case hy81 => exact Or.inl ⟨by rfl, by (intro w hSw; (try dsimp only at hSw); go_simp )⟩
          simp only [Act.put, List.setIfInBounds_toArray, List.set_cons_zero, List.set_cons_succ]
          refine wpAnyH_take (i := 7) (oi := ?oi82) (v := .int .i64 (k : Nat)) ?hi82 (by kernel_rfl) (by kernel_rfl) (by kernel_rfl) ?hQ82 ?hy82 (by assumption) ?rest82
          case hi82 => (simp only [List.getElem?_toArray, List.getElem?_cons_zero, List.getElem?_cons_succ]; rfl)
          case hQ82 => exact fun _ _ _ h => h
          case hy82 => exact Or.inl ⟨by rfl, by (intro w hSw; (try dsimp only at hSw); go_simp )⟩
          simp only [Act.put, List.setIfInBounds_toArray, List.set_cons_zero, List.set_cons_succ]
          refine wpAnyH_take (i := 8) (oi := ?oi83) (v := .pointer (some ⟨b, off + k * 3, none⟩)) ?hi83 (by kernel_rfl) (by kernel_rfl) (by kernel_rfl) ?hQ83 ?hy83 (by assumption) ?rest83
          case hi83 => (simp only [List.getElem?_toArray, List.getElem?_cons_zero, List.getElem?_cons_succ]; rfl)
          case hQ83 => exact fun _ _ _ h => h
          case hy83 => exact Or.inl ⟨by rfl, fun U hU => ex_idxA b off len lc k (by omega) rfl rfl U⟩
          simp only [Act.put, List.setIfInBounds_toArray, List.set_cons_zero, List.set_cons_succ]
          refine wpAnyH_take (i := 9) (oi := ?oi84) (v := .pointer (some ⟨b, off + k * 3 + 2, none⟩)) ?hi84 (by kernel_rfl) (by kernel_rfl) (by kernel_rfl) ?hQ84 ?hy84 (by assumption) ?rest84
          case hi84 => (simp only [List.getElem?_toArray, List.getElem?_cons_zero, List.getElem?_cons_succ]; rfl)
          case hQ84 => exact fun _ _ _ h => h
          case hy84 => exact Or.inl ⟨by rfl, by (intro w hSw; (try dsimp only at hSw); go_simp )⟩
          simp only [Act.put, List.setIfInBounds_toArray, List.set_cons_zero, List.set_cons_succ]
          refine wpAnyH_take (i := 10) (oi := ?oi85) (v := .int .i64 s.most) ?hi85 (by kernel_rfl) (by kernel_rfl) (by kernel_rfl) ?hQ85 ?hy85 (by assumption) ?rest85
          case hi85 => (simp only [List.getElem?_toArray, List.getElem?_cons_zero, List.getElem?_cons_succ]; rfl)
          case hQ85 => exact fun _ _ _ h => h
          case hy85 => exact y_any b (off + k * 3 + 2) _ (fun U hU => (hU.cell (p := ⟨b, off + k * 3 + 2, none⟩) hbB).trans HC2.out) _ Tryd.underlying3 rfl rfl rfl
          simp only [Act.put, List.setIfInBounds_toArray, List.set_cons_zero, List.set_cons_succ]
          refine wpAnyH_take (i := 11) (oi := ?oi86) (v := .int .u64 (mm : Nat)) ?hi86 (by kernel_rfl) (by kernel_rfl) (by kernel_rfl) ?hQ86 ?hy86 (by assumption) ?rest86
          case hi86 => (simp only [List.getElem?_toArray, List.getElem?_cons_zero, List.getElem?_cons_succ]; rfl)
          case hQ86 => exact fun _ _ _ h => h
          case hy86 => exact Or.inl ⟨by rfl, by (intro w hSw; go_simp; exact HMM.out)⟩
          simp only [Act.put, List.setIfInBounds_toArray, List.set_cons_zero, List.set_cons_succ]
          refine wpAnyH_take (i := 13) (oi := ?oi87) (v := .int .u64 (z : Nat)) ?hi87 (by kernel_rfl) (by kernel_rfl) (by kernel_rfl) ?hQ87 ?hy87 (by assumption) ?rest87
          case hi87 => (simp only [List.getElem?_toArray, List.getElem?_cons_zero, List.getElem?_cons_succ]; rfl)
          case hQ87 => exact fun _ _ _ h => h
          case hy87 => exact Or.inl ⟨by rfl, by (intro w hSw; (try dsimp only at hSw); go_simp )⟩
          simp only [Act.put, List.setIfInBounds_toArray, List.set_cons_zero, List.set_cons_succ]
          refine wpAnyH_ready (rs := [12]) (by kernel_rfl) (by simp) ?_
          refine AllReadyH.cons (o := ?oi88) ?hi88 (fun K hK => ?_) AllReadyH.nil
          case hi88 => (simp only [List.getElem?_toArray, List.getElem?_cons_zero, List.getElem?_cons_succ]; rfl)
          rw [if_pos (by rfl)]
          go_simp
          refine (HRUN.out _ hin8).mono ?_
          rintro e Z2 ⟨rfl, hin9, hhl, _⟩
          have hH2 := hide (hHeld.trans ((hhl.below (Nat.le_of_lt hin8.row)).mono (by omega)))
          replace hry := hhl.row hry (Or.inr (by omega))
          clear hHeld hhl
          go_simp
          refine hK.out _ _ ?_ (fun hHeld => ?_)
          · exact hH2.out
          clear hK K
          replace hb := hHeld
          clear hH2
          refine wpAnyH_take (i := 14) (oi := ?oi89) (v := .bool false) ?hi89 (by kernel_rfl) (by kernel_rfl) (by kernel_rfl) ?hQ89 ?hy89 (by assumption) ?rest89
          case hi89 => (simp only [List.getElem?_toArray, List.getElem?_cons_zero, List.getElem?_cons_succ]; rfl)
          case hQ89 => exact fun _ _ _ h => h
          case hy89 => exact Or.inl ⟨by rfl, by (intro w hSw; go_simp)⟩
          simp only [Act.put, List.setIfInBounds_toArray, List.set_cons_zero, List.set_cons_succ]
          refine wpAnyH_done (by kernel_rfl) ?_ _
          clear hHeld
          have hin := hin9
          clear hin9 hin8
          go_wp2
          refine wp_region_held_drew (S := (fun U => Below Z2.heap.size Z2 U)) (by kernel_rfl) ?_ (fun hHeld => ?_)
          · exact (Below.refl _ Z2).drew
          generalize Z2.drew = Y at hHeld ⊢
          refine wpAnyH_take (i := 0) (oi := ?oi90) (v := .pointer (some ⟨p, 0, none⟩)) ?hi90 (by kernel_rfl) (by kernel_rfl) (by kernel_rfl) ?hQ90 ?hy90 (by assumption) ?rest90
          case hi90 => (simp only [List.getElem?_toArray, List.getElem?_cons_zero]; rfl)
          case hQ90 => exact fun _ _ _ h => h
          case hy90 => exact Or.inl ⟨by rfl, by (intro w hSw; (try dsimp only at hSw); go_simp )⟩
          simp only [Act.put, List.setIfInBounds_toArray, List.set_cons_zero, List.set_cons_succ]
          refine wpAnyH_take (i := 3) (oi := ?oi91) (v := .agg (inC (.slice a2 i2.b.length c2) i2.err)) ?hi91 (by kernel_rfl) (by kernel_rfl) (by kernel_rfl) ?hQ91 ?hy91 (by assumption) ?rest91
          case hi91 => (simp only [List.getElem?_toArray, List.getElem?_cons_zero, List.getElem?_cons_succ]; rfl)
          case hQ91 => exact fun _ _ _ h => h
          case hy91 => exact y_rowY py (fun U hU => hry.bl hU) rfl rfl
          simp only [Act.put, List.setIfInBounds_toArray, List.set_cons_zero, List.set_cons_succ]
          refine wpAnyH_ready (rs := [1]) (by kernel_rfl) (by simp) ?_
          refine AllReadyH.cons (o := ?oi92) ?hi92 (fun K hK => ?_) AllReadyH.nil
          case hi92 => (simp only [List.getElem?_toArray, List.getElem?_cons_zero, List.getElem?_cons_succ]; rfl)
          rw [if_pos (by rfl)]
          go_simp
          refine (inD_any p i2 _ (hin.bl hHeld)).mono ?_
          rintro e Y1 ⟨rfl, rfl⟩
          have hH2 := hide hHeld
          clear hHeld
          go_simp
          refine hK.out _ _ ?_ (fun hHeld => ?_)
          · exact hH2.out
          clear hK K
          clear hH2
          refine wpAnyH_ready (rs := [2]) (by kernel_rfl) (by simp) ?_
          refine AllReadyH.cons (o := ?oi93) ?hi93 (fun K hK => ?_) AllReadyH.nil
          case hi93 => (simp only [List.getElem?_toArray, List.getElem?_cons_zero, List.getElem?_cons_succ]; rfl)
          rw [if_pos (by rfl)]
          go_simp
          refine (HNM.out (doneE i2) _ (HH.out.below (below_bl rfl hb hHeld))).mono ?_
          rintro e Y2 ⟨rfl, hbc⟩
          have hH2 := hide (below_bl rfl hHeld hbc)
          clear hHeld hbc
          go_simp
          refine hK.out _ _ ?_ (fun hHeld => ?_)
          · exact hH2.out
          clear hK K
          clear hH2
          refine wpAnyH_ready (rs := [4]) (by kernel_rfl) (by simp) ?_
          refine AllReadyH.cons (o := ?oi94) ?hi94 (fun K hK => ?_) AllReadyH.nil
          case hi94 => (simp only [List.getElem?_toArray, List.getElem?_cons_zero, List.getElem?_cons_succ]; rfl)
          rw [if_pos (by rfl)]
          go_simp
          refine (rdone_any a2 c2 i2 _).mono ?_
          rintro e Y4 ⟨rfl, hbc⟩
          have hH2 := hide (below_bl rfl hHeld hbc)
          clear hHeld hbc
          go_simp
          refine hK.out _ _ ?_ (fun hHeld => ?_)
          · exact hH2.out
          clear hK K
          clear hH2
          refine wpAnyH_take (i := 5) (oi := ?oi95) (v := .bool false) ?hi95 (by kernel_rfl) (by kernel_rfl) (by kernel_rfl) ?hQ95 ?hy95 (by assumption) ?rest95
          case hi95 => (simp only [List.getElem?_toArray, List.getElem?_cons_zero, List.getElem?_cons_succ]; rfl)
          case hQ95 => exact fun _ _ _ h => h
          case hy95 => exact Or.inl ⟨by rfl, by (intro w hSw; go_simp)⟩
          simp only [Act.put, List.setIfInBounds_toArray, List.set_cons_zero, List.set_cons_succ]
          refine wpAnyH_done (by kernel_rfl) ?_ _
          replace hin := hin.bl hHeld
          replace hry := hry.bl hHeld
          replace hb := below_bl rfl hb hHeld
          clear hHeld
          go_wp2
          go_roundw
          case rel => exact ⟨k + 1, i2, _, hlt, by go_num, hin, HIL2.out, hry, HV2.out, hb⟩
          case measure => simp [intOf]; omega
        case b68 =>
          rw [if_pos (by rfl)]
          refine s_allocT (inC (.slice none 0 0) 0) zero_in ?_
          intro V16 e8 he8 hq hbc
          have HE8 := hide (Nat.le_trans hHeld.size he8)
          have hH2 := hide (below_bl rfl hHeld hbc)
          clear hHeld hbc he8
          refine hK.out _ _ ?_ (fun hHeld => ?_)
          · exact hH2.out
          clear hK K
          clear hH2
          refine wpAnyH_ready (rs := [12]) (by kernel_rfl) (by simp) ?_
          refine AllReadyH.cons (o := ?oi96) ?hi96 (fun K hK => ?_) AllReadyH.nil
          case hi96 => (simp only [List.getElem?_toArray, List.getElem?_cons_zero, List.getElem?_cons_succ]; rfl)
          rw [if_pos (by rfl)]
          go_simp
          refine (HTK.out _ (below_bl rfl hb hHeld)).mono ?_
          rintro e V12 ⟨vy2, rfl, hv2, hbc⟩
          have hH2 := hide (below_bl rfl hHeld hbc)
          (try replace hq := hq.bl hbc)
          have HV2 := hide hv2
          obtain ⟨a2, c2, hvq, _, _⟩ := hv2.form
          subst hvq
          clear hHeld hbc hv2
          go_simp
          refine hK.out _ _ ?_ (fun hHeld => ?_)
          · exact hH2.out
          clear hK K
          clear hH2
          refine wpAnyH_take (i := 13) (oi := ?oi97) (v := .tuple #[.agg (inC (.slice a2 i2.b.length c2) i2.err), .int .u64 (z : Nat)]) ?hi97 (by kernel_rfl) (by kernel_rfl) (by kernel_rfl) ?hQ97 ?hy97 (by assumption) ?rest97
          case hi97 => (simp only [List.getElem?_toArray, List.getElem?_cons_zero, List.getElem?_cons_succ]; rfl)
          case hQ97 => exact fun _ _ _ h => h
          case hy97 => exact Or.inl ⟨by rfl, by (intro w hSw; (try dsimp only at hSw); go_simp )⟩
          simp only [Act.put, List.setIfInBounds_toArray, List.set_cons_zero, List.set_cons_succ]
          refine wpAnyH_take (i := 14) (oi := ?oi98) (v := .agg (inC (.slice a2 i2.b.length c2) i2.err)) ?hi98 (by kernel_rfl) (by kernel_rfl) (by kernel_rfl) ?hQ98 ?hy98 (by assumption) ?rest98
          case hi98 => (simp only [List.getElem?_toArray, List.getElem?_cons_zero, List.getElem?_cons_succ]; rfl)
          case hQ98 => exact fun _ _ _ h => h
          case hy98 => exact Or.inl ⟨by rfl, by (intro w hSw; (try dsimp only at hSw); go_simp )⟩
          simp only [Act.put, List.setIfInBounds_toArray, List.set_cons_zero, List.set_cons_succ]
          refine wpAnyH_take (i := 15) (oi := ?oi99) (v := .int .u64 (z : Nat)) ?hi99 (by kernel_rfl) (by kernel_rfl) (by kernel_rfl) ?hQ99 ?hy99 (by assumption) ?rest99
          case hi99 => (simp only [List.getElem?_toArray, List.getElem?_cons_zero, List.getElem?_cons_succ]; rfl)
          case hQ99 => exact fun _ _ _ h => h
          case hy99 => exact Or.inl ⟨by rfl, by (intro w hSw; (try dsimp only at hSw); go_simp )⟩
          simp only [Act.put, List.setIfInBounds_toArray, List.set_cons_zero, List.set_cons_succ]
          refine wpAnyH_ready (rs := [17]) (by kernel_rfl) (by simp) ?_
          refine AllReadyH.cons (o := ?oi100) ?hi100 (fun K hK => ?_) AllReadyH.nil
          case hi100 => (simp only [List.getElem?_toArray, List.getElem?_cons_zero, List.getElem?_cons_succ]; rfl)
          rw [if_pos (by rfl)]
          refine s_in a2 i2.b.length c2 i2.err hq rfl rfl ?_
          intro V17 hnew ho
          have hH2 := hide (ho.bel _ _ HE8.out hHeld)
          replace hq := hnew
          clear hHeld hnew ho
          refine hK.out _ _ ?_ (fun hHeld => ?_)
          · exact hH2.out
          clear hK K
          clear hH2
          refine wpAnyH_take (i := 18) (oi := ?oi101) (v := .int .u64 (z : Nat)) ?hi101 (by kernel_rfl) (by kernel_rfl) (by kernel_rfl) ?hQ101 ?hy101 (by assumption) ?rest101
          case hi101 => (simp only [List.getElem?_toArray, List.getElem?_cons_zero, List.getElem?_cons_succ]; rfl)
          case hQ101 => exact fun _ _ _ h => h
          case hy101 => exact Or.inl ⟨by rfl, by (intro w hSw; (try dsimp only at hSw); go_simp )⟩
          simp only [Act.put, List.setIfInBounds_toArray, List.set_cons_zero, List.set_cons_succ]
          refine wpAnyH_done (by kernel_rfl) ?_ _
          replace hb := below_bl rfl hb hHeld
          replace hin := hin.bl hHeld
          replace hry := hry.bl hHeld
          have hqp : e8 ≠ py := by have := HE8.out; omega
          clear hHeld
          go_wp2_with (first | ((with_reducible refine ld_in hq ?_ ?_); exact rfl) | ((with_reducible refine st_in a2 i2.b.length c2 i2.err hry ?_ ?_ ?_); exact rfl; exact rfl; intro W7 hnew ho; have hin7 := inP_only hin ho hppy; replace hb := ho.bel _ _ (by omega) hb; replace hry := hnew; clear hnew ho hin hq hqp))
          refine wp_region_held_drew (S := (fun U => Below w.heap.size w U)) (by kernel_rfl) ?_ (fun hHeld => ?_)
          · exact hb.drew
          have hin8 := hin7.bl (Below.refl _ W7).drew
          replace hry := hry.dr
          clear hin7
          generalize W7.drew = Z at hHeld hin8 hry ⊢
          refine wpAnyH_take (i := 0) (oi := ?oi102) (v := .pointer (some ⟨p, 0, none⟩)) ?hi102 (by kernel_rfl) (by kernel_rfl) (by kernel_rfl) ?hQ102 ?hy102 (by assumption) ?rest102
          case hi102 => (simp only [List.getElem?_toArray, List.getElem?_cons_zero]; rfl)
          case hQ102 => exact fun _ _ _ h => h
          case hy102 => exact Or.inl ⟨by rfl, by (intro w hSw; (try dsimp only at hSw); go_simp )⟩
          simp only [Act.put, List.setIfInBounds_toArray, List.set_cons_zero, List.set_cons_succ]
          refine wpAnyH_take (i := 1) (oi := ?oi103) (v := .slice (some ⟨b, off, none⟩) len lc) ?hi103 (by kernel_rfl) (by kernel_rfl) (by kernel_rfl) ?hQ103 ?hy103 (by assumption) ?rest103
          case hi103 => (simp only [List.getElem?_toArray, List.getElem?_cons_zero, List.getElem?_cons_succ]; rfl)
          case hQ103 => exact fun _ _ _ h => h
          case hy103 => exact Or.inl ⟨by rfl, by (intro w hSw; (try dsimp only at hSw); go_simp )⟩
          simp only [Act.put, List.setIfInBounds_toArray, List.set_cons_zero, List.set_cons_succ]
          refine wpAnyH_take (i := 2) (oi := ?oi104) (v := .int .i64 (k : Nat)) ?hi104 (by kernel_rfl) (by kernel_rfl) (by kernel_rfl) ?hQ104 ?hy104 (by assumption) ?rest104
          case hi104 => (simp only [List.getElem?_toArray, List.getElem?_cons_zero, List.getElem?_cons_succ]; rfl)
          case hQ104 => exact fun _ _ _ h => h
          case hy104 => exact Or.inl ⟨by rfl, by (intro w hSw; (try dsimp only at hSw); go_simp )⟩
          simp only [Act.put, List.setIfInBounds_toArray, List.set_cons_zero, List.set_cons_succ]
          refine wpAnyH_take (i := 3) (oi := ?oi105) (v := .pointer (some ⟨b, off + k * 3, none⟩)) ?hi105 (by kernel_rfl) (by kernel_rfl) (by kernel_rfl) ?hQ105 ?hy105 (by assumption) ?rest105
          case hi105 => (simp only [List.getElem?_toArray, List.getElem?_cons_zero, List.getElem?_cons_succ]; rfl)
          case hQ105 => exact fun _ _ _ h => h
          case hy105 => exact Or.inl ⟨by rfl, fun U hU => ex_idxA b off len lc k (by omega) rfl rfl U⟩
          simp only [Act.put, List.setIfInBounds_toArray, List.set_cons_zero, List.set_cons_succ]
          refine wpAnyH_take (i := 4) (oi := ?oi106) (v := .pointer (some ⟨b, off + k * 3 + 1, none⟩)) ?hi106 (by kernel_rfl) (by kernel_rfl) (by kernel_rfl) ?hQ106 ?hy106 (by assumption) ?rest106
          case hi106 => (simp only [List.getElem?_toArray, List.getElem?_cons_zero, List.getElem?_cons_succ]; rfl)
          case hQ106 => exact fun _ _ _ h => h
          case hy106 => exact Or.inl ⟨by rfl, by (intro w hSw; (try dsimp only at hSw); go_simp )⟩
          simp only [Act.put, List.setIfInBounds_toArray, List.set_cons_zero, List.set_cons_succ]
          refine wpAnyH_take (i := 5) (oi := ?oi107) (v := .int .i64 s.n) ?hi107 (by kernel_rfl) (by kernel_rfl) (by kernel_rfl) ?hQ107 ?hy107 (by assumption) ?rest107
          case hi107 => (simp only [List.getElem?_toArray, List.getElem?_cons_zero, List.getElem?_cons_succ]; rfl)
          case hQ107 => exact fun _ _ _ h => h
          case hy107 => exact y_any b (off + k * 3 + 1) _ (fun U hU => (hU.cell (p := ⟨b, off + k * 3 + 1, none⟩) hbB).trans HC1.out) _ Tryd.underlying3 rfl rfl rfl
          simp only [Act.put, List.setIfInBounds_toArray, List.set_cons_zero, List.set_cons_succ]
          refine wpAnyH_take (i := 6) (oi := ?oi108) (v := .slice (some ⟨b, off, none⟩) len lc) ?hi108 (by kernel_rfl) (by kernel_rfl) (by kernel_rfl) ?hQ108 ?hy108 (by assumption) ?rest108
          case hi108 => (simp only [List.getElem?_toArray, List.getElem?_cons_zero, List.getElem?_cons_succ]; rfl)
          case hQ108 => exact fun _ _ _ h => h
          case hy108 => exact Or.inl ⟨by rfl, by (intro w hSw; (try dsimp only at hSw); go_simp )⟩
          simp only [Act.put, List.setIfInBounds_toArray, List.set_cons_zero, List.set_cons_succ]
          refine wpAnyH_take (i := 7) (oi := ?oi109) (v := .int .i64 (k : Nat)) ?hi109 (by kernel_rfl) (by kernel_rfl) (by kernel_rfl) ?hQ109 ?hy109 (by assumption) ?rest109
          case hi109 => (simp only [List.getElem?_toArray, List.getElem?_cons_zero, List.getElem?_cons_succ]; rfl)
          case hQ109 => exact fun _ _ _ h => h
          case hy109 => exact Or.inl ⟨by rfl, by (intro w hSw; (try dsimp only at hSw); go_simp )⟩
          simp only [Act.put, List.setIfInBounds_toArray, List.set_cons_zero, List.set_cons_succ]
          refine wpAnyH_take (i := 8) (oi := ?oi110) (v := .pointer (some ⟨b, off + k * 3, none⟩)) ?hi110 (by kernel_rfl) (by kernel_rfl) (by kernel_rfl) ?hQ110 ?hy110 (by assumption) ?rest110
          case hi110 => (simp only [List.getElem?_toArray, List.getElem?_cons_zero, List.getElem?_cons_succ]; rfl)
          case hQ110 => exact fun _ _ _ h => h
          case hy110 => exact Or.inl ⟨by rfl, fun U hU => ex_idxA b off len lc k (by omega) rfl rfl U⟩
          simp only [Act.put, List.setIfInBounds_toArray, List.set_cons_zero, List.set_cons_succ]
          refine wpAnyH_take (i := 9) (oi := ?oi111) (v := .pointer (some ⟨b, off + k * 3 + 2, none⟩)) ?hi111 (by kernel_rfl) (by kernel_rfl) (by kernel_rfl) ?hQ111 ?hy111 (by assumption) ?rest111
          case hi111 => (simp only [List.getElem?_toArray, List.getElem?_cons_zero, List.getElem?_cons_succ]; rfl)
          case hQ111 => exact fun _ _ _ h => h
          case hy111 => exact Or.inl ⟨by rfl, by (intro w hSw; (try dsimp only at hSw); go_simp )⟩
          simp only [Act.put, List.setIfInBounds_toArray, List.set_cons_zero, List.set_cons_succ]
          refine wpAnyH_take (i := 10) (oi := ?oi112) (v := .int .i64 s.most) ?hi112 (by kernel_rfl) (by kernel_rfl) (by kernel_rfl) ?hQ112 ?hy112 (by assumption) ?rest112
          case hi112 => (simp only [List.getElem?_toArray, List.getElem?_cons_zero, List.getElem?_cons_succ]; rfl)
          case hQ112 => exact fun _ _ _ h => h
          case hy112 => exact y_any b (off + k * 3 + 2) _ (fun U hU => (hU.cell (p := ⟨b, off + k * 3 + 2, none⟩) hbB).trans HC2.out) _ Tryd.underlying3 rfl rfl rfl
          simp only [Act.put, List.setIfInBounds_toArray, List.set_cons_zero, List.set_cons_succ]
          refine wpAnyH_take (i := 11) (oi := ?oi113) (v := .int .u64 (mm : Nat)) ?hi113 (by kernel_rfl) (by kernel_rfl) (by kernel_rfl) ?hQ113 ?hy113 (by assumption) ?rest113
          case hi113 => (simp only [List.getElem?_toArray, List.getElem?_cons_zero, List.getElem?_cons_succ]; rfl)
          case hQ113 => exact fun _ _ _ h => h
          case hy113 => exact Or.inl ⟨by rfl, by (intro w hSw; go_simp; exact HMM.out)⟩
          simp only [Act.put, List.setIfInBounds_toArray, List.set_cons_zero, List.set_cons_succ]
          refine wpAnyH_take (i := 13) (oi := ?oi114) (v := .int .u64 (z : Nat)) ?hi114 (by kernel_rfl) (by kernel_rfl) (by kernel_rfl) ?hQ114 ?hy114 (by assumption) ?rest114
          case hi114 => (simp only [List.getElem?_toArray, List.getElem?_cons_zero, List.getElem?_cons_succ]; rfl)
          case hQ114 => exact fun _ _ _ h => h
          case hy114 => exact Or.inl ⟨by rfl, by (intro w hSw; (try dsimp only at hSw); go_simp )⟩
          simp only [Act.put, List.setIfInBounds_toArray, List.set_cons_zero, List.set_cons_succ]
          refine wpAnyH_ready (rs := [12]) (by kernel_rfl) (by simp) ?_
          refine AllReadyH.cons (o := ?oi115) ?hi115 (fun K hK => ?_) AllReadyH.nil
          case hi115 => (simp only [List.getElem?_toArray, List.getElem?_cons_zero, List.getElem?_cons_succ]; rfl)
          rw [if_pos (by rfl)]
          go_simp
          refine (HRUN.out _ hin8).mono ?_
          rintro e Z2 ⟨rfl, hin9, hhl, _⟩
          have hH2 := hide (hHeld.trans ((hhl.below (Nat.le_of_lt hin8.row)).mono (by omega)))
          replace hry := hhl.row hry (Or.inr (by omega))
          clear hHeld hhl
          go_simp
          refine hK.out _ _ ?_ (fun hHeld => ?_)
          · exact hH2.out
          clear hK K
          replace hb := hHeld
          clear hH2
          refine wpAnyH_take (i := 14) (oi := ?oi116) (v := .bool false) ?hi116 (by kernel_rfl) (by kernel_rfl) (by kernel_rfl) ?hQ116 ?hy116 (by assumption) ?rest116
          case hi116 => (simp only [List.getElem?_toArray, List.getElem?_cons_zero, List.getElem?_cons_succ]; rfl)
          case hQ116 => exact fun _ _ _ h => h
          case hy116 => exact Or.inl ⟨by rfl, by (intro w hSw; go_simp)⟩
          simp only [Act.put, List.setIfInBounds_toArray, List.set_cons_zero, List.set_cons_succ]
          refine wpAnyH_done (by kernel_rfl) ?_ _
          clear hHeld
          have hin := hin9
          clear hin9 hin8
          go_wp2
          refine wp_region_held_drew (S := (fun U => Below Z2.heap.size Z2 U)) (by kernel_rfl) ?_ (fun hHeld => ?_)
          · exact (Below.refl _ Z2).drew
          generalize Z2.drew = Y at hHeld ⊢
          refine wpAnyH_take (i := 0) (oi := ?oi117) (v := .pointer (some ⟨p, 0, none⟩)) ?hi117 (by kernel_rfl) (by kernel_rfl) (by kernel_rfl) ?hQ117 ?hy117 (by assumption) ?rest117
          case hi117 => (simp only [List.getElem?_toArray, List.getElem?_cons_zero]; rfl)
          case hQ117 => exact fun _ _ _ h => h
          case hy117 => exact Or.inl ⟨by rfl, by (intro w hSw; (try dsimp only at hSw); go_simp )⟩
          simp only [Act.put, List.setIfInBounds_toArray, List.set_cons_zero, List.set_cons_succ]
          refine wpAnyH_take (i := 3) (oi := ?oi118) (v := .agg (inC (.slice a2 i2.b.length c2) i2.err)) ?hi118 (by kernel_rfl) (by kernel_rfl) (by kernel_rfl) ?hQ118 ?hy118 (by assumption) ?rest118
          case hi118 => (simp only [List.getElem?_toArray, List.getElem?_cons_zero, List.getElem?_cons_succ]; rfl)
          case hQ118 => exact fun _ _ _ h => h
          case hy118 => exact y_rowY py (fun U hU => hry.bl hU) rfl rfl
          simp only [Act.put, List.setIfInBounds_toArray, List.set_cons_zero, List.set_cons_succ]
          refine wpAnyH_ready (rs := [1]) (by kernel_rfl) (by simp) ?_
          refine AllReadyH.cons (o := ?oi119) ?hi119 (fun K hK => ?_) AllReadyH.nil
          case hi119 => (simp only [List.getElem?_toArray, List.getElem?_cons_zero, List.getElem?_cons_succ]; rfl)
          rw [if_pos (by rfl)]
          go_simp
          refine (inD_any p i2 _ (hin.bl hHeld)).mono ?_
          rintro e Y1 ⟨rfl, rfl⟩
          have hH2 := hide hHeld
          clear hHeld
          go_simp
          refine hK.out _ _ ?_ (fun hHeld => ?_)
          · exact hH2.out
          clear hK K
          clear hH2
          refine wpAnyH_ready (rs := [2]) (by kernel_rfl) (by simp) ?_
          refine AllReadyH.cons (o := ?oi120) ?hi120 (fun K hK => ?_) AllReadyH.nil
          case hi120 => (simp only [List.getElem?_toArray, List.getElem?_cons_zero, List.getElem?_cons_succ]; rfl)
          rw [if_pos (by rfl)]
          go_simp
          refine (HNM.out (doneE i2) _ (HH.out.below (below_bl rfl hb hHeld))).mono ?_
          rintro e Y2 ⟨rfl, hbc⟩
          have hH2 := hide (below_bl rfl hHeld hbc)
          clear hHeld hbc
          go_simp
          refine hK.out _ _ ?_ (fun hHeld => ?_)
          · exact hH2.out
          clear hK K
          clear hH2
          refine wpAnyH_ready (rs := [4]) (by kernel_rfl) (by simp) ?_
          refine AllReadyH.cons (o := ?oi121) ?hi121 (fun K hK => ?_) AllReadyH.nil
          case hi121 => (simp only [List.getElem?_toArray, List.getElem?_cons_zero, List.getElem?_cons_succ]; rfl)
          rw [if_pos (by rfl)]
          go_simp
          refine (rdone_any a2 c2 i2 _).mono ?_
          rintro e Y4 ⟨rfl, hbc⟩
          have hH2 := hide (below_bl rfl hHeld hbc)
          clear hHeld hbc
          go_simp
          refine hK.out _ _ ?_ (fun hHeld => ?_)
          · exact hH2.out
          clear hK K
          clear hH2
          refine wpAnyH_take (i := 5) (oi := ?oi122) (v := .bool false) ?hi122 (by kernel_rfl) (by kernel_rfl) (by kernel_rfl) ?hQ122 ?hy122 (by assumption) ?rest122
          case hi122 => (simp only [List.getElem?_toArray, List.getElem?_cons_zero, List.getElem?_cons_succ]; rfl)
          case hQ122 => exact fun _ _ _ h => h
          case hy122 => exact Or.inl ⟨by rfl, by (intro w hSw; go_simp)⟩
          simp only [Act.put, List.setIfInBounds_toArray, List.set_cons_zero, List.set_cons_succ]
          refine wpAnyH_done (by kernel_rfl) ?_ _
          replace hin := hin.bl hHeld
          replace hry := hry.bl hHeld
          replace hb := below_bl rfl hb hHeld
          clear hHeld
          go_wp2
          go_roundw
          case rel => exact ⟨k + 1, i2, _, hlt, by go_num, hin, HIL2.out, hry, HV2.out, hb⟩
          case measure => simp [intOf]; omega
    · obtain rfl : k = n := by omega
      have hk60 : k < len → 60 ≤ k := by omega
      clear hnn
      by_cases hkl : k < len
      all_goals
        go_wp2_with (first | (go_at_call 24; (with_reducible refine (HNN.out _).mono ?_); rintro e W9 ⟨rfl, rfl⟩) | (go_at_call 22; (with_reducible refine (HNR.out _).mono ?_); rintro e W9 ⟨rfl, rfl⟩) | (go_at_call 25; (with_reducible refine (HND.out _).mono ?_); rintro e W9 ⟨rfl, rfl⟩) | (go_at_call 27; (with_reducible refine (HON.out _).mono ?_); rintro e W9 ⟨rfl, rfl⟩) | (go_at_call 28; (with_reducible refine (HOR.out _).mono ?_); rintro e W9 ⟨rfl, rfl⟩) | (go_at_call 29; (with_reducible refine (HOD.out _).mono ?_); rintro e W9 ⟨rfl, rfl⟩) | (go_at_call 16; (with_reducible refine (HN1.out _ (HH.out.below hb)).mono ?_); rintro e W9 ⟨rfl, hb9⟩; replace hb := below_bl rfl hb hb9; clear hb9) | (go_at_call 10; (with_reducible refine (HSU.out _ (HT.out.below hb)).mono ?_); rintro e W9 ⟨rfl, hb9⟩; replace hb := below_bl rfl hb hb9; clear hb9))
        go_ret
        exact ⟨rfl, hb⟩
end Go.Proofs.YtkahkkcbigifiaaDoor
