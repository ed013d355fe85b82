/-
  RingOnce, walked.
-/
import Derived.Test.YtghpjibjhaomoaaDoorJRiLens
namespace Go.Proofs.YtghpjibjhaomoaaDoor
open Go.RowKit
set_option linter.unusedVariables false
set_option linter.unusedSimpArgs false

attribute [local go_sem] Rg.at0 Rg.at1 Rg.at2 Rg.at3 Rg.at4 Rg.at5
set_option maxRecDepth 20000 in
set_option maxHeartbeats 8000000 in
theorem once_walk (ha : Option Addr) (hl hcap : Nat) (g : Nat → Int) (ta : Option Addr) (tl tcap : Nat) (tb : Nat → Bool) (w : World) (hH : RIntsAt w w.heap.size ha hl g) (hHc : hl ≤ hcap) (hHm : hcap ≤ 9223372036854775807) (hT : RBoolsAt w w.heap.size ta tl tb) (hTc : tl ≤ tcap) (hTm : tcap ≤ 9223372036854775807) (hA : AreasAt w) :
    Calls Tryd.prog 3 #[.slice ha hl hcap, .slice ta tl tcap] w fun e w' => e = .returned (.bool true) ∧ Below w.heap.size w w' := by
  obtain ⟨B, hB⟩ : ∃ B, w.heap.size = B := ⟨_, rfl⟩
  have hG0 : 0 < B := hB ▸ hA.lt
  have hG : 0 < B + 1 := by omega
  have HA0 := hide hA
  rw [hB] at hH hT ⊢
  have HHd := hide hH
  have HTn := hide hT
  have HBo : Hid (Calls Tryd.prog 4 #[.slice none 0 0] w fun e w' => ∃ b O r, e = .returned (.tuple #[.pointer (some ⟨b, 0, none⟩), .agg (RP.v r 8192 2)]) ∧ RamB w' (B + 1) b 2 (fun _ => 0) 80 O ∧ Below B w w') := hide (by
    have h := rboth_any none 0 0 (fun _ _ => 0) w ⟨fun j hj => absurd hj (by omega), fun j hj => absurd hj (by omega)⟩ (by decide) (by decide)
    rw [hB] at h
    exact h.mono (by
      rintro e w' ⟨b, f, O, r, hf, he, h1, _, h3⟩
      rw [hf] at h1
      exact ⟨b, O, r, he, h1, h3⟩))
  have HLa := hide laid_any
  have HSu : Hid (∀ W, AreasAt W → Calls Tryd.prog 10 #[] W fun e w' => e = .returned (.bool true) ∧ Below W.heap.size W w') := hide (fun W hA => rsure_any W hA)
  have hbw := Below.refl B w
  have hst0 : sR.cells = (rT 0).cells := rfl
  clear hA hH hT
  go_enter Tryd.func3, Tryd.ntmps3
  go_wp2_with (first | (go_at_call 4; (with_reducible refine HBo.out.mono ?_); rintro e W1 ⟨b, O, r, rfl, hM, hb⟩; have hA := HA0.out.belR hG0 hb; obtain ⟨NX, hNX0⟩ : ∃ n, W1.heap.size = n := ⟨_, rfl⟩; have hNX := hide hNX0; have hNB : B + 1 ≤ NX := hNX0 ▸ hM.base; have hnx : ¬ O NX := (fun e => absurd (hM.lt _ e) (by omega)); clear hNX0) | ((with_reducible refine al_Rz NX ?_ ?_); exact hNX.out; intro W hx hb' hz2; have hbc : Below W1.heap.size W1 W := (by rw [hNX.out]; exact hb'); replace hb := hb.trans (hb'.mono (by omega)); replace hM := hM.bl hbc; replace hA := hA.bl hbc; clear hb' hbc) | ((with_reducible refine st_R NX _ r 8192 2 hx ?_ ?_ ?_ ?_); exact rfl; exact rfl; exact rfl; intro W hnew hoo; replace hM := hM.only hoo hnx; replace hA := hA.onlyR hoo (by omega); replace hb := hoo.bel _ _ (by omega) hb; clear hnew hoo hx) | (go_at_call 5; (with_reducible refine (HLa.out _).mono ?_); rintro e W ⟨rfl, hbc⟩; replace hb := hb.trans (hbc.mono (by have := hM.base; omega)); replace hM := hM.bl hbc; replace hA := hA.bl hbc; clear hbc; obtain ⟨NR, hNR0⟩ : ∃ n, W.heap.size = n := ⟨_, rfl⟩; have hNR := hide hNR0; have hRB : B + 1 ≤ NR := hNR0 ▸ hM.base; have hnr : ¬ O NR := (fun e => absurd (hM.lt _ e) (by omega)); clear hNR0) | ((with_reducible refine al_rp NR ?_ ?_); exact hNR.out; intro W hr hb' hz2; have hbc := hNR.out.symm ▸ hb'; replace hb := hb.trans (hb'.mono (by omega)); replace hM := hM.bl hbc; replace hA := hA.bl hbc; clear hb' hbc hz2) | ((with_reducible refine st_rp NR _ (rT 0) hr ?_ ?_ ?_); exact rfl; exact rfl; intro W hnew hoo; replace hM := hM.only hoo hnr; replace hA := hA.onlyR hoo (by omega); replace hb := hoo.bel _ _ (by omega) hb; replace hr := hnew; clear hnew hoo))
  clear hNX hNR
  go_loopw [8, 9, 10, 11] (fun ov tv kv iv wr => ∃ (i q t : Nat) (f : Nat → Nat) (O : Nat → Prop), i ≤ tl ∧ i ≤ 60 ∧ q ≤ i ∧ q ≤ hl ∧ iv = .int .i64 (i : Nat) ∧ ov = .int .i64 (q : Nat) ∧ tv = .int .i64 (t : Nat) ∧ kv = .int .i64 (t : Nat) ∧ OnM f g q t ∧ RamB wr (B + 1) b 2 f (80 + 3 * i) O ∧ RowAt wr NR (rT t).cells 33 ∧ ¬ O NR ∧ Below B w wr) (fun ov tv kv iv _ => 60 - (intOf iv).toNat)
  case atStart => exact ⟨0, 0, 0, _, O, Nat.zero_le _, Nat.zero_le _, Nat.le_refl _, Nat.zero_le _, rfl, rfl, rfl, rfl, on_none g, hM, hr, hnr, hb⟩
  case round =>
    clear hM hr hnr hb hA
    obtain ⟨i, q, t, f, O, hi, hi6, hqi, hql, rfl, rfl, rfl, rfl, hon, hM, hr, hnr, hb⟩ := hrel
    have hA := HA0.out.belR hG0 hb
    have HON := hide hon
    have htq := hon.le
    have hqf := hon.far
    clear hon
    have hS := hr.lt
    by_cases hlt : i < tl ∧ i < 60
    · obtain ⟨hlt1, hlt2⟩ := hlt
      have l1 : (i : Int) < (tl : Int) := by omega
      have l2 : (i : Int) < 60 := by omega
      obtain ⟨tbk, tof, rfl, htb, htc⟩ := HTn.out.lies i hlt1
      have htw : wr.cell? ⟨tbk, tof + i, none⟩ = some (.bool (tb i)) := (hb.cell (p := ⟨tbk, tof + i, none⟩) htb).trans htc
      obtain ⟨tv, htv⟩ : ∃ x, tb i = x := ⟨_, rfl⟩
      rw [htv] at htw
      clear htc htv
      by_cases hoff : tv = true ∧ q < t + 4 ∧ q < hl
      · obtain ⟨rfl, ho1, ho2⟩ := hoff
        obtain ⟨hbk, ho, rfl, hhb, hhc⟩ := HHd.out.lies q ho2
        have hhw : ∀ W, Below B w W → W.cell? ⟨hbk, ho + q, none⟩ = some (.int .i64 (g q)) := fun W hb => (hb.cell (p := ⟨hbk, ho + q, none⟩) hhb).trans hhc
        have hhw1 := hhw wr hb
        have d1 : (q : Int) - (t : Int) < 4 := by omega
        have d2 : (q : Int) < (hl : Int) := by omega
        have e1 : (q : Int).tmod 4 = ((q % 4 : Nat) : Int) := by rw [Int.tmod_eq_emod_of_nonneg (by omega)]; omega
        have e3 : bits .and .i64 (g q) 3 = ((hdN g q : Nat) : Int) := by rw [i64_and3]; unfold hdN; omega
        have hdl := hdN_lt g q
        have hq4 : q % 4 < 4 := Nat.mod_lt _ (by decide)
        have HS1 : Hid (∀ W O1 (z : Int), RamB W (B + 1) b 2 f (80 + 3 * i) O1 → z = ((260 + 2 * (q % 4) : Nat) : Int) → Calls Tryd.prog 6 #[.pointer (some ⟨b, 0, none⟩), .int .u32 z, .int .i64 2, .int .u32 (hdN g q : Nat)] W fun e w' => e = .returned .nilIface ∧ ∃ O', RamB w' (B + 1) b 2 (wroteF f (260 + 2 * (q % 4)) (numB (hdN g q) 2)) (80 + 3 * i + 1) O' ∧ Went (B + 1) O1 O' W w') := hide (fun W O1 z hM hz => by rw [hz]; exact store_b hM (260 + 2 * (q % 4)) 2 (by omega) (by decide) (by omega) (by omega) (hdN g q) (by omega) (by omega))
        have HS2 : Hid (∀ W O1 (z : Int), RamB W (B + 1) b 2 (wroteF f (260 + 2 * (q % 4)) (numB (hdN g q) 2)) (80 + 3 * i + 1) O1 → z = ((q + 1 : Nat) : Int) → Calls Tryd.prog 6 #[.pointer (some ⟨b, 0, none⟩), .int .u32 258, .int .i64 2, .int .u32 z] W fun e w' => e = .returned .nilIface ∧ ∃ O', RamB w' (B + 1) b 2 (offF f (hdN g q) q) (80 + 3 * i + 1 + 1) O' ∧ Went (B + 1) O1 O' W w') := hide (fun W O1 z hM hz => by rw [hz]; exact store_b hM 258 2 (by decide) (by decide) (by decide) (by decide) (q + 1) (by omega) (by omega))
        have HOF := hide (HON.out.off ho1 (by omega))
        generalize wroteF f (260 + 2 * (q % 4)) (numB (hdN g q) 2) = f1 at *
        generalize offF f (hdN g q) q = f2 at *
        generalize hdN g q = hd at *
        generalize q % 4 = q4 at *
        clear hhc hhw
        go_wp2_with (first | (go_at_call 6; (with_reducible refine (HS1.out _ _ _ hM ?_).mono ?_); (first | omega | (simp; omega)); rintro e W2 ⟨rfl, O2, hM2, hW2⟩; have n1 := hW2.no hr.lt hnr; replace hr := hW2.row hr hnr; replace hb := hb.trans (hW2.below.mono (by omega)); replace hA := hA.wentR hG hW2; replace hS := Nat.lt_of_lt_of_le hS hW2.size; clear hM hnr; have hM := hM2; have hnr := n1; clear hM2 hW2 n1) | (go_at_call 6; (with_reducible refine (HS2.out _ _ _ hM ?_).mono ?_); (first | omega | (simp; omega)); rintro e W2 ⟨rfl, O2, hM2, hW2⟩; have n1 := hW2.no hr.lt hnr; replace hr := hW2.row hr hnr; replace hb := hb.trans (hW2.below.mono (by omega)); replace hA := hA.wentR hG hW2; replace hS := Nat.lt_of_lt_of_le hS hW2.size; clear hM hnr; have hM := hM2; have hnr := n1; clear hM2 hW2 n1))
        go_roundw
        case rel => exact ⟨i + 1, q + 1, t, f2, _, hlt1, hlt2, by omega, ho2, by go_num, by go_num, rfl, rfl, HOF.out, hM.more (by omega), hr, hnr, hb⟩
        case measure => simp [intOf]; omega
      · have hlet : ∀ (P : Prop), (tv = false → P) → (tv = true → decide ((q : Int) - (t : Int) < 4) = false → P) → (tv = true → (q : Int) - (t : Int) < 4 → decide ((q : Int) < (hl : Int)) = false → decide (q < hl) = false → P) → P := by
          intro P p1 p2 p3
          cases tv with
          | false => exact p1 rfl
          | true =>
            by_cases d1 : q < t + 4
            · have e : hl ≤ q := Nat.le_of_not_lt (fun e => hoff ⟨rfl, d1, e⟩)
              exact p3 rfl (by omega) (by simp; omega) (by simp; omega)
            · exact p2 rfl (by simp; omega)
        clear hoff
        by_cases hto : t < q
        · have ht6 : t ≤ 60 := by omega
          obtain ⟨hbk, ho, rfl, hhb, hhc⟩ := HHd.out.lies t (by omega)
          have HHW : Hid (∀ W, Below B w W → W.cell? ⟨hbk, ho + t, none⟩ = some (.int .i64 (g t))) := hide (fun W hb => (hb.cell (p := ⟨hbk, ho + t, none⟩) hhb).trans hhc)
          have d0 : (t : Int) < (q : Int) := by omega
          have d5 : (t : Int) < (hl : Int) := by omega
          have e3 : bits .and .i64 (g t) 3 = ((hdN g t : Nat) : Int) := by rw [i64_and3]; unfold hdN; omega
          have hdl := hdN_lt g t
          have e1 : (t : Int).tmod 4 = ((t % 4 : Nat) : Int) := by rw [Int.tmod_eq_emod_of_nonneg (by omega)]; omega
          have hq4 : t % 4 < 4 := Nat.mod_lt _ (by decide)
          have hcn := HON.out.cnt
          have hhd := HON.out.hds t (Nat.le_refl _) hto
          obtain ⟨cv1, cv2⟩ := rT_avC t
          obtain ⟨ch1, ch2⟩ := rT_avH t
          obtain ⟨u1, u2, u3, u4, u5⟩ := rS_us t
          have hah : ahN (rT t) q = q - t := by show (q + 65536 - t) % 65536 = _; omega
          have HNx : Hid (∀ W O1, RamB W (B + 1) b 2 f (80 + 3 * i) O1 → AreasAt W → Calls Tryd.prog 7 #[.agg (rT t).cells, .pointer (some ⟨b, 0, none⟩)] W fun e w' => e = .returned (.tuple #[.agg (rS t).cells, .int .i64 (hdN g t : Nat), .bool true, .nilIface]) ∧ ∃ O', RamB w' (B + 1) b 2 f (80 + 3 * i) O' ∧ Went (B + 1) O1 O' W w') := hide (fun W O1 hM hA => by
            have h := next_took (rT t) (rT_ok ht6) (rT_chk t) hM hA hG cv2 (by rw [cv1, hcn, hah]; omega) (by rw [cv1, hcn, hah]; show ((q - t : Nat) : Int) ≤ 4; omega) ch2 (by rw [ch1, hhd]; show ((hdN g t : Nat) : Int) < 4; omega)
            rw [ch1, hhd, rT_taken ht6] at h
            exact h)
          have HGv : Hid (∀ W O1, RamB W (B + 1) b 2 f (80 + 3 * i) O1 → AreasAt W → Calls Tryd.prog 8 #[.agg (rS t).cells, .pointer (some ⟨b, 0, none⟩), .int .i64 (hdN g t : Nat), .int .u32 ((t + 1 : Nat) : Int)] W fun e w' => e = .returned (.tuple #[.agg (rT (t + 1)).cells, .nilIface]) ∧ ∃ O', RamB w' (B + 1) b 2 (gvF f (hdN g t) t) (80 + 3 * i + 1 + 1 + 1) O' ∧ Went (B + 1) O1 O' W w') := hide (fun W O1 hM hA => by
            have h := give_ok (rS t) (rS_ok ht6) (rS_chk t) hM hA hG (hdN g t) (t + 1) (by show ((hdN g t : Nat) : Int) < 4; omega) (by omega) u2 u5 (by omega)
            rw [rS_given ht6, rS_give ht6] at h
            exact h)
          have HTK := hide (HON.out.take hto (hdN g t))
          have gh := gv_head (f := f) (t := t) hdl
          have gn := gv_num (f := f) (hd := hdN g t) ht6
          have gc := gv_cnt (f := f) (hd := hdN g t) ht6
          obtain ⟨f2, hf2⟩ : ∃ x, gvF f (hdN g t) t = x := ⟨_, rfl⟩
          rw [hf2] at HGv HTK gh gn gc
          obtain ⟨hd, hhd0⟩ : ∃ x, hdN g t = x := ⟨_, rfl⟩
          rw [hhd0] at HNx HGv e3 hdl gh
          have HLo : Hid (∀ W O1 c (z : Int) (a k v : Nat), RamB W (B + 1) b 2 f2 c O1 → z = (a : Int) → (k = 2 ∨ k = 4) → a % k = 0 → a + k ≤ 8192 → numF f2 a k = v → Calls Tryd.prog 9 #[.pointer (some ⟨b, 0, none⟩), .int .u32 z, .int .i64 (k : Nat)] W fun e w' => e = .returned (.tuple #[.int .u32 (v : Nat), .nilIface]) ∧ ∃ O', RamB w' (B + 1) b 2 f2 c O' ∧ Went (B + 1) O1 O' W w') := hide (fun W O1 c z a k v hM hz hk ha hin hv => by rw [hz, ← hv]; exact load_b hM a k (by omega) (by omega) ha (by omega))
          have HL1 : Hid (∀ W O1 c (z : Int), RamB W (B + 1) b 2 f2 c O1 → z = ((516 + 8 * (t % 4) : Nat) : Int) → Calls Tryd.prog 9 #[.pointer (some ⟨b, 0, none⟩), .int .u32 z, .int .i64 4] W fun e w' => e = .returned (.tuple #[.int .u32 (hd : Nat), .nilIface]) ∧ ∃ O', RamB w' (B + 1) b 2 f2 c O' ∧ Went (B + 1) O1 O' W w') := hide (fun W O1 c z hM hz => HLo.out W O1 c z _ 4 hd hM hz (by decide) (by omega) (by omega) gh)
          have HL2 : Hid (∀ W O1 c (z : Int), RamB W (B + 1) b 2 f2 c O1 → z = ((520 + 8 * (t % 4) : Nat) : Int) → Calls Tryd.prog 9 #[.pointer (some ⟨b, 0, none⟩), .int .u32 z, .int .i64 4] W fun e w' => e = .returned (.tuple #[.int .u32 ((t + 1 : Nat) : Int), .nilIface]) ∧ ∃ O', RamB w' (B + 1) b 2 f2 c O' ∧ Went (B + 1) O1 O' W w') := hide (fun W O1 c z hM hz => HLo.out W O1 c z _ 4 (t + 1) hM hz (by decide) (by omega) (by omega) gn)
          have HL3 : Hid (∀ W O1 c, RamB W (B + 1) b 2 f2 c O1 → Calls Tryd.prog 9 #[.pointer (some ⟨b, 0, none⟩), .int .u32 514, .int .i64 2] W fun e w' => e = .returned (.tuple #[.int .u32 ((t + 1 : Nat) : Int), .nilIface]) ∧ ∃ O', RamB w' (B + 1) b 2 f2 c O' ∧ Went (B + 1) O1 O' W w') := hide (fun W O1 c hM => HLo.out W O1 c 514 514 2 (t + 1) hM rfl (by decide) (by decide) (by decide) gc)
          obtain ⟨t1, ht1⟩ : ∃ x, t + 1 = x := ⟨_, rfl⟩
          have et1 : (t : Int) + 1 = (t1 : Int) := by omega
          have ht1l : t1 ≤ 61 := by omega
          have HT1 := hide ht1
          rw [ht1] at HGv HTK HL2 HL3
          generalize t % 4 = q4 at *
          clear HLo gh gn gc hf2 hhd0 hcn hhd cv1 cv2 ch1 ch2 u1 u2 u3 u4 u5 hah hhc HON ht1
          refine hlet _ ?_ ?_ ?_
          · rintro rfl
            go_wp2_with (first | ((with_reducible refine ld_rp NR (rT t) hr ?_ ?_ ?_); exact rfl; exact rfl) | (go_at_call 7; (with_reducible refine (HNx.out _ _ hM hA).mono ?_); rintro e W2 ⟨rfl, O2, hM2, hW2⟩; have n1 := hW2.no hr.lt hnr; replace hr := hW2.row hr hnr; replace hb := hb.trans (hW2.below.mono (by omega)); replace hA := hA.wentR hG hW2; replace hS := Nat.lt_of_lt_of_le hS hW2.size; clear hM hnr; have hM := hM2; have hnr := n1; clear hM2 hW2 n1; obtain ⟨NS, hNS0⟩ : ∃ n, W2.heap.size = n := ⟨_, rfl⟩; have hNS := hide hNS0; have lNS : NR < NS := hNS0 ▸ hS; have bNS : B + 1 ≤ NS := hNS0 ▸ hM.base; have oNS : ¬ O2 NS := (fun e => absurd (hM.lt _ e) (by omega)); clear hNS0) | ((with_reducible refine al_rp NS ?_ ?_); exact hNS.out; intro W hs hb' hz; have hbc := hNS.out.symm ▸ hb'; replace hM := hM.bl hbc; replace hA := hA.bl hbc; replace hr := hr.bl hbc; replace hb := hb.trans (hb'.mono (by omega)); replace hS := Nat.lt_of_lt_of_le hS hbc.size; clear hb' hbc hz) | ((with_reducible refine st_rp NS _ (rS t) hs ?_ ?_ ?_); exact rfl; exact rfl; intro W hnew ho; replace hM := hM.only ho oNS; replace hA := hA.onlyR ho (by omega); replace hr := hr.only ho (by omega); replace hb := ho.bel _ _ (by omega) hb; replace hS := (show NR < W.heap.size by rw [ho.size]; exact hS); replace hs := hnew; clear hnew ho; have hhw := HHW.out _ hb) | ((with_reducible refine ld_rp NS (rS t) hs ?_ ?_ ?_); exact rfl; exact rfl) | (go_at_call 8; (with_reducible refine (HGv.out _ _ hM hA).mono ?_); rintro e W2 ⟨rfl, O3, hM2, hW2⟩; have n1 := hW2.no hr.lt hnr; replace hr := hW2.row hr hnr; replace hb := hb.trans (hW2.below.mono (by omega)); replace hA := hA.wentR hG hW2; replace hS := Nat.lt_of_lt_of_le hS hW2.size; clear hM hnr; have hM := hM2; have hnr := n1; clear hM2 hW2 n1; clear hs; obtain ⟨NT, hNT0⟩ : ∃ n, W2.heap.size = n := ⟨_, rfl⟩; have hNT := hide hNT0; have lNT : NR < NT := hNT0 ▸ hS; have bNT : B + 1 ≤ NT := hNT0 ▸ hM.base; have oNT : ¬ O3 NT := (fun e => absurd (hM.lt _ e) (by omega)); clear hNT0) | ((with_reducible refine al_rp NT ?_ ?_); exact hNT.out; intro W ht hb' hz; have hbc := hNT.out.symm ▸ hb'; replace hM := hM.bl hbc; replace hA := hA.bl hbc; replace hr := hr.bl hbc; replace hb := hb.trans (hb'.mono (by omega)); replace hS := Nat.lt_of_lt_of_le hS hbc.size; clear hb' hbc hz) | ((with_reducible refine st_rp NT _ (rT t1) ht ?_ ?_ ?_); exact rfl; exact rfl; intro W hnew ho; replace hM := hM.only ho oNT; replace hA := hA.onlyR ho (by omega); replace hr := hr.only ho (by omega); replace hb := ho.bel _ _ (by omega) hb; replace hS := (show NR < W.heap.size by rw [ho.size]; exact hS); replace ht := hnew; clear hnew ho) | ((with_reducible refine ld_rp NT (rT t1) ht ?_ ?_ ?_); exact rfl; exact rfl) | ((with_reducible refine st_rp NR _ (rT t1) hr ?_ ?_ ?_); exact rfl; exact rfl; intro W hnew ho; replace hM := hM.only ho hnr; replace hA := hA.onlyR ho (by omega); replace ht := ht.only ho (by omega); replace hb := ho.bel _ _ (by omega) hb; replace hS := (show NR < W.heap.size by rw [ho.size]; exact hS); replace hr := hnew; clear hnew ho) | (go_at_call 9; (with_reducible refine (HL1.out _ _ _ _ hM ?_).mono ?_); (first | omega | (simp; omega)); rintro e W2 ⟨rfl, O2, hM2, hW2⟩; have n1 := hW2.no hr.lt hnr; replace hr := hW2.row hr hnr; replace hb := hb.trans (hW2.below.mono (by omega)); replace hA := hA.wentR hG hW2; replace hS := Nat.lt_of_lt_of_le hS hW2.size; clear hM hnr; have hM := hM2; have hnr := n1; clear hM2 hW2 n1) | (go_at_call 9; (with_reducible refine (HL2.out _ _ _ _ hM ?_).mono ?_); (first | omega | (simp; omega)); rintro e W2 ⟨rfl, O2, hM2, hW2⟩; have n1 := hW2.no hr.lt hnr; replace hr := hW2.row hr hnr; replace hb := hb.trans (hW2.below.mono (by omega)); replace hA := hA.wentR hG hW2; replace hS := Nat.lt_of_lt_of_le hS hW2.size; clear hM hnr; have hM := hM2; have hnr := n1; clear hM2 hW2 n1) | (go_at_call 9; (with_reducible refine (HL3.out _ _ _ hM).mono ?_); rintro e W2 ⟨rfl, O2, hM2, hW2⟩; have n1 := hW2.no hr.lt hnr; replace hr := hW2.row hr hnr; replace hb := hb.trans (hW2.below.mono (by omega)); replace hA := hA.wentR hG hW2; replace hS := Nat.lt_of_lt_of_le hS hW2.size; clear hM hnr; have hM := hM2; have hnr := n1; clear hM2 hW2 n1))
            go_roundw
            case rel => exact ⟨i + 1, q, t1, f2, _, hlt1, hlt2, by omega, hql, by go_num, rfl, by go_num, by go_num, HTK.out, hM.more (by omega), hr, hnr, hb⟩
            case measure => simp [intOf]; omega
          · rintro rfl d1
            go_wp2_with (first | ((with_reducible refine ld_rp NR (rT t) hr ?_ ?_ ?_); exact rfl; exact rfl) | (go_at_call 7; (with_reducible refine (HNx.out _ _ hM hA).mono ?_); rintro e W2 ⟨rfl, O2, hM2, hW2⟩; have n1 := hW2.no hr.lt hnr; replace hr := hW2.row hr hnr; replace hb := hb.trans (hW2.below.mono (by omega)); replace hA := hA.wentR hG hW2; replace hS := Nat.lt_of_lt_of_le hS hW2.size; clear hM hnr; have hM := hM2; have hnr := n1; clear hM2 hW2 n1; obtain ⟨NS, hNS0⟩ : ∃ n, W2.heap.size = n := ⟨_, rfl⟩; have hNS := hide hNS0; have lNS : NR < NS := hNS0 ▸ hS; have bNS : B + 1 ≤ NS := hNS0 ▸ hM.base; have oNS : ¬ O2 NS := (fun e => absurd (hM.lt _ e) (by omega)); clear hNS0) | ((with_reducible refine al_rp NS ?_ ?_); exact hNS.out; intro W hs hb' hz; have hbc := hNS.out.symm ▸ hb'; replace hM := hM.bl hbc; replace hA := hA.bl hbc; replace hr := hr.bl hbc; replace hb := hb.trans (hb'.mono (by omega)); replace hS := Nat.lt_of_lt_of_le hS hbc.size; clear hb' hbc hz) | ((with_reducible refine st_rp NS _ (rS t) hs ?_ ?_ ?_); exact rfl; exact rfl; intro W hnew ho; replace hM := hM.only ho oNS; replace hA := hA.onlyR ho (by omega); replace hr := hr.only ho (by omega); replace hb := ho.bel _ _ (by omega) hb; replace hS := (show NR < W.heap.size by rw [ho.size]; exact hS); replace hs := hnew; clear hnew ho; have hhw := HHW.out _ hb) | ((with_reducible refine ld_rp NS (rS t) hs ?_ ?_ ?_); exact rfl; exact rfl) | (go_at_call 8; (with_reducible refine (HGv.out _ _ hM hA).mono ?_); rintro e W2 ⟨rfl, O3, hM2, hW2⟩; have n1 := hW2.no hr.lt hnr; replace hr := hW2.row hr hnr; replace hb := hb.trans (hW2.below.mono (by omega)); replace hA := hA.wentR hG hW2; replace hS := Nat.lt_of_lt_of_le hS hW2.size; clear hM hnr; have hM := hM2; have hnr := n1; clear hM2 hW2 n1; clear hs; obtain ⟨NT, hNT0⟩ : ∃ n, W2.heap.size = n := ⟨_, rfl⟩; have hNT := hide hNT0; have lNT : NR < NT := hNT0 ▸ hS; have bNT : B + 1 ≤ NT := hNT0 ▸ hM.base; have oNT : ¬ O3 NT := (fun e => absurd (hM.lt _ e) (by omega)); clear hNT0) | ((with_reducible refine al_rp NT ?_ ?_); exact hNT.out; intro W ht hb' hz; have hbc := hNT.out.symm ▸ hb'; replace hM := hM.bl hbc; replace hA := hA.bl hbc; replace hr := hr.bl hbc; replace hb := hb.trans (hb'.mono (by omega)); replace hS := Nat.lt_of_lt_of_le hS hbc.size; clear hb' hbc hz) | ((with_reducible refine st_rp NT _ (rT t1) ht ?_ ?_ ?_); exact rfl; exact rfl; intro W hnew ho; replace hM := hM.only ho oNT; replace hA := hA.onlyR ho (by omega); replace hr := hr.only ho (by omega); replace hb := ho.bel _ _ (by omega) hb; replace hS := (show NR < W.heap.size by rw [ho.size]; exact hS); replace ht := hnew; clear hnew ho) | ((with_reducible refine ld_rp NT (rT t1) ht ?_ ?_ ?_); exact rfl; exact rfl) | ((with_reducible refine st_rp NR _ (rT t1) hr ?_ ?_ ?_); exact rfl; exact rfl; intro W hnew ho; replace hM := hM.only ho hnr; replace hA := hA.onlyR ho (by omega); replace ht := ht.only ho (by omega); replace hb := ho.bel _ _ (by omega) hb; replace hS := (show NR < W.heap.size by rw [ho.size]; exact hS); replace hr := hnew; clear hnew ho) | (go_at_call 9; (with_reducible refine (HL1.out _ _ _ _ hM ?_).mono ?_); (first | omega | (simp; omega)); rintro e W2 ⟨rfl, O2, hM2, hW2⟩; have n1 := hW2.no hr.lt hnr; replace hr := hW2.row hr hnr; replace hb := hb.trans (hW2.below.mono (by omega)); replace hA := hA.wentR hG hW2; replace hS := Nat.lt_of_lt_of_le hS hW2.size; clear hM hnr; have hM := hM2; have hnr := n1; clear hM2 hW2 n1) | (go_at_call 9; (with_reducible refine (HL2.out _ _ _ _ hM ?_).mono ?_); (first | omega | (simp; omega)); rintro e W2 ⟨rfl, O2, hM2, hW2⟩; have n1 := hW2.no hr.lt hnr; replace hr := hW2.row hr hnr; replace hb := hb.trans (hW2.below.mono (by omega)); replace hA := hA.wentR hG hW2; replace hS := Nat.lt_of_lt_of_le hS hW2.size; clear hM hnr; have hM := hM2; have hnr := n1; clear hM2 hW2 n1) | (go_at_call 9; (with_reducible refine (HL3.out _ _ _ hM).mono ?_); rintro e W2 ⟨rfl, O2, hM2, hW2⟩; have n1 := hW2.no hr.lt hnr; replace hr := hW2.row hr hnr; replace hb := hb.trans (hW2.below.mono (by omega)); replace hA := hA.wentR hG hW2; replace hS := Nat.lt_of_lt_of_le hS hW2.size; clear hM hnr; have hM := hM2; have hnr := n1; clear hM2 hW2 n1))
            go_roundw
            case rel => exact ⟨i + 1, q, t1, f2, _, hlt1, hlt2, by omega, hql, by go_num, rfl, by go_num, by go_num, HTK.out, hM.more (by omega), hr, hnr, hb⟩
            case measure => simp [intOf]; omega
          · rintro rfl d1 d2 d2n
            go_wp2_with (first | ((with_reducible refine ld_rp NR (rT t) hr ?_ ?_ ?_); exact rfl; exact rfl) | (go_at_call 7; (with_reducible refine (HNx.out _ _ hM hA).mono ?_); rintro e W2 ⟨rfl, O2, hM2, hW2⟩; have n1 := hW2.no hr.lt hnr; replace hr := hW2.row hr hnr; replace hb := hb.trans (hW2.below.mono (by omega)); replace hA := hA.wentR hG hW2; replace hS := Nat.lt_of_lt_of_le hS hW2.size; clear hM hnr; have hM := hM2; have hnr := n1; clear hM2 hW2 n1; obtain ⟨NS, hNS0⟩ : ∃ n, W2.heap.size = n := ⟨_, rfl⟩; have hNS := hide hNS0; have lNS : NR < NS := hNS0 ▸ hS; have bNS : B + 1 ≤ NS := hNS0 ▸ hM.base; have oNS : ¬ O2 NS := (fun e => absurd (hM.lt _ e) (by omega)); clear hNS0) | ((with_reducible refine al_rp NS ?_ ?_); exact hNS.out; intro W hs hb' hz; have hbc := hNS.out.symm ▸ hb'; replace hM := hM.bl hbc; replace hA := hA.bl hbc; replace hr := hr.bl hbc; replace hb := hb.trans (hb'.mono (by omega)); replace hS := Nat.lt_of_lt_of_le hS hbc.size; clear hb' hbc hz) | ((with_reducible refine st_rp NS _ (rS t) hs ?_ ?_ ?_); exact rfl; exact rfl; intro W hnew ho; replace hM := hM.only ho oNS; replace hA := hA.onlyR ho (by omega); replace hr := hr.only ho (by omega); replace hb := ho.bel _ _ (by omega) hb; replace hS := (show NR < W.heap.size by rw [ho.size]; exact hS); replace hs := hnew; clear hnew ho; have hhw := HHW.out _ hb) | ((with_reducible refine ld_rp NS (rS t) hs ?_ ?_ ?_); exact rfl; exact rfl) | (go_at_call 8; (with_reducible refine (HGv.out _ _ hM hA).mono ?_); rintro e W2 ⟨rfl, O3, hM2, hW2⟩; have n1 := hW2.no hr.lt hnr; replace hr := hW2.row hr hnr; replace hb := hb.trans (hW2.below.mono (by omega)); replace hA := hA.wentR hG hW2; replace hS := Nat.lt_of_lt_of_le hS hW2.size; clear hM hnr; have hM := hM2; have hnr := n1; clear hM2 hW2 n1; clear hs; obtain ⟨NT, hNT0⟩ : ∃ n, W2.heap.size = n := ⟨_, rfl⟩; have hNT := hide hNT0; have lNT : NR < NT := hNT0 ▸ hS; have bNT : B + 1 ≤ NT := hNT0 ▸ hM.base; have oNT : ¬ O3 NT := (fun e => absurd (hM.lt _ e) (by omega)); clear hNT0) | ((with_reducible refine al_rp NT ?_ ?_); exact hNT.out; intro W ht hb' hz; have hbc := hNT.out.symm ▸ hb'; replace hM := hM.bl hbc; replace hA := hA.bl hbc; replace hr := hr.bl hbc; replace hb := hb.trans (hb'.mono (by omega)); replace hS := Nat.lt_of_lt_of_le hS hbc.size; clear hb' hbc hz) | ((with_reducible refine st_rp NT _ (rT t1) ht ?_ ?_ ?_); exact rfl; exact rfl; intro W hnew ho; replace hM := hM.only ho oNT; replace hA := hA.onlyR ho (by omega); replace hr := hr.only ho (by omega); replace hb := ho.bel _ _ (by omega) hb; replace hS := (show NR < W.heap.size by rw [ho.size]; exact hS); replace ht := hnew; clear hnew ho) | ((with_reducible refine ld_rp NT (rT t1) ht ?_ ?_ ?_); exact rfl; exact rfl) | ((with_reducible refine st_rp NR _ (rT t1) hr ?_ ?_ ?_); exact rfl; exact rfl; intro W hnew ho; replace hM := hM.only ho hnr; replace hA := hA.onlyR ho (by omega); replace ht := ht.only ho (by omega); replace hb := ho.bel _ _ (by omega) hb; replace hS := (show NR < W.heap.size by rw [ho.size]; exact hS); replace hr := hnew; clear hnew ho) | (go_at_call 9; (with_reducible refine (HL1.out _ _ _ _ hM ?_).mono ?_); (first | omega | (simp; omega)); rintro e W2 ⟨rfl, O2, hM2, hW2⟩; have n1 := hW2.no hr.lt hnr; replace hr := hW2.row hr hnr; replace hb := hb.trans (hW2.below.mono (by omega)); replace hA := hA.wentR hG hW2; replace hS := Nat.lt_of_lt_of_le hS hW2.size; clear hM hnr; have hM := hM2; have hnr := n1; clear hM2 hW2 n1) | (go_at_call 9; (with_reducible refine (HL2.out _ _ _ _ hM ?_).mono ?_); (first | omega | (simp; omega)); rintro e W2 ⟨rfl, O2, hM2, hW2⟩; have n1 := hW2.no hr.lt hnr; replace hr := hW2.row hr hnr; replace hb := hb.trans (hW2.below.mono (by omega)); replace hA := hA.wentR hG hW2; replace hS := Nat.lt_of_lt_of_le hS hW2.size; clear hM hnr; have hM := hM2; have hnr := n1; clear hM2 hW2 n1) | (go_at_call 9; (with_reducible refine (HL3.out _ _ _ hM).mono ?_); rintro e W2 ⟨rfl, O2, hM2, hW2⟩; have n1 := hW2.no hr.lt hnr; replace hr := hW2.row hr hnr; replace hb := hb.trans (hW2.below.mono (by omega)); replace hA := hA.wentR hG hW2; replace hS := Nat.lt_of_lt_of_le hS hW2.size; clear hM hnr; have hM := hM2; have hnr := n1; clear hM2 hW2 n1))
            go_roundw
            case rel => exact ⟨i + 1, q, t1, f2, _, hlt1, hlt2, by omega, hql, by go_num, rfl, by go_num, by go_num, HTK.out, hM.more (by omega), hr, hnr, hb⟩
            case measure => simp [intOf]; omega
        · obtain rfl : t = q := by omega
          obtain ⟨cv1, cv2⟩ := rT_avC t
          have hah : ahN (rT t) t = 0 := by show (t + 65536 - t) % 65536 = _; omega
          have HNx : Hid (∀ W O1, RamB W (B + 1) b 2 f (80 + 3 * i) O1 → AreasAt W → Calls Tryd.prog 7 #[.agg (rT t).cells, .pointer (some ⟨b, 0, none⟩)] W fun e w' => e = .returned (.tuple #[.agg zeroRg.cells, .int .i64 0, .bool false, .nilIface]) ∧ ∃ O', RamB w' (B + 1) b 2 f (80 + 3 * i) O' ∧ Went (B + 1) O1 O' W w') := hide (fun W O1 hM hA => next_none (rT t) (rT_ok (by omega)) (rT_chk t) hM hA hG cv2 (by rw [cv1, HON.out.cnt, hah]))
          clear cv1 cv2 hah
          refine hlet _ ?_ ?_ ?_
          · rintro rfl
            go_wp2_with (first | ((with_reducible refine ld_rp NR (rT t) hr ?_ ?_ ?_); exact rfl; exact rfl) | (go_at_call 7; (with_reducible refine (HNx.out _ _ hM hA).mono ?_); rintro e W2 ⟨rfl, O2, hM2, hW2⟩; have n1 := hW2.no hr.lt hnr; replace hr := hW2.row hr hnr; replace hb := hb.trans (hW2.below.mono (by omega)); replace hA := hA.wentR hG hW2; replace hS := Nat.lt_of_lt_of_le hS hW2.size; clear hM hnr; have hM := hM2; have hnr := n1; clear hM2 hW2 n1; obtain ⟨NS, hNS0⟩ : ∃ n, W2.heap.size = n := ⟨_, rfl⟩; have hNS := hide hNS0; have lNS : NR < NS := hNS0 ▸ hS; have bNS : B + 1 ≤ NS := hNS0 ▸ hM.base; have oNS : ¬ O2 NS := (fun e => absurd (hM.lt _ e) (by omega)); clear hNS0) | ((with_reducible refine al_rp NS ?_ ?_); exact hNS.out; intro W hs hb' hz; have hbc := hNS.out.symm ▸ hb'; replace hM := hM.bl hbc; replace hA := hA.bl hbc; replace hr := hr.bl hbc; replace hb := hb.trans (hb'.mono (by omega)); replace hS := Nat.lt_of_lt_of_le hS hbc.size; clear hb' hbc hz) | ((with_reducible refine st_rp NS _ zeroRg hs ?_ ?_ ?_); exact rfl; exact rfl; intro W hnew ho; replace hM := hM.only ho oNS; replace hA := hA.onlyR ho (by omega); replace hr := hr.only ho (by omega); replace hb := ho.bel _ _ (by omega) hb; replace hS := (show NR < W.heap.size by rw [ho.size]; exact hS); replace hs := hnew; clear hnew ho))
            go_roundw
            case rel => exact ⟨i + 1, t, t, f, _, hlt1, hlt2, by omega, hql, by go_num, rfl, rfl, rfl, HON.out, hM.more (by omega), hr, hnr, hb⟩
            case measure => simp [intOf]; omega
          · rintro rfl d1
            simp at d1
          · rintro rfl d1 d2 d2n
            go_wp2_with (first | ((with_reducible refine ld_rp NR (rT t) hr ?_ ?_ ?_); exact rfl; exact rfl) | (go_at_call 7; (with_reducible refine (HNx.out _ _ hM hA).mono ?_); rintro e W2 ⟨rfl, O2, hM2, hW2⟩; have n1 := hW2.no hr.lt hnr; replace hr := hW2.row hr hnr; replace hb := hb.trans (hW2.below.mono (by omega)); replace hA := hA.wentR hG hW2; replace hS := Nat.lt_of_lt_of_le hS hW2.size; clear hM hnr; have hM := hM2; have hnr := n1; clear hM2 hW2 n1; obtain ⟨NS, hNS0⟩ : ∃ n, W2.heap.size = n := ⟨_, rfl⟩; have hNS := hide hNS0; have lNS : NR < NS := hNS0 ▸ hS; have bNS : B + 1 ≤ NS := hNS0 ▸ hM.base; have oNS : ¬ O2 NS := (fun e => absurd (hM.lt _ e) (by omega)); clear hNS0) | ((with_reducible refine al_rp NS ?_ ?_); exact hNS.out; intro W hs hb' hz; have hbc := hNS.out.symm ▸ hb'; replace hM := hM.bl hbc; replace hA := hA.bl hbc; replace hr := hr.bl hbc; replace hb := hb.trans (hb'.mono (by omega)); replace hS := Nat.lt_of_lt_of_le hS hbc.size; clear hb' hbc hz) | ((with_reducible refine st_rp NS _ zeroRg hs ?_ ?_ ?_); exact rfl; exact rfl; intro W hnew ho; replace hM := hM.only ho oNS; replace hA := hA.onlyR ho (by omega); replace hr := hr.only ho (by omega); replace hb := ho.bel _ _ (by omega) hb; replace hS := (show NR < W.heap.size by rw [ho.size]; exact hS); replace hs := hnew; clear hnew ho))
            go_roundw
            case rel => exact ⟨i + 1, t, t, f, _, hlt1, hlt2, by omega, hql, by go_num, rfl, rfl, rfl, HON.out, hM.more (by omega), hr, hnr, hb⟩
            case measure => simp [intOf]; omega
    · have hcase : (¬ i < tl) ∨ (i < tl ∧ i = 60) := by omega
      clear hlt
      rcases hcase with hc | ⟨hc1, rfl⟩
      · have t1 : decide ((i : Int) < (tl : Int)) = false := by simp; omega
        have t1n : decide (i < tl) = false := by simp; omega
        go_wp2_with (first | (go_at_call 10; (with_reducible refine (HSu.out _ hA).mono ?_); rintro e W2 ⟨rfl, hbc⟩; replace hb := hb.trans (hbc.mono (by have := hM.base; omega))))
        go_ret
        exact ⟨rfl, hb⟩
      · have l1 : ((60 : Nat) : Int) < (tl : Int) := by omega
        go_wp2_with (first | (go_at_call 10; (with_reducible refine (HSu.out _ hA).mono ?_); rintro e W2 ⟨rfl, hbc⟩; replace hb := hb.trans (hbc.mono (by have := hM.base; omega))))
        go_ret
        exact ⟨rfl, hb⟩
end Go.Proofs.YtghpjibjhaomoaaDoor
