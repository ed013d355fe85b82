/-
  DmaMoves, walked.
-/
import Derived.Test.YtalcgipcephnnaaDoorJDmMoM
import Derived.Test.YtalcgipcephnnaaDoorJDmStopW
import Derived.Test.YtalcgipcephnnaaDoorJDmSure
namespace Go.Proofs.YtalcgipcephnnaaDoor
open Go.RowKit
set_option linter.unusedVariables false
set_option linter.unusedSimpArgs false

attribute [local go_sem] E.at0 E.at1 E.at2 E.at3 E.at4 E.at5 E.at6 E.at7 E.at8 E.at9 E.at10
set_option maxRecDepth 20000 in
set_option maxHeartbeats 4000000 in
theorem moves_walk (la : Option Addr) (len cap : Nat) (g : Nat → Int) (w : World) (hl : IntsAt w w.heap.size la len g) (hlc : len ≤ cap) (hcm : cap ≤ 9223372036854775807) (hA : AreasAt w) :
    Calls Tryd.prog 6 #[.slice la len cap] w fun e w' => e = .returned (.bool true) ∧ Below w.heap.size w w' := by
  have HN : Hid (Calls Tryd.prog 23 #[.int .i64 8] w fun e w' => ∃ b O, e = .returned (.tuple #[.pointer (some ⟨b, 0, none⟩), .nilIface]) ∧ RamB w' w.heap.size b 8 (fun _ => 0) 0 O ∧ Below w.heap.size w w') := hide (new_b 8 (by decide) (by decide) w)
  obtain ⟨B, hB⟩ : ∃ B, w.heap.size = B := ⟨_, rfl⟩
  have hG : 1 < B := hB ▸ hA.lt
  rw [hB] at HN hl ⊢
  have hA0 := hA
  have HL := hide hl
  clear hA hl
  have HSu : Hid (∀ W, AreasAt W → Calls Tryd.prog 16 #[] W fun e w' => e = .returned (.bool true) ∧ Below W.heap.size W w') := hide (fun W hA => sure_any W hA)
  obtain ⟨K, hK⟩ : ∃ K, KO g = K := ⟨_, rfl⟩
  have HK1 : Hid (∀ i, 1 ≤ K i) := hide (fun i => hK ▸ KO_1 g i)
  have HK2 : Hid (∀ i, K i ≤ 1000) := hide (fun i => hK ▸ KO_2 g i)
  have HKr : Hid (∀ i, ∃ k0 : Nat, 1 + k0 = K i ∧ wrap64 ((IntKind.u64.wrap (g i)).tmod 1000) = (k0 : Int)) := hide (fun i => ⟨_, (by rw [← hK]; rfl), ticks_eq (g i) 1000 (by decide) (by decide)⟩)
  clear hK
  obtain ⟨n, hn⟩ : ∃ n, (if len ≤ 6 then len else 6) = n := ⟨_, rfl⟩
  have hn6 : n ≤ 6 := by rw [← hn]; split <;> omega
  have hnl : n ≤ len := by rw [← hn]; split <;> omega
  have hmin : min (len : Int) 6 = (n : Int) := by rw [← hn]; split <;> omega
  clear hn
  have HS : Hid (∀ W O1 (f : Nat → Nat) (c b : Nat) (z v : Int) (a m : Nat), RamB W B b 8 f c O1 → z = (a : Int) → v = (m : Int) → a % 4 = 0 → a + 4 ≤ 32768 → m < 4294967296 → c ≤ 100000 → Calls Tryd.prog 24 #[.pointer (some ⟨b, 0, none⟩), .int .u32 z, .int .i64 4, .int .u32 v] W fun e w' => e = .returned .nilIface ∧ ∃ O', RamB w' B b 8 (wroteF f a (numB m 4)) (c + 1) O' ∧ Went B O1 O' W w') := hide (fun W O1 f c b z v a m hM hz hv h1 h2 h3 h4 => by
    rw [hz, hv]; exact store_b hM a 4 (by omega) (by decide) h1 (by omega) m h3 (by omega))
  have HS1 : Hid (∀ W O1 (f : Nat → Nat) (c b : Nat) (z v : Int) (a m : Nat), RamB W B b 8 f c O1 → z = (a : Int) → v = (m : Int) → a + 1 ≤ 32768 → m < 4294967296 → c ≤ 100000 → Calls Tryd.prog 24 #[.pointer (some ⟨b, 0, none⟩), .int .u32 z, .int .i64 1, .int .u32 v] W fun e w' => e = .returned .nilIface ∧ ∃ O', RamB w' B b 8 (wroteF f a (numB m 1)) (c + 1) O' ∧ Went B O1 O' W w') := hide (fun W O1 f c b z v a m hM hz hv h2 h3 h4 => by
    rw [hz, hv]; exact store_b hM a 1 (by omega) (by decide) (Nat.mod_one _) (by omega) m h3 (by omega))
  go_enter Tryd.func6, Tryd.ntmps6
  go_wp2_with (first | (go_at_call 23; refine HN.out.mono ?_; rintro e W ⟨b, O, rfl, hM, hb⟩))
  clear hmin
  go_loopw [6, 7, 8] (fun tv sv iv wr => ∃ (i : Nat) (f : Nat → Nat) (O : Nat → Prop), i ≤ n ∧ tv = .int .i64 (sumP K i : Nat) ∧ sv = .int .i64 (sumK K i : Nat) ∧ iv = .int .i64 (i : Nat) ∧ RamB wr B b 8 f (1004 * i) O ∧ (∀ j, j < i → OrdM f K n j) ∧ Below B w wr) (fun _ _ iv _ => n - (intOf iv).toNat)
  case atStart => exact ⟨0, _, O, Nat.zero_le _, rfl, rfl, rfl, hM, fun j hj => absurd hj (by omega), hb⟩
  case round =>
    clear hM hb
    obtain ⟨i, f, O, hi, rfl, rfl, rfl, hM, hO, hb⟩ := hrel
    have HO := hide hO
    clear hO
    have hPl := sumP_le HK2.out i
    have hSl := sumK_le HK2.out i
    have HP1 := hide (show sumP K (i + 1) = sumP K i + 1 + (K i + 63) / 64 from rfl)
    have HS2 := hide (show sumK K (i + 1) = sumK K i + K i from rfl)
    by_cases hlt : i < n
    · have lt1 : (i : Int) < (n : Int) := by omega
      obtain ⟨lb, lo, rfl, hlb, hc0⟩ := HL.out.lies i (by omega)
      have hcw : wr.cell? ⟨lb, lo + i, none⟩ = some (.int .i64 (g i)) := (hb.cell (p := ⟨lb, lo + i, none⟩) hlb).trans hc0
      have il : (i : Int) < (len : Int) := by omega
      obtain ⟨k0, hk0, htk⟩ := HKr.out i
      have hk1 := HK1.out i
      have hk2 := HK2.out i
      obtain ⟨k, hk⟩ : ∃ k, K i = k := ⟨_, rfl⟩
      have HKi := hide hk
      rw [hk] at hk0 hk1 hk2 HP1 HS2
      clear hk
      have ek : (1 : Int) + (k0 : Int) = (k : Int) := by omega
      obtain ⟨P0, hP0⟩ : ∃ x, sumP K i = x := ⟨_, rfl⟩
      obtain ⟨S0, hS0⟩ : ∃ x, sumK K i = x := ⟨_, rfl⟩
      rw [hP0] at hPl HP1
      rw [hS0] at hSl HS2
      simp only [hP0, hS0]
      clear hP0 hS0
      obtain ⟨d, hd⟩ : ∃ x, (k + 63) / 64 = x := ⟨_, rfl⟩
      rw [hd] at HP1
      have hdi : ((k : Int) + 63) / 64 = (d : Int) := by omega
      have hdt : ((k : Int) + 63).tdiv 64 = (d : Int) := by rw [Int.tdiv_eq_ediv_of_nonneg (by omega)]; exact hdi
      have hd16 : d ≤ 16 := by omega
      clear hd hk0 hc0
      by_cases hlast : i + 1 = n
      · have tl : ((i : Int) == (n : Int) - 1) = true := by simp; omega
        have hnx : nxO n i = 0 := by unfold nxO; rw [if_pos (by omega)]
        have HNx := hide hnx
        clear hnx
        go_wp2_with (first | (go_at_call 24; (with_reducible refine (HS.out _ _ _ _ _ _ _ (16 * i) (2147483648 + (4096 + 1024 * i)) hM ?_ ?_ ?_ ?_ ?_ ?_).mono ?_); (first | omega | (simp; omega)); (first | omega | (simp; omega)); omega; omega; omega; omega; rintro e W2 ⟨rfl, O2, hM2, hW2⟩; replace hb := hb.trans hW2.below; replace hM := hM2; clear hM2 hW2) | (go_at_call 24; (with_reducible refine (HS.out _ _ _ _ _ _ _ (16 * i + 4) (2147483648 + (16384 + 1024 * i)) hM ?_ ?_ ?_ ?_ ?_ ?_).mono ?_); (first | omega | (simp; omega)); (first | omega | (simp; omega)); omega; omega; omega; omega; rintro e W2 ⟨rfl, O2, hM2, hW2⟩; replace hb := hb.trans hW2.below; replace hM := hM2; clear hM2 hW2) | (go_at_call 24; (with_reducible refine (HS.out _ _ _ _ _ _ _ (16 * i + 8) (k) hM ?_ ?_ ?_ ?_ ?_ ?_).mono ?_); (first | omega | (simp; omega)); (first | omega | (simp; omega)); omega; omega; omega; omega; rintro e W2 ⟨rfl, O2, hM2, hW2⟩; replace hb := hb.trans hW2.below; replace hM := hM2; clear hM2 hW2) | (go_at_call 24; (with_reducible refine (HS.out _ _ _ _ _ _ _ (16 * i + 12) (0) hM ?_ ?_ ?_ ?_ ?_ ?_).mono ?_); (first | omega | (simp; omega)); (first | omega | (simp; omega)); omega; omega; omega; omega; rintro e W2 ⟨rfl, O2, hM2, hW2⟩; replace hb := hb.trans hW2.below; replace hM := hM2; clear hM2 hW2))
        have HO4 : Hid (∀ j, j < i + 1 → OrdM _ K n j) := hide (fun j hj => by
          by_cases hji : j = i
          · subst hji
            have e4 : ∀ v, (numB v 4).length = 4 := fun v => numB_len v 4
            refine (⟨?_, ?_, ?_, ?_⟩ : OrdM (wroteF (wroteF (wroteF (wroteF f (16 * j) (numB (2147483648 + (4096 + 1024 * j)) 4)) (16 * j + 4) (numB (2147483648 + (16384 + 1024 * j)) 4)) (16 * j + 8) (numB k 4)) (16 * j + 12) (numB (0) 4)) K n j)
            · rw [numF_before (by omega), numF_before (by omega), numF_before (by omega), numF_here _ _ _ (by omega)]; rfl
            · rw [numF_before (by omega), numF_before (by omega), numF_here _ _ _ (by omega)]; rfl
            · rw [numF_before (by omega), numF_here _ _ _ (by omega)]; exact HKi.out.symm
            · rw [numF_here _ _ _ (by omega)]; exact HNx.out.symm
          · exact ((((HO.out j (by omega)).past (by omega)).past (by omega)).past (by omega)).past (by omega))
        generalize wroteF (wroteF (wroteF (wroteF f (16 * i) (numB (2147483648 + (4096 + 1024 * i)) 4)) (16 * i + 4) (numB (2147483648 + (16384 + 1024 * i)) 4)) (16 * i + 8) (numB k 4)) (16 * i + 12) (numB (0) 4) = f4 at hM HO4
        rw [show 1004 * i + 1 + 1 + 1 + 1 = 1004 * i + 4 + 0 by omega] at hM
        go_loopw [14] (fun jv ws => ∃ (j : Nat) (f : Nat → Nat) (O : Nat → Prop), j ≤ k ∧ jv = .int .i64 (j : Nat) ∧ RamB ws B b 8 f (1004 * i + 4 + j) O ∧ (∀ q, q < i + 1 → OrdM f K n q) ∧ Below B w ws) (fun jv _ => k - (intOf jv).toNat)
        case atStart => exact ⟨0, f4, _, Nat.zero_le _, rfl, hM, HO4.out, hb⟩
        case round =>
          clear hM hb HO4
          obtain ⟨j, f, O, hj, rfl, hM, hO4, hb⟩ := hrel
          have HO5 := hide hO4
          clear hO4
          by_cases hjl : j < k
          · have jl : (j : Int) < (k : Int) := by omega
            go_wp2_with (first | (go_at_call 24; (with_reducible refine (HS1.out _ _ _ _ _ _ _ (4096 + 1024 * i + j) (i + j + 1) hM ?_ ?_ ?_ ?_ ?_).mono ?_); (first | omega | (simp; omega)); (first | omega | (simp; omega)); omega; omega; omega; rintro e W2 ⟨rfl, O2, hM2, hW2⟩; replace hb := hb.trans hW2.below; replace hM := hM2; clear hM2 hW2))
            go_roundw
            case rel => exact ⟨j + 1, _, _, hjl, by go_num, hM, fun q hq => (HO5.out q hq).past (by omega), hb⟩
            case measure => simp [intOf]; omega
          · obtain rfl : j = k := by omega
            go_wp2_with (first | fail)
            go_roundw
            case rel =>
              rw [show 1004 * i + 4 + j = 1004 * i + 4 + j from rfl] at hM
              refine ⟨i + 1, f, O, hlt, ?_, ?_, by go_num, hM.more (by omega), HO5.out, hb⟩
              · rw [HP1.out]; go_num
              · rw [HS2.out]; go_num
            case measure => simp [intOf]; omega
      · have tl : ((i : Int) == (n : Int) - 1) = false := by simp; omega
        have hnx : nxO n i = 2147483648 + 16 * i + 16 := by unfold nxO; rw [if_neg (by omega)]
        have HNx := hide hnx
        clear hnx
        go_wp2_with (first | (go_at_call 24; (with_reducible refine (HS.out _ _ _ _ _ _ _ (16 * i) (2147483648 + (4096 + 1024 * i)) hM ?_ ?_ ?_ ?_ ?_ ?_).mono ?_); (first | omega | (simp; omega)); (first | omega | (simp; omega)); omega; omega; omega; omega; rintro e W2 ⟨rfl, O2, hM2, hW2⟩; replace hb := hb.trans hW2.below; replace hM := hM2; clear hM2 hW2) | (go_at_call 24; (with_reducible refine (HS.out _ _ _ _ _ _ _ (16 * i + 4) (2147483648 + (16384 + 1024 * i)) hM ?_ ?_ ?_ ?_ ?_ ?_).mono ?_); (first | omega | (simp; omega)); (first | omega | (simp; omega)); omega; omega; omega; omega; rintro e W2 ⟨rfl, O2, hM2, hW2⟩; replace hb := hb.trans hW2.below; replace hM := hM2; clear hM2 hW2) | (go_at_call 24; (with_reducible refine (HS.out _ _ _ _ _ _ _ (16 * i + 8) (k) hM ?_ ?_ ?_ ?_ ?_ ?_).mono ?_); (first | omega | (simp; omega)); (first | omega | (simp; omega)); omega; omega; omega; omega; rintro e W2 ⟨rfl, O2, hM2, hW2⟩; replace hb := hb.trans hW2.below; replace hM := hM2; clear hM2 hW2) | (go_at_call 24; (with_reducible refine (HS.out _ _ _ _ _ _ _ (16 * i + 12) (2147483648 + 16 * i + 16) hM ?_ ?_ ?_ ?_ ?_ ?_).mono ?_); (first | omega | (simp; omega)); (first | omega | (simp; omega)); omega; omega; omega; omega; rintro e W2 ⟨rfl, O2, hM2, hW2⟩; replace hb := hb.trans hW2.below; replace hM := hM2; clear hM2 hW2))
        have HO4 : Hid (∀ j, j < i + 1 → OrdM _ K n j) := hide (fun j hj => by
          by_cases hji : j = i
          · subst hji
            have e4 : ∀ v, (numB v 4).length = 4 := fun v => numB_len v 4
            refine (⟨?_, ?_, ?_, ?_⟩ : OrdM (wroteF (wroteF (wroteF (wroteF f (16 * j) (numB (2147483648 + (4096 + 1024 * j)) 4)) (16 * j + 4) (numB (2147483648 + (16384 + 1024 * j)) 4)) (16 * j + 8) (numB k 4)) (16 * j + 12) (numB (2147483648 + 16 * j + 16) 4)) K n j)
            · rw [numF_before (by omega), numF_before (by omega), numF_before (by omega), numF_here _ _ _ (by omega)]; rfl
            · rw [numF_before (by omega), numF_before (by omega), numF_here _ _ _ (by omega)]; rfl
            · rw [numF_before (by omega), numF_here _ _ _ (by omega)]; exact HKi.out.symm
            · rw [numF_here _ _ _ (by omega)]; exact HNx.out.symm
          · exact ((((HO.out j (by omega)).past (by omega)).past (by omega)).past (by omega)).past (by omega))
        generalize wroteF (wroteF (wroteF (wroteF f (16 * i) (numB (2147483648 + (4096 + 1024 * i)) 4)) (16 * i + 4) (numB (2147483648 + (16384 + 1024 * i)) 4)) (16 * i + 8) (numB k 4)) (16 * i + 12) (numB (2147483648 + 16 * i + 16) 4) = f4 at hM HO4
        rw [show 1004 * i + 1 + 1 + 1 + 1 = 1004 * i + 4 + 0 by omega] at hM
        go_loopw [14] (fun jv ws => ∃ (j : Nat) (f : Nat → Nat) (O : Nat → Prop), j ≤ k ∧ jv = .int .i64 (j : Nat) ∧ RamB ws B b 8 f (1004 * i + 4 + j) O ∧ (∀ q, q < i + 1 → OrdM f K n q) ∧ Below B w ws) (fun jv _ => k - (intOf jv).toNat)
        case atStart => exact ⟨0, f4, _, Nat.zero_le _, rfl, hM, HO4.out, hb⟩
        case round =>
          clear hM hb HO4
          obtain ⟨j, f, O, hj, rfl, hM, hO4, hb⟩ := hrel
          have HO5 := hide hO4
          clear hO4
          by_cases hjl : j < k
          · have jl : (j : Int) < (k : Int) := by omega
            go_wp2_with (first | (go_at_call 24; (with_reducible refine (HS1.out _ _ _ _ _ _ _ (4096 + 1024 * i + j) (i + j + 1) hM ?_ ?_ ?_ ?_ ?_).mono ?_); (first | omega | (simp; omega)); (first | omega | (simp; omega)); omega; omega; omega; rintro e W2 ⟨rfl, O2, hM2, hW2⟩; replace hb := hb.trans hW2.below; replace hM := hM2; clear hM2 hW2))
            go_roundw
            case rel => exact ⟨j + 1, _, _, hjl, by go_num, hM, fun q hq => (HO5.out q hq).past (by omega), hb⟩
            case measure => simp [intOf]; omega
          · obtain rfl : j = k := by omega
            go_wp2_with (first | fail)
            go_roundw
            case rel =>
              rw [show 1004 * i + 4 + j = 1004 * i + 4 + j from rfl] at hM
              refine ⟨i + 1, f, O, hlt, ?_, ?_, by go_num, hM.more (by omega), HO5.out, hb⟩
              · rw [HP1.out]; go_num
              · rw [HS2.out]; go_num
            case measure => simp [intOf]; omega
    · obtain rfl : i = n := by omega
      have hO := HO.out
      clear HO HP1 HS2
      have e1 : decide ((i : Int) < (i : Int)) = false := by simp
      obtain ⟨T, hT⟩ : ∃ x, sumP K i = x := ⟨_, rfl⟩
      obtain ⟨S, hS⟩ : ∃ x, sumK K i = x := ⟨_, rfl⟩
      rw [hT] at hPl
      rw [hS] at hSl
      simp only [hT, hS]
      have HT0 := hide hT
      have HS0 := hide hS
      clear hT hS
      by_cases hz0 : i = 0
      · have to1 : ((i : Int) == 0) = true := (castq i 0).trans (by simp [hz0])
        have hA := hA0.low hb hG
        go_wp2_with (first | (go_at_call 16; (with_reducible refine (HSu.out _ hA).mono ?_); rintro e W9 ⟨rfl, hbs⟩; replace hb := hb.trans (hbs.mono (by have := hb.size; omega))))
        go_ret
        exact ⟨rfl, hb⟩
      · have to1 : ((i : Int) == 0) = false := (castq i 0).trans (by simp [hz0])
        have to2 : ¬ i = 0 := hz0
        have HDW : Hid (∀ W, AreasAt W → Calls Tryd.prog 11 #[.agg sE0.cells, .int .u32 0, .int .u32 1] W fun e w' => e = .returned (.tuple #[.agg (mvS K i 0 0).cells, .nilIface]) ∧ Below W.heap.size W w') := hide (fun W hA => by
          have h := ewrite_any sE0 0 1 (by decide) W hA
          rw [s_write, s_acc, show sE1 = mvS K i 0 0 from rfl] at h
          exact h)
        have HO1 := hide hO
        clear hO
        go_wp2_with (first | (go_at_call 11; have hAq := hA0.low hb hG; (refine (HDW.out _ hAq).mono ?_); rintro e W ⟨rfl, hbc⟩; clear hAq; have hBM := hM.base; replace hb := hb.trans (hbc.mono hBM); replace hM := hM.bl hbc; obtain ⟨NX, hNX0⟩ : ∃ n, W.heap.size = n := ⟨_, rfl⟩; have hNX := hide hNX0; have hNB : B ≤ NX := hNX0 ▸ hM.base; have hnx : ¬ O NX := (fun e => absurd (hM.lt _ e) (by omega)); clear hNX0 hbc) | ((with_reducible refine al_ep NX ?_ ?_); exact hNX.out; intro W hx hb' hz2; replace hb := hb.trans (hb'.mono hNB); replace hM := hM.bl (hNX.out ▸ hb'); clear hb' hz2) | ((with_reducible refine st_ep NX _ (mvS K i 0 0) hx ?_ ?_ ?_); exact rfl; exact rfl; intro W hnew hoo; replace hM := hM.only hoo hnx; replace hb := hoo.bel _ _ hNB hb; replace hx := hnew; clear hnew hoo))
        clear hNX HDW
        go_loopw [17] (fun iv wr => ∃ (t : Nat) (x : E) (f : Nat → Nat) (O : Nat → Prop), t ≤ T ∧ iv = .int .i64 (t : Nat) ∧ RamB wr B b 8 f (7000 + t) O ∧ RowAt wr NX x.cells 29 ∧ ¬ O NX ∧ Below B w wr ∧ MvAt K i t x f) (fun iv _ => T - (intOf iv).toNat)
        case atStart => exact ⟨0, _, _, O, Nat.zero_le _, rfl, hM.more (by omega), hx, hnx, hb, .inl ⟨0, 0, by omega, by (unfold perO; omega), rfl, rfl, HO1.out, ⟨fun j hj => absurd hj (by omega), fun j hj => absurd hj (by omega)⟩⟩⟩
        case round =>
          clear hM hx hnx hb HO1
          obtain ⟨t, x, f, O, ht, rfl, hM, hx, hnx, hb, hmv⟩ := hrel
          have HMV := hide hmv
          clear hmv
          have hA := hA0.low hb hG
          by_cases htl : t < T
          · have tl1 : (t : Int) < (T : Int) := by omega
            have hts : t < sumP K i := by rw [HT0.out]; exact htl
            have okx := HMV.out.ok hts hn6 HK2.out
            have hcd := mvS_cd1 HMV.out hts
            have tc : ((x.cd : Int) == 1) = true := (castq x.cd 1).trans (by simp [hcd])
            have HNXT := hide (HMV.out.next hts hn6 HK1.out HK2.out)
            have HT : Hid (∀ W O1, RamB W B b 8 f (7000 + t) O1 → AreasAt W → Calls Tryd.prog 18 #[.agg x.cells, .pointer (some ⟨b, 0, none⟩)] W fun e w' => e = .returned (.agg (tickE x f 8).cells) ∧ ∃ O', RamB w' B b 8 (tickF x f 8) (7000 + t + 1) O' ∧ Went B O1 O' W w') := hide (fun W O1 hM hA => etick_any x okx hM hA hG (by omega))
            obtain ⟨z, hz⟩ : ∃ z, tickE x f 8 = z := ⟨_, rfl⟩
            obtain ⟨f2, hf2⟩ : ∃ z, tickF x f 8 = z := ⟨_, rfl⟩
            rw [hz, hf2] at HT HNXT
            clear hz hf2 hcd hts
            have fx := hx.cell
            go_wp2_with (first | ((with_reducible refine ld_ep NX _ hx ?_ ?_ ?_); exact rfl; exact rfl) | (go_at_call 18; (with_reducible refine (HT.out _ _ hM hA).mono ?_); rintro e W2 ⟨rfl, O3, hM3, hW3⟩; have n1 := hW3.no hx.lt hnx; replace hx := hW3.row hx hnx; replace fx := hx.cell; replace hb := hb.trans hW3.below; clear hM hnx hW3; have hM := hM3; have hnx := n1; clear hM3 n1) | ((with_reducible refine st_ep NX _ z hx ?_ ?_ ?_); exact rfl; exact rfl; intro W hnew hoo; replace hM := hM.only hoo hnx; replace hb := hoo.bel _ _ (by omega) hb; replace hx := hnew; replace fx := hx.cell; clear hnew hoo))
            go_roundw
            case rel => exact ⟨t + 1, z, f2, _, by omega, by go_num, by (rw [← Nat.add_assoc]; exact hM), hx, hnx, hb, HNXT.out⟩
            case measure => simp [intOf]; omega
          · have tl1 : decide ((t : Int) < (T : Int)) = false := by simp; omega
            have tl2 : decide (t < T) = false := by simp; omega
            obtain ⟨hxe, hcp⟩ := HMV.out.fin (show t = sumP K i by rw [HT0.out]; omega)
            have x2 : x.cd = 2 := by rw [hxe]; rfl
            have xm : x.mv = S := by rw [hxe, ← HS0.out]; rfl
            have tc2 : ((x.cd : Int) == 2) = true := (castq x.cd 2).trans (by simp [x2])
            have tm : ((x.mv : Int) == (S : Int)) = true := by rw [xm]; simp
            have HCP := hide hcp
            clear hxe hcp HMV htl
            have fx := hx.cell
            go_wp2_with (first | fail)
            go_loopw [18] (fun iv wr => ∃ (q : Nat) (O : Nat → Prop), q ≤ i ∧ iv = .int .i64 (q : Nat) ∧ RamB wr B b 8 f (7000 + t) O ∧ Below B w wr) (fun iv _ => i - (intOf iv).toNat)
            case atStart => exact ⟨0, O, Nat.zero_le _, rfl, hM, hb⟩
            case round =>
              clear hM hb hx fx hA hnx
              obtain ⟨q, O, hq, rfl, hM, hb⟩ := hrel
              have hA := hA0.low hb hG
              by_cases hql : q < i
              · have lq : (q : Int) < (i : Int) := by omega
                obtain ⟨lb, lo, rfl, hlb, hc0⟩ := HL.out.lies q (by omega)
                have hcw : wr.cell? ⟨lb, lo + q, none⟩ = some (.int .i64 (g q)) := (hb.cell (p := ⟨lb, lo + q, none⟩) hlb).trans hc0
                have il : (q : Int) < (len : Int) := by omega
                obtain ⟨k0, hk0, htk⟩ := HKr.out q
                have hk1 := HK1.out q
                have hk2 := HK2.out q
                have hcq := HCP.out q hql
                obtain ⟨k, hk⟩ : ∃ k, K q = k := ⟨_, rfl⟩
                rw [hk] at hk0 hk1 hk2 hcq
                clear hk
                have ek : (1 : Int) + (k0 : Int) = (k : Int) := by omega
                have hsm := hM.small
                have htx : textO (fun j => f (16384 + 1024 * q + j)) k = textO (fun j => f (4096 + 1024 * q + j)) k := textO_congr hcq
                obtain ⟨tx, htx2⟩ : ∃ x, textO (fun j => f (4096 + 1024 * q + j)) k = x := ⟨_, rfl⟩
                rw [htx2] at htx
                have HTX := hide htx
                have HTX2 := hide htx2
                clear htx htx2 hcq hc0 hk0
                have HRd : Hid (∀ W O1 (z : Int) (a : Nat), RamB W B b 8 f (7000 + t) O1 → z = (a : Int) → a + k ≤ 32768 → Calls Tryd.prog 20 #[.pointer (some ⟨b, 0, none⟩), .int .u32 z, .int .i64 (k : Nat)] W fun e w' => e = .returned (.tuple #[.slice (some ⟨W.heap.size, 0, none⟩) k k, .nilIface]) ∧ HoldsAt w' W.heap.size k 5 (fun j => .int .u8 (f (a + j) : Nat)) ∧ ∃ O', RamB w' B b 8 f (7000 + t) O' ∧ Went B O1 O' W w' ∧ ¬ O' W.heap.size) := hide (fun W O1 z a hM hz ha => by
                  rw [hz]; exact read_b hM a (by omega) k (by omega) (by omega))
                go_wp2_with (first | (go_at_call 20; (with_reducible refine (HRd.out _ _ _ (4096 + 1024 * q) hM ?_ ?_).mono ?_); (first | omega | (simp; omega)); omega; rintro e W5 ⟨rfl, hH5, O5, hM2, hW2, hno5⟩; replace hb := hb.trans hW2.below; replace hA := hA.went hG hW2; replace hM := hM2; clear hM2 hW2) | (go_at_call 20; (with_reducible refine (HRd.out _ _ _ (16384 + 1024 * q) hM ?_ ?_).mono ?_); (first | omega | (simp; omega)); omega; rintro e W6 ⟨rfl, hH6, O6, hM2, hW2, hno6⟩; replace hH5 := hW2.holds hH5 hno5; have cv1 := conv_O (c := k) (fun j => hsm (4096 + 1024 * q + j)) hH5; have cv2 := conv_O (c := k) (fun j => hsm (16384 + 1024 * q + j)) hH6; rw [HTX2.out] at cv1; rw [HTX.out] at cv2; clear hH5 hH6; replace hb := hb.trans hW2.below; replace hA := hA.went hG hW2; replace hM := hM2; clear hM2 hW2))
                go_roundw
                case rel => exact ⟨q + 1, _, by omega, by go_num, hM, hb⟩
                case measure => simp [intOf]; omega
              · have lq : decide ((q : Int) < (i : Int)) = false := by simp; omega
                have lqn : decide (q < i) = false := by simp; omega
                go_wp2_with (first | (go_at_call 16; (with_reducible refine (HSu.out _ hA).mono ?_); rintro e W9 ⟨rfl, hbs⟩; replace hb := hb.trans (hbs.mono (by have := hb.size; omega))))
                go_ret
                exact ⟨rfl, hb⟩
end Go.Proofs.YtalcgipcephnnaaDoor
