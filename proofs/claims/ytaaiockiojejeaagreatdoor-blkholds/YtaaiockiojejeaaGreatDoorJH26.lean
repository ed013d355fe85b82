/-
  What must come whatever the input is, plain.
-/
import Derived.Test.YtaaiockiojejeaaGreatDoorJH11
import Derived.Test.YtaaiockiojejeaaGreatDoorJH14
import Derived.Deep.RegionHeld3
import Derived.Test.YtaaiockiojejeaaGreatDoorJH25
namespace Go.Proofs.YtaaiockiojejeaaGreatDoor
open Go.RowKit
set_option linter.unusedVariables false
set_option linter.unusedSimpArgs false

/-- What lies in memory behind k words. -/
def laidW (g : Nat → Nat → Nat) : Nat → (Nat → Nat)
  | 0 => fun _ => 0
  | k + 1 => wroteF (laidW g k) (atOf (g k 0)) (numB (g k 1) 4)
theorem results_tmp_cellB {P : Program} {fn : Func} {p u : Tmp} {ty : TypeId} (h : fn.results = #[.tmp u, .cell p ty]) (tmps : Array Value) (w : World) (g : Nat) (t : TypeId) (cs : Array Value) (d : TypeDesc)
    (hp : tmps.getD p undef = .pointer (some ⟨g, 0, none⟩)) (hg : RowAt w g cs t) (hu : P.underlying ty = some d) (hd : d.isRow = true) (hi : (P.info? ty).map (·.size) = some cs.size) :
    (results fn tmps).run P w = .ok (.tuple #[tmps.getD u undef, .agg cs]) w := by
  have e : tmps[p]?.getD undef = .pointer (some ⟨g, 0, none⟩) := by simpa using hp
  have l := run_loadVar_row w g t ty cs (0, 0) d hg hu (by cases d <;> first | rfl | cases hd) hi
  simp [results, h, e, asAddr, l]
set_option maxHeartbeats 2000000 in
theorem rboth_any (la : Option Addr) (len cap : Nat) (g : Nat → Nat → Nat) (w : World) (hl : PairsAt w w.heap.size la len g) (hlc : len ≤ cap) (hcm : cap ≤ 9223372036854775807) :
    Calls Tryz.prog 8 #[.slice la len cap] w fun e w' => ∃ b f O r, f = laidW g (min len 80) ∧ e = .returned (.tuple #[.pointer (some ⟨b, 0, none⟩), .agg (r.v 8192 2)]) ∧ RamB w' (w.heap.size + 1) b 2 f 80 O ∧ RefB w' (w.heap.size + 1) 8192 2 f r O ∧ Below w.heap.size w w' := by
  obtain ⟨B, hB⟩ : ∃ B, w.heap.size = B := ⟨_, rfl⟩
  rw [hB] at hl ⊢
  have HL := hide hl
  have HN : Hid (∀ W, Calls Tryz.prog 25 #[.int .i64 2] W fun e w' => ∃ b O, e = .returned (.tuple #[.pointer (some ⟨b, 0, none⟩), .nilIface]) ∧ RamB w' W.heap.size b 2 (fun _ => 0) 0 O ∧ Below W.heap.size W w') := hide (fun W => new_b 2 (by decide) (by decide) W)
  have HRN : Hid (∀ W, Calls Tryz.prog 26 #[.int .i64 2] W fun e w' => (∃ r : RP, e = .returned (.tuple #[.agg (r.v 8192 2), .int .i64 0]) ∧ RefAt w' 8192 2 (fun _ => 0) r ∧ ∀ x, r.owns x → W.heap.size ≤ x) ∧ Below W.heap.size W w') := hide (fun W => rnew_ok 8192 2 (by decide) (by decide) rfl W)
  clear hl
  go_enter Tryz.func8, Tryz.ntmps8
  go_wp2_with (first | ((with_reducible refine al_Rz B ?_ ?_); exact hB; intro W hq hb hz) | (go_at_call 25; (with_reducible refine (HN.out _).mono ?_); rintro e W1 ⟨b, O, rfl, hM, hbc⟩; rw [hz.out] at hM; replace hq := hq.bl hbc; replace hb := hb.trans (hbc.mono (by have := hz.out; omega)); clear hbc) | (go_at_call 26; (with_reducible refine (HRN.out _).mono ?_); rintro e W2 ⟨⟨r, rfl, hR0, hR1⟩, hbc⟩; have hlo : B + 1 ≤ W1.heap.size := hM.base; have hR : RefB W2 (B + 1) 8192 2 (fun _ => 0) r O := ⟨hR0, fun x hx => Nat.le_trans hlo (hR1 x hx), fun x hx e => absurd (hM.lt x e) (by have := hR1 x hx; omega)⟩; replace hM := hM.bl hbc; replace hq := hq.bl hbc; replace hb := hb.trans (hbc.mono (by omega)); obtain ⟨NX, hNX0⟩ : ∃ n, W2.heap.size = n := ⟨_, rfl⟩; have hNX := hide hNX0; have hNB : B + 1 ≤ NX := hNX0 ▸ hM.base; have hnx : ¬ O NX := (fun e => absurd (hM.lt _ e) (by omega)); have hrx : ¬ r.owns NX := (fun e => absurd (hR.ref.lt e) (by omega)); clear hNX0 hbc hR0 hR1) | ((with_reducible refine al_Rz NX ?_ ?_); exact hNX.out; intro W hx hb' hz2; have hbc : Below W2.heap.size W2 W := (by rw [hNX.out]; exact hb'); replace hb := hb.trans (hb'.mono (by omega)); replace hM := hM.bl hbc; replace hR := hR.bl hbc; replace hq := hq.bl hbc; clear hb' hbc) | ((with_reducible refine st_R NX _ r 8192 2 hx ?_ ?_ ?_ ?_); exact rfl; exact rfl; exact rfl; intro W hnew hoo; replace hM := hM.only hoo hnx; replace hR := hR.only hoo hrx; replace hq := hq.only hoo (by omega); replace hb := hoo.bel _ _ (by omega) hb; replace hx := hnew; have hsz : NX < W.heap.size := hx.lt; clear hnew hoo))
  clear hz HN HRN hNX
  go_loopw [8] (fun iv wr => ∃ (k : Nat) (f : Nat → Nat) (O : Nat → Prop) (r : RP), k ≤ 80 ∧ k ≤ len ∧ iv = .int .i64 (k : Nat) ∧ f = laidW g k ∧ RamB wr (B + 1) b 2 f k O ∧ RefB wr (B + 1) 8192 2 f r O ∧ RowAt wr NX (r.v 8192 2) 40 ∧ RowAt wr B zR 40 ∧ ¬ O NX ∧ ¬ r.owns NX ∧ Below B w wr) (fun iv _ => 80 - (intOf iv).toNat)
  case atStart => exact ⟨0, _, O, r, Nat.zero_le _, Nat.zero_le _, rfl, rfl, hM, hR, hx, hq, hnx, hrx, hb⟩
  case round =>
    clear hM hR hx hq hnx hrx hb
    obtain ⟨k, f, O, r, hk, hkl, rfl, hfe, hM, hR, hx, hq, hnx, hrx, hb⟩ := hrel
    have HFE := hide hfe
    clear hfe
    by_cases hlt : k < len ∧ k < 80
    · obtain ⟨hlt1, hlt2⟩ := hlt
      obtain ⟨lb, lo, rfl, hlb, hc0, hc1⟩ := HL.out.lies k hlt1
      obtain ⟨hs0, hs1⟩ := HL.out.small k hlt1
      have ha := atOf_in (g k 0)
      obtain ⟨av, hav⟩ : ∃ a, atOf (g k 0) = a := ⟨_, rfl⟩
      obtain ⟨vv, hvv⟩ : ∃ a, g k 1 = a := ⟨_, rfl⟩
      obtain ⟨xv, hxv⟩ : ∃ a, g k 0 = a := ⟨_, rfl⟩
      rw [hav] at ha
      rw [hvv] at hc1 hs1
      rw [hxv] at hc0 hs0 hav
      have HLW : Hid (wroteF f av (numB vv 4) = laidW g (k + 1)) := hide (by show _ = wroteF (laidW g k) (atOf (g k 0)) (numB (g k 1) 4); rw [← HFE.out, hxv, hav, hvv])
      have eav : (xv : Int) % 8192 / 4 * 4 = (av : Int) := by rw [← hav]; unfold atOf; omega
      have HS : Hid (∀ W O1, RamB W (B + 1) b 2 f k O1 → Calls Tryz.prog 22 #[.pointer (some ⟨b, 0, none⟩), .int .u32 (av : Nat), .int .i64 4, .int .u32 (vv : Nat)] W fun e w' => e = .returned .nilIface ∧ ∃ O', RamB w' (B + 1) b 2 (wroteF f av (numB vv 4)) (k + 1) O' ∧ Went (B + 1) O1 O' W w') := hide (fun W O1 hM => store_b hM av 4 (by omega) (by decide) ha.1 (by omega) vv hs1 (by omega))
      have HRS : Hid (∀ W, RefAt W 8192 2 f r → Calls Tryz.prog 27 #[.agg (r.v 8192 2), .int .u32 (av : Nat), .int .i64 4, .int .u32 (vv : Nat)] W fun e w' => (∃ r' : RP, e = .returned (.tuple #[.agg (r'.v 8192 2), .int .i64 0]) ∧ RefAt w' 8192 2 (wroteF f av (numB vv 4)) r' ∧ ∀ x, r'.owns x → W.heap.size ≤ x) ∧ Below W.heap.size W w') := hide (fun W hR => rstore_ok hR av 4 (by omega) (by decide) ha.1 (by omega) vv hs1)
      have lt1 : (k : Int) < (len : Int) := by omega
      have lt2 : (k : Int) < 80 := by omega
      have hcw0 : wr.cell? ⟨lb, lo + k * 2, none⟩ = some (.int .u32 (xv : Nat)) := (hb.cell (p := ⟨lb, lo + k * 2, none⟩) hlb).trans hc0
      have hcw1 : wr.cell? ⟨lb, lo + k * 2 + 1, none⟩ = some (.int .u32 (vv : Nat)) := (hb.cell (p := ⟨lb, lo + k * 2 + 1, none⟩) hlb).trans hc1
      have e5 : Hid ((xv : Int).tmod 8192 = (xv : Int) % 8192) := hide (Int.tmod_eq_emod_of_nonneg (by omega))
      have e6 : Hid (IntKind.u32.wrap (((xv : Int) % 8192).tdiv 4) = (xv : Int) % 8192 / 4) := hide (by rw [IntKind.wrap_u32, Int.tdiv_eq_ediv_of_nonneg (by omega)]; omega)
      have e7 : Hid (IntKind.u32.wrap (av : Int) = (av : Int)) := hide (by rw [IntKind.wrap_u32]; omega)
      clear hav ha
      go_wp2_with (fail)
      refine wp_region_held_drew (S := (fun V => Below B w V)) (by kernel_rfl) ?_ (fun hHeld => ?_)
      · exact hb.drew
      replace hM := hM.dr
      replace hR := hR.dr
      replace hx := hx.dr
      replace hq := hq.dr
      generalize World.drew _ = V at hHeld hM hR hx hq ⊢
      clear hb
      refine tkO 0 (.pointer (some ⟨b, 0, none⟩)) (by simp only [gT, gZ]; rfl) (puO (by (intro w hSw; (try dsimp only at hSw); go_simp))) ?_
      simp only [Act.put, pA, pZ, pS]
      refine tkO 1 (.slice (some ⟨lb, lo, none⟩) len cap) (by simp only [gT, gZ, gS]; rfl) (puO (by (intro w hSw; (try dsimp only at hSw); go_simp))) ?_
      simp only [Act.put, pA, pZ, pS]
      refine tkO 2 (.int .i64 (k : Nat)) (by simp only [gT, gZ, gS]; rfl) (puO (by (intro w hSw; (try dsimp only at hSw); go_simp))) ?_
      simp only [Act.put, pA, pZ, pS]
      refine tkO 3 (.pointer (some ⟨lb, lo + k * 2, none⟩)) (by simp only [gT, gZ, gS]; rfl) (puO (by (intro w hSw; (try dsimp only at hSw); go_simp))) ?_
      simp only [Act.put, pA, pZ, pS]
      refine tkO 4 (.pointer (some ⟨lb, lo + k * 2, none⟩)) (by simp only [gT, gZ, gS]; rfl) (puO (by (intro w hSw; (try dsimp only at hSw); go_simp))) ?_
      simp only [Act.put, pA, pZ, pS]
      refine tkO 5 (.int .u32 (xv : Nat)) (by simp only [gT, gZ, gS]; rfl) (y_cell lb (lo + k * 2) _ (fun V hV => (hV.cell (p := ⟨lb, lo + k * 2, none⟩) hlb).trans hc0) _ Tryz.underlying22 rfl rfl) ?_
      simp only [Act.put, pA, pZ, pS]
      refine tkO 6 (.int .u32 ((xv : Int) % 8192)) (by simp only [gT, gZ, gS]; rfl) (puO (by (intro w hSw; (try dsimp only at hSw); go_simp ; exact e5.out))) ?_
      simp only [Act.put, pA, pZ, pS]
      refine tkO 7 (.int .u32 ((xv : Int) % 8192 / 4)) (by simp only [gT, gZ, gS]; rfl) (puO (by (intro w hSw; (try dsimp only at hSw); go_simp ; exact e6.out))) ?_
      simp only [Act.put, pA, pZ, pS]
      refine tkO 8 (.int .u32 (av : Nat)) (by simp only [gT, gZ, gS]; rfl) (puO (by (intro w hSw; (try dsimp only at hSw); go_simp ; exact e7.out))) ?_
      simp only [Act.put, pA, pZ, pS]
      refine tkO 9 (.slice (some ⟨lb, lo, none⟩) len cap) (by simp only [gT, gZ, gS]; rfl) (puO (by (intro w hSw; (try dsimp only at hSw); go_simp))) ?_
      simp only [Act.put, pA, pZ, pS]
      refine tkO 10 (.int .i64 (k : Nat)) (by simp only [gT, gZ, gS]; rfl) (puO (by (intro w hSw; (try dsimp only at hSw); go_simp))) ?_
      simp only [Act.put, pA, pZ, pS]
      refine tkO 11 (.pointer (some ⟨lb, lo + k * 2, none⟩)) (by simp only [gT, gZ, gS]; rfl) (puO (by (intro w hSw; (try dsimp only at hSw); go_simp))) ?_
      simp only [Act.put, pA, pZ, pS]
      refine tkO 12 (.pointer (some ⟨lb, lo + k * 2 + 1, none⟩)) (by simp only [gT, gZ, gS]; rfl) (puO (by (intro w hSw; (try dsimp only at hSw); go_simp))) ?_
      simp only [Act.put, pA, pZ, pS]
      refine tkO 13 (.int .u32 (vv : Nat)) (by simp only [gT, gZ, gS]; rfl) (y_cell lb (lo + k * 2 + 1) _ (fun V hV => (hV.cell (p := ⟨lb, lo + k * 2 + 1, none⟩) hlb).trans hc1) _ Tryz.underlying22 rfl rfl) ?_
      simp only [Act.put, pA, pZ, pS]
      refine skO 14 (by simp only [gT, gZ, gS]; rfl) (fun K hK => ?_)
      go_simp
      (with_reducible refine (HS.out _ _ hM).mono ?_)
      rintro e V ⟨rfl, O2, hM2, hW2⟩
      have hH2 := hide (hHeld.trans (hW2.below.mono (by omega)))
      have hnx2 := hW2.no hx.lt hnx
      replace hR := hR.went hW2
      replace hx := hW2.row hx hnx
      replace hq := hW2.row hq (fun e => absurd (hM.low _ e) (by omega))
      replace hM := hM2
      clear hnx
      have hnx := hnx2
      clear hHeld hW2 hM2 hnx2
      go_simp
      refine hK.out _ _ ?_ (fun hHeld => ?_)
      · exact hH2.out
      clear hK K
      clear hH2
      refine wpAnyH_done (by kernel_rfl) ?_ _
      have hb := hHeld
      clear hHeld
      go_wp2_with (fail)
      refine wp_region_held_drew (S := (fun V => Below B w V)) (by kernel_rfl) ?_ (fun hHeld => ?_)
      · exact hb.drew
      replace hM := hM.dr
      replace hR := hR.dr
      replace hx := hx.dr
      replace hq := hq.dr
      generalize World.drew _ = V at hHeld hM hR hx hq ⊢
      clear hb
      refine tkO 1 (.slice (some ⟨lb, lo, none⟩) len cap) (by simp only [gT, gZ, gS]; rfl) (puO (by (intro w hSw; (try dsimp only at hSw); go_simp))) ?_
      simp only [Act.put, pA, pZ, pS]
      refine tkO 2 (.int .i64 (k : Nat)) (by simp only [gT, gZ, gS]; rfl) (puO (by (intro w hSw; (try dsimp only at hSw); go_simp))) ?_
      simp only [Act.put, pA, pZ, pS]
      refine tkO 3 (.pointer (some ⟨lb, lo + k * 2, none⟩)) (by simp only [gT, gZ, gS]; rfl) (puO (by (intro w hSw; (try dsimp only at hSw); go_simp))) ?_
      simp only [Act.put, pA, pZ, pS]
      refine tkO 4 (.pointer (some ⟨lb, lo + k * 2, none⟩)) (by simp only [gT, gZ, gS]; rfl) (puO (by (intro w hSw; (try dsimp only at hSw); go_simp))) ?_
      simp only [Act.put, pA, pZ, pS]
      refine tkO 5 (.int .u32 (xv : Nat)) (by simp only [gT, gZ, gS]; rfl) (y_cell lb (lo + k * 2) _ (fun V hV => (hV.cell (p := ⟨lb, lo + k * 2, none⟩) hlb).trans hc0) _ Tryz.underlying22 rfl rfl) ?_
      simp only [Act.put, pA, pZ, pS]
      refine tkO 6 (.int .u32 ((xv : Int) % 8192)) (by simp only [gT, gZ, gS]; rfl) (puO (by (intro w hSw; (try dsimp only at hSw); go_simp ; exact e5.out))) ?_
      simp only [Act.put, pA, pZ, pS]
      refine tkO 7 (.int .u32 ((xv : Int) % 8192 / 4)) (by simp only [gT, gZ, gS]; rfl) (puO (by (intro w hSw; (try dsimp only at hSw); go_simp ; exact e6.out))) ?_
      simp only [Act.put, pA, pZ, pS]
      refine tkO 8 (.int .u32 (av : Nat)) (by simp only [gT, gZ, gS]; rfl) (puO (by (intro w hSw; (try dsimp only at hSw); go_simp ; exact e7.out))) ?_
      simp only [Act.put, pA, pZ, pS]
      refine tkO 9 (.slice (some ⟨lb, lo, none⟩) len cap) (by simp only [gT, gZ, gS]; rfl) (puO (by (intro w hSw; (try dsimp only at hSw); go_simp))) ?_
      simp only [Act.put, pA, pZ, pS]
      refine tkO 10 (.int .i64 (k : Nat)) (by simp only [gT, gZ, gS]; rfl) (puO (by (intro w hSw; (try dsimp only at hSw); go_simp))) ?_
      simp only [Act.put, pA, pZ, pS]
      refine tkO 11 (.pointer (some ⟨lb, lo + k * 2, none⟩)) (by simp only [gT, gZ, gS]; rfl) (puO (by (intro w hSw; (try dsimp only at hSw); go_simp))) ?_
      simp only [Act.put, pA, pZ, pS]
      refine tkO 12 (.pointer (some ⟨lb, lo + k * 2 + 1, none⟩)) (by simp only [gT, gZ, gS]; rfl) (puO (by (intro w hSw; (try dsimp only at hSw); go_simp))) ?_
      simp only [Act.put, pA, pZ, pS]
      refine tkO 13 (.int .u32 (vv : Nat)) (by simp only [gT, gZ, gS]; rfl) (y_cell lb (lo + k * 2 + 1) _ (fun V hV => (hV.cell (p := ⟨lb, lo + k * 2 + 1, none⟩) hlb).trans hc1) _ Tryz.underlying22 rfl rfl) ?_
      simp only [Act.put, pA, pZ, pS]
      refine skO 0 (by simp only [gT, gZ]; rfl) (fun K hK => ?_)
      rw [if_pos (by rfl)]
      (with_reducible refine s_ldR NX r 8192 2 hx ?_ ?_)
      · exact rfl
      have hH2 := hide hHeld
      clear hHeld
      refine hK.out _ _ ?_ (fun hHeld => ?_)
      · exact hH2.out
      clear hK K
      clear hH2
      refine skO 14 (by simp only [gT, gZ, gS]; rfl) (fun K hK => ?_)
      go_simp
      (with_reducible refine (HRS.out _ hR.ref).mono ?_)
      rintro e V2 ⟨⟨r2, rfl, hR2, hn2⟩, hbc⟩
      have hH2 := hide (hHeld.trans (hbc.mono (by have := hHeld.size; omega)))
      have hrx2 : ¬ r2.owns NX := fun e => absurd (hn2 _ e) (by have := hx.lt; omega)
      replace hR := hR.next hM hR2 (fun x e => .inr (hn2 x e))
      replace hM := hM.bl hbc
      replace hx := hx.bl hbc
      replace hq := hq.bl hbc
      clear hHeld hbc hR2 hn2
      go_simp
      refine hK.out _ _ ?_ (fun hHeld => ?_)
      · exact hH2.out
      clear hK K
      clear hH2
      refine tkO 15 (.tuple #[.agg (r2.v 8192 2), .int .i64 0]) (by simp only [gT, gZ, gS]; rfl) (puO (by (intro w hSw; (try dsimp only at hSw); go_simp))) ?_
      simp only [Act.put, pA, pZ, pS]
      refine tkO 16 (.agg (r2.v 8192 2)) (by simp only [gT, gZ, gS]; rfl) (puO (by (intro w hSw; (try dsimp only at hSw); go_simp))) ?_
      simp only [Act.put, pA, pZ, pS]
      refine tkO 17 (.int .i64 0) (by simp only [gT, gZ, gS]; rfl) (puO (by (intro w hSw; (try dsimp only at hSw); go_simp))) ?_
      simp only [Act.put, pA, pZ, pS]
      refine skO 18 (by simp only [gT, gZ, gS]; rfl) (fun K hK => ?_)
      rw [if_pos (by rfl)]
      (with_reducible refine s_stR NX _ r2 8192 2 hx ?_ ?_ ?_ ?_)
      · exact rfl
      · exact rfl
      · exact rfl
      intro V3 hnew hoo
      have hH2 := hide (hoo.bel _ _ (by omega) hHeld)
      replace hR := hR.only hoo hrx2
      replace hM := hM.only hoo hnx
      replace hq := hq.only hoo (by omega)
      replace hx := hnew
      clear hHeld hnew hoo
      refine hK.out _ _ ?_ (fun hHeld => ?_)
      · exact hH2.out
      clear hK K
      clear hH2
      refine wpAnyH_done (by kernel_rfl) ?_ _
      have hb := hHeld
      clear hHeld
      go_wp2_with (fail)
      go_roundw
      case rel => exact ⟨k + 1, _, _, r2, by omega, by omega, by go_num, HLW.out, hM, hR, hx, hq, hnx, hrx2, hb⟩
      case measure => simp [intOf]; omega
    · have hcase : (¬ k < len) ∨ (k < len ∧ k = 80) := by omega
      have hM9 := hM.more (show k ≤ 80 from hk)
      clear hM
      have HFM : Hid (f = laidW g (min len 80)) := hide (by rw [HFE.out]; congr 1; omega)
      rcases hcase with hnl | ⟨hnl, hk40⟩
      · have t1 : decide ((k : Int) < (len : Int)) = false := by simp; omega
        have t1n : decide (k < len) = false := by simp; omega
        go_wp2_with (fail)
        refine wp_region_held_drew (S := (fun V => RowAt V NX (r.v 8192 2) 40 ∧ RamB V (B + 1) b 2 f 80 O ∧ RefB V (B + 1) 8192 2 f r O ∧ Below B w V)) (by kernel_rfl) ?_ (fun hHeld => ?_)
        · exact ⟨hx.dr, hM9.dr, hR.dr, hb.drew⟩
        replace hq := hq.dr
        generalize World.drew _ = V at hHeld hq ⊢
        clear hx hM9 hR hb
        refine tkO 0 (.pointer (some ⟨b, 0, none⟩)) (by simp only [gT, gZ]; rfl) (puO (by (intro w hSw; (try dsimp only at hSw); go_simp))) ?_
        simp only [Act.put, pA, pZ, pS]
        refine tkO 1 (.agg (r.v 8192 2)) (by simp only [gT, gZ, gS]; rfl) (y_Rw NX r 8192 2 (fun V hV => hV.1) rfl) ?_
        simp only [Act.put, pA, pZ, pS]
        refine tkO 2 (.pointer (some ⟨b, 0, none⟩)) (by simp only [gT, gZ, gS]; rfl) (puO (by (intro w hSw; (try dsimp only at hSw); go_simp))) ?_
        simp only [Act.put, pA, pZ, pS]
        refine skO 3 (by simp only [gT, gZ, gS]; rfl) (fun K hK => ?_)
        rw [if_pos (by rfl)]
        (with_reducible refine s_stR B _ r 8192 2 hq ?_ ?_ ?_ ?_)
        · exact rfl
        · exact rfl
        · exact rfl
        intro V3 hnew hoo
        have hH2 := hide (And.intro (hHeld.1.only hoo (by omega)) (And.intro (hHeld.2.1.only hoo (fun e => absurd (hHeld.2.1.low _ e) (by omega))) (And.intro (hHeld.2.2.1.only hoo (fun e => absurd (hHeld.2.2.1.low _ e) (by omega))) (hoo.bel _ _ (Nat.le_refl _) hHeld.2.2.2))))
        replace hq := hnew
        clear hHeld hnew hoo
        refine hK.out _ _ ?_ (fun hHeld => ?_)
        · exact hH2.out
        clear hK K
        clear hH2
        refine wpAnyH_done (by kernel_rfl) ?_ _
        go_wp2_with (fail)
        refine bodyPost_ret (results_tmp_cellB Tryz.results8 _ _ B _ _ _ rfl hq Tryz.underlying40 rfl size_R) rfl ?_
        exact ⟨b, f, O, r, HFM.out, rfl, hHeld.2.1, hHeld.2.2.1, hHeld.2.2.2⟩
      · subst hk40
        have t1 : ((80 : Nat) : Int) < (len : Int) := by omega
        go_wp2_with (fail)
        refine wp_region_held_drew (S := (fun V => RowAt V NX (r.v 8192 2) 40 ∧ RamB V (B + 1) b 2 f 80 O ∧ RefB V (B + 1) 8192 2 f r O ∧ Below B w V)) (by kernel_rfl) ?_ (fun hHeld => ?_)
        · exact ⟨hx.dr, hM9.dr, hR.dr, hb.drew⟩
        replace hq := hq.dr
        generalize World.drew _ = V at hHeld hq ⊢
        clear hx hM9 hR hb
        refine tkO 0 (.pointer (some ⟨b, 0, none⟩)) (by simp only [gT, gZ]; rfl) (puO (by (intro w hSw; (try dsimp only at hSw); go_simp))) ?_
        simp only [Act.put, pA, pZ, pS]
        refine tkO 1 (.agg (r.v 8192 2)) (by simp only [gT, gZ, gS]; rfl) (y_Rw NX r 8192 2 (fun V hV => hV.1) rfl) ?_
        simp only [Act.put, pA, pZ, pS]
        refine tkO 2 (.pointer (some ⟨b, 0, none⟩)) (by simp only [gT, gZ, gS]; rfl) (puO (by (intro w hSw; (try dsimp only at hSw); go_simp))) ?_
        simp only [Act.put, pA, pZ, pS]
        refine skO 3 (by simp only [gT, gZ, gS]; rfl) (fun K hK => ?_)
        rw [if_pos (by rfl)]
        (with_reducible refine s_stR B _ r 8192 2 hq ?_ ?_ ?_ ?_)
        · exact rfl
        · exact rfl
        · exact rfl
        intro V3 hnew hoo
        have hH2 := hide (And.intro (hHeld.1.only hoo (by omega)) (And.intro (hHeld.2.1.only hoo (fun e => absurd (hHeld.2.1.low _ e) (by omega))) (And.intro (hHeld.2.2.1.only hoo (fun e => absurd (hHeld.2.2.1.low _ e) (by omega))) (hoo.bel _ _ (Nat.le_refl _) hHeld.2.2.2))))
        replace hq := hnew
        clear hHeld hnew hoo
        refine hK.out _ _ ?_ (fun hHeld => ?_)
        · exact hH2.out
        clear hK K
        clear hH2
        refine wpAnyH_done (by kernel_rfl) ?_ _
        go_wp2_with (fail)
        refine bodyPost_ret (results_tmp_cellB Tryz.results8 _ _ B _ _ _ rfl hq Tryz.underlying40 rfl size_R) rfl ?_
        exact ⟨b, f, O, r, HFM.out, rfl, hHeld.2.1, hHeld.2.2.1, hHeld.2.2.2⟩
end Go.Proofs.YtaaiockiojejeaaGreatDoor
namespace Go.Proofs.YtaaiockiojejeaaGreatDoor
open Go.RowKit
set_option linter.unusedVariables false
set_option linter.unusedSimpArgs false

/-- The word that lies at a place behind k words. -/
def wordL (g : Nat → Nat → Nat) : Nat → Nat → Nat
  | 0, _ => 0
  | k + 1, a => if atOf (g k 0) = a then g k 1 else wordL g k a
theorem numB_lv (v j : Nat) (hj : j < 4) : ((numB v 4)[j]?).getD 0 = v / 256 ^ j % 256 := by
  unfold numB
  rw [List.getElem?_map, List.getElem?_range hj]
  rfl
theorem laid_byte (g : Nat → Nat → Nat) : ∀ (k x : Nat), laidW g k x = wordL g k (x / 4 * 4) / 256 ^ (x % 4) % 256
  | 0, x => by show 0 = 0 / _ % _; simp
  | k + 1, x => by
    show wroteF (laidW g k) (atOf (g k 0)) (numB (g k 1) 4) x = (if atOf (g k 0) = x / 4 * 4 then g k 1 else wordL g k (x / 4 * 4)) / 256 ^ (x % 4) % 256
    have ha : atOf (g k 0) % 4 = 0 := by unfold atOf; omega
    unfold wroteF
    rw [numB_len]
    by_cases h : atOf (g k 0) = x / 4 * 4
    · rw [if_pos (by omega), if_pos h, numB_lv _ _ (by omega), show x - atOf (g k 0) = x % 4 by omega]
    · rw [if_neg (by omega), if_neg h, laid_byte g k x]
theorem split4 (v : Nat) (hv : v < 4294967296) : v / 256 ^ 0 % 256 + v / 256 ^ 1 % 256 * 256 + v / 256 ^ 2 % 256 * 65536 + v / 256 ^ 3 % 256 * 16777216 = v := by
  simp only [Nat.pow_zero, Nat.div_one, Nat.pow_one, Nat.reducePow]; omega
theorem numF_four (f : Nat → Nat) (a : Nat) : numF f a 4 = f (a + 0) + f (a + 1) * 256 + f (a + 2) * 65536 + f (a + 3) * 16777216 := by
  simp only [numF, Nat.pow_zero, Nat.mul_one, Nat.zero_add, Nat.pow_one, Nat.reducePow]
theorem numF_two (f : Nat → Nat) (a : Nat) : numF f a 2 = f (a + 0) + f (a + 1) * 256 := by
  simp only [numF, Nat.pow_zero, Nat.mul_one, Nat.zero_add, Nat.pow_one, Nat.reducePow]
/-- Bytes that are a word's. -/
structure WordAt (f : Nat → Nat) (a v : Nat) : Prop where
  b0 : f (a + 0) = v / 256 ^ 0 % 256
  b1 : f (a + 1) = v / 256 ^ 1 % 256
  b2 : f (a + 2) = v / 256 ^ 2 % 256
  b3 : f (a + 3) = v / 256 ^ 3 % 256
theorem WordAt.num {f : Nat → Nat} {a v : Nat} (h : WordAt f a v) (hv : v < 4294967296) : numF f a 4 = v := by
  rw [numF_four, h.b0, h.b1, h.b2, h.b3, split4 v hv]
theorem WordAt.lo {f : Nat → Nat} {a v : Nat} (h : WordAt f a v) : numF f a 2 = v % 65536 := by
  rw [numF_two, h.b0, h.b1]
  simp only [Nat.pow_zero, Nat.div_one, Nat.pow_one]; omega
theorem WordAt.hi {f : Nat → Nat} {a v : Nat} (h : WordAt f a v) : numF f (a + 2) 2 = v / 65536 % 65536 := by
  rw [numF_two, show a + 2 + 0 = a + 2 from rfl, show a + 2 + 1 = a + 3 from rfl, h.b2, h.b3]
  simp only [Nat.reducePow]; omega
theorem WordAt.laid (g : Nat → Nat → Nat) (k a : Nat) (ha : a % 4 = 0) : WordAt (laidW g k) a (wordL g k a) := by
  refine ⟨?_, ?_, ?_, ?_⟩
  all_goals rw [laid_byte]
  · rw [show (a + 0) / 4 * 4 = a by omega, show (a + 0) % 4 = 0 by omega]
  · rw [show (a + 1) / 4 * 4 = a by omega, show (a + 1) % 4 = 1 by omega]
  · rw [show (a + 2) / 4 * 4 = a by omega, show (a + 2) % 4 = 2 by omega]
  · rw [show (a + 3) / 4 * 4 = a by omega, show (a + 3) % 4 = 3 by omega]
theorem WordAt.before {f : Nat → Nat} {a v b : Nat} {l : List Nat} (h : WordAt f a v) (hb : a + 4 ≤ b) : WordAt (wroteF f b l) a v := by
  refine ⟨?_, ?_, ?_, ?_⟩
  · unfold wroteF; rw [if_neg (by omega)]; exact h.b0
  · unfold wroteF; rw [if_neg (by omega)]; exact h.b1
  · unfold wroteF; rw [if_neg (by omega)]; exact h.b2
  · unfold wroteF; rw [if_neg (by omega)]; exact h.b3
/-- The ring of four, when so many were taken and given back. -/
def lR (la pu : Nat) : Rg := ⟨4, 2147483648, 2147483904, 2147484160, la, pu⟩
def lvP (la pu ir : Nat) : V := ⟨15, 0, 0, 0, ir, 0, 1, ⟨true, lR la pu⟩, zeroQu⟩
/-- The disk that works. -/
def lvS : Bk := ⟨lvP 0 0 0, 100, true, 0, []⟩
theorem lR_chk (la pu : Nat) : chkR (lR la pu) = true := by kernel_rfl
/-- One chain of three parts is offered. -/
structure Off3 (f : Nat → Nat) (a0 n0 a1 n1 x1 a2 n2 x2 : Nat) : Prop where
  cnt : WordAt f 256 65536
  hed : WordAt f 260 0
  d00 : WordAt f 0 a0
  d01 : WordAt f 4 0
  d02 : WordAt f 8 n0
  d03 : WordAt f 12 65537
  d10 : WordAt f 16 a1
  d11 : WordAt f 20 0
  d12 : WordAt f 24 n1
  d13 : WordAt f 28 x1
  d20 : WordAt f 32 a2
  d21 : WordAt f 36 0
  d22 : WordAt f 40 n2
  d23 : WordAt f 44 x2
end Go.Proofs.YtaaiockiojejeaaGreatDoor
namespace Go.Proofs.YtaaiockiojejeaaGreatDoor
open Go.RowKit

def suG : Nat → Nat → Nat
  | 0, 0 => 0 | 0, _ => 2147484416 | 1, 0 => 8 | 1, _ => 16 | 2, 0 => 12 | 2, _ => 65537 | 3, 0 => 16 | 3, _ => 2147487744 | 4, 0 => 24 | 4, _ => 513 | 5, 0 => 28 | 5, _ => 2
  | 6, 0 => 256 | 6, _ => 65536 | _, 0 => 776 | _, _ => 3
def suF : Nat → Nat := laidW suG 8
def suQ : Rq := ⟨0, 0, false, 3, 512, [⟨2147487744, 513, true⟩]⟩
def suS : Bk := ⟨lvP 1 0 0, 100, false, 1, [suQ]⟩
theorem su_pol : polV 2 suF lvS = ⟨suF, suS, [⟨0, false, 3, 512, []⟩]⟩ := by kernel_rfl
theorem su_ans : (ansV 2 suF suS 0 [⟨2147487744, 513, true⟩] (List.replicate 512 0 ++ [0])).2 = ⟨lvP 1 1 1, 100, false, 1, [suQ]⟩ := by kernel_rfl
end Go.Proofs.YtaaiockiojejeaaGreatDoor
