/-
  RingBack, walked.
-/
import Derived.Test.YtghpjibjhaomoaaGreatDoorJRiBkM
import Derived.Test.YtghpjibjhaomoaaGreatDoorJRiSure
import Derived.Test.YtghpjibjhaomoaaGreatDoorJRiLens
import Derived.Test.YtghpjibjhaomoaaGreatDoorJNum
namespace Go.Proofs.YtghpjibjhaomoaaGreatDoor
open Go.RowKit
set_option linter.unusedVariables false
set_option linter.unusedSimpArgs false

attribute [local go_sem] Sg.at0 Sg.at1 Sg.at2
theorem txt_empty (W : World) (a : Option Addr) (c : Nat) : (convert 28 9 (.slice a 0 c)).run Tryz.prog W = .ok (.string ⟨#[]⟩) W := by
  cases a with
  | none => exact run_convert_bytes_nil (P := Tryz.prog) W 28 5 Tryz.underlying28 Tryz.underlying5 0 c 9 Tryz.underlying9
  | some a => exact run_convert_bytes_back W _ _ 5 a c [] Tryz.underlying28 Tryz.underlying5 Tryz.underlying9 (fun j hj => absurd hj (by simp))
theorem conv_in {W w : World} {B : Nat} {ba : Option Addr} {bl : List Nat} (h : BytesAt w B ba bl) (hb : Below B w W) (c : Nat) : (convert 28 9 (.slice ba bl.length c)).run Tryz.prog W = .ok (.string (txtR bl)) W := by
  rcases Nat.eq_zero_or_pos bl.length with e | e
  · obtain rfl : bl = [] := List.eq_nil_of_length_eq_zero e
    exact txt_empty W ba c
  · obtain ⟨b, o, rfl, hbb, hc⟩ := h.lies e
    have k := conv_row (w := W) (g := b) (o := o) (l := bl.length) (c := c) (f := fun j => (bl[j]?).getD 0) (fun j => by
      cases e : bl[j]? with
      | none => show (0 : Nat) < 256; decide
      | some y => exact h.small y (List.mem_of_getElem? e)) (fun j hj => by
      rw [hb.cell (p := ⟨b, o + j, none⟩) hbb, hc j hj, List.getElem?_eq_getElem hj]; rfl)
    rw [getD_range] at k
    exact k
theorem size_eq (z : Int) : wrap64 ((IntKind.u64.wrap z).tmod 300) = (((z % 18446744073709551616 % 300).toNat : Nat) : Int) := by
  rw [IntKind.wrap_u64, Int.tmod_eq_emod_of_nonneg (by omega)]
  unfold wrap64
  omega
theorem HandleAt.belR {w W : World} {B : Nat} (h : HandleAt w) (hG : 0 < B) (hb : Below B w W) : HandleAt W := (hb.cell (p := ⟨0, 0, none⟩) hG).trans h
set_option maxRecDepth 20000 in
set_option maxHeartbeats 8000000 in
theorem back_walk (ha : Option Addr) (hl hcap : Nat) (g : Nat → Int) (ba : Option Addr) (bl : List Nat) (bcap : Nat) (w : World) (hH : RIntsAt w w.heap.size ha hl g) (hHc : hl ≤ hcap) (hHm : hcap ≤ 9223372036854775807) (hBy : BytesAt w w.heap.size ba bl) (hBc : bl.length ≤ bcap) (hBm : bcap ≤ 9223372036854775807) (hA : AreasAt w) (hHn : HandleAt w) :
    Calls Tryz.prog 6 #[.slice ha hl hcap, .slice ba bl.length bcap] w fun e w' => e = .returned (.bool true) ∧ Below w.heap.size w w' := by
  obtain ⟨B, hB⟩ : ∃ B, w.heap.size = B := ⟨_, rfl⟩
  have hG0 : 1 < B := hB ▸ hA.lt
  have hE0 : 0 < B := hB ▸ lt_of_cell (show w.cell? ⟨0, 0, none⟩ = some _ from hHn)
  have hG : 1 < B + 1 := by omega
  have HA0 := hide hA
  have HE0 := hide hHn
  rw [hB] at hH hBy ⊢
  have HHd := hide hH
  have HBy := hide hBy
  have HBo : Hid (Calls Tryz.prog 7 #[.slice none 0 0] w fun e w' => ∃ b O r, e = .returned (.tuple #[.pointer (some ⟨b, 0, none⟩), .agg (RP.v r 8192 2)]) ∧ RamB w' (B + 1) b 2 (fun _ => 0) 80 O ∧ Below B w w') := hide (by
    have h := rboth_any none 0 0 (fun _ _ => 0) w ⟨fun j hj => absurd hj (by omega), fun j hj => absurd hj (by omega)⟩ (by decide) (by decide)
    rw [hB] at h
    exact h.mono (by
      rintro e w' ⟨b, f, O, r, hf, he, h1, _, h3⟩
      rw [hf] at h1
      exact ⟨b, O, r, he, h1, h3⟩))
  have HSu : Hid (∀ W, AreasAt W → Calls Tryz.prog 13 #[] W fun e w' => e = .returned (.bool true) ∧ Below W.heap.size W w') := hide (fun W hA => rsure_any W hA)
  have HNu : Hid (∀ W, HandleAt W → Calls Tryz.prog 10 #[.iface 84 (.int .i64 2)] W fun e w' => e = .returned (.int .i64 2) ∧ Below W.heap.size W w') := hide (fun W h => num_err 2 W h)
  obtain ⟨L, hL⟩ : ∃ L, bl.length = L := ⟨_, rfl⟩
  have HL := hide hL
  rw [hL] at hBc ⊢
  clear hA hHn hH hBy hL
  go_enter Tryz.func6, Tryz.ntmps6
  go_wp2_with (first | (go_at_call 7; (with_reducible refine HBo.out.mono ?_); rintro e W1 ⟨b, O, r, rfl, hM, hb⟩; obtain ⟨NX, hNX0⟩ : ∃ n, W1.heap.size = n := ⟨_, rfl⟩; have hNX := hide hNX0; have hNB : B + 1 ≤ NX := hNX0 ▸ hM.base; have hnx : ¬ O NX := (fun e => absurd (hM.lt _ e) (by omega)); clear hNX0) | ((with_reducible refine al_Rz NX ?_ ?_); exact hNX.out; intro W hx hb' hz2; have hbc : Below W1.heap.size W1 W := (by rw [hNX.out]; exact hb'); replace hb := hb.trans (hb'.mono (by omega)); replace hM := hM.bl hbc; clear hb' hbc) | ((with_reducible refine st_R NX _ r 8192 2 hx ?_ ?_ ?_ ?_); exact rfl; exact rfl; exact rfl; intro W hnew hoo; replace hM := hM.only hoo hnx; replace hb := hoo.bel _ _ (by omega) hb; clear hnew hoo hx))
  clear hNX
  go_loopw [7, 8, 9, 10, 11] (fun wv rv av lv iv wr => ∃ (i : Nat), i ≤ hl ∧ i ≤ 20 ∧ iv = .int .i64 (i : Nat) ∧ av = .int .u32 ((2147483648 + sK g i : Nat) : Int) ∧ lv = .int .i64 ((L : Int) - (sK g i : Int)) ∧ wr.ownsRow (B + 1) 70 3 wv i (segL (wl g i)) ∧ wr.ownsRow (B + 1) 70 3 rv (rl g L i).length (segL (rl g L i)) ∧ (∀ x, wv.ownBlock = some x → ¬ O x) ∧ (∀ x, rv.ownBlock = some x → ¬ O x) ∧ (∀ x, wv.ownBlock = some x → rv.ownBlock ≠ some x) ∧ RamB wr (B + 1) b 2 (fun _ => 0) 80 O ∧ Below B w wr) (fun wv rv av lv iv _ => 20 - (intOf iv).toNat)
  case atStart => exact ⟨0, Nat.zero_le _, Nat.zero_le _, rfl, rfl, by show Value.int .i64 (L : Int) = .int .i64 ((L : Int) - ((0 : Nat) : Int)); rw [show ((0 : Nat) : Int) = 0 from rfl, Int.sub_zero], World.ownsRow_nil _ _ _ _, World.ownsRow_nil _ _ _ _, (fun x h => by cases h), (fun x h => by cases h), (fun x h => by cases h), hM, hb⟩
  case round =>
    clear hM hb
    obtain ⟨i, hi, hi2, rfl, rfl, rfl, hwO, hrO, hwn, hrn, hap, hM, hb⟩ := hrel
    have hsk := sK_le g i
    have hkl := kN_lt g i
    have hrl := rl_len g L i
    have hwl := wl_len g i
    obtain ⟨wa, wc, rfl, hw1, hw2⟩ := own_form hwO
    obtain ⟨ra, rc, rfl, hr1, hr2⟩ := own_form hrO
    obtain ⟨rn, hrn0⟩ : ∃ x, (rl g L i).length = x := ⟨_, rfl⟩
    rw [hrn0] at hrO hr1 hrl hrn hap ⊢
    have HRN := hide hrn0
    have hS := hM.base
    by_cases hlt : i < hl ∧ i < 20
    · obtain ⟨hlt1, hlt2⟩ := hlt
      obtain ⟨hbk, ho, rfl, hhb, hhc⟩ := HHd.out.lies i hlt1
      have hhw : wr.cell? ⟨hbk, ho + i, none⟩ = some (.int .i64 (g i)) := (hb.cell (p := ⟨hbk, ho + i, none⟩) hhb).trans hhc
      have hsz := size_eq (g i)
      rw [show ((g i % 18446744073709551616 % 300).toNat) = kN g i from rfl] at hsz
      have l1 : (i : Int) < (hl : Int) := by omega
      have l2 : (i : Int) < 20 := by omega
      have HWL : Hid (wl g (i + 1) = wl g i ++ [sgW g i]) := hide rfl
      have HSW : Hid ((sgW g i).cells = #[.int .u32 ((2147483648 + sK g i : Nat) : Int), .int .i64 ((kN g i : Nat) : Int), .bool true]) := hide rfl
      have HSK : Hid (sK g (i + 1) = sK g i + kN g i) := hide rfl
      have HRL : Hid (rl g L (i + 1) = rl g L i ++ (if sK g i < L then [sgR g L i] else [])) := hide rfl
      obtain ⟨S, hSe⟩ : ∃ x, sK g i = x := ⟨_, rfl⟩
      obtain ⟨k, hke⟩ : ∃ x, kN g i = x := ⟨_, rfl⟩
      obtain ⟨sw, hsw⟩ : ∃ x, sgW g i = x := ⟨_, rfl⟩
      rw [hSe] at hsk HSW HSK HRL ⊢
      rw [hke] at hkl hsz HSW HSK
      rw [hsw] at HWL HSW
      have hge : g i % 18446744073709551616 % 300 = (k : Int) := by rw [← hke]; unfold kN; omega
      obtain ⟨A, hAe⟩ : ∃ x, 2147483648 + S = x := ⟨_, rfl⟩
      rw [hAe] at HSW ⊢
      have HAe := hide hAe
      have hAl : A ≤ 2147489648 := by omega
      obtain ⟨N1, hN10⟩ : ∃ x, wr.heap.size = x := ⟨_, rfl⟩
      have hN1 := hide hN10
      have lN1 : B + 1 ≤ N1 := hN10 ▸ hS
      have hwv : ∀ x, (Value.slice wa i wc).ownBlock = some x → B + 1 ≤ x ∧ x < N1 := fun x hx => hN10 ▸ hwO.lt x hx
      have hrv : ∀ x, (Value.slice ra rn rc).ownBlock = some x → B + 1 ≤ x ∧ x < N1 := fun x hx => hN10 ▸ hrO.lt x hx
      clear hN10 hhc
      by_cases hleft : S < L
      · rw [if_pos hleft] at HRL
        have t1 : 0 < (L : Int) - (S : Int) := by omega
        have HSR : Hid ((sgR g L i).cells = #[.int .u32 (A : Int), .int .i64 ((min k (L - S) : Nat) : Int), .bool false]) := hide (by unfold sgR; rw [hSe, hke, hAe]; rfl)
        obtain ⟨sr, hsr⟩ : ∃ x, sgR g L i = x := ⟨_, rfl⟩
        rw [hsr] at HRL HSR
        obtain ⟨mk, hmk⟩ : ∃ x, min k (L - S) = x := ⟨_, rfl⟩
        rw [hmk] at HSR
        have emin : min (k : Int) ((L : Int) - (S : Int)) = (mk : Int) := by omega
        have hmkl : mk ≤ 300 := by omega
        clear hsr hmk hsw hSe hke hAe hge hrn0
        go_wp2_with (first | ((with_reducible refine bs_s N1 ?_ sw ?_ ?_); exact hN1.out; (exact congrArg Value.agg HSW.out.symm); intro W hbr hb' hz; have hbc := hN1.out.symm ▸ hb'; replace hb := hb.trans (hb'.mono (by omega)); replace hM := hM.bl hbc; replace hwO := own_bel hwO hbc; replace hrO := own_bel hrO hbc; replace hS := Nat.le_trans hS hbc.size; have hz1 : W.heap.size = N1 + 1 := hz.out; clear hb' hbc hz) | ((with_reducible refine app_s (wl g i) sw i hwl hwO N1 hbr (by omega) hS ?_ ?_ ?_); exact rfl; exact rfl; intro W v' hL2 hg hbk; have hwn2 := grow_no hM hwn hbk; have hap2 : ∀ x, v'.ownBlock = some x → (Value.slice ra rn rc).ownBlock ≠ some x := (fun x e k => by rcases hbk with q1 | q1; exact hap x (q1 ▸ e) k; rw [q1] at e; cases e; have := (hrv _ k).2; omega); replace hrO := own_at hrO (fun x hx => hg.block x (by have := (hrv x hx).2; omega) (fun e => hap x e.symm hx)); have hwS := Nat.le_trans (Nat.le_succ _) hS; replace hb := grow_below hb hg hwS (fun x e => by have := (hwv x e).1; omega); have hM2 := grow_ram hM hg hwn; replace hS := Nat.le_trans hS hg.size; replace hwO := hL2; clear hL2 hbr hM hwn hap; have hM := hM2; have hwn := hwn2; have hap := hap2; clear hM2 hwn2 hap2; obtain ⟨wa2, wc2, rfl, hw3, hw4⟩ := own_form hwO; obtain ⟨N2, hN20⟩ : ∃ x, W.heap.size = x := ⟨_, rfl⟩; have hN2 := hide hN20; have lN2 : N1 ≤ N2 := (by have := hg.size; omega); have hwv2 : ∀ x, (Value.slice wa2 (i + 1) wc2).ownBlock = some x → B + 1 ≤ x ∧ x < N2 := (fun x hx => hN20 ▸ hwO.lt x hx); clear hN20 hg hbk hz1) | ((with_reducible refine bs_s N2 ?_ sr ?_ ?_); exact hN2.out; (exact congrArg Value.agg HSR.out.symm); intro W hbr hb' hz; have hbc := hN2.out.symm ▸ hb'; replace hb := hb.trans (hb'.mono (by omega)); replace hM := hM.bl hbc; replace hwO := own_bel hwO hbc; replace hrO := own_bel hrO hbc; replace hS := Nat.le_trans hS hbc.size; have hz1 : W.heap.size = N2 + 1 := hz.out; clear hb' hbc hz) | ((with_reducible refine app_s (rl g L i) sr rn HRN.out hrO N2 hbr (by omega) hS ?_ ?_ ?_); exact rfl; exact rfl; intro W v' hL2 hg hbk; have hrn2 := grow_no hM hrn hbk; have hap2 : ∀ x, (Value.slice wa2 (i + 1) wc2).ownBlock = some x → v'.ownBlock ≠ some x := (fun x e k => by rcases hbk with q1 | q1; exact hap x e (q1 ▸ k); rw [q1] at k; cases k; have := (hwv2 _ e).2; omega); replace hwO := own_at hwO (fun x hx => hg.block x (by have := (hwv2 x hx).2; omega) (fun e => hap x hx e.symm)); have hwS := Nat.le_trans (Nat.le_succ _) hS; replace hb := grow_below hb hg hwS (fun x e => by have := (hrv x e).1; omega); have hM2 := grow_ram hM hg hrn; replace hrO := hL2; clear hL2 hbr hM hrn hap hz1; have hM := hM2; have hrn := hrn2; have hap := hap2; clear hM2 hrn2 hap2 hg hbk))
        go_roundw
        case rel => exact ⟨i + 1, hlt1, hlt2, by go_num, by (rw [HSK.out, ← Nat.add_assoc, HAe.out]; go_num), by (rw [HSK.out]; congr 1; omega), by (rw [HWL.out]; exact hwO), by (rw [HRL.out, List.length_append, HRN.out]; exact hrO), hwn, hrn, hap, hM, hb⟩
        case measure => simp [intOf]; omega
      · rw [if_neg hleft, List.append_nil] at HRL
        have t1 : decide (0 < (L : Int) - (S : Int)) = false := by simp; omega
        clear hsw hSe hke hAe hge hrn0
        go_wp2_with (first | ((with_reducible refine bs_s N1 ?_ sw ?_ ?_); exact hN1.out; (exact congrArg Value.agg HSW.out.symm); intro W hbr hb' hz; have hbc := hN1.out.symm ▸ hb'; replace hb := hb.trans (hb'.mono (by omega)); replace hM := hM.bl hbc; replace hwO := own_bel hwO hbc; replace hrO := own_bel hrO hbc; replace hS := Nat.le_trans hS hbc.size; have hz1 : W.heap.size = N1 + 1 := hz.out; clear hb' hbc hz) | ((with_reducible refine app_s (wl g i) sw i hwl hwO N1 hbr (by omega) hS ?_ ?_ ?_); exact rfl; exact rfl; intro W v' hL2 hg hbk; have hwn2 := grow_no hM hwn hbk; have hap2 : ∀ x, v'.ownBlock = some x → (Value.slice ra rn rc).ownBlock ≠ some x := (fun x e k => by rcases hbk with q1 | q1; exact hap x (q1 ▸ e) k; rw [q1] at e; cases e; have := (hrv _ k).2; omega); replace hrO := own_at hrO (fun x hx => hg.block x (by have := (hrv x hx).2; omega) (fun e => hap x e.symm hx)); have hwS := Nat.le_trans (Nat.le_succ _) hS; replace hb := grow_below hb hg hwS (fun x e => by have := (hwv x e).1; omega); have hM2 := grow_ram hM hg hwn; replace hS := Nat.le_trans hS hg.size; replace hwO := hL2; clear hL2 hbr hM hwn hap; have hM := hM2; have hwn := hwn2; have hap := hap2; clear hM2 hwn2 hap2; obtain ⟨wa2, wc2, rfl, hw3, hw4⟩ := own_form hwO; obtain ⟨N2, hN20⟩ : ∃ x, W.heap.size = x := ⟨_, rfl⟩; have hN2 := hide hN20; have lN2 : N1 ≤ N2 := (by have := hg.size; omega); have hwv2 : ∀ x, (Value.slice wa2 (i + 1) wc2).ownBlock = some x → B + 1 ≤ x ∧ x < N2 := (fun x hx => hN20 ▸ hwO.lt x hx); clear hN20 hg hbk hz1))
        go_roundw
        case rel => exact ⟨i + 1, hlt1, hlt2, by go_num, by (rw [HSK.out, ← Nat.add_assoc, HAe.out]; go_num), by (rw [HSK.out]; congr 1; omega), by (rw [HWL.out]; exact hwO), by (rw [HRL.out, HRN.out]; exact hrO), hwn, hrn, hap, hM, hb⟩
        case measure => simp [intOf]; omega
    · have hcase : (¬ i < hl) ∨ (i < hl ∧ i = 20) := by omega
      clear hlt
      have hA := HA0.out.belR hG0 hb
      have hwok := wl_ok g i hi2
      have hrok := rl_ok g L i hi2
      have hroom := wl_room g i hi2
      obtain ⟨hwp, _⟩ := wl_parts g L i
      obtain ⟨hrp, _⟩ := rl_parts g L i hi2
      have hBy1 : BytesAt wr (B + 1) ba bl := ⟨fun e => by
        obtain ⟨sb, so, e1, e2, e3⟩ := HBy.out.lies e
        exact ⟨sb, so, e1, by omega, fun j hj => (hb.cell (p := ⟨sb, so + j, none⟩) e2).trans (e3 j hj)⟩, HBy.out.small⟩
      by_cases hlong : sK g i < L
      · have HSc : Hid (Calls Tryz.prog 24 #[.pointer (some ⟨b, 0, none⟩), .slice wa i wc, .slice ba L bcap] wr fun e w' => e = .returned (.iface 84 (.int .i64 2)) ∧ Below wr.heap.size wr w') := hide (by
          have h := scat_long (wl g i) (by rw [hwl]; omega) hwok bl bcap ba hM hA hG (by rw [hwl]; exact hwO) hBy1 (by rw [HL.out]; exact hBc) hBm (by rw [hroom, HL.out]; omega)
          rw [HL.out] at h
          exact h)
        have t1 : 0 < (L : Int) - (sK g i : Int) := by omega
        generalize sK g i = S at *
        clear hwok hrok hroom hwp hrp hBy1 hrn0
        rcases hcase with hc | ⟨hc1, hc2⟩
        · have t2 : decide ((i : Int) < (hl : Int)) = false := by simp; omega
          have t2n : decide (i < hl) = false := by simp; omega
          go_wp2_with (first | (go_at_call 24; (with_reducible refine HSc.out.mono ?_); rintro e W2 ⟨rfl, hbc⟩; replace hb := hb.trans (hbc.mono (by omega)); clear hbc) | (go_at_call 10; (with_reducible refine (HNu.out _ (HE0.out.belR hE0 hb)).mono ?_); rintro e W3 ⟨rfl, hbc⟩; replace hb := hb.trans (hbc.mono (by have := hb.size; omega)); clear hbc) | (go_at_call 13; (with_reducible refine (HSu.out _ (HA0.out.belR hG0 hb)).mono ?_); rintro e W4 ⟨rfl, hbc⟩; replace hb := hb.trans (hbc.mono (by have := hb.size; omega)); clear hbc))
          go_ret
          exact ⟨rfl, hb⟩
        · have t2 : (i : Int) < (hl : Int) := by omega
          have t3 : decide ((i : Int) < 20) = false := by simp; omega
          have t3n : decide (i < 20) = false := by simp; omega
          clear hc1 hc2
          go_wp2_with (first | (go_at_call 24; (with_reducible refine HSc.out.mono ?_); rintro e W2 ⟨rfl, hbc⟩; replace hb := hb.trans (hbc.mono (by omega)); clear hbc) | (go_at_call 10; (with_reducible refine (HNu.out _ (HE0.out.belR hE0 hb)).mono ?_); rintro e W3 ⟨rfl, hbc⟩; replace hb := hb.trans (hbc.mono (by have := hb.size; omega)); clear hbc) | (go_at_call 13; (with_reducible refine (HSu.out _ (HA0.out.belR hG0 hb)).mono ?_); rintro e W4 ⟨rfl, hbc⟩; replace hb := hb.trans (hbc.mono (by have := hb.size; omega)); clear hbc))
          go_ret
          exact ⟨rfl, hb⟩
      · have hLe : bl.length ≤ sK g i := by rw [HL.out]; omega
        have HSc : Hid (Calls Tryz.prog 24 #[.pointer (some ⟨b, 0, none⟩), .slice wa i wc, .slice ba L bcap] wr fun e w' => ∃ O', e = .returned .nilIface ∧ RamB w' (B + 1) b 2 (fB bl L) (80 + (prt true g L i).length) O' ∧ Went (B + 1) O O' wr w') := hide (by
          have h := scat_ok (wl g i) (by rw [hwl]; omega) hwok bl bcap ba hM hA hG (by rw [hwl]; exact hwO) hBy1 (by rw [HL.out]; exact hBc) hBm (by rw [hroom]; omega) (by rw [HL.out, hwp]; exact prt_in true g L i hi2) (by omega)
          rw [HL.out, hwp] at h
          have e := scat_prt g bl i
          rw [HL.out, show min (sK g i) L = L by omega] at e
          rw [e] at h
          exact h)
        have HGa : Hid (∀ W O1 c, RamB W (B + 1) b 2 (fB bl L) c O1 → AreasAt W → W.ownsRow (B + 1) 70 3 (.slice ra rn rc) rn (segL (rl g L i)) → Calls Tryz.prog 16 #[.pointer (some ⟨b, 0, none⟩), .slice ra rn rc] W fun e w' => ∃ O' v', e = .returned (.tuple #[v', .nilIface]) ∧ RamB w' (B + 1) b 2 (fB bl L) c O' ∧ Went (B + 1) O1 O' W w' ∧ w'.ownsRow W.heap.size 5 1 v' L (byteV bl) ∧ ∀ x, v'.ownBlock = some x → ¬ O' x) := hide (fun W O1 c hM hA hO => by
          have h := gath_ok (rl g L i) (by rw [HRN.out]; omega) hrok hM hA hG (by rw [HRN.out]; exact hO) (by rw [hrp]; exact prt_in false g L i hi2)
          rw [hrp, gath_prt, show min (sK g i) L = L by omega] at h
          have e := back_all bl
          rw [HL.out] at e
          rw [e, HL.out] at h
          exact h)
        have HCb : Hid (∀ W, Below B w W → (convert 28 9 (.slice ba L bcap)).run Tryz.prog W = .ok (.string (txtR bl)) W) := hide (fun W hb => by have h := conv_in HBy.out hb bcap; rwa [HL.out] at h)
        have HCo : Hid (∀ (W : World) Bv v, W.ownsRow Bv 5 1 v L (byteV bl) → (convert 28 9 v).run Tryz.prog W = .ok (.string (txtR bl)) W) := hide (fun W Bv v h => conv_own HBy.out.small (by rw [HL.out]; exact h))
        have t1 : decide (0 < (L : Int) - (sK g i : Int)) = false := by simp; omega
        generalize sK g i = S at *
        generalize fB bl L = f2 at *
        generalize txtR bl = tx at *
        generalize (prt true g L i).length = pc at *
        clear hwok hrok hroom hwp hrp hBy1 hrn0 hLe
        rcases hcase with hc | ⟨hc1, hc2⟩
        · have t2 : decide ((i : Int) < (hl : Int)) = false := by simp; omega
          have t2n : decide (i < hl) = false := by simp; omega
          go_wp2_with (first | (go_at_call 24; (with_reducible refine HSc.out.mono ?_); rintro e W2 ⟨O2, rfl, hM2, hW2⟩; have hA2 := hA.wentR hG hW2; replace hrO := own_went hrO hW2 hrn; replace hb := hb.trans (hW2.below.mono (by omega)); clear hW2 hM hA) | (go_at_call 16; (with_reducible refine (HGa.out _ _ _ hM2 hA2 hrO).mono ?_); rintro e W3 ⟨O3, v3, rfl, hM3, hW3, hV, hVn⟩; replace hb := hb.trans (hW3.below.mono (by omega)); have hcv := HCo.out _ _ _ hV; have hcb := HCb.out _ hb; obtain ⟨va, vc, rfl, _, _⟩ := own_form hV; clear hM3 hW3 hM2 hA2) | (go_at_call 13; (with_reducible refine (HSu.out _ (HA0.out.belR hG0 hb)).mono ?_); rintro e W4 ⟨rfl, hbc⟩; replace hb := hb.trans (hbc.mono (by have := hb.size; omega)); clear hbc))
          go_ret
          exact ⟨rfl, hb⟩
        · have t2 : (i : Int) < (hl : Int) := by omega
          have t3 : decide ((i : Int) < 20) = false := by simp; omega
          have t3n : decide (i < 20) = false := by simp; omega
          clear hc1 hc2
          go_wp2_with (first | (go_at_call 24; (with_reducible refine HSc.out.mono ?_); rintro e W2 ⟨O2, rfl, hM2, hW2⟩; have hA2 := hA.wentR hG hW2; replace hrO := own_went hrO hW2 hrn; replace hb := hb.trans (hW2.below.mono (by omega)); clear hW2 hM hA) | (go_at_call 16; (with_reducible refine (HGa.out _ _ _ hM2 hA2 hrO).mono ?_); rintro e W3 ⟨O3, v3, rfl, hM3, hW3, hV, hVn⟩; replace hb := hb.trans (hW3.below.mono (by omega)); have hcv := HCo.out _ _ _ hV; have hcb := HCb.out _ hb; obtain ⟨va, vc, rfl, _, _⟩ := own_form hV; clear hM3 hW3 hM2 hA2) | (go_at_call 13; (with_reducible refine (HSu.out _ (HA0.out.belR hG0 hb)).mono ?_); rintro e W4 ⟨rfl, hbc⟩; replace hb := hb.trans (hbc.mono (by have := hb.size; omega)); clear hbc))
          go_ret
          exact ⟨rfl, hb⟩
end Go.Proofs.YtghpjibjhaomoaaGreatDoor
