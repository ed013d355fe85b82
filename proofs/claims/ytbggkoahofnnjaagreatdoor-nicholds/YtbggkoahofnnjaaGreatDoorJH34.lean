/-
  NicHolds, walked.
-/
import Derived.Test.YtbggkoahofnnjaaGreatDoorJH32
import Derived.Test.YtbggkoahofnnjaaGreatDoorJH29
import Derived.Test.YtbggkoahofnnjaaGreatDoorJH33
import Derived.Test.YtbggkoahofnnjaaGreatDoorJH23
import Derived.Test.YtbggkoahofnnjaaGreatDoorJH11
namespace Go.Proofs.YtbggkoahofnnjaaGreatDoor
open Go.RowKit
set_option linter.unusedVariables false
set_option linter.unusedSimpArgs false

structure NMid (w : World) (B NS NY b : Nat) (x y : Nc) (f : Nat → Nat) (c : Nat) (O : Nat → Prop) (ov : Value) (ls : List (List Nat × Value)) (W : World) : Prop where
  ns : RowAt W NS x.c 41
  ny : RowAt W NY y.c 41
  ram : RamB W (B + 2) b 2 f c O
  frs : FrsAt W (B + 2) O ov ls
  bel : Below B w W
  nso : ¬ O NS
  nyo : ¬ O NY
theorem FramesIn.bel {w W : World} {B len : Nat} {la : Option Addr} (h : FramesIn w B la len) (hb : Below B w W) : FramesIn W B la len :=
  ⟨fun j hj => by
    obtain ⟨b, o, fa, fc, bl, e, h1, h2, h3, h4, h5⟩ := h.lies j hj
    exact ⟨b, o, fa, fc, bl, e, h1, (hb.cell (p := ⟨b, o + j, none⟩) h1).trans h2, h3, h4, h5.bel hb⟩⟩
theorem BytesAt.up {w : World} {B B' : Nat} {ba : Option Addr} {bl : List Nat} (h : BytesAt w B ba bl) (hB : B ≤ B') : BytesAt w B' ba bl :=
  ⟨fun h0 => by
    obtain ⟨b, o, e, h1, h2⟩ := h.lies h0
    exact ⟨b, o, e, by omega, h2⟩, h.small⟩
theorem fr_len {w : World} {B : Nat} {O : Nat → Prop} {fr : List Nat} {dv : Value} (h : FrAt w B O fr dv) : ∃ a c, dv = .slice a fr.length c := by
  obtain ⟨g, cap, all, rfl, _, _, _, rfl, _⟩ := h.ex
  exact ⟨_, _, by rw [List.length_drop]⟩
set_option maxRecDepth 20000 in
set_option maxHeartbeats 16000000 in
theorem holds_walk (s : Nc) (ok : s.Ok) (wa fa : Option Addr) (wl wc fl fc : Nat) (gw : Nat → Nat → Nat) (w : World) (hW : PairsAt w w.heap.size wa wl gw) (hWc : wl ≤ wc) (hWm : wc ≤ 9223372036854775807) (hFr : FramesIn w w.heap.size fa fl) (hFc : fl ≤ fc) (hFm : fc ≤ 9223372036854775807) (hA : AreasAt w) (hO : OffAt w) :
    Calls Tryz.prog 6 #[.agg s.c, .slice wa wl wc, .slice fa fl fc] w fun e w' => e = .returned (.bool true) ∧ Below w.heap.size w w' := by
  obtain ⟨B, hB⟩ : ∃ B, w.heap.size = B := ⟨_, rfl⟩
  have hG0 : 2 < B := hB ▸ hA.lt
  have hG : 2 < B + 2 := by omega
  have HA0 : Hid (∀ W, Below B w W → AreasAt W) := hide (fun W hb => hA.belR hG0 hb)
  have HO0 : Hid (∀ W, Below B w W → OffAt W) := hide (fun W hb => hO.bl (hB ▸ hb))
  have HFr := hide (hB ▸ hFr)
  have HBo : Hid (∀ W, Below B w W → W.heap.size = B + 1 → Calls Tryz.prog 16 #[.slice wa wl wc] W fun e w' => ∃ b f O r, e = .returned (.tuple #[.pointer (some ⟨b, 0, none⟩), .agg (RP.v r 8192 2)]) ∧ RamB w' (B + 2) b 2 f 80 O ∧ Below (B + 1) W w') := hide (fun W hb hz => by
    have h := rboth_any wa wl wc gw W ((hB ▸ hW).rise hb (by omega)) hWc hWm
    rw [hz] at h
    exact h.mono (by
      rintro e w' ⟨b, f, O, r, _, he, h1, _, h3⟩
      exact ⟨b, f, O, r, he, h1, h3⟩))
  have HGi := hide (fun w => gnic_any s w)
  have HCk : Hid (∀ (t : Nc) W, t.Ok → Below B w W → Calls Tryz.prog 13 #[.agg t.c] W fun e w' => e = .returned (errR (if mayV t.p = true then 0 else 1)) ∧ Below W.heap.size W w') := hide (fun t W ok hb => ncheck_any t ok.p W (HO0.out W hb))
  have HSu : Hid (∀ W, Below B w W → Calls Tryz.prog 15 #[] W fun e w' => e = .returned (.bool true) ∧ Below W.heap.size W w') := hide (fun W hb => nsure_any W (HA0.out W hb))
  rw [hB]
  clear hA hO hW hFr
  cases hmay : mayV s.p with
  | false =>
    have HCk0 : Hid (∀ W, Below B w W → Calls Tryz.prog 13 #[.agg s.c] W fun e w' => e = .returned (.iface 82 (.int .i64 1)) ∧ Below W.heap.size W w') := hide (fun W hb => by have := HCk.out s W ok hb; rw [hmay] at this; exact this)
    go_enter Tryz.func6, Tryz.ntmps6
    go_wp2_with (first | ((with_reducible refine bx_nf B s ?_ ?_ ?_); exact hB; exact rfl; intro W hs0 hb hz) | (go_at_call 16; (with_reducible refine (HBo.out _ hb hz.out).mono ?_); rintro e W1 ⟨b, f, O, r, rfl, hM, hbc⟩; replace hs0 := (show RowAt W1 B s.c 33 from (hbc.block B (by omega)).trans hs0); replace hb := hb.trans (hbc.mono (by omega)); obtain ⟨NX, hNX0⟩ : ∃ n, W1.heap.size = n := ⟨_, rfl⟩; have hNX := hide hNX0; have hNB : B + 2 ≤ NX := hNX0 ▸ hM.base; have hnx : ¬ O NX := (fun e => absurd (hM.lt _ e) (by omega)); clear hNX0 hbc hz) | ((with_reducible refine al_Rz NX ?_ ?_); exact hNX.out; intro W hx hb' hz2; have hbc : Below W1.heap.size W1 W := (by rw [hNX.out]; exact hb'); replace hs0 := hs0.bl hbc; replace hb := hb.trans (hb'.mono (by omega)); replace hM := hM.bl hbc; clear hb' hbc) | ((with_reducible refine st_R NX _ r 8192 2 hx ?_ ?_ ?_ ?_); exact rfl; exact rfl; exact rfl; intro W hnew hoo; replace hs0 := hs0.only hoo (by omega); replace hM := hM.only hoo hnx; replace hb := hoo.bel _ _ (by omega) hb; clear hnew hoo hx) | ((with_reducible refine ld_nf B s hs0 ?_ ?_ ?_); exact rfl; exact rfl) | (go_at_call 7; (with_reducible refine (HGi.out _).mono ?_); rintro e W2 ⟨rfl, hbc⟩; replace hb := hb.trans (hbc.mono (by have := hM.base; omega)); replace hM := hM.bl hbc; clear hs0; obtain ⟨NS, hNS0⟩ : ∃ n, W2.heap.size = n := ⟨_, rfl⟩; have hNS := hide hNS0; have hSB : B + 2 ≤ NS := hNS0 ▸ hM.base; have hns : ¬ O NS := (fun e => absurd (hM.lt _ e) (by omega)); clear hNS0 hbc) | ((with_reducible refine al_nc NS ?_ ?_); exact hNS.out; intro W hr hb' hz2; have hbc : Below W2.heap.size W2 W := (by rw [hNS.out]; exact hb'); replace hb := hb.trans (hb'.mono (by omega)); replace hM := hM.bl hbc; clear hb' hbc hz2) | ((with_reducible refine st_nc NS _ s hr ?_ ?_ ?_); exact rfl; exact rfl; intro W hnew hoo; replace hM := hM.only hoo hns; replace hb := hoo.bel _ _ (by omega) hb; replace hr := hnew; clear hnew hoo) | ((with_reducible refine ld_nc NS s hr ?_ ?_ ?_); exact rfl; exact rfl) | (go_at_call 13; (with_reducible refine (HCk0.out _ hb).mono ?_); rintro e W ⟨rfl, hbc⟩; replace hb := hb.trans (hbc.mono (by have := hM.base; omega)); replace hr := hr.bl hbc; replace hM := hM.bl hbc; clear hbc) | (go_at_call 15; (with_reducible refine (HSu.out _ hb).mono ?_); rintro e W ⟨rfl, hbc⟩; replace hb := hb.trans (hbc.mono (by have := hM.base; omega)); clear hM hr hbc))
    go_ret
    exact ⟨rfl, hb⟩
  | true =>
    have HCk0 : Hid (∀ W, Below B w W → Calls Tryz.prog 13 #[.agg s.c] W fun e w' => e = .returned (.nilIface) ∧ Below W.heap.size W w') := hide (fun W hb => by have := HCk.out s W ok hb; rw [hmay] at this; exact this)
    go_enter Tryz.func6, Tryz.ntmps6
    go_wp2_with (first | ((with_reducible refine bx_nf B s ?_ ?_ ?_); exact hB; exact rfl; intro W hs0 hb hz) | (go_at_call 16; (with_reducible refine (HBo.out _ hb hz.out).mono ?_); rintro e W1 ⟨b, f, O, r, rfl, hM, hbc⟩; replace hs0 := (show RowAt W1 B s.c 33 from (hbc.block B (by omega)).trans hs0); replace hb := hb.trans (hbc.mono (by omega)); obtain ⟨NX, hNX0⟩ : ∃ n, W1.heap.size = n := ⟨_, rfl⟩; have hNX := hide hNX0; have hNB : B + 2 ≤ NX := hNX0 ▸ hM.base; have hnx : ¬ O NX := (fun e => absurd (hM.lt _ e) (by omega)); clear hNX0 hbc hz) | ((with_reducible refine al_Rz NX ?_ ?_); exact hNX.out; intro W hx hb' hz2; have hbc : Below W1.heap.size W1 W := (by rw [hNX.out]; exact hb'); replace hs0 := hs0.bl hbc; replace hb := hb.trans (hb'.mono (by omega)); replace hM := hM.bl hbc; clear hb' hbc) | ((with_reducible refine st_R NX _ r 8192 2 hx ?_ ?_ ?_ ?_); exact rfl; exact rfl; exact rfl; intro W hnew hoo; replace hs0 := hs0.only hoo (by omega); replace hM := hM.only hoo hnx; replace hb := hoo.bel _ _ (by omega) hb; clear hnew hoo hx) | ((with_reducible refine ld_nf B s hs0 ?_ ?_ ?_); exact rfl; exact rfl) | (go_at_call 7; (with_reducible refine (HGi.out _).mono ?_); rintro e W2 ⟨rfl, hbc⟩; replace hb := hb.trans (hbc.mono (by have := hM.base; omega)); replace hM := hM.bl hbc; clear hs0; obtain ⟨NS, hNS0⟩ : ∃ n, W2.heap.size = n := ⟨_, rfl⟩; have hNS := hide hNS0; have hSB : B + 2 ≤ NS := hNS0 ▸ hM.base; have hns : ¬ O NS := (fun e => absurd (hM.lt _ e) (by omega)); clear hNS0 hbc) | ((with_reducible refine al_nc NS ?_ ?_); exact hNS.out; intro W hr hb' hz2; have hbc : Below W2.heap.size W2 W := (by rw [hNS.out]; exact hb'); replace hb := hb.trans (hb'.mono (by omega)); replace hM := hM.bl hbc; clear hb' hbc hz2) | ((with_reducible refine st_nc NS _ s hr ?_ ?_ ?_); exact rfl; exact rfl; intro W hnew hoo; replace hM := hM.only hoo hns; replace hb := hoo.bel _ _ (by omega) hb; replace hr := hnew; clear hnew hoo) | ((with_reducible refine ld_nc NS s hr ?_ ?_ ?_); exact rfl; exact rfl) | (go_at_call 13; (with_reducible refine (HCk0.out _ hb).mono ?_); rintro e W ⟨rfl, hbc⟩; replace hb := hb.trans (hbc.mono (by have := hM.base; omega)); replace hr := hr.bl hbc; replace hM := hM.bl hbc; clear hbc))
    go_loopw [10] (fun iv wr => ∃ (i : Nat) (x : Nc) (f : Nat → Nat) (O : Nat → Prop), i ≤ 12 ∧ iv = .int .i64 (i : Nat) ∧ x.Ok ∧ mayV x.p = true ∧ RowAt wr NS x.c 41 ∧ RamB wr (B + 2) b 2 f (80 + 1600 * i) O ∧ Below B w wr ∧ ¬ O NS) (fun iv _ => 12 - (intOf iv).toNat)
    case atStart => exact ⟨0, s, f, O, by omega, rfl, ok, hmay, hr, hM.more (by omega), hb, hns⟩
    case round =>
      clear hr hM hb hns hmay HCk0 hnx hNX hNS
      (try clear ok HGi HBo hNB)
      obtain ⟨i, x, f, O, hi, rfl, ok, hmay, hr, hM, hb, hns⟩ := hrel
      by_cases l1 : i < fl
      · have t1 : decide ((i : Int) < (fl : Int)) = true := by simp; omega
        by_cases l2 : i < 12
        · have t2 : decide ((i : Int) < 12) = true := by simp; omega
          obtain ⟨fb, fo, ba, bcap, bl, hfe, hfbB, hfcell, hblc, hblm, hby⟩ := HFr.out.lies i l1
          subst hfe
          obtain ⟨c0, hc0⟩ : ∃ c0, 80 + 1600 * i = c0 := ⟨_, rfl⟩
          rw [hc0] at hM
          have hc1 : c0 ≤ 20000 := by omega
          obtain ⟨k1, k2, k3, k4⟩ := sendV_keep (p := 2) (f := f) ok
          have HSe : Hid (∀ W O1, RamB W (B + 2) b 2 f c0 O1 → Below B w W → Calls Tryz.prog 17 #[.agg x.c, .pointer (some ⟨b, 0, none⟩)] W fun e w' => ∃ ov ls O', e = .returned (.tuple #[.agg (sendV 2 f x).2.1.c, ov]) ∧ ls.map (·.1) = (sendV 2 f x).2.2 ∧ RamB w' (B + 2) b 2 (sendV 2 f x).1 (c0 + 1200) O' ∧ Went (B + 2) O1 O' W w' ∧ FrsAt w' W.heap.size O' ov ls) := hide (fun W O1 hM hb => nsend_any x ok hM (HA0.out W hb) hG (by omega))
          obtain ⟨⟨f2, y, fr⟩, hsv⟩ : ∃ z, sendV 2 f x = z := ⟨_, rfl⟩
          rw [hsv] at HSe k1 k2 k3 k4
          simp only at HSe k1 k2 k3 k4
          clear hsv
          have oky := k1.ok
          have hmy : mayV y.p = true := k1.may hmay
          have HCy : Hid (∀ W, Below B w W → Calls Tryz.prog 13 #[.agg y.c] W fun e w' => e = .returned .nilIface ∧ Below W.heap.size W w') := hide (fun W hb => by have := HCk.out y W oky hb; rw [hmy] at this; exact this)
          have t3 : (((y.lo : Nat) : Int) != ((x.lo : Nat) : Int)) = false := by rw [k2]; simp
          have K4 := hide k4
          have K3 := hide k3
          have HMY := hide hmy
          clear k1 k2 k3 k4 hmy
          go_wp2_with (first | ((with_reducible refine ld_nc NS x hr ?_ ?_ ?_); exact rfl; exact rfl) | (go_at_call 17; (with_reducible refine (HSe.out _ _ hM hb).mono ?_); rintro e W2 ⟨ov, ls, O2, rfl, hls, hM2, hW2, hY⟩; (have hns2 := hW2.no hr.lt hns); replace hr := hW2.row hr hns; replace hb := hb.trans (hW2.below.mono (by omega)); (replace hY := hY.lower hM.base); (obtain ⟨oa, oc, rfl, hoc, _⟩ := own_form hY.row); (have hll : ls.length ≤ 4 := by (have := K3.out; rw [← hls, List.length_map] at this; exact this)); (have t4 : decide ((4 : Int) < (ls.length : Int)) = false := decide_eq_false (by omega)); (obtain ⟨NY, hNY0⟩ : ∃ n, W2.heap.size = n := ⟨_, rfl⟩); have hNY := hide hNY0; (have hYB : B + 2 ≤ NY := hNY0 ▸ hM2.base); (have hSY : NS < NY := hNY0 ▸ hr.lt); (have hny : ¬ O2 NY := fun e => absurd (hM2.lt _ e) (by omega)); clear hNY0 hM hW2 hns; (have HLS := hide hls); clear hls) | ((with_reducible refine al_nc NY ?_ ?_); exact hNY.out; intro W hq hb' hz2; have hbc : Below W2.heap.size W2 W := (by rw [hNY.out]; exact hb'); replace hb := hb.trans (hb'.mono (by omega)); replace hM2 := hM2.bl hbc; replace hY := hY.bl hbc; replace hr := hr.bl hbc; clear hb' hbc hz2 hNY) | ((with_reducible refine st_nc NY _ y hq ?_ ?_ ?_); exact rfl; exact rfl; intro W hnew hoo; replace hM2 := hM2.only hoo hny; replace hY := hY.only hoo hq (by decide) (by decide); replace hr := hr.only hoo (by omega); replace hb := hoo.bel _ _ (by omega) hb; replace hq := hnew; clear hnew hoo) | ((with_reducible refine ld_nc NY y hq ?_ ?_ ?_); exact rfl; exact rfl) | (go_at_call 13; (with_reducible refine (HCy.out _ hb).mono ?_); rintro e W ⟨rfl, hbc⟩; replace hb := hb.trans (hbc.mono (by have := hM2.base; omega)); replace hr := hr.bl hbc; replace hq := hq.bl hbc; replace hM2 := hM2.bl hbc; replace hY := hY.bl hbc; clear hbc) | ((with_reducible refine ld_nlo NY y _ hq ?_ ?_ ?_); exact rfl; exact rfl) | ((with_reducible refine ld_nlo NS x _ hr ?_ ?_ ?_); exact rfl; exact rfl))
          have hMid : NMid w B NS NY b x y f2 (c0 + 1200) O2 (.slice oa ls.length oc) ls _ := ⟨hr, hq, hM2, hY, hb, hns2, hny⟩
          clear hr hq hM2 hY hb hns2 hny HSe HCy t3 t4
          go_loopw [13] (fun kv ws => ∃ k : Nat, k ≤ ls.length ∧ kv = .int .i64 (k : Nat) ∧ NMid w B NS NY b x y f2 (c0 + 1200) O2 (.slice oa ls.length oc) ls ws) (fun kv _ => ls.length - (intOf kv).toNat)
          case atStart => exact ⟨0, Nat.zero_le _, rfl, hMid⟩
          case round =>
            clear hMid
            obtain ⟨k, hk, rfl, hm⟩ := hrel
            by_cases hkn : k < ls.length
            · have t5 : decide ((k : Int) < (ls.length : Int)) = true := by simp; omega
              have l5 : (k : Int) < (ls.length : Int) := by omega
              obtain ⟨⟨q, dv⟩, hqk⟩ : ∃ x, ls[k]? = some x := ⟨_, List.getElem?_eq_getElem hkn⟩
              obtain ⟨ga, oc', hoe, _, _, _, _, hcl⟩ := own_pos hm.frs.row (by omega)
              obtain ⟨rfl, rfl⟩ : oa = some ⟨ga, 0, none⟩ ∧ oc = oc' := by injection hoe with e1 e2 e3; exact ⟨e1, e3⟩
              have hck := frs_cell hm.frs k hqk
              obtain ⟨da, dc, hdv⟩ := fr_len (hm.frs.dat _ (List.mem_of_getElem? hqk))
              simp only at hdv
              subst hdv
              obtain ⟨q1, q2⟩ := K4.out q (by rw [← HLS.out]; exact List.mem_map.2 ⟨_, List.mem_of_getElem? hqk, rfl⟩)
              have t6 : decide ((q.length : Int) < 1) = false := decide_eq_false (by omega)
              have t7 : decide ((1514 : Int) < (q.length : Int)) = false := decide_eq_false (by omega)
              clear hoe hcl hqk q1 q2
              go_wp2
              (try simp only [Act.put])
              go_roundw
              case rel => exact ⟨k + 1, hkn, by go_num, hm⟩
              case measure => simp [intOf]; omega
            · obtain rfl : k = ls.length := by omega
              have t5 : decide ((ls.length : Int) < (ls.length : Int)) = false := by simp
              obtain ⟨hr, hq, hM, hY, hb, hns, hny⟩ := hm
              clear hY HLS K3 K4 hll hoc
              have hfc := (hb.cell (p := ⟨fb, fo + i, none⟩) hfbB).trans hfcell
              have HFC : Hid (∀ W, Below B w W → W.cell? ⟨fb, fo + i, none⟩ = some (.slice ba bl.length bcap)) := hide (fun W hb => (hb.cell (p := ⟨fb, fo + i, none⟩) hfbB).trans hfcell)
              have HTk : Hid (∀ W O1, RamB W (B + 2) b 2 f2 (c0 + 1200) O1 → Below B w W → Calls Tryz.prog 20 #[.agg y.c, .pointer (some ⟨b, 0, none⟩), .slice ba bl.length bcap] W fun e w' => e = .returned (.tuple #[.agg (takeV 2 f2 y bl).2.1.c, .bool (takeV 2 f2 y bl).2.2.1, errR (takeV 2 f2 y bl).2.2.2]) ∧ ∃ O', RamB w' (B + 2) b 2 (takeV 2 f2 y bl).1 (c0 + 1500) O' ∧ Went (B + 2) O1 O' W w') := hide (fun W O1 hM hb => by
                have := ntake_any y oky bl bcap ba hM (HA0.out W hb) hG ((hby.bel hb).up (by omega)) hblc hblm (by omega)
                exact this)
              have hKeep := hide (fun h => takeV_keep (p := 2) (f := f2) (s := y) (b := bl) oky h)
              have hNo := hide (fun h => takeV_no (p := 2) (f := f2) (s := y) (b := bl) h)
              obtain ⟨⟨f3, z, isv, en⟩, htv⟩ : ∃ z, takeV 2 f2 y bl = z := ⟨_, rfl⟩
              rw [htv] at HTk hKeep hNo
              simp only at HTk hKeep hNo
              obtain ⟨ev, hev⟩ : ∃ v, errR en = v := ⟨_, rfl⟩
              rw [hev] at HTk
              have HEV := hide hev
              obtain ⟨M, hM0⟩ : ∃ M, bl.length = M := ⟨_, rfl⟩
              have HML := hide hM0
              rw [hM0] at HTk hfc HFC hKeep hNo
              have i1 : (i : Int) < (fl : Int) := by omega
              clear htv hev hfcell hblc hblm hby hM0
              go_wp2_with (fail)
              refine wp_region_held_drew (S := (fun V => RowAt V NY y.c 41 ∧ V.cell? ⟨fb, fo + i, none⟩ = some (.slice ba M bcap))) (by kernel_rfl) ?_ (fun hHeld => ?_)
              · exact ⟨hq.dr, hfc⟩
              replace hr := hr.dr
              replace hM := hM.dr
              replace hb := hb.drew
              generalize World.drew _ = V at hHeld hr hM hb ⊢
              clear hq hfc
              refine wpAnyH_take (i := 0) (oi := ?oi1) (v := .agg y.c) ?hi1 (by kernel_rfl) (by kernel_rfl) (by kernel_rfl) ?hQ1 ?hy1 (by assumption) ?rest1
              case hi1 => (simp only [List.getElem?_toArray, List.getElem?_cons_zero]; rfl)
              case hQ1 => exact fun _ _ _ h => h
              case hy1 => exact y_nc NY y (fun V hV => hV.1) rfl rfl
              simp only [Act.put, List.setIfInBounds_toArray, List.set_cons_zero, List.set_cons_succ]
              refine wpAnyH_take (i := 1) (oi := ?oi2) (v := .pointer (some ⟨b, 0, none⟩)) ?hi2 (by kernel_rfl) (by kernel_rfl) (by kernel_rfl) ?hQ2 ?hy2 (by assumption) ?rest2
              case hi2 => (simp only [List.getElem?_toArray, List.getElem?_cons_zero, List.getElem?_cons_succ]; rfl)
              case hQ2 => exact fun _ _ _ h => h
              case hy2 => exact Or.inl ⟨by rfl, by (intro w hSw; (try dsimp only at hSw); go_simp )⟩
              simp only [Act.put, List.setIfInBounds_toArray, List.set_cons_zero, List.set_cons_succ]
              refine wpAnyH_take (i := 2) (oi := ?oi3) (v := .slice (some ⟨fb, fo, none⟩) fl fc) ?hi3 (by kernel_rfl) (by kernel_rfl) (by kernel_rfl) ?hQ3 ?hy3 (by assumption) ?rest3
              case hi3 => (simp only [List.getElem?_toArray, List.getElem?_cons_zero, List.getElem?_cons_succ]; rfl)
              case hQ3 => exact fun _ _ _ h => h
              case hy3 => exact Or.inl ⟨by rfl, by (intro w hSw; (try dsimp only at hSw); go_simp )⟩
              simp only [Act.put, List.setIfInBounds_toArray, List.set_cons_zero, List.set_cons_succ]
              refine wpAnyH_take (i := 3) (oi := ?oi4) (v := .int .i64 (i : Nat)) ?hi4 (by kernel_rfl) (by kernel_rfl) (by kernel_rfl) ?hQ4 ?hy4 (by assumption) ?rest4
              case hi4 => (simp only [List.getElem?_toArray, List.getElem?_cons_zero, List.getElem?_cons_succ]; rfl)
              case hQ4 => exact fun _ _ _ h => h
              case hy4 => exact Or.inl ⟨by rfl, by (intro w hSw; (try dsimp only at hSw); go_simp )⟩
              simp only [Act.put, List.setIfInBounds_toArray, List.set_cons_zero, List.set_cons_succ]
              refine wpAnyH_take (i := 4) (oi := ?oi5) (v := .pointer (some ⟨fb, fo + i, none⟩)) ?hi5 (by kernel_rfl) (by kernel_rfl) (by kernel_rfl) ?hQ5 ?hy5 (by assumption) ?rest5
              case hi5 => (simp only [List.getElem?_toArray, List.getElem?_cons_zero, List.getElem?_cons_succ]; rfl)
              case hQ5 => exact fun _ _ _ h => h
              case hy5 => exact Or.inl ⟨by rfl, by (intro w hSw; (try dsimp only at hSw); go_simp )⟩
              simp only [Act.put, List.setIfInBounds_toArray, List.set_cons_zero, List.set_cons_succ]
              refine wpAnyH_take (i := 5) (oi := ?oi6) (v := .slice ba M bcap) ?hi6 (by kernel_rfl) (by kernel_rfl) (by kernel_rfl) ?hQ6 ?hy6 (by assumption) ?rest6
              case hi6 => (simp only [List.getElem?_toArray, List.getElem?_cons_zero, List.getElem?_cons_succ]; rfl)
              case hQ6 => exact fun _ _ _ h => h
              case hy6 => exact y_cell fb (fo + i) _ (fun V hV => hV.2) _ Tryz.underlying60 rfl rfl
              simp only [Act.put, List.setIfInBounds_toArray, List.set_cons_zero, List.set_cons_succ]
              refine wpAnyH_ready (rs := [6, 11]) (by kernel_rfl) (by simp) ?_
              refine AllReadyH.cons (o := ?oi7) ?hi7 (fun K hK => ?b7) (AllReadyH.cons (o := ?oi8) ?hi8 (fun K hK => ?b8) (AllReadyH.nil))
              case hi7 => (simp only [List.getElem?_toArray, List.getElem?_cons_zero, List.getElem?_cons_succ]; rfl)
              case hi8 => (simp only [List.getElem?_toArray, List.getElem?_cons_zero, List.getElem?_cons_succ]; rfl)
              case b7 =>
                rw [if_pos (by rfl)]
                go_simp
                (with_reducible refine (HTk.out _ _ hM hb).mono ?_)
                rintro e V2 ⟨rfl, O4, hM2, hW2⟩
                have hns2 := hW2.no hr.lt hns
                have hny2 := hW2.no hHeld.1.lt hny
                have hH2 := hide (And.intro (hW2.row hHeld.1 hny) (HFC.out _ (hb.trans (hW2.below.mono (by omega)))))
                replace hr := hW2.row hr hns
                replace hb := hb.trans (hW2.below.mono (by omega))
                (try (have hzO2 := hW2.no hz.lt hzO); replace hz := hW2.row hz hzO; (replace hzO := hzO2); clear hzO2)
                replace hM := hM2
                replace hns := hns2
                replace hny := hny2
                clear hM2 hW2 hHeld hns2 hny2
                go_simp
                refine hK.out _ _ ?_ (fun hHeld => ?_)
                · exact hH2.out
                clear hK K
                clear hH2
                refine wpAnyH_take (i := 7) (oi := ?oi9) (v := .tuple #[.agg z.c, .bool isv, ev]) ?hi9 (by kernel_rfl) (by kernel_rfl) (by kernel_rfl) ?hQ9 ?hy9 (by assumption) ?rest9
                case hi9 => (simp only [List.getElem?_toArray, List.getElem?_cons_zero, List.getElem?_cons_succ]; rfl)
                case hQ9 => exact fun _ _ _ h => h
                case hy9 => exact Or.inl ⟨by rfl, by (intro w hSw; (try dsimp only at hSw); go_simp )⟩
                simp only [Act.put, List.setIfInBounds_toArray, List.set_cons_zero, List.set_cons_succ]
                refine wpAnyH_take (i := 8) (oi := ?oi10) (v := .agg z.c) ?hi10 (by kernel_rfl) (by kernel_rfl) (by kernel_rfl) ?hQ10 ?hy10 (by assumption) ?rest10
                case hi10 => (simp only [List.getElem?_toArray, List.getElem?_cons_zero, List.getElem?_cons_succ]; rfl)
                case hQ10 => exact fun _ _ _ h => h
                case hy10 => exact Or.inl ⟨by rfl, by (intro w hSw; (try dsimp only at hSw); go_simp )⟩
                simp only [Act.put, List.setIfInBounds_toArray, List.set_cons_zero, List.set_cons_succ]
                refine wpAnyH_take (i := 9) (oi := ?oi11) (v := .bool isv) ?hi11 (by kernel_rfl) (by kernel_rfl) (by kernel_rfl) ?hQ11 ?hy11 (by assumption) ?rest11
                case hi11 => (simp only [List.getElem?_toArray, List.getElem?_cons_zero, List.getElem?_cons_succ]; rfl)
                case hQ11 => exact fun _ _ _ h => h
                case hy11 => exact Or.inl ⟨by rfl, by (intro w hSw; (try dsimp only at hSw); go_simp )⟩
                simp only [Act.put, List.setIfInBounds_toArray, List.set_cons_zero, List.set_cons_succ]
                refine wpAnyH_take (i := 10) (oi := ?oi12) (v := ev) ?hi12 (by kernel_rfl) (by kernel_rfl) (by kernel_rfl) ?hQ12 ?hy12 (by assumption) ?rest12
                case hi12 => (simp only [List.getElem?_toArray, List.getElem?_cons_zero, List.getElem?_cons_succ]; rfl)
                case hQ12 => exact fun _ _ _ h => h
                case hy12 => exact Or.inl ⟨by rfl, by (intro w hSw; (try dsimp only at hSw); go_simp )⟩
                simp only [Act.put, List.setIfInBounds_toArray, List.set_cons_zero, List.set_cons_succ]
                refine wpAnyH_ready (rs := [11]) (by kernel_rfl) (by simp) ?_
                refine AllReadyH.cons (o := ?oi13) ?hi13 (fun K hK => ?_) AllReadyH.nil
                case hi13 => (simp only [List.getElem?_toArray, List.getElem?_cons_zero, List.getElem?_cons_succ]; rfl)
                obtain ⟨NZ, hNZ0⟩ : ∃ n, V2.heap.size = n := ⟨_, rfl⟩
                have hzO := fun e => (absurd (hM.lt NZ e) (by omega) : False)
                have hYZ : NY < NZ := hNZ0 ▸ hHeld.1.lt
                rw [if_pos (by rfl)]
                (with_reducible refine s_alc NZ hNZ0 zeroNc.c zero_nc ?_)
                intro V3 hz hb' hz4
                have hbc := hNZ0 ▸ hb'
                have hH2 := hide (And.intro (hHeld.1.bl hbc) (cell_bl hbc hHeld.2))
                replace hr := hr.bl hbc
                replace hb := hb.trans (hbc.mono (by have := hM.base; omega))
                replace hM := hM.bl hbc
                clear hHeld hbc hb' hz4 hNZ0
                refine hK.out _ _ ?_ (fun hHeld => ?_)
                · exact hH2.out
                clear hK K
                clear hH2
                refine wpAnyH_ready (rs := [12]) (by kernel_rfl) (by simp) ?_
                refine AllReadyH.cons (o := ?oi14) ?hi14 (fun K hK => ?_) AllReadyH.nil
                case hi14 => (simp only [List.getElem?_toArray, List.getElem?_cons_zero, List.getElem?_cons_succ]; rfl)
                rw [if_pos (by rfl)]
                (with_reducible refine s_nc NZ _ z hz ?_ ?_ ?_)
                · exact rfl
                · exact rfl
                intro V5 hnew ho
                have hH2 := hide (And.intro (hHeld.1.only ho (by omega)) (HFC.out _ (ho.bel _ _ (by omega) hb)))
                replace hr := hr.only ho (by omega)
                replace hM := hM.only ho hzO
                replace hb := ho.bel _ _ (by omega) hb
                replace hz := hnew
                clear hHeld ho hnew
                refine hK.out _ _ ?_ (fun hHeld => ?_)
                · exact hH2.out
                clear hK K
                clear hH2
                refine wpAnyH_take (i := 13) (oi := ?oi15) (v := .bool isv) ?hi15 (by kernel_rfl) (by kernel_rfl) (by kernel_rfl) ?hQ15 ?hy15 (by assumption) ?rest15
                case hi15 => (simp only [List.getElem?_toArray, List.getElem?_cons_zero, List.getElem?_cons_succ]; rfl)
                case hQ15 => exact fun _ _ _ h => h
                case hy15 => exact Or.inl ⟨by rfl, by (intro w hSw; (try dsimp only at hSw); go_simp )⟩
                simp only [Act.put, List.setIfInBounds_toArray, List.set_cons_zero, List.set_cons_succ]
                refine wpAnyH_take (i := 14) (oi := ?oi16) (v := ev) ?hi16 (by kernel_rfl) (by kernel_rfl) (by kernel_rfl) ?hQ16 ?hy16 (by assumption) ?rest16
                case hi16 => (simp only [List.getElem?_toArray, List.getElem?_cons_zero, List.getElem?_cons_succ]; rfl)
                case hQ16 => exact fun _ _ _ h => h
                case hy16 => exact Or.inl ⟨by rfl, by (intro w hSw; (try dsimp only at hSw); go_simp )⟩
                simp only [Act.put, List.setIfInBounds_toArray, List.set_cons_zero, List.set_cons_succ]
                refine wpAnyH_done (by kernel_rfl) ?_ _
                obtain ⟨hq, hfc⟩ := hHeld
                cases hfr : isFr (M : Int) with
                | false =>
                  have hn := hNo.out hfr
                  obtain ⟨rfl, rfl, rfl, rfl⟩ : f2 = f3 ∧ zeroNc = z ∧ false = isv ∧ 2 = en := by cases hn; exact ⟨rfl, rfl, rfl, rfl⟩
                  obtain rfl : Value.iface 82 (.int .i64 2) = ev := HEV.out
                  clear hn
                  by_cases hm1 : 1 ≤ M
                  · have t8 : decide ((1 : Int) ≤ (M : Int)) = true := decide_eq_true (by omega)
                    have t9 : decide ((M : Int) ≤ 1514) = false := decide_eq_false (fun q => by simp [isFr] at hfr; omega)
                    go_wp2
                    (try simp only [Act.put])
                    go_roundw
                    case rel => exact ⟨i + 1, x, f2, _, l2, by go_num, ok, hmay, hr, hM.more (by omega), hb, hns⟩
                    case measure => simp [intOf]; omega
                  · have t8 : decide ((1 : Int) ≤ (M : Int)) = false := decide_eq_false (by omega)
                    go_wp2
                    (try simp only [Act.put])
                    go_roundw
                    case rel => exact ⟨i + 1, x, f2, _, l2, by go_num, ok, hmay, hr, hM.more (by omega), hb, hns⟩
                    case measure => simp [intOf]; omega
                | true =>
                  obtain ⟨j1, rfl, j3⟩ := hKeep.out hfr
                  obtain rfl : Value.nilIface = ev := HEV.out
                  have okz := j1.ok
                  have hmz := j1.may (HMY.out)
                  have HCz : Hid (∀ W, Below B w W → Calls Tryz.prog 13 #[.agg z.c] W fun e w' => e = .returned .nilIface ∧ Below W.heap.size W w') := hide (fun W hb => by have := HCk.out z W okz hb; rw [hmz] at this; exact this)
                  clear hfr
                  rcases j3 with ⟨rfl, j5⟩ | ⟨rfl, j5⟩
                  · have t8 : (((z.lo : Nat) : Int) == ((y.lo : Nat) : Int)) = true := by rw [j5]; simp
                    clear j5 j1
                    go_wp2_with (first | ((with_reducible refine ld_nc NZ z hz ?_ ?_ ?_); exact rfl; exact rfl) | (go_at_call 13; (with_reducible refine (HCz.out _ hb).mono ?_); rintro e W ⟨rfl, hbc⟩; replace hb := hb.trans (hbc.mono (by have := hM.base; omega)); replace hr := hr.bl hbc; replace hq := hq.bl hbc; replace hz := hz.bl hbc; replace hM := hM.bl hbc; clear hbc) | ((with_reducible refine ld_nlo NZ z _ hz ?_ ?_ ?_); exact rfl; exact rfl) | ((with_reducible refine ld_nlo NY y _ hq ?_ ?_ ?_); exact rfl; exact rfl) | ((with_reducible refine st_nc NS _ z hr ?_ ?_ ?_); exact rfl; exact rfl; intro W hnew hoo; replace hM := hM.only hoo hns; replace hq := hq.only hoo (by omega); replace hz := hz.only hoo (by omega); replace hb := hoo.bel _ _ (by omega) hb; replace hr := hnew; clear hnew hoo))
                    (try simp only [Act.put])
                    go_roundw
                    case rel => exact ⟨i + 1, z, f3, _, l2, by go_num, okz, hmz, hr, hM.more (by omega), hb, hns⟩
                    case measure => simp [intOf]; omega
                  · have hylo := oky.lo
                    have t8 : (((z.lo : Nat) : Int) == ((y.lo : Nat) : Int)) = false := by rw [beq_eq_false_iff_ne]; omega
                    have t9 : Hid (IntKind.u32.wrap (((y.lo : Nat) : Int) + 1) = ((z.lo : Nat) : Int)) := hide (by rw [IntKind.wrap_u32]; omega)
                    have t10 : (((z.lo : Nat) : Int) != IntKind.u32.wrap (((y.lo : Nat) : Int) + 1)) = false := by rw [t9.out]; simp
                    have t11 : (((z.lo : Nat) : Int) != (((y.lo : Nat) : Int) + 1) % 4294967296) = false := by rw [j5]; simp
                    clear j5 j1 hylo
                    go_wp2_with (first | ((with_reducible refine ld_nc NZ z hz ?_ ?_ ?_); exact rfl; exact rfl) | (go_at_call 13; (with_reducible refine (HCz.out _ hb).mono ?_); rintro e W ⟨rfl, hbc⟩; replace hb := hb.trans (hbc.mono (by have := hM.base; omega)); replace hr := hr.bl hbc; replace hq := hq.bl hbc; replace hz := hz.bl hbc; replace hM := hM.bl hbc; clear hbc) | ((with_reducible refine ld_nlo NZ z _ hz ?_ ?_ ?_); exact rfl; exact rfl) | ((with_reducible refine ld_nlo NY y _ hq ?_ ?_ ?_); exact rfl; exact rfl) | ((with_reducible refine st_nc NS _ z hr ?_ ?_ ?_); exact rfl; exact rfl; intro W hnew hoo; replace hM := hM.only hoo hns; replace hq := hq.only hoo (by omega); replace hz := hz.only hoo (by omega); replace hb := hoo.bel _ _ (by omega) hb; replace hr := hnew; clear hnew hoo))
                    (try simp only [Act.put])
                    go_roundw
                    case rel => exact ⟨i + 1, z, f3, _, l2, by go_num, okz, hmz, hr, hM.more (by omega), hb, hns⟩
                    case measure => simp [intOf]; omega
              case b8 =>
                obtain ⟨NZ, hNZ0⟩ : ∃ n, V.heap.size = n := ⟨_, rfl⟩
                have hzO := fun e => (absurd (hM.lt NZ e) (by omega) : False)
                have hYZ : NY < NZ := hNZ0 ▸ hHeld.1.lt
                rw [if_pos (by rfl)]
                (with_reducible refine s_alc NZ hNZ0 zeroNc.c zero_nc ?_)
                intro V3 hz hb' hz4
                have hbc := hNZ0 ▸ hb'
                have hH2 := hide (And.intro (hHeld.1.bl hbc) (cell_bl hbc hHeld.2))
                replace hr := hr.bl hbc
                replace hb := hb.trans (hbc.mono (by have := hM.base; omega))
                replace hM := hM.bl hbc
                clear hHeld hbc hb' hz4 hNZ0
                refine hK.out _ _ ?_ (fun hHeld => ?_)
                · exact hH2.out
                clear hK K
                clear hH2
                refine wpAnyH_ready (rs := [6]) (by kernel_rfl) (by simp) ?_
                refine AllReadyH.cons (o := ?oi17) ?hi17 (fun K hK => ?_) AllReadyH.nil
                case hi17 => (simp only [List.getElem?_toArray, List.getElem?_cons_zero, List.getElem?_cons_succ]; rfl)
                rw [if_pos (by rfl)]
                go_simp
                (with_reducible refine (HTk.out _ _ hM hb).mono ?_)
                rintro e V2 ⟨rfl, O4, hM2, hW2⟩
                have hns2 := hW2.no hr.lt hns
                have hny2 := hW2.no hHeld.1.lt hny
                have hH2 := hide (And.intro (hW2.row hHeld.1 hny) (HFC.out _ (hb.trans (hW2.below.mono (by omega)))))
                replace hr := hW2.row hr hns
                replace hb := hb.trans (hW2.below.mono (by omega))
                (try (have hzO2 := hW2.no hz.lt hzO); replace hz := hW2.row hz hzO; (replace hzO := hzO2); clear hzO2)
                replace hM := hM2
                replace hns := hns2
                replace hny := hny2
                clear hM2 hW2 hHeld hns2 hny2
                go_simp
                refine hK.out _ _ ?_ (fun hHeld => ?_)
                · exact hH2.out
                clear hK K
                clear hH2
                refine wpAnyH_take (i := 7) (oi := ?oi18) (v := .tuple #[.agg z.c, .bool isv, ev]) ?hi18 (by kernel_rfl) (by kernel_rfl) (by kernel_rfl) ?hQ18 ?hy18 (by assumption) ?rest18
                case hi18 => (simp only [List.getElem?_toArray, List.getElem?_cons_zero, List.getElem?_cons_succ]; rfl)
                case hQ18 => exact fun _ _ _ h => h
                case hy18 => exact Or.inl ⟨by rfl, by (intro w hSw; (try dsimp only at hSw); go_simp )⟩
                simp only [Act.put, List.setIfInBounds_toArray, List.set_cons_zero, List.set_cons_succ]
                refine wpAnyH_take (i := 8) (oi := ?oi19) (v := .agg z.c) ?hi19 (by kernel_rfl) (by kernel_rfl) (by kernel_rfl) ?hQ19 ?hy19 (by assumption) ?rest19
                case hi19 => (simp only [List.getElem?_toArray, List.getElem?_cons_zero, List.getElem?_cons_succ]; rfl)
                case hQ19 => exact fun _ _ _ h => h
                case hy19 => exact Or.inl ⟨by rfl, by (intro w hSw; (try dsimp only at hSw); go_simp )⟩
                simp only [Act.put, List.setIfInBounds_toArray, List.set_cons_zero, List.set_cons_succ]
                refine wpAnyH_take (i := 9) (oi := ?oi20) (v := .bool isv) ?hi20 (by kernel_rfl) (by kernel_rfl) (by kernel_rfl) ?hQ20 ?hy20 (by assumption) ?rest20
                case hi20 => (simp only [List.getElem?_toArray, List.getElem?_cons_zero, List.getElem?_cons_succ]; rfl)
                case hQ20 => exact fun _ _ _ h => h
                case hy20 => exact Or.inl ⟨by rfl, by (intro w hSw; (try dsimp only at hSw); go_simp )⟩
                simp only [Act.put, List.setIfInBounds_toArray, List.set_cons_zero, List.set_cons_succ]
                refine wpAnyH_take (i := 10) (oi := ?oi21) (v := ev) ?hi21 (by kernel_rfl) (by kernel_rfl) (by kernel_rfl) ?hQ21 ?hy21 (by assumption) ?rest21
                case hi21 => (simp only [List.getElem?_toArray, List.getElem?_cons_zero, List.getElem?_cons_succ]; rfl)
                case hQ21 => exact fun _ _ _ h => h
                case hy21 => exact Or.inl ⟨by rfl, by (intro w hSw; (try dsimp only at hSw); go_simp )⟩
                simp only [Act.put, List.setIfInBounds_toArray, List.set_cons_zero, List.set_cons_succ]
                refine wpAnyH_ready (rs := [12]) (by kernel_rfl) (by simp) ?_
                refine AllReadyH.cons (o := ?oi22) ?hi22 (fun K hK => ?_) AllReadyH.nil
                case hi22 => (simp only [List.getElem?_toArray, List.getElem?_cons_zero, List.getElem?_cons_succ]; rfl)
                rw [if_pos (by rfl)]
                (with_reducible refine s_nc NZ _ z hz ?_ ?_ ?_)
                · exact rfl
                · exact rfl
                intro V5 hnew ho
                have hH2 := hide (And.intro (hHeld.1.only ho (by omega)) (HFC.out _ (ho.bel _ _ (by omega) hb)))
                replace hr := hr.only ho (by omega)
                replace hM := hM.only ho hzO
                replace hb := ho.bel _ _ (by omega) hb
                replace hz := hnew
                clear hHeld ho hnew
                refine hK.out _ _ ?_ (fun hHeld => ?_)
                · exact hH2.out
                clear hK K
                clear hH2
                refine wpAnyH_take (i := 13) (oi := ?oi23) (v := .bool isv) ?hi23 (by kernel_rfl) (by kernel_rfl) (by kernel_rfl) ?hQ23 ?hy23 (by assumption) ?rest23
                case hi23 => (simp only [List.getElem?_toArray, List.getElem?_cons_zero, List.getElem?_cons_succ]; rfl)
                case hQ23 => exact fun _ _ _ h => h
                case hy23 => exact Or.inl ⟨by rfl, by (intro w hSw; (try dsimp only at hSw); go_simp )⟩
                simp only [Act.put, List.setIfInBounds_toArray, List.set_cons_zero, List.set_cons_succ]
                refine wpAnyH_take (i := 14) (oi := ?oi24) (v := ev) ?hi24 (by kernel_rfl) (by kernel_rfl) (by kernel_rfl) ?hQ24 ?hy24 (by assumption) ?rest24
                case hi24 => (simp only [List.getElem?_toArray, List.getElem?_cons_zero, List.getElem?_cons_succ]; rfl)
                case hQ24 => exact fun _ _ _ h => h
                case hy24 => exact Or.inl ⟨by rfl, by (intro w hSw; (try dsimp only at hSw); go_simp )⟩
                simp only [Act.put, List.setIfInBounds_toArray, List.set_cons_zero, List.set_cons_succ]
                refine wpAnyH_done (by kernel_rfl) ?_ _
                obtain ⟨hq, hfc⟩ := hHeld
                cases hfr : isFr (M : Int) with
                | false =>
                  have hn := hNo.out hfr
                  obtain ⟨rfl, rfl, rfl, rfl⟩ : f2 = f3 ∧ zeroNc = z ∧ false = isv ∧ 2 = en := by cases hn; exact ⟨rfl, rfl, rfl, rfl⟩
                  obtain rfl : Value.iface 82 (.int .i64 2) = ev := HEV.out
                  clear hn
                  by_cases hm1 : 1 ≤ M
                  · have t8 : decide ((1 : Int) ≤ (M : Int)) = true := decide_eq_true (by omega)
                    have t9 : decide ((M : Int) ≤ 1514) = false := decide_eq_false (fun q => by simp [isFr] at hfr; omega)
                    go_wp2
                    (try simp only [Act.put])
                    go_roundw
                    case rel => exact ⟨i + 1, x, f2, _, l2, by go_num, ok, hmay, hr, hM.more (by omega), hb, hns⟩
                    case measure => simp [intOf]; omega
                  · have t8 : decide ((1 : Int) ≤ (M : Int)) = false := decide_eq_false (by omega)
                    go_wp2
                    (try simp only [Act.put])
                    go_roundw
                    case rel => exact ⟨i + 1, x, f2, _, l2, by go_num, ok, hmay, hr, hM.more (by omega), hb, hns⟩
                    case measure => simp [intOf]; omega
                | true =>
                  obtain ⟨j1, rfl, j3⟩ := hKeep.out hfr
                  obtain rfl : Value.nilIface = ev := HEV.out
                  have okz := j1.ok
                  have hmz := j1.may (HMY.out)
                  have HCz : Hid (∀ W, Below B w W → Calls Tryz.prog 13 #[.agg z.c] W fun e w' => e = .returned .nilIface ∧ Below W.heap.size W w') := hide (fun W hb => by have := HCk.out z W okz hb; rw [hmz] at this; exact this)
                  clear hfr
                  rcases j3 with ⟨rfl, j5⟩ | ⟨rfl, j5⟩
                  · have t8 : (((z.lo : Nat) : Int) == ((y.lo : Nat) : Int)) = true := by rw [j5]; simp
                    clear j5 j1
                    go_wp2_with (first | ((with_reducible refine ld_nc NZ z hz ?_ ?_ ?_); exact rfl; exact rfl) | (go_at_call 13; (with_reducible refine (HCz.out _ hb).mono ?_); rintro e W ⟨rfl, hbc⟩; replace hb := hb.trans (hbc.mono (by have := hM.base; omega)); replace hr := hr.bl hbc; replace hq := hq.bl hbc; replace hz := hz.bl hbc; replace hM := hM.bl hbc; clear hbc) | ((with_reducible refine ld_nlo NZ z _ hz ?_ ?_ ?_); exact rfl; exact rfl) | ((with_reducible refine ld_nlo NY y _ hq ?_ ?_ ?_); exact rfl; exact rfl) | ((with_reducible refine st_nc NS _ z hr ?_ ?_ ?_); exact rfl; exact rfl; intro W hnew hoo; replace hM := hM.only hoo hns; replace hq := hq.only hoo (by omega); replace hz := hz.only hoo (by omega); replace hb := hoo.bel _ _ (by omega) hb; replace hr := hnew; clear hnew hoo))
                    (try simp only [Act.put])
                    go_roundw
                    case rel => exact ⟨i + 1, z, f3, _, l2, by go_num, okz, hmz, hr, hM.more (by omega), hb, hns⟩
                    case measure => simp [intOf]; omega
                  · have hylo := oky.lo
                    have t8 : (((z.lo : Nat) : Int) == ((y.lo : Nat) : Int)) = false := by rw [beq_eq_false_iff_ne]; omega
                    have t9 : Hid (IntKind.u32.wrap (((y.lo : Nat) : Int) + 1) = ((z.lo : Nat) : Int)) := hide (by rw [IntKind.wrap_u32]; omega)
                    have t10 : (((z.lo : Nat) : Int) != IntKind.u32.wrap (((y.lo : Nat) : Int) + 1)) = false := by rw [t9.out]; simp
                    have t11 : (((z.lo : Nat) : Int) != (((y.lo : Nat) : Int) + 1) % 4294967296) = false := by rw [j5]; simp
                    clear j5 j1 hylo
                    go_wp2_with (first | ((with_reducible refine ld_nc NZ z hz ?_ ?_ ?_); exact rfl; exact rfl) | (go_at_call 13; (with_reducible refine (HCz.out _ hb).mono ?_); rintro e W ⟨rfl, hbc⟩; replace hb := hb.trans (hbc.mono (by have := hM.base; omega)); replace hr := hr.bl hbc; replace hq := hq.bl hbc; replace hz := hz.bl hbc; replace hM := hM.bl hbc; clear hbc) | ((with_reducible refine ld_nlo NZ z _ hz ?_ ?_ ?_); exact rfl; exact rfl) | ((with_reducible refine ld_nlo NY y _ hq ?_ ?_ ?_); exact rfl; exact rfl) | ((with_reducible refine st_nc NS _ z hr ?_ ?_ ?_); exact rfl; exact rfl; intro W hnew hoo; replace hM := hM.only hoo hns; replace hq := hq.only hoo (by omega); replace hz := hz.only hoo (by omega); replace hb := hoo.bel _ _ (by omega) hb; replace hr := hnew; clear hnew hoo))
                    (try simp only [Act.put])
                    go_roundw
                    case rel => exact ⟨i + 1, z, f3, _, l2, by go_num, okz, hmz, hr, hM.more (by omega), hb, hns⟩
                    case measure => simp [intOf]; omega
        · have t2 : decide ((i : Int) < 12) = false := by simp; omega
          go_wp2_with (first | (go_at_call 15; (with_reducible refine (HSu.out _ hb).mono ?_); rintro e W ⟨rfl, hbc⟩; replace hb := hb.trans (hbc.mono (by have := hM.base; omega)); clear hM hr hbc))
          go_ret
          exact ⟨rfl, hb⟩
      · have t1 : decide ((i : Int) < (fl : Int)) = false := by simp; omega
        go_wp2_with (first | (go_at_call 15; (with_reducible refine (HSu.out _ hb).mono ?_); rintro e W ⟨rfl, hbc⟩; replace hb := hb.trans (hbc.mono (by have := hM.base; omega)); clear hM hr hbc))
        go_ret
        exact ⟨rfl, hb⟩
end Go.Proofs.YtbggkoahofnnjaaGreatDoor
