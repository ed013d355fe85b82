/-
  BlkHolds, walked.
-/
import Derived.Test.YtaaiockiojejeaaGreatDoorJH44
import Derived.Test.YtaaiockiojejeaaGreatDoorJH42
import Derived.Test.YtaaiockiojejeaaGreatDoorJH11
import Derived.Test.YtaaiockiojejeaaGreatDoorJH13
import Derived.Deep.CutRange
import Derived.Deep.QuietTactic
import Derived.BigQuiet
namespace Go.Proofs.YtaaiockiojejeaaGreatDoor
open Go.RowKit
set_option linter.unusedVariables false
set_option linter.unusedSimpArgs false

variable {ops : Array Oper} {rest : List Oper} {dst : Option Tmp} {ty : TypeId} {pos : String} {after : Array Edge} {a : Act} {w : World} {Q : Exit → Act → World → Prop} {K : Act → World → Prop} {x y : Operand} {gd : Option (Nat × Bool)}
theorem nod_take {ids bs : List Nat} {k x : Nat} (h : (ids ++ bs).Nodup) (hk : bs[k]? = some x) : ∀ y ∈ ids ++ bs.take k, y ≠ x := by
  have hlt := (List.getElem?_eq_some_iff.1 hk).1
  have e : ids ++ bs = (ids ++ bs.take k) ++ (x :: bs.drop (k + 1)) := by
    rw [List.append_assoc]
    congr 1
    rw [← (List.getElem?_eq_some_iff.1 hk).2, ← List.drop_eq_getElem_cons hlt, List.take_append_drop]
  rw [e, List.nodup_append] at h
  exact fun y hy => h.2.2 y hy x (List.mem_cons_self ..)
theorem ak_len {W : World} {B : Nat} {O : Nat → Prop} {k : Ak} {dv : Value} (h : AkAt W B O k dv) : ∃ a c, dv = .slice a k.da.length c := by
  rcases h.ex with ⟨h1, rfl⟩ | ⟨g, cap, all, rfl, h2, h3, h4, _⟩
  · rw [h1]; exact ⟨none, 0, rfl⟩
  · rw [h4, List.length_drop]; exact ⟨_, _, rfl⟩
theorem c_le3 {c3 c0 i : Nat} (h : c3 ≤ c0 + 262145) (k : c0 ≤ 80 + 300000 * i) : c3 + 300 ≤ 80 + 300000 * (i + 1) := by
  rw [Nat.mul_add, Nat.mul_one]; generalize 300000 * i = K at k ⊢; omega
theorem c_le {c3 c0 i : Nat} (h : c3 ≤ c0 + 262145) (k : c0 ≤ 80 + 300000 * i) : c3 ≤ 80 + 300000 * (i + 1) := Nat.le_trans (Nat.le_add_right _ 300) (c_le3 h k)
theorem ldw_u32 {ops : Array Oper} {rest : List Oper} {dst : Option Tmp} {ty : TypeId} {pos : String} {after : Array Edge} {a : Act} {w : World} {Q : Exit → Act → World → Prop} {x : Operand} {gd : Option (Nat × Bool)} (b j : Nat) (v : Value) (hcell : w.cell? ⟨b, j, none⟩ = some v) (hx : a.eval x = .pointer (some ⟨b, j, none⟩)) (hw : Region.wanted ⟨dst, .load 22 x, ty, pos, after, gd⟩ (yielded ops a.tmps) = true)
    (k : wpList Tryz.prog ops Q rest (a.put dst v) w) : wpList Tryz.prog ops Q (⟨dst, .load 22 x, ty, pos, after, gd⟩ :: rest) a w :=
  by
  have hrun : (loadVar 22 ⟨b, j, none⟩).run Tryz.prog w = .ok v w := by
    have hagg : (isAgg 22).run Tryz.prog w = .ok false w := by
      unfold isAgg
      rw [Sem.run_bind, run_underlying Tryz.underlying22 w]
      rfl
    simp [loadVar, Sem.run_bind, hagg, hcell]
  refine BigFrame.wpList_want hw fun K hK => ?_
  unfold Oper.wp execOp
  simp only [hx, Instr.loadAt, Instr.sureAddr, Sem.run_bind, Sem.run_pure, Result.andThen_ok, hrun]
  exact hK _ _ k
set_option maxRecDepth 20000 in
set_option maxHeartbeats 16000000 in
theorem holds_walk (wa ma da : Option Addr) (wl wc ml mc dl dc : Nat) (gw gm : Nat → Nat → Nat) (gi : Nat → Nat) (gk : Nat → Bool) (gn : Nat → Int) (w : World) (hW : PairsAt w w.heap.size wa wl gw) (hWc : wl ≤ wc) (hWm : wc ≤ 9223372036854775807) (hM : PairsAt w w.heap.size ma ml gm) (hMc : ml ≤ mc) (hMm : mc ≤ 9223372036854775807) (hD : DonesAt w w.heap.size da dl gi gk gn) (hDc : dl ≤ dc) (hDm : dc ≤ 9223372036854775807) (hA : AreasAt w) (hO : OffAt w) (hH : HandleAt w) :
    Calls Tryz.prog 5 #[.slice wa wl wc, .slice ma ml mc, .slice da dl dc] w fun e w' => e = .returned (.bool true) ∧ Below w.heap.size w w' := by
  obtain ⟨B, hB⟩ : ∃ B, w.heap.size = B := ⟨_, rfl⟩
  have hG0 : 2 < B := hB ▸ hA.lt
  have hG : 2 < B + 1 := by omega
  have hO0 : 1 < B := hB ▸ hO.lt
  have HA0 := hide hA
  have HO0 := hide hO
  have hE0 : 0 < B := hB ▸ lt_of_cell hH
  have HH0 := hide hH
  have HBo : Hid (Calls Tryz.prog 8 #[.slice wa wl wc] w fun e w' => ∃ b f O r, e = .returned (.tuple #[.pointer (some ⟨b, 0, none⟩), .agg (RP.v r 8192 2)]) ∧ RamB w' (B + 1) b 2 f 80 O ∧ Below B w w') := hide (by
    have h := rboth_any wa wl wc gw w hW hWc hWm
    rw [hB] at h
    exact h.mono (by
      rintro e w' ⟨b, f, O, r, hf, he, h1, _, h3⟩
      exact ⟨b, f, O, r, he, h1, h3⟩))
  rw [hB] at hM hD ⊢
  have HMo := hide hM
  have HDo := hide hD
  have HLi := hide blive_any
  have HSu : Hid (∀ W, AreasAt W → Calls Tryz.prog 10 #[] W fun e w' => e = .returned (.bool true) ∧ Below W.heap.size W w') := hide (fun W hA => bsure_any W hA)
  have hbw := Below.refl B w
  clear hA hO hH hW hM hD
  go_enter Tryz.func5, Tryz.ntmps5
  go_wp2_with (first | (go_at_call 8; (with_reducible refine HBo.out.mono ?_); rintro e W1 ⟨b, f0, O, r, rfl, hM, hb⟩; have hA := HA0.out.belR hG0 hb; obtain ⟨NX, hNX0⟩ : ∃ n, W1.heap.size = n := ⟨_, rfl⟩; have hNX := hide hNX0; have hNB : B + 1 ≤ NX := hNX0 ▸ hM.base; have hnx : ¬ O NX := (fun e => absurd (hM.lt _ e) (by omega)); clear hNX0) | ((with_reducible refine al_Rz NX ?_ ?_); exact hNX.out; intro W hx hb' hz2; have hbc : Below W1.heap.size W1 W := (by rw [hNX.out]; exact hb'); replace hb := hb.trans (hb'.mono (by omega)); replace hM := hM.bl hbc; clear hb' hbc hz2) | ((with_reducible refine st_R NX _ r 8192 2 hx ?_ ?_ ?_ ?_); exact rfl; exact rfl; exact rfl; intro W hnew hoo; replace hM := hM.only hoo hnx; replace hb := hoo.bel _ _ (by omega) hb; clear hnew hoo hx hnx hNX) | (go_at_call 20; (with_reducible refine (HLi.out _).mono ?_); rintro e W3 ⟨rfl, hbc⟩; replace hb := hb.trans (hbc.mono (by have := hM.base; omega)); replace hM := hM.bl hbc; clear hbc; (obtain ⟨NS, hNS0⟩ : ∃ n, W3.heap.size = n := ⟨_, rfl⟩); have hNS := hide hNS0; (have hSB : B + 1 ≤ NS := hNS0 ▸ hM.base); (have hns : ¬ O NS := fun e => absurd (hM.lt _ e) (by omega)); clear hNS0) | ((with_reducible refine al_bk NS ?_ ?_); exact hNS.out; intro W hr hb' hz2; have hbc : Below W3.heap.size W3 W := (by rw [hNS.out]; exact hb'); replace hb := hb.trans (hb'.mono (by omega)); replace hM := hM.bl hbc; clear hb' hbc hz2 hNS) | ((with_reducible refine st_bk NS _ _ lvS nilS rfl hr ?_ ?_ ?_); exact rfl; exact rfl; intro W hnew hoo; replace hM := hM.only hoo hns; replace hb := hoo.bel _ _ (by omega) hb; replace hr := hnew; clear hnew hoo))
  clear hA
  go_loopw [10, 11] (fun wv iv wr => ∃ (i : Nat) (s : Bk) (v : Value) (l : List (Rq × Value)) (f : Nat → Nat) (O : Nat → Prop), i ≤ 12 ∧ iv = .int .i64 (i : Nat) ∧ Good s ∧ l.map (·.1) = s.l ∧ RowAt wr NS (s.c v) 53 ∧ RamB wr (B + 1) b 2 f (80 + 300000 * i) O ∧ InAt wr (B + 1) O v l ∧ wr.ownsRow (B + 1) 22 1 wv (s.l.map (·.id)).length (u32V (s.l.map (·.id))) ∧ (∀ g, wv.ownBlock = some g → ¬ O g) ∧ ¬ O NS ∧ Below B w wr) (fun _ iv _ => 12 - (intOf iv).toNat)
  case atStart => exact ⟨0, lvS, nilS, [], f0, O, Nat.zero_le _, rfl, lv_good, rfl, hr, hM, InAt.nil _ _ _, World.ownsRow_nil _ _ _ _, (fun g e => by cases e), hns, hb⟩
  case round =>
    clear hM hr hns hb
    obtain ⟨i, s, v, l, f, O, hi, rfl, hgs, hsl, hr, hM, hI, hwa, hwn, hns, hb⟩ := hrel
    by_cases hlt : i < 12
    · have l1 : (i : Int) < 12 := by omega
      have hA := HA0.out.belR hG0 hb
      obtain ⟨hgt, hmo⟩ := pol_good hgs hM.small
      have HPo : Hid (Calls Tryz.prog 12 #[.agg (s.c v), .pointer (some ⟨b, 0, none⟩)] wr fun e w' => ∃ v' av, e = .returned (.tuple #[.agg ((polV 2 f s).s.c v'), av]) ∧ ∃ l' O' al, l'.map (·.1) = (polV 2 f s).s.l ∧ RamB w' (B + 1) b 2 (polV 2 f s).f (80 + 300000 * i + 262144) O' ∧ Went (B + 1) O O' wr w' ∧ InAt w' wr.heap.size O' v' l' ∧ AsksAt w' wr.heap.size O' av al ∧ al.map (·.1) = (polV 2 f s).a) := hide (poll_any s hgs.ok l hsl (by have := hgs.len; rw [← hsl, List.length_map] at this; omega) v hM hA hG hI (by omega))
      obtain ⟨t, ht⟩ : ∃ x, (polV 2 f s).s = x := ⟨_, rfl⟩
      obtain ⟨f2, hf2⟩ : ∃ x, (polV 2 f s).f = x := ⟨_, rfl⟩
      obtain ⟨A, hAk⟩ : ∃ x, (polV 2 f s).a = x := ⟨_, rfl⟩
      rw [ht, hf2, hAk] at HPo
      rw [ht, hAk] at hmo
      rw [ht] at hgt
      obtain ⟨new, newa, m1, m2, m3, m4⟩ := hmo.ex
      rw [List.nil_append] at m2
      subst m2
      have HT : Hid (t.l.map (·.id) = s.l.map (·.id) ++ A.map (·.id)) := hide (by rw [m1, List.map_append, m3])
      have HAk := hide m4
      have HGt := hide hgt
      obtain ⟨ids, hids⟩ : ∃ x, s.l.map (·.id) = x := ⟨_, rfl⟩
      rw [hids] at hwa HT
      obtain ⟨c0, hc0⟩ : ∃ x, 80 + 300000 * i = x := ⟨_, rfl⟩
      have hcb : c0 ≤ 80 + 300000 * i := by omega
      rw [hc0] at HPo hM
      clear hc0 hids ht hf2 hAk hmo m1 m3 m4 hgs hsl hI hgt
      go_wp2_with (first | ((with_reducible refine ld_bk NS s v hr ?_ ?_ ?_); exact rfl; exact rfl) | (go_at_call 12; (with_reducible refine HPo.out.mono ?_); rintro e W2 ⟨v', av, rfl, l', O2, al, hl', hM2, hW2, hI2, hK, hal⟩; (have hwb : B + 1 ≤ wr.heap.size := hM.base); replace hI2 := hI2.lower hwb; (replace hK := hK.lowerB hwb); (have hns2 := hW2.no hr.lt hns); (have hwn2 : ∀ g, u10.ownBlock = some g → ¬ O2 g := fun g e => hW2.no (hwa.lt g e).2 (hwn g e)); replace hwa := own_went hwa hW2 hwn; replace hr := hW2.row hr hns; replace hb := hb.trans (hW2.below.mono (by omega)); (obtain ⟨NT, hNT0⟩ : ∃ n, W2.heap.size = n := ⟨_, rfl⟩); have hNT := hide hNT0; (have hTB : B + 1 ≤ NT := hNT0 ▸ hM2.base); (have hnt : ¬ O2 NT := fun e => absurd (hM2.lt _ e) (by omega)); (have hNST : NS < NT := hNT0 ▸ hr.lt); (have hvo := own_one hI2.row); clear hNT0 hM hW2 hwn hns hA) | ((with_reducible refine al_bk NT ?_ ?_); exact hNT.out; intro W hq hb' hz2; have hbc : Below W2.heap.size W2 W := (by rw [hNT.out]; exact hb'); replace hb := hb.trans (hb'.mono (by omega)); replace hM2 := hM2.bl hbc; replace hI2 := hI2.bl hbc; replace hK := hK.bl hbc; replace hwa := own_bel hwa hbc; replace hr := hr.bl hbc; clear hb' hbc hz2 hNT) | ((with_reducible refine st_bk NT _ _ t v' hvo hq ?_ ?_ ?_); exact rfl; exact rfl; intro W hnew hoo; replace hM2 := hM2.only hoo hnt; replace hI2 := hI2.only hoo (fun e => absurd (own_ty hI2.row e hq) (by decide)) (fun x hx e => absurd (own_ty (hI2.own x hx) e hq) (by decide)); replace hK := hK.only hoo hq (by decide) (by decide); replace hwa := own_only hwa hoo (fun e => absurd (own_ty hwa e hq) (by decide)); replace hr := hr.only hoo (by omega); replace hb := hoo.bel _ _ (by omega) hb; replace hq := hnew; clear hnew hoo))
      have hal8 : ids.length + al.length ≤ 8 := by
        have h1 := HGt.out.len
        have h2 := congrArg List.length HT.out
        have h3 := congrArg List.length hal
        simp only [List.length_map, List.length_append] at h2 h3
        omega
      have hMid : Mid w B NS NT b s t v v' av l' al f2 (c0 + 262144) O2 ids u10 _ := ⟨hr, hq, hM2, hI2, hK, hwa, hwn2, hb⟩
      clear hr hq hM2 hI2 hK hwa hwn2 hb
      go_loopw [10, 14] (fun wv kv wr2 => ∃ k : Nat, k ≤ al.length ∧ kv = .int .i64 (k : Nat) ∧ Mid w B NS NT b s t v v' av l' al f2 (c0 + 262144) O2 (ids ++ (A.map (·.id)).take k) wv wr2) (fun _ kv _ => al.length - (intOf kv).toNat)
      case atStart => exact ⟨0, Nat.zero_le _, rfl, by rw [List.take_zero, List.append_nil]; exact hMid⟩
      case round =>
        clear hMid
        obtain ⟨k, hk, rfl, hm⟩ := hrel
        by_cases hka : k < al.length
        · as_aux_lemma =>
            have l2 : (k : Int) < (al.length : Int) := by omega
            obtain ⟨ga, ca, cur, rfl, hca, hgr0, hcl⟩ := asks_at hm.ask (by omega)
            obtain ⟨⟨q, dv⟩, hqk⟩ : ∃ x, al[k]? = some x := ⟨_, List.getElem?_eq_getElem hka⟩
            have HCL := hide (hcl k q dv hqk)
            have hAq : A[k]? = some q := by rw [← hal, List.getElem?_map, hqk]; rfl
            have HNE := hide (nod_take (HT.out ▸ HGt.out.nod) (show (A.map (·.id))[k]? = some q.id by rw [List.getElem?_map, hAq]; rfl))
            have HNX : Hid ((ids ++ (A.map (·.id)).take k) ++ [q.id] = ids ++ (A.map (·.id)).take (k + 1)) := hide (by rw [List.append_assoc, List.take_add_one, List.getElem?_map, hAq]; rfl)
            have hqa := HAk.out q (List.mem_of_getElem? hAq)
            obtain ⟨da2, dc2, hdv⟩ := ak_len (hm.ask.dat _ (List.mem_of_getElem? hqk))
            simp only at hdv
            subst hdv
            have hid8 : (ids ++ (A.map (·.id)).take k).length ≤ 8 := by rw [List.length_append, List.length_take]; omega
            obtain ⟨idk, hidk⟩ : ∃ x, ids ++ (A.map (·.id)).take k = x := ⟨_, rfl⟩
            rw [hidk] at hm HNE HNX hid8
            obtain ⟨ww, wcap, hwv, hwc1, hwc2⟩ := own_form hm.wa
            subst hwv
            obtain ⟨n1, hn1⟩ : ∃ x, idk.length = x := ⟨_, rfl⟩
            clear hcl hgr0 hidk
            go_wp2_with (first | fail)
            go_loopw [15] (fun jv wr3 => ∃ j : Nat, j ≤ idk.length ∧ jv = .int .i64 (j : Nat) ∧ Mid w B NS NT b s t v v' (.slice (some ⟨ga, 0, none⟩) al.length ca) l' al f2 (c0 + 262144) O2 idk (.slice ww idk.length wcap) wr3) (fun jv _ => idk.length - (intOf jv).toNat)
            case atStart => exact ⟨0, Nat.zero_le _, rfl, hm⟩
            case round =>
              clear hm
              obtain ⟨j, hj, rfl, hm⟩ := hrel
              by_cases hjn : j < idk.length
              · as_aux_lemma =>
                  have l3 : (j : Int) < (idk.length : Int) := by omega
                  obtain ⟨gwb, wcap', hwe, hwc3, hwcl⟩ := cell_u hm.wa rfl j hjn
                  obtain ⟨rfl, rfl⟩ : ww = some ⟨gwb, 0, none⟩ ∧ wcap = wcap' := by injection hwe with e1 e2 e3; exact ⟨e1, e3⟩
                  have hc1 := hwcl j hjn
                  obtain ⟨idj, hidj⟩ : ∃ x, idk[j] = x := ⟨_, rfl⟩
                  have hne : idj ≠ q.id := hidj ▸ HNE.out _ (List.getElem_mem hjn)
                  rw [hidj] at hc1
                  obtain ⟨ga', ca', cur', hae, _, hgr, hcl2⟩ := asks_at hm.ask (by omega)
                  obtain ⟨rfl, rfl⟩ : ga = ga' ∧ ca = ca' := by injection hae with e1 e2 e3; injection e1 with e1; injection e1 with e1; exact ⟨e1, e3⟩
                  have hc2 : _ = some (Value.int .u32 (q.id : Nat)) := (hgr.cell (k * 5)).trans (hcl2 k q _ hqk 0 (by decide))
                  have tne : (((idj : Nat) : Int) == ((q.id : Nat) : Int)) = false := by simp; omega
                  have tnn : (idj == q.id) = false := by simp; omega
                  clear hwe hwcl hae hcl2 hidj
                  go_wp2
                  go_quiet (fail)
                  replace hm := hm.dn nq
                  clear hc1 hc2 hgr
                  go_wp2
                  go_roundw
                  case rel => exact ⟨j + 1, hjn, by go_num, hm⟩
                  case measure => simp [intOf]; omega
              · as_aux_lemma =>
                  obtain rfl : j = idk.length := by omega
                  obtain ⟨ga', ca', cur', hae, _, hgr, hcl2⟩ := asks_at hm.ask (by omega)
                  obtain ⟨rfl, rfl⟩ : ga = ga' ∧ ca = ca' := by injection hae with e1 e2 e3; injection e1 with e1; injection e1 with e1; exact ⟨e1, e3⟩
                  have hcl3 := hcl2 k q _ hqk
                  have hc0 : _ = some (Value.int .u32 (q.id : Nat)) := (hgr.cell (k * 5)).trans (hcl3 0 (by decide))
                  have hc1 : _ = some (Value.bool q.wr) := (hgr.cell (k * 5 + 1)).trans (hcl3 1 (by decide))
                  have hc2 : _ = some (Value.int .u32 (q.se : Nat)) := (hgr.cell (k * 5 + 2)).trans (hcl3 2 (by decide))
                  have hc3 : _ = some (Value.int .i64 q.n) := (hgr.cell (k * 5 + 3)).trans (hcl3 3 (by decide))
                  have hc4 : _ = some (Value.slice da2 q.da.length dc2) := (hgr.cell (k * 5 + 4)).trans (hcl3 4 (by decide))
                  have a1 := hqa.in'
                  have a2 := hqa.n
                  have a3 := hqa.d
                  have e5 : q.n.tdiv 512 = q.n / 512 := Int.tdiv_eq_ediv_of_nonneg (by omega)
                  have b1 : decide (100 < ((q.se : Nat) : Int) + q.n / 512) = false := by simp; omega
                  have b2 : decide (q.n < 512) = false := by simp; omega
                  have b3 : ((q.da.length : Int) == q.n) = q.wr := by rw [a3]; rfl
                  have b4 : (q.wr != q.wr) = false := by cases q.wr <;> rfl
                  have b5 : (q.wr == q.wr) = true := by cases q.wr <;> rfl
                  have hk0 : cur'[k * 5]? = some (Value.int .u32 (q.id : Nat)) := hcl3 0 (by decide)
                  clear hae hcl2 hcl3
                  go_wp2
                  go_quiet (fail)
                  have hgr2 := hgr.dn nq
                  replace hm := hm.dn nq
                  clear hc0 hc1 hc2 hc3 hc4 hgr b1 b2 b3 b4 b5 a1 a2 a3 e5
                  generalize World.drewN _ nq = V0 at hm hgr2 ⊢
                  obtain ⟨NB, hNB0⟩ : ∃ n, V0.heap.size = n := ⟨_, rfl⟩
                  have hNB := hide hNB0
                  have hBN : B + 1 ≤ NB := hNB0 ▸ hm.ram.base
                  clear hNB0
                  go_wp2_with (first | ((with_reducible refine ldc_u32 ga (k * 5) _ cur' _ hgr2 hk0 ?_ ?_ ?_); exact rfl; exact rfl) | ((with_reducible refine bs_u NB ?_ q.id ?_ ?_); exact hNB.out; exact rfl; intro W hbr hb' hz; have hbc := hNB.out.symm ▸ hb'; replace hm := hm.bl hbc; (have hBW : B + 1 ≤ W.heap.size := hm.ram.base); clear hb' hbc hz) | ((with_reducible refine app_u idk q.id idk.length rfl hm.wa NB hbr (by omega) hBW ?_ ?_ ?_); exact rfl; exact rfl; intro W5 v5 hown hg5 hbk5; replace hm := hm.app hown hg5 hbk5; clear hown hg5 hbk5 hbr))
                  go_roundw
                  case rel => exact ⟨k + 1, hka, by go_num, by rw [← HNX.out]; exact hm⟩
                  case measure => simp [intOf]; omega
        · as_aux_lemma =>
            obtain rfl : k = al.length := by omega
            have e1 : ids ++ (A.map (·.id)).take al.length = t.l.map (·.id) := by
              rw [HT.out, List.take_of_length_le (by rw [List.length_map, ← hal, List.length_map]; exact Nat.le_refl _)]
            rw [e1] at hm
            have hlt' : l'.length = t.l.length := by rw [← hl', List.length_map]
            have hwl : (t.l.map (·.id)).length = t.l.length := List.length_map ..
            have hvo := own_one hm.ins.row
            have HCk : Hid (∀ W, InAt W (B + 1) O2 v' l' → OffAt W → Calls Tryz.prog 21 #[.agg (t.c v'), .int .i64 2] W fun e w' => e = .returned .nilIface ∧ Below W.heap.size W w') := hide (fun W hI hO => bcheck_good t HGt.out l' hl' v' hI hO)
            obtain ⟨va, vcap, hva, _, _⟩ := own_form hm.ins.row
            obtain ⟨ww, wcap, hwv, _, _⟩ := own_form hm.wa
            obtain ⟨aa, acap, hav, _, _⟩ := own_form hm.ask.row
            rw [hlt'] at hva
            rw [hwl] at hwv
            subst hva hwv hav
            have ht8 := HGt.out.len
            obtain ⟨nt, hnt0⟩ : ∃ x, t.l.length = x := ⟨_, rfl⟩
            have HNt := hide hnt0
            have h8 : decide (8 < (t.l.length : Int)) = false := by simp; omega
            clear e1 hnt0
            go_upto_region 24 with (first | ((with_reducible refine ld_bk NT t (.slice va t.l.length vcap) hm.nt ?_ ?_ ?_); exact rfl; exact rfl) | ((with_reducible refine ld_bin NT t _ _ hm.nt ?_ ?_ ?_); exact rfl; exact rfl) | (go_at_call 21; (with_reducible refine (HCk.out _ hm.ins (HO0.out.belR hO0 hm.bel)).mono ?_); rintro e W4 ⟨rfl, hbc⟩; replace hm := hm.bl hbc; clear hbc) | ((with_reducible refine st_bk NS _ _ t (.slice va t.l.length vcap) hvo hm.ns ?_ ?_ ?_); exact rfl; exact rfl; intro W hr hoo; (have hM2 := hm.ram.only hoo hns2); (have hI2 := hm.ins.only hoo (fun e => absurd (own_ty hm.ins.row e hm.ns) (by decide)) (fun x hx e => absurd (own_ty (hm.ins.own x hx) e hm.ns) (by decide))); (have hwa := own_only hm.wa hoo (fun e => absurd (own_ty hm.wa e hm.ns) (by decide))); (have hwn := hm.wn); (have hb := hoo.bel _ _ (by omega) hm.bel); clear hm hoo))
            have HTL : Tl w B NS b t (.slice va t.l.length vcap) l' f2 (c0 + 262144) O2 (t.l.map (·.id)) (.slice ww t.l.length wcap) _ := ⟨hr, hM2, hI2, hwa, hwn, hns2, hSB, hb⟩
            clear hr hM2 hI2 hwa hwn hns2 hb hal8 h8 HCk HT HAk hal
            go_upto_if 134 with (fail)
            go_cut [] from 31 to 238 (fun wx => ∃ (t2 : Bk) (f3 : Nat → Nat) (c3 : Nat) (O3 : Nat → Prop), Good t2 ∧ t2.l = t.l ∧ c3 ≤ c0 + 262145 ∧ Tl w B NS b t2 (.slice va t.l.length vcap) l' f3 c3 O3 (t.l.map (·.id)) (.slice ww t.l.length wcap) wx)
            case first =>
              by_cases hml : i < ml
              · as_aux_lemma =>
                  obtain ⟨mb, mo, hma, hmb, hc0, hc1⟩ := HMo.out.lies i hml
                  obtain ⟨hs0, hs1⟩ := HMo.out.small i hml
                  subst hma
                  have ha := atOf_in (gm i 0)
                  obtain ⟨av, hav⟩ : ∃ a, atOf (gm i 0) = a := ⟨_, rfl⟩
                  obtain ⟨vv, hvv⟩ : ∃ a, gm i 1 = a := ⟨_, rfl⟩
                  obtain ⟨xv, hxv⟩ : ∃ a, gm i 0 = a := ⟨_, rfl⟩
                  rw [hav] at ha
                  rw [hvv] at hc1 hs1
                  rw [hxv] at hc0 hs0 hav
                  have eav : (xv : Int) % 8192 / 4 * 4 = (av : Int) := by rw [← hav]; unfold atOf; omega
                  have HS : Hid (∀ W, RamB W (B + 1) b 2 f2 (c0 + 262144) O2 → Calls Tryz.prog 22 #[.pointer (some ⟨b, 0, none⟩), .int .u32 (av : Nat), .int .i64 4, .int .u32 (vv : Nat)] W fun e w' => e = .returned .nilIface ∧ ∃ O', RamB w' (B + 1) b 2 (wroteF f2 av (numB vv 4)) (c0 + 262144 + 1) O' ∧ Went (B + 1) O2 O' W w') := hide (fun W hM => store_b hM av 4 (by omega) (by decide) ha.1 (by omega) vv hs1 (by omega))
                  have lt1 : (i : Int) < (ml : Int) := by omega
                  have e5 : Hid ((xv : Int).tmod 8192 = (xv : Int) % 8192) := hide (Int.tmod_eq_emod_of_nonneg (by omega))
                  have e6 : Hid (IntKind.u32.wrap (((xv : Int) % 8192).tdiv 4) = (xv : Int) % 8192 / 4) := hide (by rw [IntKind.wrap_u32, Int.tdiv_eq_ediv_of_nonneg (by omega)]; omega)
                  have e7 : Hid (IntKind.u32.wrap (av : Int) = (av : Int)) := hide (by rw [IntKind.wrap_u32]; omega)
                  clear hav ha hvv hxv
                  go_wp2_with (fail)
                  refine wp_region_held_drew (S := (fun V => Below B w V)) (by kernel_rfl) ?_ (fun hHeld => ?_)
                  · exact HTL.bel.drew
                  replace HTL := HTL.dr
                  generalize World.drew _ = V at hHeld HTL ⊢
                  refine tkO 0 (.pointer (some ⟨b, 0, none⟩)) (by simp only [gT, gZ]; rfl) (puO (by (intro w hSw; (try dsimp only at hSw); go_simp))) ?_
                  (try simp only [Act.put, pA, pZ, pS])
                  refine tkO 1 (.slice (some ⟨mb, mo, none⟩) ml mc) (by simp only [gT, gZ, gS]; rfl) (puO (by (intro w hSw; (try dsimp only at hSw); go_simp))) ?_
                  (try simp only [Act.put, pA, pZ, pS])
                  refine tkO 2 (.int .i64 (i : Nat)) (by simp only [gT, gZ, gS]; rfl) (puO (by (intro w hSw; (try dsimp only at hSw); go_simp))) ?_
                  (try simp only [Act.put, pA, pZ, pS])
                  refine tkO 3 (.pointer (some ⟨mb, mo + i * 2, none⟩)) (by simp only [gT, gZ, gS]; rfl) (puO (by (intro w hSw; (try dsimp only at hSw); go_simp))) ?_
                  (try simp only [Act.put, pA, pZ, pS])
                  refine tkO 4 (.pointer (some ⟨mb, mo + i * 2, none⟩)) (by simp only [gT, gZ, gS]; rfl) (puO (by (intro w hSw; (try dsimp only at hSw); go_simp))) ?_
                  (try simp only [Act.put, pA, pZ, pS])
                  refine tkO 5 (.int .u32 (xv : Nat)) (by simp only [gT, gZ, gS]; rfl) (y_cell mb (mo + i * 2) _ (fun V hV => (hV.cell (p := ⟨mb, mo + i * 2, none⟩) hmb).trans hc0) _ Tryz.underlying22 rfl rfl) ?_
                  (try simp only [Act.put, pA, pZ, pS])
                  refine tkO 6 (.int .u32 ((xv : Int) % 8192)) (by simp only [gT, gZ, gS]; rfl) (puO (by (intro w hSw; (try dsimp only at hSw); go_simp ; exact e5.out))) ?_
                  (try simp only [Act.put, pA, pZ, pS])
                  refine tkO 7 (.int .u32 ((xv : Int) % 8192 / 4)) (by simp only [gT, gZ, gS]; rfl) (puO (by (intro w hSw; (try dsimp only at hSw); go_simp ; exact e6.out))) ?_
                  (try simp only [Act.put, pA, pZ, pS])
                  refine tkO 8 (.int .u32 (av : Nat)) (by simp only [gT, gZ, gS]; rfl) (puO (by (intro w hSw; (try dsimp only at hSw); go_simp ; exact e7.out))) ?_
                  (try simp only [Act.put, pA, pZ, pS])
                  refine tkO 9 (.slice (some ⟨mb, mo, none⟩) ml mc) (by simp only [gT, gZ, gS]; rfl) (puO (by (intro w hSw; (try dsimp only at hSw); go_simp))) ?_
                  (try simp only [Act.put, pA, pZ, pS])
                  refine tkO 10 (.int .i64 (i : Nat)) (by simp only [gT, gZ, gS]; rfl) (puO (by (intro w hSw; (try dsimp only at hSw); go_simp))) ?_
                  (try simp only [Act.put, pA, pZ, pS])
                  refine tkO 11 (.pointer (some ⟨mb, mo + i * 2, none⟩)) (by simp only [gT, gZ, gS]; rfl) (puO (by (intro w hSw; (try dsimp only at hSw); go_simp))) ?_
                  (try simp only [Act.put, pA, pZ, pS])
                  refine tkO 12 (.pointer (some ⟨mb, mo + i * 2 + 1, none⟩)) (by simp only [gT, gZ, gS]; rfl) (puO (by (intro w hSw; (try dsimp only at hSw); go_simp))) ?_
                  (try simp only [Act.put, pA, pZ, pS])
                  refine tkO 13 (.int .u32 (vv : Nat)) (by simp only [gT, gZ, gS]; rfl) (y_cell mb (mo + i * 2 + 1) _ (fun V hV => (hV.cell (p := ⟨mb, mo + i * 2 + 1, none⟩) hmb).trans hc1) _ Tryz.underlying22 rfl rfl) ?_
                  (try simp only [Act.put, pA, pZ, pS])
                  refine skO 14 (by simp only [gT, gZ, gS]; rfl) (fun K hK => ?_)
                  go_simp
                  (with_reducible refine (HS.out _ HTL.ram).mono ?_)
                  rintro e V2 ⟨rfl, O3, hM3, hW3⟩
                  have hH2 := hide (hHeld.trans (hW3.below.mono (by omega)))
                  replace HTL := HTL.went hM3 hW3
                  clear hHeld hW3 hM3
                  go_simp
                  refine hK.out _ _ ?_ (fun hHeld => ?_)
                  · exact hH2.out
                  clear hK K
                  clear hH2
                  refine wpAnyH_done (by kernel_rfl) ?_ _
                  clear hHeld
                  go_wp2_with (first | ((with_reducible refine st_bbe NS t (.slice va t.l.length vcap) true _ HTL.ns ?_ ?_ ?_); exact rfl; exact rfl; intro W hr hoo; replace HTL := HTL.set hr hoo HTL.ins; clear hr hoo))
                  go_meet
                  case rel => exact ⟨_, _, _, _, HGt.out.bell, rfl, Nat.le_refl _, HTL⟩
              · as_aux_lemma =>
                  have d1 : decide ((i : Int) < (ml : Int)) = false := by simp; omega
                  have d1n : decide (i < ml) = false := by simp; omega
                  go_wp2
                  go_meet
                  case rel => exact ⟨t, _, _, _, HGt.out, rfl, by omega, HTL⟩
            case rest =>
              obtain ⟨t2, f3, c3, O3, hG2, hl2, hc3, HTL⟩ := hcut
              have HG2 := hide hG2
              have HL2 := hide hl2
              have HLL : Hid (l'.map (·.1) = t2.l) := hide (hl'.trans hl2.symm)
              clear hG2 hl2 hl' HGt
              by_cases hdl : i < dl
              · obtain ⟨db, dof, hda, hdb, hx1, hx2, hx3⟩ := HDo.out.lies i hdl
                obtain ⟨hs1, hs2, hs3⟩ := HDo.out.small i hdl
                subst hda
                have d2 : decide ((dl : Int) ≤ (i : Int)) = false := by simp; omega
                have d2n : decide (dl ≤ i) = false := by simp; omega
                have hy1 := (HTL.bel.cell (p := ⟨db, dof + i * 4, none⟩) hdb).trans hx1
                have hi12 : (i : Int) < (dl : Int) := by omega
                obtain ⟨gid, hgid⟩ : ∃ x, gi i = x := ⟨_, rfl⟩
                obtain ⟨okv, hokv⟩ : ∃ x, gk i = x := ⟨_, rfl⟩
                obtain ⟨gz, hgz⟩ : ∃ x, gn i = x := ⟨_, rfl⟩
                rw [hgid] at hy1 hs1
                rw [hokv] at hx2
                rw [hgz] at hx3 hs2 hs3
                clear hx1 hgid hokv hgz
                go_upto_if 162 with (fail)
                go_cut [16] from 31 to 238 (fun s16 wx => ∃ id : Nat, id < 4294967296 ∧ s16 = .int .u32 (id : Nat) ∧ Tl w B NS b t2 (.slice va t.l.length vcap) l' f3 c3 O3 (t.l.map (·.id)) (.slice ww t.l.length wcap) wx)
                case first =>
                  by_cases hw0 : t.l.length = 0
                  · as_aux_lemma =>
                      have d3 : decide (0 < (t.l.length : Int)) = false := decide_eq_false (by omega)
                      have d3n : decide (0 < t.l.length) = false := decide_eq_false (by omega)
                      go_wp2
                      go_meet
                      case rel => exact ⟨gid, hs1, rfl, HTL⟩
                  · as_aux_lemma =>
                      have d3 : (0 : Int) < (t.l.length : Int) := by omega
                      have d3n : 0 < t.l.length := by omega
                      have hjn0 : gid % t.l.length < t.l.length := Nat.mod_lt _ d3n
                      obtain ⟨gwb, wcap', hwe, hwc3, hwcl⟩ := cell_u HTL.wa rfl (gid % t.l.length) (by rw [List.length_map]; exact hjn0)
                      rw [List.length_map] at hwe
                      obtain ⟨rfl, rfl⟩ : ww = some ⟨gwb, 0, none⟩ ∧ wcap = wcap' := by injection hwe with e1 e2 e3; exact ⟨e1, e3⟩
                      have hcj := hwcl (gid % t.l.length) (by rw [List.length_map]; exact hjn0)
                      obtain ⟨idj, hidj⟩ : ∃ x, (t.l.map (·.id))[gid % t.l.length]'(by rw [List.length_map]; exact hjn0) = x := ⟨_, rfl⟩
                      rw [hidj] at hcj
                      have hidb : idj < 4294967296 := by
                        have hm := List.getElem_mem (l := t.l.map (·.id)) (n := gid % t.l.length) (by rw [List.length_map]; exact hjn0)
                        rw [hidj] at hm
                        obtain ⟨q, hq, rfl⟩ := List.mem_map.1 hm
                        exact (HG2.out.qs q (HL2.out ▸ hq)).ok.id
                      obtain ⟨jn, hjn⟩ : ∃ x, gid % t.l.length = x := ⟨_, rfl⟩
                      have e1 : ((gid : Nat) : Int).tmod ((t.l.length : Nat) : Int) = (jn : Int) := by rw [Int.tmod_eq_emod_of_nonneg (by omega), ← hjn]; exact (Int.natCast_emod ..).symm
                      have e0 : (((t.l.length : Nat) : Int) == 0) = false := by rw [beq_eq_false_iff_ne]; omega
                      rw [hjn] at hcj hjn0
                      have hj3 : (jn : Int) < (t.l.length : Int) := by omega
                      clear hwe hwcl hidj hjn d3n
                      go_wp2
                      go_meet
                      case rel => exact ⟨idj, hidb, rfl, HTL⟩
                case rest =>
                  obtain ⟨id, hid, rfl, HTL⟩ := hcut
                  obtain ⟨mm, hmm⟩ : ∃ m : Nat, gz % 1024 = (m : Int) := ⟨(gz % 1024).toNat, by omega⟩
                  have hm2 : mm ≤ 1023 := by omega
                  have e13 : Hid (bits .and .i64 gz 1023 = (mm : Int)) := hide (by rw [i64_and1023]; exact hmm)
                  have HFi : Hid (∀ W, Tl w B NS b t2 (.slice va t.l.length vcap) l' f3 c3 O3 (t.l.map (·.id)) (.slice ww t.l.length wcap) W → AreasAt W → ∀ ND, W.ownsRow ND 5 1 (.slice (some ⟨ND, 0, none⟩) mm mm) mm (byteV (List.replicate mm 0)) → Calls Tryz.prog 17 #[.agg (t2.c (.slice va t.l.length vcap)), .pointer (some ⟨b, 0, none⟩), .int .u32 (id : Nat), .bool okv, .slice (some ⟨ND, 0, none⟩) mm mm] W fun e w' => ∃ (s' : Bk) (v2 ev : Value) (f4 : Nat → Nat) (O4 : Nat → Prop), e = .returned (.tuple #[.agg (s'.c v2), ev]) ∧ Fi t2 id B O4 s' v2 ev w' ∧ Tl w B NS b t2 (.slice va t.l.length vcap) l' f4 (c3 + 300) O4 (t.l.map (·.id)) (.slice ww t.l.length wcap) w' ∧ Went (B + 1) O3 O4 W w') := hide (fun W hT hA ND hD => hT.fin HG2.out HLL.out hA hG (by omega) id okv _ mm mm (by omega) hD)
                  clear hy1 hmm hs2 hs3 d2 d2n
                  go_upto_region 31 with (fail)
                  go_cut [17, 18] from 31 to 238 (fun s17 s18 wx => ∃ (NU : Nat) (s' : Bk) (v2 ev : Value) (f4 : Nat → Nat) (O4 : Nat → Prop), s17 = .pointer (some ⟨NU, 0, none⟩) ∧ s18 = ev ∧ Fi t2 id B O4 s' v2 ev wx ∧ Tl w B NS b t2 (.slice va t.l.length vcap) l' f4 (c3 + 300) O4 (t.l.map (·.id)) (.slice ww t.l.length wcap) wx ∧ RowAt wx NU (s'.c v2) 53 ∧ NU ≠ NS ∧ ¬ O4 NU ∧ B ≤ NU)
                  case first =>
                    as_aux_lemma =>
                      refine wp_region_held_drew (S := (fun V => Below B w V ∧ RowAt V NS (t2.c (.slice va t.l.length vcap)) 53)) (by kernel_rfl) ?_ (fun hHeld => ?_)
                      · exact ⟨HTL.bel.drew, HTL.ns.dr⟩
                      replace HTL := HTL.dr
                      generalize World.drew _ = V at hHeld HTL ⊢
                      refine tkO 0 (.agg (t2.c (.slice va t.l.length vcap))) (by simp only [gT, gZ]; rfl) (y_bk NS t2 (.slice va t.l.length vcap) (fun V hV => hV.2) rfl rfl) ?_
                      (try simp only [Act.put, pA, pZ, pS])
                      refine tkO 1 (.pointer (some ⟨b, 0, none⟩)) (by simp only [gT, gZ, gS]; rfl) (puO (by (intro w hSw; (try dsimp only at hSw); go_simp))) ?_
                      (try simp only [Act.put, pA, pZ, pS])
                      refine tkO 2 (.int .u32 (id : Nat)) (by simp only [gT, gZ, gS]; rfl) (puO (by (intro w hSw; (try dsimp only at hSw); go_simp))) ?_
                      (try simp only [Act.put, pA, pZ, pS])
                      refine tkO 3 (.slice (some ⟨db, dof, none⟩) dl dc) (by simp only [gT, gZ, gS]; rfl) (puO (by (intro w hSw; (try dsimp only at hSw); go_simp))) ?_
                      (try simp only [Act.put, pA, pZ, pS])
                      refine tkO 4 (.int .i64 (i : Nat)) (by simp only [gT, gZ, gS]; rfl) (puO (by (intro w hSw; (try dsimp only at hSw); go_simp))) ?_
                      (try simp only [Act.put, pA, pZ, pS])
                      refine tkO 5 (.pointer (some ⟨db, dof + i * 4, none⟩)) (by simp only [gT, gZ, gS]; rfl) (puO (by (intro w hSw; (try dsimp only at hSw); go_simp))) ?_
                      (try simp only [Act.put, pA, pZ, pS])
                      refine tkO 6 (.pointer (some ⟨db, dof + i * 4 + 1, none⟩)) (by simp only [gT, gZ, gS]; rfl) (puO (by (intro w hSw; (try dsimp only at hSw); go_simp))) ?_
                      (try simp only [Act.put, pA, pZ, pS])
                      refine tkO 7 (.bool okv) (by simp only [gT, gZ, gS]; rfl) (y_cell db (dof + i * 4 + 1) _ (fun V hV => (hV.1.cell (p := ⟨db, dof + i * 4 + 1, none⟩) hdb).trans hx2) _ Tryz.underlying4 rfl rfl) ?_
                      (try simp only [Act.put, pA, pZ, pS])
                      refine tkO 8 (.slice (some ⟨db, dof, none⟩) dl dc) (by simp only [gT, gZ, gS]; rfl) (puO (by (intro w hSw; (try dsimp only at hSw); go_simp))) ?_
                      (try simp only [Act.put, pA, pZ, pS])
                      refine tkO 9 (.int .i64 (i : Nat)) (by simp only [gT, gZ, gS]; rfl) (puO (by (intro w hSw; (try dsimp only at hSw); go_simp))) ?_
                      (try simp only [Act.put, pA, pZ, pS])
                      refine tkO 10 (.pointer (some ⟨db, dof + i * 4, none⟩)) (by simp only [gT, gZ, gS]; rfl) (puO (by (intro w hSw; (try dsimp only at hSw); go_simp))) ?_
                      (try simp only [Act.put, pA, pZ, pS])
                      refine tkO 11 (.pointer (some ⟨db, dof + i * 4 + 2, none⟩)) (by simp only [gT, gZ, gS]; rfl) (puO (by (intro w hSw; (try dsimp only at hSw); go_simp))) ?_
                      (try simp only [Act.put, pA, pZ, pS])
                      refine tkO 12 (.int .i64 gz) (by simp only [gT, gZ, gS]; rfl) (y_cell db (dof + i * 4 + 2) _ (fun V hV => (hV.1.cell (p := ⟨db, dof + i * 4 + 2, none⟩) hdb).trans hx3) _ Tryz.underlying3 rfl rfl) ?_
                      (try simp only [Act.put, pA, pZ, pS])
                      refine tkO 13 (.int .i64 (mm : Nat)) (by simp only [gT, gZ, gS]; rfl) (puO (by (intro w hSw; (try dsimp only at hSw); go_simp ; exact e13.out))) ?_
                      (try simp only [Act.put, pA, pZ, pS])
                      refine wpAnyH_ready (rs := [14, 19]) (by kernel_rfl) (by simp) ?_
                      refine AllReadyH.cons (o := ?oi51) ?hi51 (fun K hK => ?b51) (AllReadyH.cons (o := ?oi52) ?hi52 (fun K hK => ?b52) AllReadyH.nil)
                      case hi51 => (simp only [List.getElem?_toArray, List.getElem?_cons_zero, List.getElem?_cons_succ]; rfl)
                      case hi52 => (simp only [List.getElem?_toArray, List.getElem?_cons_zero, List.getElem?_cons_succ]; rfl)
                      case b51 =>
                        rw [if_pos (by rfl)]
                        (obtain ⟨ND, hND0⟩ : ∃ n, V.heap.size = n := ⟨_, rfl⟩)
                        (with_reducible refine s_mkb mm (by omega) ND ?_ ?_ ?_ ?_)
                        · exact hND0
                        · exact rfl
                        · exact rfl
                        intro V2 hD hbc hz
                        rw [← hND0] at hbc
                        clear hz hND0
                        replace HTL := HTL.bl hbc
                        clear hHeld hbc
                        have hH2 := hide (And.intro HTL.bel HTL.ns)
                        refine hK.out _ _ ?_ (fun hHeld => ?_)
                        · exact hH2.out
                        clear hK K
                        clear hH2
                        (try simp only [Act.put, pA, pZ, pS])
                        refine wpAnyH_ready (rs := [15, 19]) (by kernel_rfl) (by simp) ?_
                        refine AllReadyH.cons (o := ?oi42) ?hi42 (fun K hK => ?b42) (AllReadyH.cons (o := ?oi43) ?hi43 (fun K hK => ?b43) AllReadyH.nil)
                        case hi42 => (simp only [List.getElem?_toArray, List.getElem?_cons_zero, List.getElem?_cons_succ]; rfl)
                        case hi43 => (simp only [List.getElem?_toArray, List.getElem?_cons_zero, List.getElem?_cons_succ]; rfl)
                        case b42 =>
                          rw [if_pos (by rfl)]
                          go_simp
                          (with_reducible refine (HFi.out _ HTL (HA0.out.belR hG0 HTL.bel) _ hD).mono ?_)
                          rintro e V4 ⟨s', v2, ev, f4, O4, rfl, hFi, hT4, hW4⟩
                          replace HTL := hT4
                          clear hHeld hT4 hW4 hD
                          have hH2 := hide (And.intro HTL.bel HTL.ns)
                          go_simp
                          refine hK.out _ _ ?_ (fun hHeld => ?_)
                          · exact hH2.out
                          clear hK K
                          clear hH2
                          (try simp only [Act.put, pA, pZ, pS])
                          refine tkO 16 (.tuple #[.agg (s'.c v2), ev]) (by simp only [gT, gZ, gS]; rfl) (puO (by (intro w hSw; (try dsimp only at hSw); go_simp))) ?_
                          (try simp only [Act.put, pA, pZ, pS])
                          refine tkO 17 (.agg (s'.c v2)) (by simp only [gT, gZ, gS]; rfl) (puO (by (intro w hSw; (try dsimp only at hSw); go_simp))) ?_
                          (try simp only [Act.put, pA, pZ, pS])
                          refine tkO 18 ev (by simp only [gT, gZ, gS]; rfl) (puO (by (intro w hSw; (try dsimp only at hSw); go_simp))) ?_
                          (try simp only [Act.put, pA, pZ, pS])
                          refine skO 19 (by simp only [gT, gZ, gS]; rfl) (fun K hK => ?_)
                          rw [if_pos (by rfl)]
                          (obtain ⟨NU, hNU0⟩ : ∃ n, V4.heap.size = n := ⟨_, rfl⟩)
                          (with_reducible refine s_alc NU ?_ (zeroBk.c nilS) zero_bk ?_)
                          · exact hNU0
                          intro V3 hu hbc hz
                          rw [← hNU0] at hbc
                          (have huS : NU ≠ NS := by have h1 := HTL.ns.lt; omega)
                          (have huO : ¬ O4 NU := fun e => absurd (HTL.ram.lt _ e) (by omega))
                          (have huB : B ≤ NU := by have h1 := HTL.ram.base; omega)
                          clear hz hNU0
                          replace HTL := HTL.bl hbc
                          replace hFi := hFi.bl hbc
                          clear hHeld hbc
                          have hH2 := hide (And.intro HTL.bel HTL.ns)
                          refine hK.out _ _ ?_ (fun hHeld => ?_)
                          · exact hH2.out
                          clear hK K
                          clear hH2
                          (try simp only [Act.put, pA, pZ, pS])
                          refine skO 20 (by simp only [gT, gZ, gS]; rfl) (fun K hK => ?_)
                          rw [if_pos (by rfl)]
                          (with_reducible refine s_bk NU _ _ s' v2 hFi.one hu ?_ ?_ ?_)
                          · exact rfl
                          · exact rfl
                          intro V5 hnew hoo
                          replace hFi := hFi.only hu hoo
                          replace HTL := HTL.only hu hoo huS huO huB
                          replace hu := hnew
                          clear hHeld hoo hnew
                          have hH2 := hide (And.intro HTL.bel HTL.ns)
                          refine hK.out _ _ ?_ (fun hHeld => ?_)
                          · exact hH2.out
                          clear hK K
                          clear hH2
                          (try simp only [Act.put, pA, pZ, pS])
                          refine tkO 21 ev (by simp only [gT, gZ, gS]; rfl) (puO (by (intro w hSw; (try dsimp only at hSw); go_simp))) ?_
                          (try simp only [Act.put, pA, pZ, pS])
                          refine wpAnyH_done (by kernel_rfl) ?_ _
                          clear hHeld
                          go_simp
                          go_wp2
                          go_meet
                          case rel => exact ⟨NU, s', v2, ev, f4, O4, rfl, rfl, hFi, HTL, hu, huS, huO, huB⟩
                        case b43 =>
                          rw [if_pos (by rfl)]
                          (obtain ⟨NU, hNU0⟩ : ∃ n, V2.heap.size = n := ⟨_, rfl⟩)
                          (with_reducible refine s_alc NU ?_ (zeroBk.c nilS) zero_bk ?_)
                          · exact hNU0
                          intro V3 hu hbc hz
                          rw [← hNU0] at hbc
                          (have huS : NU ≠ NS := by have h1 := HTL.ns.lt; omega)
                          (have huO : ¬ O3 NU := fun e => absurd (HTL.ram.lt _ e) (by omega))
                          (have huB : B ≤ NU := by have h1 := HTL.ram.base; omega)
                          clear hz hNU0
                          replace HTL := HTL.bl hbc
                          replace hD := own_bel hD hbc
                          clear hHeld hbc
                          have hH2 := hide (And.intro HTL.bel HTL.ns)
                          refine hK.out _ _ ?_ (fun hHeld => ?_)
                          · exact hH2.out
                          clear hK K
                          clear hH2
                          (try simp only [Act.put, pA, pZ, pS])
                          refine skO 15 (by simp only [gT, gZ, gS]; rfl) (fun K hK => ?_)
                          rw [if_pos (by rfl)]
                          go_simp
                          (with_reducible refine (HFi.out _ HTL (HA0.out.belR hG0 HTL.bel) _ hD).mono ?_)
                          rintro e V4 ⟨s', v2, ev, f4, O4, rfl, hFi, hT4, hW4⟩
                          have huO4 := hW4.no hu.lt huO
                          replace hu := hW4.row hu huO
                          replace huO := huO4
                          clear huO4
                          replace HTL := hT4
                          clear hHeld hT4 hW4 hD
                          have hH2 := hide (And.intro HTL.bel HTL.ns)
                          go_simp
                          refine hK.out _ _ ?_ (fun hHeld => ?_)
                          · exact hH2.out
                          clear hK K
                          clear hH2
                          (try simp only [Act.put, pA, pZ, pS])
                          refine tkO 16 (.tuple #[.agg (s'.c v2), ev]) (by simp only [gT, gZ, gS]; rfl) (puO (by (intro w hSw; (try dsimp only at hSw); go_simp))) ?_
                          (try simp only [Act.put, pA, pZ, pS])
                          refine tkO 17 (.agg (s'.c v2)) (by simp only [gT, gZ, gS]; rfl) (puO (by (intro w hSw; (try dsimp only at hSw); go_simp))) ?_
                          (try simp only [Act.put, pA, pZ, pS])
                          refine tkO 18 ev (by simp only [gT, gZ, gS]; rfl) (puO (by (intro w hSw; (try dsimp only at hSw); go_simp))) ?_
                          (try simp only [Act.put, pA, pZ, pS])
                          refine skO 20 (by simp only [gT, gZ, gS]; rfl) (fun K hK => ?_)
                          rw [if_pos (by rfl)]
                          (with_reducible refine s_bk NU _ _ s' v2 hFi.one hu ?_ ?_ ?_)
                          · exact rfl
                          · exact rfl
                          intro V5 hnew hoo
                          replace hFi := hFi.only hu hoo
                          replace HTL := HTL.only hu hoo huS huO huB
                          replace hu := hnew
                          clear hHeld hoo hnew
                          have hH2 := hide (And.intro HTL.bel HTL.ns)
                          refine hK.out _ _ ?_ (fun hHeld => ?_)
                          · exact hH2.out
                          clear hK K
                          clear hH2
                          (try simp only [Act.put, pA, pZ, pS])
                          refine tkO 21 ev (by simp only [gT, gZ, gS]; rfl) (puO (by (intro w hSw; (try dsimp only at hSw); go_simp))) ?_
                          (try simp only [Act.put, pA, pZ, pS])
                          refine wpAnyH_done (by kernel_rfl) ?_ _
                          clear hHeld
                          go_simp
                          go_wp2
                          go_meet
                          case rel => exact ⟨NU, s', v2, ev, f4, O4, rfl, rfl, hFi, HTL, hu, huS, huO, huB⟩
                      case b52 =>
                        rw [if_pos (by rfl)]
                        (obtain ⟨NU, hNU0⟩ : ∃ n, V.heap.size = n := ⟨_, rfl⟩)
                        (with_reducible refine s_alc NU ?_ (zeroBk.c nilS) zero_bk ?_)
                        · exact hNU0
                        intro V3 hu hbc hz
                        rw [← hNU0] at hbc
                        (have huS : NU ≠ NS := by have h1 := HTL.ns.lt; omega)
                        (have huO : ¬ O3 NU := fun e => absurd (HTL.ram.lt _ e) (by omega))
                        (have huB : B ≤ NU := by have h1 := HTL.ram.base; omega)
                        clear hz hNU0
                        replace HTL := HTL.bl hbc
                        clear hHeld hbc
                        have hH2 := hide (And.intro HTL.bel HTL.ns)
                        refine hK.out _ _ ?_ (fun hHeld => ?_)
                        · exact hH2.out
                        clear hK K
                        clear hH2
                        (try simp only [Act.put, pA, pZ, pS])
                        refine skO 14 (by simp only [gT, gZ, gS]; rfl) (fun K hK => ?_)
                        rw [if_pos (by rfl)]
                        (obtain ⟨ND, hND0⟩ : ∃ n, V3.heap.size = n := ⟨_, rfl⟩)
                        (with_reducible refine s_mkb mm (by omega) ND ?_ ?_ ?_ ?_)
                        · exact hND0
                        · exact rfl
                        · exact rfl
                        intro V2 hD hbc hz
                        rw [← hND0] at hbc
                        clear hz hND0
                        replace HTL := HTL.bl hbc
                        replace hu := hu.bl hbc
                        clear hHeld hbc
                        have hH2 := hide (And.intro HTL.bel HTL.ns)
                        refine hK.out _ _ ?_ (fun hHeld => ?_)
                        · exact hH2.out
                        clear hK K
                        clear hH2
                        (try simp only [Act.put, pA, pZ, pS])
                        refine skO 15 (by simp only [gT, gZ, gS]; rfl) (fun K hK => ?_)
                        rw [if_pos (by rfl)]
                        go_simp
                        (with_reducible refine (HFi.out _ HTL (HA0.out.belR hG0 HTL.bel) _ hD).mono ?_)
                        rintro e V4 ⟨s', v2, ev, f4, O4, rfl, hFi, hT4, hW4⟩
                        have huO4 := hW4.no hu.lt huO
                        replace hu := hW4.row hu huO
                        replace huO := huO4
                        clear huO4
                        replace HTL := hT4
                        clear hHeld hT4 hW4 hD
                        have hH2 := hide (And.intro HTL.bel HTL.ns)
                        go_simp
                        refine hK.out _ _ ?_ (fun hHeld => ?_)
                        · exact hH2.out
                        clear hK K
                        clear hH2
                        (try simp only [Act.put, pA, pZ, pS])
                        refine tkO 16 (.tuple #[.agg (s'.c v2), ev]) (by simp only [gT, gZ, gS]; rfl) (puO (by (intro w hSw; (try dsimp only at hSw); go_simp))) ?_
                        (try simp only [Act.put, pA, pZ, pS])
                        refine tkO 17 (.agg (s'.c v2)) (by simp only [gT, gZ, gS]; rfl) (puO (by (intro w hSw; (try dsimp only at hSw); go_simp))) ?_
                        (try simp only [Act.put, pA, pZ, pS])
                        refine tkO 18 ev (by simp only [gT, gZ, gS]; rfl) (puO (by (intro w hSw; (try dsimp only at hSw); go_simp))) ?_
                        (try simp only [Act.put, pA, pZ, pS])
                        refine skO 20 (by simp only [gT, gZ, gS]; rfl) (fun K hK => ?_)
                        rw [if_pos (by rfl)]
                        (with_reducible refine s_bk NU _ _ s' v2 hFi.one hu ?_ ?_ ?_)
                        · exact rfl
                        · exact rfl
                        intro V5 hnew hoo
                        replace hFi := hFi.only hu hoo
                        replace HTL := HTL.only hu hoo huS huO huB
                        replace hu := hnew
                        clear hHeld hoo hnew
                        have hH2 := hide (And.intro HTL.bel HTL.ns)
                        refine hK.out _ _ ?_ (fun hHeld => ?_)
                        · exact hH2.out
                        clear hK K
                        clear hH2
                        (try simp only [Act.put, pA, pZ, pS])
                        refine tkO 21 ev (by simp only [gT, gZ, gS]; rfl) (puO (by (intro w hSw; (try dsimp only at hSw); go_simp))) ?_
                        (try simp only [Act.put, pA, pZ, pS])
                        refine wpAnyH_done (by kernel_rfl) ?_ _
                        clear hHeld
                        go_simp
                        go_wp2
                        go_meet
                        case rel => exact ⟨NU, s', v2, ev, f4, O4, rfl, rfl, hFi, HTL, hu, huS, huO, huB⟩
                  case rest =>
                    obtain ⟨NU, s', v2, ev, f4, O4, rfl, hev, hFi, HTL, hu, huS, huO, huB⟩ := hcut
                    rcases hFi.ex with ⟨z, rfl⟩ | ⟨k, l2, k1, k2, rfl, k4, k5, k6, k7⟩
                    · as_aux_lemma =>
                        subst hev
                        clear hFi hu huS huO huB
                        go_wp2
                        go_roundw
                        case rel => first | exact ⟨i + 1, t2, _, l', f4, O4, hlt, by go_num, HG2.out, HLL.out, HTL.ns, HTL.ram.more (c_le3 hc3 hcb), HTL.ins, (by rw [HL2.out]; exact HTL.wa), HTL.wn, HTL.no, HTL.bel⟩ | ((repeat apply Exists.intro); exact ⟨⟨i + 1, t2, _, l', f4, O4, hlt, by go_num, HG2.out, HLL.out, HTL.ns, HTL.ram.more (c_le3 hc3 hcb), HTL.ins, (by rw [HL2.out]; exact HTL.wa), HTL.wn, HTL.no, HTL.bel⟩, rfl⟩)
                        case measure => simp [intOf]; omega
                    · as_aux_lemma =>
                        subst hev
                        clear hFi
                        obtain ⟨va2, vcap2, hva2, _, _⟩ := own_form k7.row
                        have hn1 : l2.length = s'.l.length := by rw [← k6, List.length_map]
                        have hn2 : s'.l.length + 1 = t.l.length := by rw [k5, List.length_eraseIdx, if_pos k2, HL2.out]; rw [HL2.out] at k2; omega
                        obtain ⟨n2, hn3⟩ : ∃ x, s'.l.length = x := ⟨_, rfl⟩
                        rw [hn1, hn3] at hva2
                        rw [hn3] at hn2
                        subst hva2
                        have hvo2 := own_one k7.row
                        have HCk : Hid (∀ W, InAt W (B + 1) O4 (.slice va2 n2 vcap2) l2 → OffAt W → Calls Tryz.prog 21 #[.agg (s'.c (.slice va2 n2 vcap2)), .int .i64 2] W fun e w' => e = .returned .nilIface ∧ Below W.heap.size W w') := hide (fun W hI hO => bcheck_good s' k4 l2 k6 (.slice va2 n2 vcap2) hI hO)
                        have HFn : Hid (∀ W, InAt W (B + 1) O4 (.slice va2 n2 vcap2) l2 → Calls Tryz.prog 17 #[.agg (s'.c (.slice va2 n2 vcap2)), .pointer (some ⟨b, 0, none⟩), .int .u32 (id : Nat), .bool false, .slice none 0 0] W fun e w' => e = .returned (.tuple #[.agg (zeroBk.c nilS), .iface 129 (.int .i64 8)]) ∧ Below W.heap.size W w') := hide (fun W hI => finish_none s' l2 k6 (by have := k4.len; omega) (.slice va2 n2 vcap2) b id false hI _ (by rw [k5]; exact ids_gone HG2.out.nod k1))
                        have HNu : Hid (∀ W, Below B w W → Calls Tryz.prog 19 #[.iface 129 (.int .i64 8)] W fun e w' => e = .returned (.int .i64 8) ∧ Below W.heap.size W w') := hide (fun W hb => num_err 8 W ((hb.cell (p := ⟨0, 0, none⟩) hE0).trans HH0.out))
                        have HFL : Hid ((t.l.map (·.id)).filter (fun y => y != id) = s'.l.map (·.id)) := hide (by rw [k5, ids_erase HG2.out.nod k1, HL2.out])
                        have HK4 := hide k4
                        have HK6 := hide k6
                        have hI2 := k7
                        have hn8 : n2 ≤ 8 := by have := k4.len; omega
                        have q1 : (((n2 : Nat) : Int) + 1 == ((t.l.length : Nat) : Int)) = true := by simp; omega
                        have q1n : ((n2 + 1 : Nat) == t.l.length) = true := by simp; omega
                        have q2 : ((n2 : Nat) : Int) + 1 = ((t.l.length : Nat) : Int) := by omega
                        clear k1 k2 k4 k5 k6 k7 hn1 hn3
                        go_wp2_with (first | ((with_reducible refine ld_bk NU s' (.slice va2 n2 vcap2) hu ?_ ?_ ?_); exact rfl; exact rfl) | ((with_reducible refine ld_bin NU s' _ _ hu ?_ ?_ ?_); exact rfl; exact rfl) | (go_at_call 21; (with_reducible refine (HCk.out _ hI2 (HO0.out.belR hO0 HTL.bel)).mono ?_); rintro e W9 ⟨rfl, hbc⟩; replace HTL := HTL.bl hbc; replace hu := hu.bl hbc; replace hI2 := hI2.bl hbc; clear hbc))
                        clear q1 q1n q2 HCk
                        obtain ⟨BR, hBR⟩ : ∃ n, W9.heap.size = n := ⟨_, rfl⟩
                        have HBR := hide hBR
                        have hOB : ∀ x, O4 x → x < BR := fun x hx => hBR ▸ HTL.ram.lt x hx
                        have hBB : B + 1 ≤ BR := hBR ▸ HTL.ram.base
                        clear hBR
                        go_loopw [19, 20] (fun rv kv wq => ∃ k : Nat, k ≤ t.l.length ∧ kv = .int .i64 (k : Nat) ∧ Below BR W9 wq ∧ wq.ownsRow BR 22 1 rv (flt (t.l.map (·.id)) id k).length (u32V (flt (t.l.map (·.id)) id k))) (fun _ kv _ => t.l.length - (intOf kv).toNat)
                        case atStart => exact ⟨0, Nat.zero_le _, rfl, Below.refl _ _, World.ownsRow_nil _ _ _ _⟩
                        case round =>
                          obtain ⟨k, hk, rfl, hbq, hrq⟩ := hrel
                          have hbq9 := HBR.out.symm ▸ hbq
                          replace HTL := HTL.bl hbq9
                          replace hu := hu.bl hbq9
                          replace hI2 := hI2.bl hbq9
                          clear hbq9
                          by_cases hkn : k < t.l.length
                          · have l5 : (k : Int) < (t.l.length : Int) := by omega
                            have hkm : k < (t.l.map (·.id)).length := by rw [List.length_map]; exact hkn
                            obtain ⟨gwb, wcap', hwe, hwc3, hwcl⟩ := cell_u HTL.wa rfl k hkm
                            rw [List.length_map] at hwe
                            obtain ⟨rfl, rfl⟩ : ww = some ⟨gwb, 0, none⟩ ∧ wcap = wcap' := by injection hwe with e1 e2 e3; exact ⟨e1, e3⟩
                            have hcj := hwcl k hkm
                            obtain ⟨idj, hidj⟩ : ∃ x, (t.l.map (·.id))[k] = x := ⟨_, rfl⟩
                            rw [hidj] at hcj
                            by_cases hke : idj = id
                            · as_aux_lemma =>
                                have t1 : (((idj : Nat) : Int) == ((id : Nat) : Int)) = true := by simp; omega
                                have t1n : (idj == id) = true := by simp; omega
                                have HF : Hid (flt (t.l.map (·.id)) id (k + 1) = flt (t.l.map (·.id)) id k) := hide (flt_eq hkm (hidj.trans hke))
                                clear hwe hwcl hidj hke hkm
                                go_wp2
                                go_roundw
                                case rel => exact ⟨k + 1, hkn, by go_num, hbq, by rw [HF.out]; exact hrq⟩
                                case measure => simp [intOf]; omega
                            · as_aux_lemma =>
                                have t1 : (((idj : Nat) : Int) == ((id : Nat) : Int)) = false := by simp; omega
                                have t1n : (idj == id) = false := by simp; omega
                                have HF : Hid (flt (t.l.map (·.id)) id (k + 1) = flt (t.l.map (·.id)) id k ++ [idj]) := hide (by rw [flt_ne hkm (by rw [hidj]; exact hke), hidj])
                                have hfl := flt_len (t.l.map (·.id)) id k
                                rw [List.length_map] at hfl
                                obtain ⟨fk, hfk⟩ : ∃ x, flt (t.l.map (·.id)) id k = x := ⟨_, rfl⟩
                                rw [hfk] at hrq HF hfl
                                obtain ⟨NB, hNB0⟩ : ∃ n, wr.heap.size = n := ⟨_, rfl⟩
                                have hNB := hide hNB0
                                have hBN : BR ≤ NB := hNB0 ▸ (HBR.out ▸ hbq.size)
                                clear hwe hwcl hidj hke hkm hfk hNB0
                                go_upto_region 40 with (fail)
                                have HCJ := hide hcj
                                clear hcj t1 t1n
                                go_wp2_with (first | ((with_reducible refine ldw_u32 gwb k _ HCJ.out ?_ ?_ ?_); exact rfl; exact rfl) | ((with_reducible refine bs_u NB ?_ idj ?_ ?_); exact hNB.out; exact rfl; intro W hbr hb' hz; have hbc := hNB.out.symm ▸ hb'; replace hbq := hbq.trans (hb'.mono (by omega)); replace hrq := own_bel hrq hbc; (have hBW : BR ≤ W.heap.size := by have hsz := hb'.size; rw [hNB.out] at hsz; omega); clear hb' hbc hz) | ((with_reducible refine app_u fk idj fk.length rfl hrq NB hbr (by omega) hBW ?_ ?_ ?_); exact rfl; exact rfl; intro W5 v5 hown hg5 hbk5; replace hbq := grow_below hbq hg5 hBW (fun g e => (hrq.lt g e).1); replace hrq := hown; clear hown hg5 hbk5 hbr))
                                go_roundw
                                case rel => exact ⟨k + 1, hkn, by go_num, hbq, by rw [HF.out, List.length_append]; exact hrq⟩
                                case measure => simp [intOf]; omega
                          · as_aux_lemma =>
                              obtain rfl : k = t.l.length := by omega
                              have hrq2 : wr.ownsRow BR 22 1 u19 (s'.l.map (·.id)).length (u32V (s'.l.map (·.id))) := by
                                have e : flt (t.l.map (·.id)) id t.l.length = s'.l.map (·.id) := by
                                  have := flt_all (t.l.map (·.id)) id
                                  rw [List.length_map] at this
                                  rw [this, HFL.out]
                                rw [e] at hrq
                                exact hrq
                              clear hrq
                              replace HTL := HTL.wait hrq2 hBB hOB
                              clear hrq2
                              go_wp2_with (first | ((with_reducible refine ld_bk NU s' (.slice va2 n2 vcap2) hu ?_ ?_ ?_); exact rfl; exact rfl) | ((with_reducible refine st_bk NS _ _ s' (.slice va2 n2 vcap2) hvo2 HTL.ns ?_ ?_ ?_); exact rfl; exact rfl; intro W hr hoo; replace HTL := HTL.set hr hoo hI2; clear hr hoo hu hI2) | ((with_reducible refine ld_bk NS s' (.slice va2 n2 vcap2) HTL.ns ?_ ?_ ?_); exact rfl; exact rfl) | (go_at_call 17; (with_reducible refine (HFn.out _ HTL.ins).mono ?_); rintro e W6 ⟨rfl, hbc⟩; replace HTL := HTL.bl hbc; (obtain ⟨NZ, hNZ0⟩ : ∃ n, W6.heap.size = n := ⟨_, rfl⟩); have hNZ := hide hNZ0; (have hzS : NZ ≠ NS := by have h1 := HTL.ns.lt; omega); (have hzO : ¬ O4 NZ := fun e => absurd (HTL.ram.lt _ e) (by omega)); (have hzB : B ≤ NZ := by have h1 := HTL.ram.base; omega); clear hbc hNZ0) | ((with_reducible refine al_bk NZ ?_ ?_); exact hNZ.out; intro W hz hb' hz2; (have hbc : Below W6.heap.size W6 W := by rw [hNZ.out]; exact hb'); replace HTL := HTL.bl hbc; clear hb' hbc hz2) | ((with_reducible refine st_bk NZ _ _ zeroBk nilS rfl hz ?_ ?_ ?_); exact rfl; exact rfl; intro W hr hoo; replace HTL := HTL.only hz hoo hzS hzO hzB; clear hr hoo hz) | (go_at_call 19; (with_reducible refine (HNu.out _ (HTL.bel)).mono ?_); rintro e W8 ⟨rfl, hbc⟩; replace HTL := HTL.bl hbc; clear hbc))
                              go_roundw
                              case rel => first | exact ⟨i + 1, s', _, l2, f4, O4, hlt, by go_num, HK4.out, HK6.out, HTL.ns, HTL.ram.more (c_le3 hc3 hcb), HTL.ins, HTL.wa, HTL.wn, HTL.no, HTL.bel⟩ | ((repeat apply Exists.intro); exact ⟨⟨i + 1, s', _, l2, f4, O4, hlt, by go_num, HK4.out, HK6.out, HTL.ns, HTL.ram.more (c_le3 hc3 hcb), HTL.ins, HTL.wa, HTL.wn, HTL.no, HTL.bel⟩, rfl⟩)
                              case measure => simp [intOf]; omega
              · as_aux_lemma =>
                  have d2 : (dl : Int) ≤ (i : Int) := by omega
                  have d2n : dl ≤ i := by omega
                  go_wp2
                  go_roundw
                  case rel => first | exact ⟨i + 1, t2, _, l', f3, O3, hlt, by go_num, HG2.out, HLL.out, HTL.ns, HTL.ram.more (c_le hc3 hcb), HTL.ins, (by rw [HL2.out]; exact HTL.wa), HTL.wn, HTL.no, HTL.bel⟩ | ((repeat apply Exists.intro); exact ⟨⟨i + 1, t2, _, l', f3, O3, hlt, by go_num, HG2.out, HLL.out, HTL.ns, HTL.ram.more (c_le hc3 hcb), HTL.ins, (by rw [HL2.out]; exact HTL.wa), HTL.wn, HTL.no, HTL.bel⟩, rfl⟩)
                  case measure => simp [intOf]; omega
    · obtain rfl : i = 12 := by omega
      go_wp2_with (first | (go_at_call 10; (with_reducible refine (HSu.out _ (HA0.out.belR hG0 hb)).mono ?_); rintro e W7 ⟨rfl, hbc⟩; replace hb := hb.trans (hbc.mono (by have := hM.base; omega)); clear hbc))
      go_ret
      exact ⟨rfl, hb⟩
end Go.Proofs.YtaaiockiojejeaaGreatDoor
