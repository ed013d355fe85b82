/-
  Encode: tlv's own.
-/
import Derived.Test.YtkahkkcbigifiaaDoorTvAscP
namespace Go.Proofs.YtkahkkcbigifiaaDoor
open Go.RowKit
set_option linter.unusedVariables false
set_option linter.unusedSimpArgs false

variable {P : Program} {ops : Array Oper} {rest : List Oper} {dst : Option Tmp} {ty t t2 : TypeId} {pos : String} {after : Array Edge} {a : Act} {w : World} {Q : Exit → Act → World → Prop} {K : Act → World → Prop} {x y z : Operand} {gd : Option (Nat × Bool)}
theorem op_appP {N g c : Nat} {e t1 : TypeId} (i : TypeInfo) (ht : P.underlying t = some (.slice e)) (hts : P.underlying t1 = some .string) (hi : P.info? e = some i) (hs : i.size = 1) (ho : Own N e w (.slice (some ⟨g, 0, none⟩) 0 c) []) (hc : 4 ≤ c) (hx : a.eval x = .slice (some ⟨g, 0, none⟩) 0 c) (hy : a.eval y = .string pnS)
    (k : ∀ W, Own N e W (.slice (some ⟨g, 0, none⟩) 4 c) [80, 78, 67, 69] → w.grownBy W (some g) → wpList P ops Q rest (a.put dst (.slice (some ⟨g, 0, none⟩) 4 c)) W) :
    wpList P ops Q (⟨dst, .call { callee := .builtin .append, args := #[x, y], argTypes := #[t, t1] }, t, pos, after, none⟩ :: rest) a w :=
  op_appS i ht hts hi hs ho pnS [80, 78, 67, 69] rfl pn_lt rfl (by simpa using hc) hx hy k
theorem lay4 {N : Nat} {v : Value} {l : List Nat} (w : World) (h : Own N 5 w v l) (hN : N ≤ w.heap.size) (hn : l.length ≤ 100000000) (V : Nat) (hV : V < 18446744073709551616) :
    Calls Tryd.prog 35 #[v, .int .u64 (V : Nat), .int .i64 4] w fun e w' => ∃ v', e = .returned v' ∧ Own N 5 w' v' (l ++ leN 4 V) ∧ Below N w w' ∧ Grw w w' v v' := lay_any w h hN hn V hV 4 (by decide)
theorem laySum0 {N : Nat} {v : Value} {l : List Nat} (w : World) (h : Own N 5 w v l) (hN : N ≤ w.heap.size) (hn : l.length ≤ 100000000) (hT : TabAt w) :
    Calls Tryd.prog 37 #[v, .int .i64 0] w fun e w' => ∃ v', e = .returned v' ∧ Own N 5 w' v' (l ++ tail4 (sumL l)) ∧ Below N w w' := laySum_any w h hN hn 0 (Nat.zero_le _) hT
theorem pn4_le : ([80, 78, 67, 69] : List Nat).length ≤ 100000000 := by decide
theorem pnv_le (V : Nat) : ([80, 78, 67, 69] ++ leN 4 V : List Nat).length ≤ 100000000 := by rw [List.length_append, leN_len]; decide
theorem secL_of (q : List Nat) (s : Sct) : q ++ leN 4 s.tag ++ leN 4 s.b.length ++ s.b ++ tail4 (sumL ((q ++ leN 4 s.tag ++ leN 4 s.b.length ++ s.b).drop q.length)) = q ++ secL s := by
  have e : q ++ leN 4 s.tag ++ leN 4 s.b.length ++ s.b = q ++ headL s := by simp [headL, List.append_assoc]
  rw [e, List.drop_left, List.append_assoc]
  rfl
theorem own_ne {N g : Nat} {e t' : TypeId} {w : World} {v : Value} {l : List Nat} {cs : Array Value} (h : Own N e w v l) (hr : RowAt w g cs t') (hn : e ≠ t') : v.ownBlock ≠ some g := fun hv => by
  rcases h.row.2 with ⟨h1, _⟩ | ⟨g', cap, cur, h1, _, h3, _⟩
  · subst h1; cases hv
  · subst h1
    cases hv
    have := hr.symm.trans h3
    simp at this
    exact hn this.2.symm
set_option maxRecDepth 100000 in
set_option maxHeartbeats 4000000 in
theorem encode_any {B : Nat} {v : Value} {L : List Sct} (w : World) (h : Secs B w v L) (hB : B ≤ w.heap.size) (ver : Nat) (hv : ver < 4294967296) (hL : L.length ≤ 4096) (hsz : sizeL L ≤ 100000) (hT : TabAt w) :
    Calls Tryd.prog 11 #[.int .u32 (ver : Nat), v] w fun e w' => ∃ v', e = .returned (.tuple #[v', errS (encE L)]) ∧ Rd w'.heap.size w' v' (encB ver L) ∧ Below w.heap.size w w' := by
  obtain ⟨i0, hi0, hz0, hs0, hb0⟩ := info_u8
  have HI := hide hi0
  have HZ := hide hz0
  have HS := hide hs0
  have HBY := hide hb0
  clear hi0 hz0 hs0 hb0
  have HT := hide hT
  have HSE := hide h
  have HSZ := hide hsz
  have HA := hide (ascend_any w h hB)
  have HFS := hide (fun W hS hb' => fileSize_any (B := B) (v := v) (L := L) W hS hb' (by omega))
  have hb : Below w.heap.size w w := Below.refl _ w
  have h16 : 16 ≤ sizeL L := by have := secs_len L; omega
  by_cases hasc : ascF none L = true
  · have hE0 : encE L = 0 := by
      unfold encE
      rw [if_neg (by rw [hasc]; decide), if_neg (by omega)]
    have HE := hide hE0
    rw [hasc] at HA
    obtain ⟨n, hn⟩ : ∃ n, L.length = n := ⟨_, rfl⟩
    have HN := hide hn
    obtain ⟨ad, cap, rfl, hcap, hmax⟩ := h.form
    have hsn := h
    rw [hn] at hcap hL HA HFS hsn ⊢
    have HSN := hide hsn
    clear hsn
    obtain ⟨sz, hz⟩ : ∃ z, sizeL L = z := ⟨_, rfl⟩
    have HZL := hide hz
    rw [hz] at hsz h16 HFS
    have HOP := hide (show [80, 78, 67, 69] ++ leN 4 ver ++ leN 4 n = openL ver n from rfl)
    clear h hE0 hasc hn hz hT
    go_enter Tryd.func11, Tryd.ntmps11
    go_wp2_with (first | (go_at_call 33; (with_reducible refine (HA.out).mono ?_); rintro e W1 ⟨rfl, hb⟩) | (go_at_call 34; (with_reducible refine (HFS.out _ (HSN.out.bel (hb.mono hB)) (Nat.le_trans hB hb.size)).mono ?_); rintro e W2 ⟨rfl, hb2⟩; replace hb := below_bl rfl hb hb2; clear hb2) | ((with_reducible refine op_mk1 (n := sz) (k2 := .u64) w.heap.size i0 Tryd.underlying26 HI.out HZ.out HS.out HBY.out (by omega) hb.size ?_ ?_ ?_); exact rfl; exact rfl; intro W3 hown hb2; replace hb := below_bl rfl hb hb2; clear hb2) | ((with_reducible refine op_appP i0 Tryd.underlying26 und_str HI.out HS.out hown (by omega) ?_ ?_ ?_); exact rfl; exact rfl; intro W4 hown2 hg; replace hb := hb.grown hg hb.size (fun k hk => by have e9 := Option.some.inj hk; subst e9; exact (hown.row.lt _ rfl).1); replace hown := hown2; clear hown2 hg) | (go_at_call 35; (with_reducible refine (lay4 _ hown hb.size (pnv_le ver) n (by omega)).mono ?_); rintro e W5 ⟨vq, rfl, hown2, hb2, _⟩; replace hb := hb.trans hb2; replace hown := hown2; clear hown2 hb2) | (go_at_call 35; (with_reducible refine (lay4 _ hown hb.size pn4_le ver (by omega)).mono ?_); rintro e W5 ⟨vq, rfl, hown2, hb2, _⟩; replace hb := hb.trans hb2; replace hown := hown2; clear hown2 hb2))
    rw [HOP.out] at hown
    go_loopw [7, 40] (EnRel L ver n w.heap.size w) (fun _ iv _ => n - (intOf iv).toNat)
    case atStart => exact ⟨0, Nat.zero_le _, rfl, by simpa [secsL] using hown, hb⟩
    case round =>
      clear hb hown
      obtain ⟨k, hk, rfl, hown, hb⟩ := hrel
      have HO := hide hown
      by_cases hlt : k < n
      · obtain ⟨b, off, cap', hv, _, _, hbB, HC⟩ := HSE.out.all (by have := HN.out; omega)
        injection hv with hv hv2 hv3
        subst hv hv3
        clear hv2
        have hkl : k < L.length := by have := HN.out; omega
        obtain ⟨c1, u, c2, c3⟩ := HC.out k hkl
        obtain ⟨au, cu, hu, _, _⟩ := c3.form
        subst hu
        have HC0 := hide ((hb.cell (p := ⟨b, off + k * 2, none⟩) (Nat.lt_of_lt_of_le hbB hB)).trans c1)
        have HC1 := hide ((hb.cell (p := ⟨b, off + k * 2 + 1, none⟩) (Nat.lt_of_lt_of_le hbB hB)).trans c2)
        have HU := hide (fun W (hW : Below w.heap.size w W) => (c3.bel (hW.mono hB)).mono (Nat.le_trans hB (Nat.le_refl _)))
        have HSC := hide (secs_succ L k hkl)
        have hbl := b_le L _ (List.getElem_mem hkl)
        have HBL := hide (show L[k].b.length ≤ 100000 by have := HSZ.out; omega)
        have HTG := hide (HSE.out.tags _ (List.getElem_mem hkl))
        have HQ := hide ((secL_of (openL ver n ++ secsL (L.take k)) L[k]).trans (show _ = openL ver n ++ secsL (L.take (k + 1)) by rw [HSC.out, List.append_assoc]))
        have HLQ := hide (show (openL ver n ++ secsL (L.take k)).length ≤ 100000 by
          have h1 := secs_len (L.take k)
          have h2 := size_le L k
          have := HSZ.out
          rw [List.length_append, open_len]; omega)
        clear c1 c2 c3 hbl
        generalize openL ver n ++ secsL (L.take k) = q at *
        generalize L[k].tag = tg at *
        generalize L[k].b = lb at *
        have htg := HTG.out
        have hblL := HBL.out
        obtain ⟨ao, co, rfl, _, _⟩ := HO.out.rd.form
        have hnq := HLQ.out
        go_wp2_with (first | ((with_reducible refine op_ldt b (off + k * 2) tg (.slice au lb.length cu) HC0.out HC1.out ?_ ?_); exact rfl) | ((with_reducible refine op_alloc wr.heap.size ?_ _ zero_ts ?_); exact rfl; intro W hx hb2 hz) | ((with_reducible refine op_store wr.heap.size ?_ (#[.int .u32 (tg : Nat), .slice au lb.length cu] : Array Value) ?_ _ _ hx (size_two _ _) rfl (one_two _ _ _ _) ?_); exact rfl; exact rfl; intro W2 hnew ho; replace hb2 := ho.bel _ _ (Nat.le_refl _) hb2; replace hx := hnew; clear hnew ho; replace HO := hide (HO.out.bl hb2); replace hb := below_bl rfl hb hb2; have hne := own_ne HO.out hx (by decide); clear hb2) | ((with_reducible refine ld_two0 hx ?_ ?_); exact rfl) | ((with_reducible refine ld_two1 hx ?_ ?_); exact rfl) | (go_at_call 35; (with_reducible refine (lay4 _ HO.out hb.size (by omega) tg (by omega)).mono ?_); rintro e W5 ⟨vq, rfl, hown, hb2, hgw⟩; replace hb := hb.trans hb2; replace hx := hgw.row hx hne; clear hb2 hgw) | (go_at_call 36; (with_reducible refine (layRun_any _ hown hb.size (HU.out _ hb) (by rw [List.length_append, leN_len]; omega) (by omega)).mono ?_); rintro e W6 ⟨vq2, rfl, hown2, hb2⟩; replace hb := hb.trans hb2; replace hown := hown2; clear hown2 hb2) | (go_at_call 37; (with_reducible refine (laySum_any _ hown hb.size (by simp only [List.length_append, leN_len]; omega) q.length (by simp only [List.length_append]; omega) (HT.out.below hb)).mono ?_); rintro e W7 ⟨vq3, rfl, hown2, hb2⟩; replace hb := hb.trans hb2; replace hown := hown2; clear hown2 hb2))
        go_roundw
        case rel => exact ⟨k + 1, hlt, by go_num, by rw [← HQ.out]; exact hown, hb⟩
        case measure => simp [intOf]; omega
      · obtain rfl : k = n := by omega
        have htk : L.take k = L := List.take_of_length_le (by have := HN.out; omega)
        rw [htk] at HO
        have HLQ := hide (show (openL ver k ++ secsL L).length ≤ 100000000 by
          have := secs_len L
          have := HSZ.out
          rw [List.length_append, open_len]; omega)
        obtain ⟨q, hq⟩ : ∃ q, openL ver k ++ secsL L = q := ⟨_, rfl⟩
        have HQ0 := hide hq
        rw [hq] at HO HLQ
        clear hq hown
        have HSM := hide (laySum0 wr HO.out hb.size HLQ.out (HT.out.below hb))
        obtain ⟨ao, co, rfl, _, _⟩ := HO.out.rd.form
        go_wp2_with ((go_at_call 37; (with_reducible refine (HSM.out).mono ?_); rintro e W2 ⟨vq, rfl, hown, hb2⟩; replace hb := hb.trans hb2; clear hb2))
        go_ret2
        refine ⟨_, by rw [HE.out]; rfl, ?_, hb⟩
        rw [encB, if_pos HE.out, fileL, HN.out, HQ0.out]
        exact hown.rd
  · have hasf : ascF none L = false := by simpa using hasc
    have HE := hide (show encE L = 31 by rw [encE, if_pos hasf])
    rw [hasf] at HA
    obtain ⟨ad, cap, rfl, hcap, hmax⟩ := h.form
    clear h hasc hasf
    go_enter Tryd.func11, Tryd.ntmps11
    go_wp2_with ((go_at_call 33; (with_reducible refine (HA.out).mono ?_); rintro e W1 ⟨rfl, hb⟩))
    go_ret2
    exact ⟨_, by rw [HE.out]; rfl, by rw [encB, HE.out, if_neg (by decide)]; exact Rd.nil _ _, hb⟩
end Go.Proofs.YtkahkkcbigifiaaDoor
