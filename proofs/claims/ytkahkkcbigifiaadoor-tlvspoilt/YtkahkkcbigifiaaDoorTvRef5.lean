/-
  The document's files: Decode.
-/
import Derived.Test.YtkahkkcbigifiaaDoorTvDecM
import Derived.Test.YtkahkkcbigifiaaDoorTvRef4
namespace Go.Proofs.YtkahkkcbigifiaaDoor
open Go.RowKit
set_option linter.unusedVariables false
set_option linter.unusedSimpArgs false

variable {P : Program} {ops : Array Oper} {rest : List Oper} {dst : Option Tmp} {ty t t2 : TypeId} {pos : String} {after : Array Edge} {a : Act} {w : World} {Q : Exit → Act → World → Prop} {K : Act → World → Prop} {x y z : Operand} {gd : Option (Nat × Bool)}
theorem info_sc : ∃ i, Tryd.prog.info? 78 = some i ∧ i.zero = some (.agg #[.int .u32 0, .slice none 0 0]) ∧ i.size = 2 ∧ i.bytes = 32 := by
  have hm : (Tryd.prog.info? 78).map (fun i => (i.zero, i.size, i.bytes)) = some (some (.agg #[.int .u32 0, .slice none 0 0]), 2, 32) := by kernel_rfl
  obtain ⟨i, hi, hm⟩ := Option.map_eq_some_iff.1 hm
  exact ⟨i, hi, congrArg (·.1) hm, congrArg (·.2.1) hm, congrArg (·.2.2) hm⟩
def DcRel (b : List Nat) (E many N C : Nat) (w0 : World) (lv av iv : Value) (wr : World) : Prop := ∃ (k A : Nat) (Lk : List Sct), k ≤ many ∧ 12 ≤ A ∧ A ≤ E ∧ iv = .int .u64 (k : Nat) ∧ av = .int .i64 (A : Nat) ∧ Lk.length ≤ k ∧
  decS many none ((b.take E).drop 12) = comb Lk (decS (many - k) (lastT Lk) ((b.take E).drop A)) ∧ OwnSecs N C 78 wr lv Lk ∧ Below N w0 wr
set_option maxRecDepth 100000 in
set_option maxHeartbeats 4000000 in
theorem rdec_early {B : Nat} {v : Value} {b : List Nat} (w : World) (h : Rd B w v b) (hB : B ≤ w.heap.size) (hn : b.length ≤ 100000) (hbad : b.length < 16 ∨ b.take 4 ≠ [80, 78, 67, 69] ∨ okL b = false ∨ 4096 < numL ((b.drop 8).take 4)) :
    Calls Tryd.prog 18 #[v] w fun e w' => ∃ e', e = .returned (.tuple #[.int .u32 0, .slice none 0 0, .int .i64 (e' : Nat)]) ∧ decL b = .inl e' ∧ 0 < e' ∧ Below w.heap.size w w' := by
  obtain ⟨ad, cap, rfl, hcap, hmax⟩ := h.form
  have HR := hide h
  have hb : Below w.heap.size w w := Below.refl _ w
  by_cases h16 : b.length < 16
  · have HD := hide (show decL b = .inl 12 by rw [decL, if_neg (by omega), if_pos h16])
    clear h hbad
    go_enter Tryd.func18, Tryd.ntmps18
    go_wp2
    go_ret3
    exact ⟨12, rfl, HD.out, by decide, hb⟩
  have HTO := hide (h.to (n := 4) (by omega))
  have H4 := hide (show 4 ≤ b.length by omega)
  have h16b : 16 ≤ b.length := by omega
  by_cases hp : b.take 4 = [80, 78, 67, 69]
  · have hpn := (pn_neq (take_lt h.lt 4)).trans (decide_eq_true hp)
    have HC := hide (rcutu_any w h hB hn)
    by_cases hok : okL b = true
    · have hmany : 4096 < numL ((b.drop 8).take 4) := by
        rcases hbad with h1 | h1 | h1 | h1
        · omega
        · exact absurd hp h1
        · rw [hok] at h1; cases h1
        · exact h1
      have HD := hide (show decL b = .inl 2 by rw [decL, if_neg (by omega), if_neg h16, if_neg (by rw [hp]; simp), if_neg (by rw [hok]; decide), if_pos hmany])
      have hC0 : cutE b = 0 := by rw [cutE, if_neg (by omega), if_pos hok]
      rw [hC0] at HC
      have HM := hide (h.mid (lo := 8) (hi := 12) (by decide) (by omega))
      have H12 := hide (show 12 ≤ b.length by omega)
      have HNM := hide (fun W hR => rnumber_any (B := B) (v := sFrom (sTo (.slice ad b.length cap) 12) 8) (l := (b.drop 8).take 4) W hR (by rw [List.length_take]; omega))
      have hx := (le4 (l := (b.drop 8).take 4) (take_lt (drop_lt h.lt 8) 4) (by rw [List.length_take, List.length_drop]; omega)).2
      generalize numL ((b.drop 8).take 4) = m at *
      clear h hbad h16 hp hok hC0
      go_enter Tryd.func18, Tryd.ntmps18
      go_wp2_with (first | ((with_reducible refine g_to HR.out 4 H4.out und_sl siz_sl ?_ ?_ ?_ ?_); exact rfl; exact rfl; exact rfl) | ((with_reducible refine g_str HTO.out 5 Tryd.underlying26 Tryd.underlying5 und_str ?_ ?_ ?_); exact rfl; exact rfl) | (go_at_call 46; (with_reducible refine (HC.out).mono ?_); rintro e W ⟨vc, rfl, _, hb2⟩; replace hb := hb2; clear hb2) | ((with_reducible refine g_mid HR.out 8 12 ?_ H12.out und_sl siz_sl ?_ ?_ ?_ ?_ ?_); decide; exact rfl; exact rfl; exact rfl; exact rfl) | (go_at_call 47; (with_reducible refine (HNM.out _ (HM.out.bel (hb.mono hB))).mono ?_); rintro e W2 ⟨rfl, rfl⟩))
      go_ret3
      exact ⟨2, rfl, HD.out, by decide, hb⟩
    · have hokf : okL b = false := by simpa using hok
      have HD := hide (show decL b = .inl 11 by rw [decL, if_neg (by omega), if_neg h16, if_neg (by rw [hp]; simp), if_pos hokf])
      have hC0 : cutE b = 11 := by rw [cutE, if_neg (by omega), if_neg hok]
      rw [hC0] at HC
      clear h hbad h16 hp hok hC0 hokf
      go_enter Tryd.func18, Tryd.ntmps18
      go_wp2_with (first | ((with_reducible refine g_to HR.out 4 H4.out und_sl siz_sl ?_ ?_ ?_ ?_); exact rfl; exact rfl; exact rfl) | ((with_reducible refine g_str HTO.out 5 Tryd.underlying26 Tryd.underlying5 und_str ?_ ?_ ?_); exact rfl; exact rfl) | (go_at_call 46; (with_reducible refine (HC.out).mono ?_); rintro e W ⟨vc, rfl, _, hb2⟩; replace hb := hb2; clear hb2))
      go_ret3
      exact ⟨11, rfl, HD.out, by decide, hb⟩
  · have hpn := (pn_neq (take_lt h.lt 4)).trans (decide_eq_false hp)
    have HD := hide (show decL b = .inl 3 by rw [decL, if_neg (by omega), if_neg h16, if_pos hp])
    clear h hbad h16 hp
    go_enter Tryd.func18, Tryd.ntmps18
    go_wp2_with (first | ((with_reducible refine g_to HR.out 4 H4.out und_sl siz_sl ?_ ?_ ?_ ?_); exact rfl; exact rfl; exact rfl) | ((with_reducible refine g_str HTO.out 5 Tryd.underlying26 Tryd.underlying5 und_str ?_ ?_ ?_); exact rfl; exact rfl))
    go_ret3
    exact ⟨3, rfl, HD.out, by decide, hb⟩
set_option maxRecDepth 100000 in
set_option maxHeartbeats 8000000 in
theorem rdec_main {B : Nat} {v : Value} {b : List Nat} (w : World) (h : Rd B w v b) (hB : B ≤ w.heap.size) (hn : b.length ≤ 100000) (h16 : 16 ≤ b.length) (hp : b.take 4 = [80, 78, 67, 69]) (hok : okL b = true) (hmany : numL ((b.drop 8).take 4) ≤ 4096) :
    Calls Tryd.prog 18 #[v] w fun e w' => ∃ v', e = .returned (.tuple #[.int .u32 (decV b : Nat), v', .int .i64 (decE b : Nat)]) ∧ Secs w'.heap.size w' v' (decM b) ∧ Below w.heap.size w w' := by
  obtain ⟨i0, hi0, hz0, hs0, hb0⟩ := info_sc
  have HI := hide hi0
  have HZ := hide hz0
  have HS := hide hs0
  have HBT := hide hb0
  clear hi0 hz0 hs0 hb0
  obtain ⟨ad, cap, rfl, hcap, hmax⟩ := h.form
  have HR := hide h
  have hb : Below w.heap.size w w := Below.refl _ w
  have HTO := hide (h.to (n := 4) (by omega))
  have H4 := hide (show 4 ≤ b.length by omega)
  have hpn := (pn_neq (take_lt h.lt 4)).trans (decide_eq_true hp)
  have HC := hide (rcutu_any w h hB hn)
  have hC0 : cutE b = 0 := by rw [cutE, if_neg (by omega), if_pos hok]
  rw [hC0] at HC
  have HM := hide (h.mid (lo := 8) (hi := 12) (by decide) (by omega))
  have H12 := hide (show 12 ≤ b.length by omega)
  have HNM := hide (fun W hR => rnumber_any (B := B) (v := sFrom (sTo (.slice ad b.length cap) 12) 8) (l := (b.drop 8).take 4) W hR (by rw [List.length_take]; omega))
  have HDL := hide (show decL b = endD (numL ((b.drop 4).take 4)) (decS (numL ((b.drop 8).take 4)) none ((b.take (b.length - 4)).drop 12)) by
    rw [decL, if_neg (by omega), if_neg (by omega), if_neg (by rw [hp]; simp), if_neg (by rw [hok]; decide), if_neg (by omega)])
  have hx := (le4 (l := (b.drop 8).take 4) (take_lt (drop_lt h.lt 8) 4) (by rw [List.length_take, List.length_drop]; omega)).2
  have hver := (le4 (l := (b.drop 4).take 4) (take_lt (drop_lt h.lt 4) 4) (by rw [List.length_take, List.length_drop]; omega)).2
  have HVER := hide hver
  obtain ⟨n0, hn0⟩ : ∃ n0, b.length = n0 := ⟨_, rfl⟩
  obtain ⟨E, hE⟩ : ∃ E, n0 = E + 4 := ⟨n0 - 4, by omega⟩
  have HE := hide (show b.length = E + 4 by omega)
  have hE4 : (n0 : Int) - 4 = (E : Int) := by omega
  rw [hn0] at HR HC HNM HM HTO hcap hn h16 HDL ⊢
  rw [show n0 - 4 = E by omega] at HDL
  generalize numL ((b.drop 8).take 4) = m at *
  have HNE0 := hide hE
  clear h hp hok hC0 hE hx hver hn0
  go_enter Tryd.func18, Tryd.ntmps18
  go_wp2_with (first | ((with_reducible refine g_to HR.out 4 H4.out und_sl siz_sl ?_ ?_ ?_ ?_); exact rfl; exact rfl; exact rfl) | ((with_reducible refine g_str HTO.out 5 Tryd.underlying26 Tryd.underlying5 und_str ?_ ?_ ?_); exact rfl; exact rfl) | (go_at_call 46; (with_reducible refine (HC.out).mono ?_); rintro e W ⟨vc, rfl, _, hb2⟩; replace hb := hb2; clear hb2) | ((with_reducible refine g_mid HR.out 8 12 ?_ H12.out und_sl siz_sl ?_ ?_ ?_ ?_ ?_); decide; exact rfl; exact rfl; exact rfl; exact rfl) | (go_at_call 47; (with_reducible refine (HNM.out _ (HM.out.bel (hb.mono hB))).mono ?_); rintro e W2 ⟨rfl, rfl⟩))
  go_loopw [9, 10, 11] (DcRel b E m w.heap.size B w) (fun _ _ iv _ => m - (intOf iv).toNat)
  case atStart => exact ⟨0, 12, [], Nat.zero_le _, Nat.le_refl _, by omega, rfl, rfl, Nat.le_refl _, by
    show _ = comb [] (decS m none ((b.take E).drop 12))
    cases decS m none ((b.take E).drop 12) with
    | inl e => rfl
    | inr q => rfl, OwnSecs.nil _ _ _ _, hb⟩
  case round =>
    clear hb
    obtain ⟨k, A, Lk, hk, hA, hAE, rfl, rfl, hLk, hdec, hown, hb⟩ := hrel
    have HO := hide hown
    have HDC := hide hdec
    clear hown hdec hpn
    by_cases hlt : k < m
    · obtain ⟨j, hj⟩ : ∃ j, m - k = j + 1 := ⟨m - k - 1, by omega⟩
      rw [hj] at HDC
      have HRL := hide (show ((b.take E).drop A).length = E - A by rw [List.length_drop, List.length_take]; have := HE.out; omega)
      by_cases h1 : E - A < 12
      · have hd := dec_short j (lastT Lk) ((b.take E).drop A) (by rw [HRL.out]; exact h1)
        rw [hd] at HDC
        have HF := hide (dec_err (b := b) (e := 12) (by rw [HDL.out, HDC.out]; rfl))
        clear hd
        go_wp2
        go_ret3
        exact ⟨_, by rw [HF.out.1, HF.out.2.1]; rfl, by rw [HF.out.2.2]; exact Secs.nil _ _, hb⟩
      · have hg8 : A + 8 ≤ E := by omega
        have HS4 := hide (sub_take b E A 4 4 (by omega))
        have HR1 := hide (HR.out.mid (lo := A + 4) (hi := A + 8) (by omega) (by have := HE.out; omega))
        rw [show A + 8 - (A + 4) = 4 by omega] at HR1
        have HL1 := hide (show A + 8 ≤ b.length by have := HE.out; omega)
        have HN1 := hide (fun W hR => rnumber_any (B := B) (v := sFrom (sTo (.slice ad n0 cap) (A + 8)) (A + 4)) (l := (b.drop (A + 4)).take 4) W hR (by rw [List.length_take]; omega))
        have hx1 := (le4 (l := (b.drop (A + 4)).take 4) (take_lt (drop_lt HR.out.lt _) 4) (by rw [List.length_take, List.length_drop]; have := HE.out; omega)).2
        obtain ⟨n, hnn⟩ : ∃ n, numL ((b.drop (A + 4)).take 4) = n := ⟨_, rfl⟩
        rw [hnn] at HN1 hx1
        have HNE := hide (show numL ((((b.take E).drop A).drop 4).take 4) = n by rw [HS4.out, hnn])
        clear hnn
        by_cases h2 : E - A - 12 < n
        · have hd := dec_end j (lastT Lk) ((b.take E).drop A) (by rw [HRL.out]; exact h1) (by rw [HRL.out, HNE.out]; exact h2)
          rw [hd] at HDC
          have HF := hide (dec_err (b := b) (e := 12) (by rw [HDL.out, HDC.out]; rfl))
          clear hd
          have h2i : (E : Int) - (A : Int) - 12 < (n : Int) := by omega
          have h1i : 12 ≤ (E : Int) - (A : Int) := by omega
          have hd1 : decide ((E : Int) - (A : Int) < 12) = false := decide_eq_false (by omega)
          go_wp2_with (first | ((with_reducible refine g_mid HR.out (A + 4) (A + 8) ?_ HL1.out und_sl siz_sl ?_ ?_ ?_ ?_ ?_); omega; exact rfl; exact rfl; exact rfl; exact rfl) | (go_at_call 47; (with_reducible refine (HN1.out _ (HR1.out.bel (hb.mono hB))).mono ?_); rintro e W3 ⟨rfl, rfl⟩))
          go_ret3
          exact ⟨_, by rw [HF.out.1, HF.out.2.1]; rfl, by rw [HF.out.2.2]; exact Secs.nil _ _, hb⟩
        · have hq12 : A + 12 + n ≤ E := by omega
          have hd1 : decide ((E : Int) - (A : Int) < 12) = false := decide_eq_false (by omega)
          have hd2 : decide ((E : Int) - (A : Int) - 12 < (n : Int)) = false := decide_eq_false (by omega)
          have h2i : (n : Int) ≤ (E : Int) - (A : Int) - 12 := by omega
          have h1i : 12 ≤ (E : Int) - (A : Int) := by omega
          have HS0 := hide (show ((b.take E).drop A).take (12 + n) = (b.drop A).take (12 + n) by
            have := sub_take b E A 0 (12 + n) (by omega)
            rwa [List.drop_zero, Nat.add_zero] at this)
          have HRC := hide (HR.out.mid (lo := A) (hi := A + 12 + n) (by omega) (by have := HE.out; omega))
          rw [show A + 12 + n - A = 12 + n by omega] at HRC
          have HLC := hide (show A + 12 + n ≤ b.length by have := HE.out; omega)
          have hcl : ((b.drop A).take (12 + n)).length = 12 + n := by rw [List.length_take, List.length_drop]; have := HE.out; omega
          have HCC := hide (fun (W : World) hR hB => rcutu_any (B := B) (v := sFrom (sTo (.slice ad n0 cap) (A + 12 + n)) A) (l := (b.drop A).take (12 + n)) W hR hB (by omega))
          by_cases hko : okL ((b.drop A).take (12 + n)) = true
          · have hc0 : cutE ((b.drop A).take (12 + n)) = 0 := by rw [cutE, if_neg (by omega), if_pos hko]
            rw [hc0] at HCC
            have HS3 := hide (show ((b.take E).drop A).take 4 = (b.drop A).take 4 by
              have := sub_take b E A 0 4 (by omega)
              rwa [List.drop_zero, Nat.add_zero] at this)
            have HR3 := hide (HR.out.mid (lo := A) (hi := A + 4) (by omega) (by have := HE.out; omega))
            rw [show A + 4 - A = 4 by omega] at HR3
            have HLT := hide (show A + 4 ≤ b.length by have := HE.out; omega)
            have HN3 := hide (fun W hR => rnumber_any (B := B) (v := sFrom (sTo (.slice ad n0 cap) (A + 4)) A) (l := (b.drop A).take 4) W hR (by rw [List.length_take]; omega))
            have htg := (le4 (l := (b.drop A).take 4) (take_lt (drop_lt HR.out.lt _) 4) (by rw [List.length_take, List.length_drop]; have := HE.out; omega)).2
            have HS8 := hide (sub_take b E A 8 n (by omega))
            have HR5 := hide (HR.out.mid (lo := A + 8) (hi := A + 8 + n) (by omega) (by have := HE.out; omega))
            rw [show A + 8 + n - (A + 8) = n by omega] at HR5
            obtain ⟨a5, c5, hv5, _, _⟩ := HR5.out.form
            rw [show ((b.drop (A + 8)).take n).length = n by rw [List.length_take, List.length_drop]; have := HE.out; omega] at hv5
            have HV5 := hide hv5
            rw [hv5] at HR5
            clear hv5
            have HL5 := hide (show A + 8 + n ≤ b.length by have := HE.out; omega)
            obtain ⟨tg, htt⟩ : ∃ tg, numL ((b.drop A).take 4) = tg := ⟨_, rfl⟩
            rw [htt] at HN3 htg
            have HTG := hide (show numL (((b.take E).drop A).take 4) = tg by rw [HS3.out, htt])
            have hLk5 : Lk.length ≤ 100000 := by omega
            have HB64 := hide (show i0.bytes ≤ 64 by rw [HBT.out]; decide)
            have hnl : ¬ ((b.take E).drop A).length < 12 := by rw [HRL.out]; exact h1
            have hnl2 : ¬ ((b.take E).drop A).length - 12 < numL ((((b.take E).drop A).drop 4).take 4) := by rw [HRL.out, HNE.out]; exact h2
            have hnok : okL (((b.take E).drop A).take (12 + numL ((((b.take E).drop A).drop 4).take 4))) = true := by rw [HNE.out, HS0.out]; exact hko
            have HGO := hide (fun (hu : upF (lastT Lk) tg = true) => show decS m none ((b.take E).drop 12) = comb (Lk ++ [⟨tg, (b.drop (A + 8)).take n⟩]) (decS (m - (k + 1)) (lastT (Lk ++ [⟨tg, (b.drop (A + 8)).take n⟩])) ((b.take E).drop (A + 12 + n))) by
              have hd := dec_go Lk j (lastT Lk) ((b.take E).drop A) hnl hnl2 hnok (by rw [HTG.out]; exact hu)
              rw [HTG.out, HNE.out, HS8.out] at hd
              rw [HDC.out, hd, lastT_snoc, show m - (k + 1) = j by omega, List.drop_drop, show A + (12 + n) = A + 12 + n by omega])
            have HOR := hide (fun (hu : upF (lastT Lk) tg = false) => show decL b = .inl 31 by
              have hd := dec_ord j (lastT Lk) ((b.take E).drop A) hnl hnl2 hnok (by rw [HTG.out]; exact hu)
              rw [HDL.out, HDC.out, hd]; rfl)
            clear htt hnl hnl2 hnok hcl hc0 hko
            by_cases hL0 : 0 < Lk.length
            · obtain ⟨q, hq⟩ : ∃ q, Lk.length = q + 1 := ⟨Lk.length - 1, by omega⟩
              have HSS := hide (HO.out.secs (Nat.le_trans hB hb.size))
              obtain ⟨b9, off9, cap9, hlv, hcap9, hmax9, hb9, HCS⟩ := HSS.out.all hL0
              have HC9 := hide (HCS.out q (by omega)).1
              have htq := HSS.out.tags _ (List.getElem_mem (show q < Lk.length by omega))
              have HLA := hide (lastT_at Lk q hq)
              obtain ⟨nL, hnL⟩ : ∃ nL, Lk.length = nL := ⟨_, rfl⟩
              have hnq : (nL : Int) - 1 = (q : Int) := by omega
              have hq0 : 0 < nL := by omega
              have hqn : q < nL := by omega
              rw [hnL] at hlv hcap9
              subst hlv
              clear HSS hL0 HCS
              generalize Lk[q].tag = tq at *
              clear hq
              by_cases hto : tq < tg
              · have HG := hide (HGO.out (by rw [HLA.out]; exact decide_eq_true hto))
                clear HGO HOR
                go_wp2_with (first | ((with_reducible refine g_mid HR.out (A + 4) (A + 8) ?_ HL1.out und_sl siz_sl ?_ ?_ ?_ ?_ ?_); omega; exact rfl; exact rfl; exact rfl; exact rfl) | (go_at_call 47; (with_reducible refine (HN1.out _ (HR1.out.bel (hb.mono hB))).mono ?_); rintro e W3 ⟨rfl, rfl⟩) | ((with_reducible refine g_mid HR.out A (A + 12 + n) ?_ HLC.out und_sl siz_sl ?_ ?_ ?_ ?_ ?_); omega; exact rfl; exact rfl; exact rfl; exact rfl) | (go_at_call 46; (with_reducible refine (HCC.out _ (HRC.out.bel (hb.mono hB)) (Nat.le_trans hB hb.size)).mono ?_); rintro e W4 ⟨v4, rfl, _, hb4⟩; replace HO := hide (HO.out.bl hb4 (Nat.le_trans hB hb.size)); have hc9 := (hb4.cell (p := ⟨b9, off9 + q * 2, none⟩) hb9).trans HC9.out; replace hb := below_bl rfl hb hb4; clear hb4) | ((with_reducible refine g_mid HR.out A (A + 4) ?_ HLT.out und_sl siz_sl ?_ ?_ ?_ ?_ ?_); omega; exact rfl; exact rfl; exact rfl; exact rfl) | (go_at_call 47; (with_reducible refine (HN3.out _ (HR3.out.bel (hb.mono hB))).mono ?_); rintro e W5 ⟨rfl, rfl⟩) | ((with_reducible refine g_midE HR.out (A + 8) (A + 8 + n) HV5.out ?_ HL5.out und_sl siz_sl ?_ ?_ ?_ ?_ ?_); omega; exact rfl; exact rfl; exact rfl; exact rfl) | ((with_reducible refine op_app2 i0 (.agg #[.int .u32 0, .slice none 0 0]) Tryd.underlying23 HI.out HZ.out HS.out HB64.out rfl ⟨tg, (b.drop (A + 8)).take n⟩ _ 1 (HO.out.bl (below_one _ _) (Nat.le_trans hB hb.size)) htg (HR5.out.bel ((hb.mono hB).trans ((below_one _ _).mono (Nat.le_trans hB hb.size)))) hLk5 ?_ hB (newc _ #[.int .u32 (tg : Nat), .slice a5 n c5] _ 0 _ rfl) (newc _ #[.int .u32 (tg : Nat), .slice a5 n c5] _ 1 _ rfl) ?_ ?_ ?_); (have := hb.size; simp; omega); exact rfl; exact rfl; intro W6 v6 hown hgr; replace hb := (hb.trans ((below_one _ _).mono hb.size)).grown hgr (by have := hb.size; simp; omega) HO.out.lt))
                go_roundw
                case rel => exact ⟨k + 1, A + 12 + n, Lk ++ [⟨tg, (b.drop (A + 8)).take n⟩], hlt, by omega, hq12, by go_num, by go_num, by rw [List.length_append, List.length_singleton]; omega, HG.out, hown, hb⟩
                case measure => simp [intOf]; omega
              · have hto2 : tg ≤ tq := by omega
                have HF := hide (dec_err (HOR.out (by rw [HLA.out]; exact decide_eq_false hto)))
                clear HGO HOR hto
                go_wp2_with (first | ((with_reducible refine g_mid HR.out (A + 4) (A + 8) ?_ HL1.out und_sl siz_sl ?_ ?_ ?_ ?_ ?_); omega; exact rfl; exact rfl; exact rfl; exact rfl) | (go_at_call 47; (with_reducible refine (HN1.out _ (HR1.out.bel (hb.mono hB))).mono ?_); rintro e W3 ⟨rfl, rfl⟩) | ((with_reducible refine g_mid HR.out A (A + 12 + n) ?_ HLC.out und_sl siz_sl ?_ ?_ ?_ ?_ ?_); omega; exact rfl; exact rfl; exact rfl; exact rfl) | (go_at_call 46; (with_reducible refine (HCC.out _ (HRC.out.bel (hb.mono hB)) (Nat.le_trans hB hb.size)).mono ?_); rintro e W4 ⟨v4, rfl, _, hb4⟩; replace HO := hide (HO.out.bl hb4 (Nat.le_trans hB hb.size)); have hc9 := (hb4.cell (p := ⟨b9, off9 + q * 2, none⟩) hb9).trans HC9.out; replace hb := below_bl rfl hb hb4; clear hb4) | ((with_reducible refine g_mid HR.out A (A + 4) ?_ HLT.out und_sl siz_sl ?_ ?_ ?_ ?_ ?_); omega; exact rfl; exact rfl; exact rfl; exact rfl) | (go_at_call 47; (with_reducible refine (HN3.out _ (HR3.out.bel (hb.mono hB))).mono ?_); rintro e W5 ⟨rfl, rfl⟩) | ((with_reducible refine g_midE HR.out (A + 8) (A + 8 + n) HV5.out ?_ HL5.out und_sl siz_sl ?_ ?_ ?_ ?_ ?_); omega; exact rfl; exact rfl; exact rfl; exact rfl))
                go_ret3
                exact ⟨_, by rw [HF.out.1, HF.out.2.1]; rfl, by rw [HF.out.2.2]; exact Secs.nil _ _, hb⟩
            · have hL1 : Lk = [] := List.length_eq_zero_iff.1 (by omega)
              subst hL1
              have HG := hide (HGO.out rfl)
              obtain ⟨a9, cap9, hlv, _, _⟩ := HO.out.form
              replace hlv : _ = Value.slice a9 0 cap9 := hlv
              subst hlv
              clear HGO HOR hL0
              go_wp2_with (first | ((with_reducible refine g_mid HR.out (A + 4) (A + 8) ?_ HL1.out und_sl siz_sl ?_ ?_ ?_ ?_ ?_); omega; exact rfl; exact rfl; exact rfl; exact rfl) | (go_at_call 47; (with_reducible refine (HN1.out _ (HR1.out.bel (hb.mono hB))).mono ?_); rintro e W3 ⟨rfl, rfl⟩) | ((with_reducible refine g_mid HR.out A (A + 12 + n) ?_ HLC.out und_sl siz_sl ?_ ?_ ?_ ?_ ?_); omega; exact rfl; exact rfl; exact rfl; exact rfl) | (go_at_call 46; (with_reducible refine (HCC.out _ (HRC.out.bel (hb.mono hB)) (Nat.le_trans hB hb.size)).mono ?_); rintro e W4 ⟨v4, rfl, _, hb4⟩; replace HO := hide (HO.out.bl hb4 (Nat.le_trans hB hb.size)); replace hb := below_bl rfl hb hb4; clear hb4) | ((with_reducible refine g_mid HR.out A (A + 4) ?_ HLT.out und_sl siz_sl ?_ ?_ ?_ ?_ ?_); omega; exact rfl; exact rfl; exact rfl; exact rfl) | (go_at_call 47; (with_reducible refine (HN3.out _ (HR3.out.bel (hb.mono hB))).mono ?_); rintro e W5 ⟨rfl, rfl⟩) | ((with_reducible refine g_midE HR.out (A + 8) (A + 8 + n) HV5.out ?_ HL5.out und_sl siz_sl ?_ ?_ ?_ ?_ ?_); omega; exact rfl; exact rfl; exact rfl; exact rfl) | ((with_reducible refine op_app2 i0 (.agg #[.int .u32 0, .slice none 0 0]) Tryd.underlying23 HI.out HZ.out HS.out HB64.out rfl ⟨tg, (b.drop (A + 8)).take n⟩ _ 1 (HO.out.bl (below_one _ _) (Nat.le_trans hB hb.size)) htg (HR5.out.bel ((hb.mono hB).trans ((below_one _ _).mono (Nat.le_trans hB hb.size)))) hLk5 ?_ hB (newc _ #[.int .u32 (tg : Nat), .slice a5 n c5] _ 0 _ rfl) (newc _ #[.int .u32 (tg : Nat), .slice a5 n c5] _ 1 _ rfl) ?_ ?_ ?_); (have := hb.size; simp; omega); exact rfl; exact rfl; intro W6 v6 hown hgr; replace hb := (hb.trans ((below_one _ _).mono hb.size)).grown hgr (by have := hb.size; simp; omega) HO.out.lt))
              go_roundw
              case rel => exact ⟨k + 1, A + 12 + n, [] ++ [⟨tg, (b.drop (A + 8)).take n⟩], hlt, by omega, hq12, by go_num, by go_num, by rw [List.length_append, List.length_singleton]; simp, HG.out, hown, hb⟩
              case measure => simp [intOf]; omega
          · have hc0 : cutE ((b.drop A).take (12 + n)) = 11 := by rw [cutE, if_neg (by omega), if_neg hko]
            rw [hc0] at HCC
            have hd := dec_sum j (lastT Lk) ((b.take E).drop A) (by rw [HRL.out]; exact h1) (by rw [HRL.out, HNE.out]; exact h2) (by rw [HNE.out, HS0.out]; simpa using hko)
            rw [hd] at HDC
            have HF := hide (dec_err (b := b) (e := 11) (by rw [HDL.out, HDC.out]; rfl))
            clear hd hcl hc0 hko
            go_wp2_with (first | ((with_reducible refine g_mid HR.out (A + 4) (A + 8) ?_ HL1.out und_sl siz_sl ?_ ?_ ?_ ?_ ?_); omega; exact rfl; exact rfl; exact rfl; exact rfl) | (go_at_call 47; (with_reducible refine (HN1.out _ (HR1.out.bel (hb.mono hB))).mono ?_); rintro e W3 ⟨rfl, rfl⟩) | ((with_reducible refine g_mid HR.out A (A + 12 + n) ?_ HLC.out und_sl siz_sl ?_ ?_ ?_ ?_ ?_); omega; exact rfl; exact rfl; exact rfl; exact rfl) | (go_at_call 46; (with_reducible refine (HCC.out _ (HRC.out.bel (hb.mono hB)) (Nat.le_trans hB hb.size)).mono ?_); rintro e W4 ⟨v4, rfl, _, hb4⟩; replace HO := hide (HO.out.bl hb4 (Nat.le_trans hB hb.size)); replace hb := below_bl rfl hb hb4; clear hb4))
            go_ret3
            exact ⟨_, by rw [HF.out.1, HF.out.2.1]; rfl, by rw [HF.out.2.2]; exact Secs.nil _ _, hb⟩
    · obtain rfl : k = m := by omega
      rw [Nat.sub_self] at HDC
      have hdz : decS 0 (lastT Lk) ((b.take E).drop A) = .inr ([], (b.take E).drop A) := rfl
      rw [hdz] at HDC
      have HDZ := hide (show decS k none ((b.take E).drop 12) = .inr (Lk, (b.take E).drop A) by rw [HDC.out, comb, List.append_nil])
      have HRL := hide (show ((b.take E).drop A).length = E - A by rw [List.length_drop, List.length_take]; have := HE.out; omega)
      clear hdz
      by_cases he : A = E
      · have HF := hide (dec_fine (b := b) (v := numL ((b.drop 4).take 4)) (L := Lk) (by
          rw [HDL.out, HDZ.out, endD, if_pos (List.length_eq_zero_iff.1 (by rw [HRL.out]; omega))]))
        have HRV := hide (HR.out.mid (lo := 4) (hi := 8) (by decide) (by have := HE.out; omega))
        have HLV := hide (show 8 ≤ b.length by have := HE.out; omega)
        have HNV := hide (fun W hR => rnumber_any (B := B) (v := sFrom (sTo (.slice ad n0 cap) 8) 4) (l := (b.drop 4).take 4) W hR (by rw [List.length_take]; omega))
        have hver := HVER.out
        rw [show 8 - 4 = 4 from rfl] at HRV
        generalize numL ((b.drop 4).take 4) = vr at *
        subst he
        have HSS := hide (HO.out.secs (Nat.le_trans hB hb.size))
        go_wp2_with (first | ((with_reducible refine g_mid HR.out 4 8 ?_ HLV.out und_sl siz_sl ?_ ?_ ?_ ?_ ?_); decide; exact rfl; exact rfl; exact rfl; exact rfl) | (go_at_call 47; (with_reducible refine (HNV.out _ (HRV.out.bel (hb.mono hB))).mono ?_); rintro e W3 ⟨rfl, rfl⟩))
        go_ret3
        exact ⟨_, by rw [HF.out.1, HF.out.2.1]; rfl, by rw [HF.out.2.2]; exact HSS.out, hb⟩
      · have HF := hide (dec_err (b := b) (e := 3) (by
          rw [HDL.out, HDZ.out, endD, if_neg (fun h => by
            have := HRL.out
            rw [h] at this
            simp at this
            omega)]))
        have hne : (A : Int) ≠ (E : Int) := by omega
        go_wp2
        go_ret3
        exact ⟨_, by rw [HF.out.1, HF.out.2.1]; rfl, by rw [HF.out.2.2]; exact Secs.nil _ _, hb⟩
theorem rdecode_any {B : Nat} {v : Value} {b : List Nat} (w : World) (h : Rd B w v b) (hB : B ≤ w.heap.size) (hn : b.length ≤ 100000) :
    Calls Tryd.prog 18 #[v] w fun e w' => ∃ v', e = .returned (.tuple #[.int .u32 (decV b : Nat), v', .int .i64 (decE b : Nat)]) ∧ Secs w'.heap.size w' v' (decM b) ∧ Below w.heap.size w w' := by
  by_cases hbad : b.length < 16 ∨ b.take 4 ≠ [80, 78, 67, 69] ∨ okL b = false ∨ 4096 < numL ((b.drop 8).take 4)
  · refine (rdec_early w h hB hn hbad).mono ?_
    rintro e w' ⟨e', rfl, h1, _, h2⟩
    obtain ⟨f1, f2, f3⟩ := dec_err h1
    exact ⟨_, by rw [f1, f2]; rfl, by rw [f3]; exact Secs.nil _ _, h2⟩
  · refine rdec_main w h hB hn (by omega) ?_ ?_ (by omega)
    · exact Classical.byContradiction fun hq => hbad (.inr (.inl hq))
    · cases ho : okL b with
      | true => rfl
      | false => exact absurd (.inr (.inr (.inl ho))) hbad

end Go.Proofs.YtkahkkcbigifiaaDoor
