/-
  Decode: tlv's own; what the laws ask of tlv holds.
-/
import Derived.Test.YtkahkkcbigifiaaDoorTvDecP
import Derived.Test.YtkahkkcbigifiaaDoorTvEncP
import Derived.Test.YtkahkkcbigifiaaDoorTvFndP
namespace Go.Proofs.YtkahkkcbigifiaaDoor
open Go.RowKit
set_option linter.unusedVariables false
set_option linter.unusedSimpArgs false

variable {P : Program} {ops : Array Oper} {rest : List Oper} {dst : Option Tmp} {ty t t2 : TypeId} {pos : String} {after : Array Edge} {a : Act} {w : World} {Q : Exit → Act → World → Prop} {K : Act → World → Prop} {x y z : Operand} {gd : Option (Nat × Bool)}
theorem body_dec {b : List Nat} (hn : b.length ≤ 100000) (h : bodyE b ≠ 0) : decL b = .inl (bodyE b) := by
  unfold bodyE at h ⊢
  unfold decL
  rw [if_neg (by omega)]
  by_cases h1 : b.length < 16
  · rw [if_pos h1, if_pos h1]
  · rw [if_neg h1] at h ⊢
    rw [if_neg h1]
    by_cases h2 : b.take 4 ≠ [80, 78, 67, 69]
    · rw [if_pos h2, if_pos h2]
    · rw [if_neg h2] at h ⊢
      rw [if_neg h2]
      by_cases h3 : okL b = false
      · rw [if_pos h3, if_pos h3]
      · rw [if_neg h3] at h; exact absurd rfl h
theorem dec_body {b : List Nat} (hn : b.length ≤ 100000) (h : bodyE b = 0) : 16 ≤ b.length ∧ decL b = if 4096 < numL ((b.drop 8).take 4) then .inl 2 else endD (numL ((b.drop 4).take 4)) (decS (numL ((b.drop 8).take 4)) none ((b.take (b.length - 4)).drop 12)) := by
  unfold bodyE at h
  split at h
  · cases h
  rename_i h1
  split at h
  · cases h
  rename_i h2
  split at h
  · cases h
  rename_i h3
  refine ⟨by omega, ?_⟩
  unfold decL
  rw [if_neg (by omega), if_neg h1, if_neg h2, if_neg h3]
theorem dec_sct {b : List Nat} {ver cnt : Nat} {r : List Nat} (h : decL b = endD ver (decS cnt none r)) : decE b = sctE cnt r ∧ decM b = sctM cnt r ∧ (sctE cnt r = 0 → decV b = ver) ∧ (sctE cnt r ≠ 0 → decV b = 0) := by
  unfold decE decM decV sctE sctM
  rw [h]
  cases hd : decS cnt none r with
  | inl e =>
    have := decS_pos _ _ _ _ hd
    refine ⟨rfl, rfl, fun h0 => ?_, fun _ => rfl⟩
    have h0' : e = 0 := h0
    omega
  | inr q =>
    obtain ⟨l, q⟩ := q
    by_cases hq : q = []
    · subst hq
      exact ⟨rfl, rfl, fun _ => rfl, fun h => absurd rfl h⟩
    · simp [endD, if_neg hq]
set_option maxRecDepth 100000 in
set_option maxHeartbeats 4000000 in
theorem decode_any {B : Nat} {v : Value} {b : List Nat} (w : World) (h : Rd B w v b) (hB : B ≤ w.heap.size) (hn : b.length ≤ 100000) (hT : TabAt w) :
    Calls Tryd.prog 17 #[v] w fun e w' => ∃ v', e = .returned (.tuple #[.int .u32 (decV b : Nat), v', errS (decE b)]) ∧ Secs w'.heap.size w' v' (decM b) ∧ Below w.heap.size w w' := by
  have HT := hide hT
  have hb : Below w.heap.size w w := Below.refl _ w
  by_cases he : bodyE b = 0
  · obtain ⟨h16, hdl⟩ := dec_body hn he
    have HBD := hide (body_ok w h hB hn hT he)
    have hlb : (b.take (b.length - 4)).length = b.length - 4 := by rw [List.length_take]; omega
    have e4 : ((b.take (b.length - 4)).drop 4).take 4 = (b.drop 4).take 4 := by rw [List.drop_take, List.take_take]; congr 1; omega
    have e8 : ((b.take (b.length - 4)).drop 8).take 4 = (b.drop 8).take 4 := by rw [List.drop_take, List.take_take]; congr 1; omega
    have hver := (le4 (l := (b.drop 4).take 4) (take_lt (drop_lt h.lt 4) 4) (by rw [List.length_take, List.length_drop]; omega)).2
    have hcnt := (le4 (l := (b.drop 8).take 4) (take_lt (drop_lt h.lt 8) 4) (by rw [List.length_take, List.length_drop]; omega)).2
    rw [← e4] at hdl hver
    rw [← e8] at hdl hcnt
    obtain ⟨ad, cap, rfl, _, _⟩ := h.form
    have HN4 := hide (fun (W : World) (u : Value) (hR : Rd W.heap.size W u (((b.take (b.length - 4)).drop 4).take (8 - 4))) => number_any W hR (by rw [List.length_take]; omega))
    have HN8 := hide (fun (W : World) (u : Value) (hR : Rd W.heap.size W u (((b.take (b.length - 4)).drop 8).take (12 - 8))) => number_any W hR (by rw [List.length_take]; omega))
    rw [show 8 - 4 = 4 from rfl] at HN4
    rw [show 12 - 8 = 4 from rfl] at HN8
    obtain ⟨ver, hv⟩ : ∃ q, numL (((b.take (b.length - 4)).drop 4).take 4) = q := ⟨_, rfl⟩
    obtain ⟨cnt, hc⟩ : ∃ q, numL (((b.take (b.length - 4)).drop 8).take 4) = q := ⟨_, rfl⟩
    rw [hv] at hdl hver HN4
    rw [hc] at hdl hcnt HN8
    have HSX := hide (fun (hc4 : cnt ≤ 4096) (W : World) (u : Value) (hR : Rd W.heap.size W u ((b.take (b.length - 4)).drop 12)) hb' hT' => sections_any (B := W.heap.size) (v := u) cnt hc4 W hR hb' (by rw [List.length_drop, hlb]; omega) hT')
    have HLB0 := hide hlb
    have hm12 : 12 ≤ b.length - 4 := by omega
    clear h hT he e4 e8 hv hc
    obtain ⟨lb, hlbq⟩ : ∃ q, b.take (b.length - 4) = q := ⟨_, rfl⟩
    rw [hlbq] at HBD HN4 HN8 HSX HLB0 hdl hlb
    have HLB := hide hlb
    have HG8 := hide (show 8 ≤ lb.length by rw [HLB0.out]; omega)
    have HG12 := hide (show 12 ≤ lb.length by rw [HLB0.out]; omega)
    clear hlbq hlb
    obtain ⟨m, hm⟩ : ∃ q, b.length - 4 = q := ⟨_, rfl⟩
    rw [hm] at HLB HLB0 hm12
    clear hm
    by_cases hc4 : 4096 < cnt
    · have HD := hide (dec_err (hdl.trans (if_pos hc4)))
      rw [HD.out.1, HD.out.2.1, HD.out.2.2]
      clear hdl HSX
      go_enter Tryd.func17, Tryd.ntmps17
      go_wp2_with (first | (go_at_call 43; (with_reducible refine (HBD.out).mono ?_); rintro e W ⟨vo, rfl, hown, hb2⟩; replace hb := hb2; clear hb2; obtain ⟨ao, co, hvo, hco, hmo⟩ := hown.rd.form; rw [HLB.out] at hvo hco; subst hvo; have HO := hide hown.rd; clear hown) | ((with_reducible refine g_mid HO.out 4 8 ?_ HG8.out und_sl siz_sl ?_ ?_ ?_ ?_ ?_); decide; exact rfl; exact rfl; exact rfl; exact rfl) | ((with_reducible refine g_mid HO.out 8 12 ?_ HG12.out und_sl siz_sl ?_ ?_ ?_ ?_ ?_); decide; exact rfl; exact rfl; exact rfl; exact rfl) | (go_at_call 44; have hRq := HO.out.mid (lo := 4) (hi := 8) (by decide) (by rw [HLB0.out]; omega); rw [show 8 - 4 = 4 from rfl] at hRq; (with_reducible refine (HN4.out _ _ hRq).mono ?_); rintro e W2 ⟨rfl, rfl⟩) | (go_at_call 44; have hRq := HO.out.mid (lo := 8) (hi := 12) (by decide) (by rw [HLB0.out]; omega); rw [show 12 - 8 = 4 from rfl] at hRq; (with_reducible refine (HN8.out _ _ hRq).mono ?_); rintro e W3 ⟨rfl, rfl⟩))
      go_ret3
      exact ⟨_, rfl, Secs.nil _ _, hb⟩
    · obtain ⟨d1, d2, d3, d4⟩ := dec_sct (hdl.trans (if_neg hc4))
      have hc5 : cnt ≤ 4096 := by omega
      replace HSX := hide (HSX.out hc5)
      rw [d1, d2]
      by_cases hs0 : sctE cnt (lb.drop 12) = 0
      · rw [d3 hs0, hs0]
        rw [hs0] at HSX
        rw [show errS 0 = Value.nilIface from rfl] at HSX ⊢
        clear hdl d1 d2 d3 d4 hs0 hc4
        go_enter Tryd.func17, Tryd.ntmps17
        go_wp2_with (first | (go_at_call 43; (with_reducible refine (HBD.out).mono ?_); rintro e W ⟨vo, rfl, hown, hb2⟩; replace hb := hb2; clear hb2; obtain ⟨ao, co, hvo, hco, hmo⟩ := hown.rd.form; rw [HLB.out] at hvo hco; subst hvo; have HO := hide hown.rd; clear hown) | ((with_reducible refine g_mid HO.out 4 8 ?_ HG8.out und_sl siz_sl ?_ ?_ ?_ ?_ ?_); decide; exact rfl; exact rfl; exact rfl; exact rfl) | ((with_reducible refine g_mid HO.out 8 12 ?_ HG12.out und_sl siz_sl ?_ ?_ ?_ ?_ ?_); decide; exact rfl; exact rfl; exact rfl; exact rfl) | (go_at_call 44; have hRq := HO.out.mid (lo := 4) (hi := 8) (by decide) (by rw [HLB0.out]; omega); rw [show 8 - 4 = 4 from rfl] at hRq; (with_reducible refine (HN4.out _ _ hRq).mono ?_); rintro e W2 ⟨rfl, rfl⟩) | (go_at_call 44; have hRq := HO.out.mid (lo := 8) (hi := 12) (by decide) (by rw [HLB0.out]; omega); rw [show 12 - 8 = 4 from rfl] at hRq; (with_reducible refine (HN8.out _ _ hRq).mono ?_); rintro e W3 ⟨rfl, rfl⟩) | ((with_reducible refine g_frm HO.out 12 HG12.out und_sl siz_sl ?_ ?_ ?_ ?_); exact rfl; exact rfl; exact rfl) | (go_at_call 45; (with_reducible refine (HSX.out _ _ (HO.out.frm HG12.out) (Nat.le_refl _) (HT.out.below hb)).mono ?_); rintro e W4 ⟨vs, rfl, hss, hb4⟩; replace hb := below_bl rfl hb hb4; clear hb4))
        go_ret3
        exact ⟨_, rfl, hss, hb⟩
      · rw [d4 hs0]
        obtain ⟨ee, hee⟩ : ∃ q, sctE cnt (lb.drop 12) = q := ⟨_, rfl⟩
        have hmm : sctM cnt (lb.drop 12) = [] := by
          unfold sctE at hs0
          unfold sctM
          cases hd : decS cnt none (lb.drop 12) with
          | inl e => rfl
          | inr q =>
            rw [hd] at hs0
            simp only at hs0 ⊢
            by_cases hq : q.2 = []
            · rw [if_pos hq] at hs0; exact absurd rfl hs0
            · rw [if_neg hq]
        rw [hmm]
        rw [hee] at HSX hs0 ⊢
        have hes : errS ee = .iface 80 (.int .i64 (ee : Nat)) := if_neg hs0
        rw [hes] at HSX ⊢
        clear hdl d1 d2 d3 d4 hs0 hc4 hee hmm hes
        go_enter Tryd.func17, Tryd.ntmps17
        go_wp2_with (first | (go_at_call 43; (with_reducible refine (HBD.out).mono ?_); rintro e W ⟨vo, rfl, hown, hb2⟩; replace hb := hb2; clear hb2; obtain ⟨ao, co, hvo, hco, hmo⟩ := hown.rd.form; rw [HLB.out] at hvo hco; subst hvo; have HO := hide hown.rd; clear hown) | ((with_reducible refine g_mid HO.out 4 8 ?_ HG8.out und_sl siz_sl ?_ ?_ ?_ ?_ ?_); decide; exact rfl; exact rfl; exact rfl; exact rfl) | ((with_reducible refine g_mid HO.out 8 12 ?_ HG12.out und_sl siz_sl ?_ ?_ ?_ ?_ ?_); decide; exact rfl; exact rfl; exact rfl; exact rfl) | (go_at_call 44; have hRq := HO.out.mid (lo := 4) (hi := 8) (by decide) (by rw [HLB0.out]; omega); rw [show 8 - 4 = 4 from rfl] at hRq; (with_reducible refine (HN4.out _ _ hRq).mono ?_); rintro e W2 ⟨rfl, rfl⟩) | (go_at_call 44; have hRq := HO.out.mid (lo := 8) (hi := 12) (by decide) (by rw [HLB0.out]; omega); rw [show 12 - 8 = 4 from rfl] at hRq; (with_reducible refine (HN8.out _ _ hRq).mono ?_); rintro e W3 ⟨rfl, rfl⟩) | ((with_reducible refine g_frm HO.out 12 HG12.out und_sl siz_sl ?_ ?_ ?_ ?_); exact rfl; exact rfl; exact rfl) | (go_at_call 45; (with_reducible refine (HSX.out _ _ (HO.out.frm HG12.out) (Nat.le_refl _) (HT.out.below hb)).mono ?_); rintro e W4 ⟨vs, rfl, hss, hb4⟩; replace hb := below_bl rfl hb hb4; clear hb4))
        go_ret3
        exact ⟨_, rfl, Secs.nil _ _, hb⟩
  · obtain ⟨d1, d2, d3⟩ := dec_err (body_dec hn he)
    have HBD := hide (body_bad w h hB hn hT he)
    rw [d1, d2, d3]
    have hes : errS (bodyE b) = .iface 80 (.int .i64 (bodyE b : Nat)) := if_neg he
    rw [hes]
    obtain ⟨ad, cap, rfl, _, _⟩ := h.form
    clear h he d1 d2 d3 hes hT
    generalize bodyE b = ee at *
    go_enter Tryd.func17, Tryd.ntmps17
    go_wp2_with (go_at_call 43; (with_reducible refine (HBD.out).mono ?_); rintro e W ⟨rfl, hb2⟩; replace hb := hb2; clear hb2)
    go_ret3
    exact ⟨_, rfl, Secs.nil _ _, hb⟩
/-- What the laws ask of tlv. -/
theorem con_tab : Con TabAt where
  bel := fun w w' h hb => h.below hb
  enc := fun w B v L ver hG h hB hv hL hsz => encode_any w h hB ver hv hL hsz hG
  dec := fun w B v b hG h hB hn => decode_any w h hB hn hG
  find := fun w B v L tag hG h hB ht hsz => find_any w h hB tag ht (by omega)
end Go.Proofs.YtkahkkcbigifiaaDoor
