/-
  The document's numbers: number, N, Run.
-/
import Derived.Test.YtkahkkcbigifiaaDoorTvIn
import Derived.Test.YtkahkkcbigifiaaDoorSmRefT
import Derived.Test.YtkahkkcbigifiaaDoorSmE
namespace Go.Proofs.YtkahkkcbigifiaaDoor
open Go.RowKit
set_option linter.unusedVariables false
set_option linter.unusedSimpArgs false

theorem rcutu_any {B : Nat} {v : Value} {l : List Nat} (w : World) (h : Rd B w v l) (hB : B ≤ w.heap.size) (hn : l.length ≤ 100000) :
    Calls Tryd.prog 46 #[v] w fun e w' => ∃ v', e = .returned (.tuple #[v', .int .i64 (cutE l : Nat)]) ∧ Rd w'.heap.size w' v' (cutL l) ∧ Below w.heap.size w w' := by
  refine (rcut_any w h hB hn).mono ?_
  rintro e w' (⟨h4, rfl, rfl⟩ | ⟨h4, ⟨h5, v', rfl, h6, h7⟩ | ⟨h5, rfl, h6⟩⟩)
  · rw [cutE, cutL, if_pos h4, if_neg (by omega)]
    exact ⟨_, rfl, Rd.nil _ _, Below.refl _ _⟩
  · rw [cutE, cutL, if_neg (by omega), if_pos h5, if_pos ⟨h4, h5⟩]
    exact ⟨_, rfl, h6.top, h7⟩
  · rw [cutE, cutL, if_neg (by omega), if_neg (by rw [h5]; decide), if_neg (by rw [h5]; simp)]
    exact ⟨_, rfl, Rd.nil _ _, h6⟩
theorem num_drop (l : List Nat) (k : Nat) (hk : k < l.length) : numL (l.drop k) = l[k] + 256 * numL (l.drop (k + 1)) := by
  rw [List.drop_eq_getElem_cons hk, numL]
theorem num_64 {l : List Nat} (h : ∀ c ∈ l, c < 256) (h8 : l.length ≤ 8) : numL l < 18446744073709551616 := by
  have := numL_lt l h
  have hp : (256 : Nat) ^ l.length ≤ 256 ^ 8 := Nat.pow_le_pow_right (by decide) h8
  have h88 : (256 : Nat) ^ 8 = 18446744073709551616 := by decide
  omega
set_option maxRecDepth 100000 in
set_option maxHeartbeats 1000000 in
theorem rnumber_any {B : Nat} {v : Value} {l : List Nat} (w : World) (h : Rd B w v l) (h8 : l.length ≤ 8) :
    Calls Tryd.prog 47 #[v] w fun e w' => e = .returned (.int .u64 (numL l : Nat)) ∧ w' = w := by
  by_cases h0 : 0 < l.length
  · obtain ⟨b, off, cap, rfl, hcap, hmax, _, HC, HL⟩ := h.all h0
    obtain ⟨n, hn⟩ : ∃ n, l.length = n := ⟨_, rfl⟩
    have HN := hide hn
    have hb := num_64 h.lt h8
    clear h
    rw [hn] at hcap h0 h8 ⊢
    clear hn
    go_enter Tryd.func47, Tryd.ntmps47
    go_wp2
    go_loop [3, 4] (fun x i => ∃ k : Nat, k ≤ n ∧ i = .int .i64 ((k : Int) - 1) ∧ x = .int .u64 (numL (l.drop k) : Nat)) (fun _ i => (intOf i + 1).toNat)
    case atStart => exact ⟨n, Nat.le_refl _, rfl, by rw [List.drop_eq_nil_of_le (by rw [HN.out]; exact Nat.le_refl _)]; rfl⟩
    case round =>
      obtain ⟨k, hk, rfl, rfl⟩ := hrel
      by_cases hlt : 0 < k
      · obtain ⟨j, rfl⟩ : ∃ j, k = j + 1 := ⟨k - 1, by omega⟩
        have hj : j < l.length := by rw [HN.out]; omega
        have hc := HC.out j hj
        have hcb := HL.out l[j] (List.getElem_mem hj)
        have HS := hide (num_drop l j hj)
        have hx := num_64 (l := l.drop j) (fun c hc => HL.out c (List.mem_of_mem_drop hc)) (by rw [List.length_drop, HN.out]; omega)
        rw [HS.out] at hx
        have hj1 : ((j + 1 : Nat) : Int) - 1 = (j : Nat) := by omega
        rw [hj1]
        generalize numL (l.drop (j + 1)) = x at *
        generalize l[j] = c at *
        go_wp2
        go_round
        case rel => exact ⟨j, by omega, by rfl, by rw [HS.out]; go_num⟩
        case measure => simp [intOf]
      · obtain rfl : k = 0 := by omega
        have hk1 : ((0 : Nat) : Int) - 1 = -1 := rfl
        rw [hk1, List.drop_zero]
        go_wp2
        go_ret
        exact ⟨rfl, rfl⟩
  · obtain ⟨rfl, ad, cap, rfl, hmax⟩ := h.none h0
    go_enter Tryd.func47, Tryd.ntmps47
    go_wp2
    go_loop [3, 4] (fun x i => i = .int .i64 (-1) ∧ x = .int .u64 0) (fun _ i => 0)
    case atStart => exact ⟨rfl, rfl⟩
    case round =>
      obtain ⟨rfl, rfl⟩ := hrel
      go_wp2
      go_ret
      exact ⟨rfl, rfl⟩
theorem leN_snoc : ∀ (k v : Nat), leN (k + 1) v = leN k v ++ [v / 256 ^ k % 256]
  | 0, v => by simp [leN]
  | k + 1, v => by
    rw [leN, leN_snoc k (v / 256), leN, List.cons_append, Nat.div_div_eq_div_mul, Nat.pow_succ, Nat.mul_comm 256]
def NRel (l : List Nat) (V n N : Nat) (w0 : World) (vv ov iv : Value) (wr : World) : Prop := ∃ k : Nat, k ≤ n ∧ iv = .int .i64 (k : Nat) ∧ vv = .int .u64 (V / 256 ^ k : Nat) ∧ Own N 5 wr ov (l ++ leN k V) ∧ Below N w0 wr
set_option maxRecDepth 100000 in
set_option maxHeartbeats 2000000 in
theorem rN_any {B : Nat} {v : Value} {l : List Nat} (w : World) (h : Rd B w v l) (hn : l.length ≤ 100000000) (V : Nat) (hV : V < 18446744073709551616) (n : Int) :
    Calls Tryd.prog 32 #[v, .int .u64 (V : Nat), .int .i64 n] w fun e w' => ∃ v', e = .returned v' ∧ Own w.heap.size 5 w' v' (layN l V n) ∧ Below w.heap.size w w' := by
  obtain ⟨i0, hi0, hz0, hs0, hb0⟩ := info_u8
  have HI := hide hi0
  have HZ := hide hz0
  have HS := hide hs0
  have HB := hide hb0
  clear hi0 hz0 hs0 hb0
  have HR := hide h
  have HN := hide hn
  have hb : Below w.heap.size w w := Below.refl _ w
  have HNL := hide (Own.nil w.heap.size 5 w)
  clear h hn
  by_cases hbad : n < 1 ∨ 8 < n
  · rw [layN, if_pos hbad]
    by_cases h1 : n < 1
    · clear hbad
      go_enter Tryd.func32, Tryd.ntmps32
      go_wp2_with ((with_reducible refine op_app i0 Tryd.underlying26 HI.out HZ.out HS.out HB.out HNL.out HR.out ?_ ?_ ?_ ?_ ?_); (have := HN.out; simp; omega); exact Nat.le_refl _; exact rfl; exact rfl; intro W vq hown hgr; replace hb := hb.grown hgr (Nat.le_refl _) (fun k hk => by cases hk); rw [List.nil_append] at hown)
      go_ret
      exact ⟨_, rfl, hown, hb⟩
    · have h8 : 8 < n := by omega
      clear hbad
      go_enter Tryd.func32, Tryd.ntmps32
      go_wp2_with ((with_reducible refine op_app i0 Tryd.underlying26 HI.out HZ.out HS.out HB.out HNL.out HR.out ?_ ?_ ?_ ?_ ?_); (have := HN.out; simp; omega); exact Nat.le_refl _; exact rfl; exact rfl; intro W vq hown hgr; replace hb := hb.grown hgr (Nat.le_refl _) (fun k hk => by cases hk); rw [List.nil_append] at hown)
      go_ret
      exact ⟨_, rfl, hown, hb⟩
  · rw [layN, if_neg hbad]
    obtain ⟨m, rfl⟩ := Int.eq_ofNat_of_zero_le (show 0 ≤ n by omega)
    have hm1 : 1 ≤ m := by omega
    have hm8 : m ≤ 8 := by omega
    rw [Int.toNat_natCast]
    clear hbad
    go_enter Tryd.func32, Tryd.ntmps32
    go_wp2_with ((with_reducible refine op_app i0 Tryd.underlying26 HI.out HZ.out HS.out HB.out HNL.out HR.out ?_ ?_ ?_ ?_ ?_); (have := HN.out; simp; omega); exact Nat.le_refl _; exact rfl; exact rfl; intro W vq hown hgr; replace hb := hb.grown hgr (Nat.le_refl _) (fun k hk => by cases hk); rw [List.nil_append] at hown)
    go_loopw [1, 7, 8] (NRel l V m w.heap.size w) (fun _ _ iv _ => m - (intOf iv).toNat)
    case atStart => exact ⟨0, Nat.zero_le _, rfl, by simp, by rw [leN, List.append_nil]; exact hown, hb⟩
    case round =>
      clear hown hb hgr
      obtain ⟨k, hk, rfl, rfl, hown, hb⟩ := hrel
      have HO := hide hown
      clear hown
      by_cases hlt : k < m
      · have HSN := hide (leN_snoc k V)
        have HDV := hide (show V / 256 ^ k / 256 = V / 256 ^ (k + 1) by rw [Nat.div_div_eq_div_mul, ← Nat.pow_succ])
        have hx : V / 256 ^ k < 18446744073709551616 := Nat.lt_of_le_of_lt (Nat.div_le_self _ _) hV
        have HLN := hide (show (l ++ leN k V).length ≤ 100000010 by have := HN.out; rw [List.length_append, leN_len]; omega)
        generalize V / 256 ^ k = x at *
        have HTE := hide (show #[Value.int .u8 ((x : Int) % 256)] = (byV [x % 256]).toArray from rfl)
        have HXL := hide (show ∀ c ∈ [x % 256], c < 256 from fun c hc => by rw [List.mem_singleton.1 hc]; exact Nat.mod_lt _ (by decide))
        go_wp2_with ((with_reducible refine op_app i0 Tryd.underlying26 HI.out HZ.out HS.out HB.out (HO.out.bl (below_one _ _)) (rd_new _ _ _ HTE.out HXL.out 1 rfl (by decide)) ?_ ?_ ?_ ?_ ?_); (have := HLN.out; simp only [List.length_singleton]; omega); (have := hb.size; simp; omega); exact rfl; exact rfl; intro W3 vr hown hgr; replace hb := (HO.out.bl (below_one _ _)).grown hgr (hb.trans ((below_one _ _).mono hb.size)) (by have := hb.size; simp; omega) (Nat.le_refl _))
        go_roundw
        case rel => exact ⟨k + 1, hlt, by go_num, by rw [← HDV.out]; go_num, by rw [HSN.out, ← List.append_assoc]; exact hown, hb⟩
        case measure => simp [intOf]; omega
      · obtain rfl : k = m := by omega
        go_wp2
        go_ret
        exact ⟨_, rfl, HO.out, hb⟩
set_option maxRecDepth 100000 in
set_option maxHeartbeats 2000000 in
theorem rRun_any {B C : Nat} {v u : Value} {l x : List Nat} (w : World) (h : Rd B w v l) (hx : Rd C w u x) (hC : C ≤ w.heap.size) (hn : l.length ≤ 100000000) (hxn : x.length ≤ 100000000) :
    Calls Tryd.prog 31 #[v, u] w fun e w' => ∃ v', e = .returned v' ∧ Own w.heap.size 5 w' v' (layR l x) ∧ Below w.heap.size w w' := by
  obtain ⟨i0, hi0, hz0, hs0, hb0⟩ := info_u8
  have HI := hide hi0
  have HZ := hide hz0
  have HS := hide hs0
  have HB := hide hb0
  clear hi0 hz0 hs0 hb0
  have H1 := hide (rN_any w h hn x.length (by omega) 4)
  rw [show layN l x.length 4 = l ++ leN 4 x.length from if_neg (by omega)] at H1
  have HX := hide hx
  obtain ⟨ad, cap, hu, hcap, hmax⟩ := hx.form
  subst hu
  have HLN := hide (show (l ++ leN 4 x.length).length + x.length ≤ 300000000 by rw [List.length_append, leN_len]; omega)
  unfold layR
  generalize hq : l ++ leN 4 x.length = q at *
  clear hq h hx
  have hb : Below w.heap.size w w := Below.refl _ w
  go_enter Tryd.func31, Tryd.ntmps31
  go_wp2_with (first | (go_at_call 32; refine (H1.out).mono ?_; rintro e W ⟨vq, rfl, hown, hb2⟩; replace hb := hb2; have HO := hide hown; have HX2 := hide (HX.out.bel (hb2.mono hC)); clear hown hb2) | ((with_reducible refine op_app i0 Tryd.underlying26 HI.out HZ.out HS.out HB.out HO.out HX2.out ?_ ?_ ?_ ?_ ?_); (have := HLN.out; omega); exact hb.size; exact rfl; exact rfl; intro W3 vr hown hgr; replace hb := HO.out.grown hgr hb hb.size (Nat.le_refl _)))
  go_ret
  exact ⟨_, rfl, hown, hb⟩
end Go.Proofs.YtkahkkcbigifiaaDoor
