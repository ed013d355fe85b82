/-
  What the laws call of their own: give, long.
-/
import Derived.Test.YtkahkkcbigifiaaDoorTvConS
import Derived.Test.YtkahkkcbigifiaaDoorTvRef5
namespace Go.Proofs.YtkahkkcbigifiaaDoor
open Go.RowKit
set_option linter.unusedVariables false
set_option linter.unusedSimpArgs false

theorem size_sct : (Tryd.prog.info? 78).map (·.size) = some 2 := by kernel_rfl
variable {P : Program} {ops : Array Oper} {rest : List Oper} {dst : Option Tmp} {ty t t2 : TypeId} {pos : String} {after : Array Edge} {a : Act} {w : World} {Q : Exit → Act → World → Prop} {K : Act → World → Prop} {x y z : Operand} {gd : Option (Nat × Bool)}
theorem op_lds (b o tag : Nat) (u : Value) (c0 : w.cell? ⟨b, o, none⟩ = some (.int .u32 (tag : Nat))) (c1 : w.cell? ⟨b, o + 1, none⟩ = some u) (hx : a.eval x = .pointer (some ⟨b, o, none⟩))
    (k : wpList Tryd.prog ops Q rest (a.put dst (.agg #[.int .u32 (tag : Nat), u])) w) : wpList Tryd.prog ops Q (⟨dst, .load 78 x, ty, pos, after, none⟩ :: rest) a w :=
  wpList_load_mid rfl 78 x rfl b o hx [.int .u32 (tag : Nat), u] _ (fun j v hj => by
    rcases j with _ | _ | j
    · simp at hj; subst hj; exact c0
    · simp at hj; subst hj; exact c1
    · simp at hj) Tryd.underlying78 rfl size_sct k
def GvRel (L : List Sct) (n N C : Nat) (w0 : World) (ov iv : Value) (wr : World) : Prop := ∃ k : Nat, k ≤ n ∧ iv = .int .i64 (k : Nat) ∧ OwnSecs N C 82 wr ov (L.take k) ∧ Below N w0 wr
set_option maxRecDepth 100000 in
set_option maxHeartbeats 2000000 in
theorem give_any {B : Nat} {v : Value} {L : List Sct} (w : World) (h : Secs B w v L) (hB : B ≤ w.heap.size) (hL : L.length ≤ 300) :
    Calls Tryd.prog 12 #[v] w fun e w' => ∃ v', e = .returned v' ∧ OwnSecs w.heap.size B 82 w' v' L ∧ Below w.heap.size w w' := by
  obtain ⟨i0, hi0, hz0, hs0, hb0⟩ := info_ts
  have HI := hide hi0
  have HZ := hide hz0
  have HS := hide hs0
  have HB64 := hide (show i0.bytes ≤ 64 by rw [hb0]; decide)
  clear hi0 hz0 hs0 hb0
  have HSE := hide h
  obtain ⟨ad, cap, rfl, hcap, hmax⟩ := h.form
  obtain ⟨n, hn⟩ : ∃ n, L.length = n := ⟨_, rfl⟩
  have HN := hide hn
  rw [hn] at hcap hL ⊢
  clear h hn
  have hb : Below w.heap.size w w := Below.refl _ w
  go_enter Tryd.func12, Tryd.ntmps12
  go_wp2
  go_loopw [3, 4] (GvRel L n w.heap.size B w) (fun _ iv _ => n - (intOf iv).toNat)
  case atStart => exact ⟨0, Nat.zero_le _, rfl, OwnSecs.nil _ _ _ _, hb⟩
  case round =>
    clear hb
    obtain ⟨k, hk, rfl, hown, hb⟩ := hrel
    have HO := hide hown
    clear hown
    by_cases hlt : k < n
    · have hkl : k < L.length := by have := HN.out; omega
      obtain ⟨b, off, cap', hv, _, _, hbB, HC⟩ := HSE.out.all (by omega)
      injection hv with hv hv2 hv3
      subst hv hv3
      clear hv2
      obtain ⟨c1, u, c2, c3⟩ := HC.out k hkl
      obtain ⟨au, cu, hu, _, _⟩ := c3.form
      subst hu
      have HR := hide c3
      have HC0 := hide ((hb.cell (p := ⟨b, off + k * 2, none⟩) (Nat.lt_of_lt_of_le hbB hB)).trans c1)
      have HC1 := hide ((hb.cell (p := ⟨b, off + k * 2 + 1, none⟩) (Nat.lt_of_lt_of_le hbB hB)).trans c2)
      have HTK := hide (take_snoc L k hkl)
      have htg := HSE.out.tags _ (List.getElem_mem hkl)
      have hl5 : (L.take k).length ≤ 100000 := by rw [List.length_take]; omega
      obtain ⟨lb, hlb⟩ : ∃ q, L[k].b.length = q := ⟨_, rfl⟩
      rw [hlb] at HR HC1
      clear c1 c2 c3
      go_wp2_with (first | ((with_reducible refine op_lds b (off + k * 2) L[k].tag (.slice au lb cu) HC0.out HC1.out ?_ ?_); exact rfl) | ((with_reducible refine op_app2 i0 (.agg #[.int .u32 0, .slice none 0 0]) Tryd.underlying31 HI.out HZ.out HS.out HB64.out rfl L[k] _ 1 (HO.out.bl (below_one _ _) (Nat.le_trans hB hb.size)) htg (HR.out.bel ((hb.mono hB).trans ((below_one _ _).mono (Nat.le_trans hB hb.size)))) hl5 ?_ hB (newc _ #[.int .u32 (L[k].tag : Nat), .slice au lb cu] _ 0 _ rfl) (newc _ #[.int .u32 (L[k].tag : Nat), .slice au lb cu] _ 1 _ rfl) ?_ ?_ ?_); (have := hb.size; simp; omega); exact rfl; exact rfl; intro W6 v6 hown hgr; replace hb := (hb.trans ((below_one _ _).mono hb.size)).grown hgr (by have := hb.size; simp; omega) HO.out.lt))
      go_roundw
      case rel => exact ⟨k + 1, hlt, by go_num, by rw [HTK.out]; exact hown, hb⟩
      case measure => simp [intOf]; omega
    · obtain rfl : k = n := by omega
      have htk : L.take k = L := List.take_of_length_le (by have := HN.out; omega)
      rw [htk] at HO
      go_wp2
      go_ret
      exact ⟨_, rfl, HO.out, hb⟩
set_option maxRecDepth 100000 in
set_option maxHeartbeats 2000000 in
theorem long_any {B : Nat} {v : Value} {L : List Sct} (w : World) (h : Secs B w v L) (ht : totL (L.take 5000) ≤ 4611686018427387904) :
    Calls Tryd.prog 9 #[v] w fun e w' => e = .returned (.bool (longB L)) ∧ w' = w := by
  have HSE := hide h
  obtain ⟨ad, cap, rfl, hcap, hmax⟩ := h.form
  obtain ⟨n, hn⟩ : ∃ n, L.length = n := ⟨_, rfl⟩
  have HN := hide hn
  rw [hn] at hcap ⊢
  clear h hn
  go_enter Tryd.func9, Tryd.ntmps9
  go_wp2
  go_loop [3, 4] (fun x i => ∃ k : Nat, k ≤ n ∧ k ≤ 5000 ∧ i = .int .i64 k ∧ x = .int .i64 (totL (L.take k) : Nat)) (fun _ i => n - (intOf i).toNat)
  case atStart => exact ⟨0, Nat.zero_le _, Nat.zero_le _, rfl, rfl⟩
  case round =>
    obtain ⟨k, hk, hk5, rfl, rfl⟩ := hrel
    by_cases hin : k < n ∧ k < 5000
    · obtain ⟨hlt, hlt5⟩ := hin
      have hkl : k < L.length := by have := HN.out; omega
      obtain ⟨b, off, cap', hv, _, _, hbB, HC⟩ := HSE.out.all (by omega)
      injection hv with hv hv2 hv3
      subst hv hv3
      clear hv2
      obtain ⟨c1, u, c2, c3⟩ := HC.out k hkl
      obtain ⟨au, cu, hu, _, _⟩ := c3.form
      subst hu
      have HTS := hide (tot_succ L k hkl)
      have hle := tot_le (L.take 5000) (k + 1)
      rw [List.take_take, Nat.min_eq_left (by omega), HTS.out] at hle
      generalize L[k].b.length = lb at *
      generalize totL (L.take k) = x at *
      clear c1 c3
      go_wp2
      go_round
      case rel => exact ⟨k + 1, hlt, hlt5, by go_num, by rw [HTS.out]; go_num⟩
      case measure => simp [intOf]; omega
    · have HF := hide (show totL (L.take k) = totL (L.take 5000) by
        rcases (show k = n ∨ k = 5000 by omega) with rfl | rfl
        · rw [List.take_of_length_le (by have := HN.out; omega), List.take_of_length_le (by have := HN.out; omega)]
        · rfl)
      have hle := tot_le L k
      have HLB := hide (show longB L = (decide (200 < n) || decide (20000 < totL (L.take k))) by rw [longB, HF.out, HN.out])
      generalize totL (L.take k) = x at *
      have hcase : k = n ∨ (k = 5000 ∧ k < n) := by omega
      clear hin
      by_cases h200 : 200 < n
      · have HA := hide (show longB L = true by rw [HLB.out, decide_eq_true h200]; rfl)
        rcases hcase with rfl | ⟨rfl, hkn⟩
        · go_wp2
          go_ret
          exact ⟨by rw [HA.out]; rfl, rfl⟩
        · simp only [Int.cast_ofNat_Int] at *
          have hkn2 : (5000 : Int) < (n : Int) := by omega
          go_wp2
          go_ret
          exact ⟨by rw [HA.out]; rfl, rfl⟩
      · have hkn : k = n := by omega
        subst hkn
        by_cases h20 : 20000 < x
        · have HA := hide (show longB L = true by rw [HLB.out, decide_eq_true h20, Bool.or_true])
          go_wp2
          go_ret
          exact ⟨by rw [HA.out]; exact congrArg (fun q => Ending.returned (.bool q)) (show (decide ((200 : Int) < (k : Int)) || decide ((20000 : Int) < (x : Int))) = true by rw [decide_eq_true (show (20000 : Int) < (x : Int) by omega), Bool.or_true]), rfl⟩
        · have HA := hide (show longB L = false by rw [HLB.out, decide_eq_false h200, decide_eq_false h20]; rfl)
          have h20b : x ≤ 20000 := by omega
          go_wp2
          go_ret
          exact ⟨by rw [HA.out]; exact congrArg (fun q => Ending.returned (.bool q)) (show (decide ((200 : Int) < (k : Int)) || decide ((20000 : Int) < (x : Int))) = false by rw [decide_eq_false (show ¬ (200 : Int) < (k : Int) by omega), decide_eq_false (show ¬ (20000 : Int) < (x : Int) by omega)]; rfl), rfl⟩
end Go.Proofs.YtkahkkcbigifiaaDoor
