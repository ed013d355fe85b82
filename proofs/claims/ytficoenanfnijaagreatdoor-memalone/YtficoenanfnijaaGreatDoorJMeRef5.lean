/-
  The document's SetPage, Pages, Harvest and Twin.
-/
import Derived.Test.YtficoenanfnijaaGreatDoorJMeRef4
namespace Go.Proofs.YtficoenanfnijaaGreatDoor
open Go.RowKit
set_option linter.unusedVariables false
attribute [local go_sem ↓] Go.wp_at_zero Go.wp_at_succ

theorem own_lower {W : World} {B B' e sz n : Nat} {v : Value} {xs : List Value} (h : W.ownsRow B e sz v n xs) (hb : B' ≤ B) : W.ownsRow B' e sz v n xs := by
  obtain ⟨h1, h2 | ⟨g, cap, cur, e1, e2, e3⟩⟩ := h
  · exact ⟨h1, Or.inl h2⟩
  · exact ⟨h1, Or.inr ⟨g, cap, cur, e1, Nat.le_trans hb e2, e3⟩⟩
set_option maxHeartbeats 1000000 in
theorem rset_bad {w : World} {N n : Nat} {f : Nat → Nat} {r : RP} (h : RefAt w N n f r) (p : Nat) (hp : n ≤ p) (hp2 : p < 4294967296) (x : Value) :
    Calls Tryz.prog 26 #[.agg (r.v N n), .int .i64 p, x] w fun e w' => e = .returned (.tuple #[.agg (r.v N n), .int .i64 4]) ∧ Below w.heap.size w w' := by
  have hn9 : n ≤ 16384 := h.few.2.1
  have t0 : decide ((p : Int) < 0) = false := decide_eq_false (by omega)
  have t1 : decide ((n : Int) ≤ (p : Int)) = true := decide_eq_true (by omega)
  have t2 : decide (n ≤ p) = true := decide_eq_true hp
  clear h
  go_enter Tryz.func26, Tryz.ntmps26
  go_wp2_with (first | ((with_reducible refine bx_R w.heap.size r N n ?_ ?_ ?_); exact rfl; exact rfl; intro W hr hb hz0) | ((with_reducible refine al_R (w.heap.size + 1) ?_ ?_); exact hz0.out; intro W hq hb' hz'; replace hr := hr.bl (hz0.out ▸ hb'); replace hb := hb.trans (hb'.mono (by omega)); replace hz0 := hz'; have fB : W.cell? ⟨w.heap.size, 0, none⟩ = some (.slice (some ⟨r.gB, 0, none⟩) N r.cB) := hr.cell 0; have fD : W.cell? ⟨w.heap.size, 1, none⟩ = some (.slice (some ⟨r.gD, 0, none⟩) n r.cD) := hr.cell 1) | ((with_reducible refine ld_B w.heap.size _ N n hr ?_ ?_); exact rfl) | ((with_reducible refine ld_D w.heap.size _ N n hr ?_ ?_); exact rfl) | ((with_reducible refine ld_R w.heap.size _ N n hr ?_ ?_); exact rfl) | ((with_reducible refine st_R (w.heap.size + 1) _ r N n hq ?_ ?_ ?_ ?_); exact rfl; exact rfl; exact rfl; intro W hnew ho; replace hr := hr.only ho (by omega); replace hq := hnew; replace hb := ho.bel _ _ (by omega) hb))
  refine bodyPost_ret (results_cell_tmp_row Tryz.results26 _ _ (w.heap.size + 1) _ _ _ _ rfl hq Tryz.underlying31 rfl size_R) rfl ?_
  exact ⟨rfl, hb⟩
set_option maxHeartbeats 1000000 in
theorem rset_long {w : World} {N n : Nat} {f : Nat → Nat} {r : RP} (h : RefAt w N n f r) (p : Nat) (hp : p < n) (sa : Option Addr) (L sc : Nat) (hL : L ≠ 4096) :
    Calls Tryz.prog 26 #[.agg (r.v N n), .int .i64 p, .slice sa L sc] w fun e w' => e = .returned (.tuple #[.agg (r.v N n), .int .i64 2]) ∧ Below w.heap.size w w' := by
  have hn9 : n ≤ 16384 := h.few.2.1
  have t0 : decide ((p : Int) < 0) = false := decide_eq_false (by omega)
  have t1 : decide ((n : Int) ≤ (p : Int)) = false := decide_eq_false (by omega)
  have t2 : decide (n ≤ p) = false := decide_eq_false (by omega)
  have t3 : ((L : Int) != 4096) = true := by simp; omega
  clear h hL
  go_enter Tryz.func26, Tryz.ntmps26
  go_wp2_with (first | ((with_reducible refine bx_R w.heap.size r N n ?_ ?_ ?_); exact rfl; exact rfl; intro W hr hb hz0) | ((with_reducible refine al_R (w.heap.size + 1) ?_ ?_); exact hz0.out; intro W hq hb' hz'; replace hr := hr.bl (hz0.out ▸ hb'); replace hb := hb.trans (hb'.mono (by omega)); replace hz0 := hz'; have fB : W.cell? ⟨w.heap.size, 0, none⟩ = some (.slice (some ⟨r.gB, 0, none⟩) N r.cB) := hr.cell 0; have fD : W.cell? ⟨w.heap.size, 1, none⟩ = some (.slice (some ⟨r.gD, 0, none⟩) n r.cD) := hr.cell 1) | ((with_reducible refine ld_B w.heap.size _ N n hr ?_ ?_); exact rfl) | ((with_reducible refine ld_D w.heap.size _ N n hr ?_ ?_); exact rfl) | ((with_reducible refine ld_R w.heap.size _ N n hr ?_ ?_); exact rfl) | ((with_reducible refine st_R (w.heap.size + 1) _ r N n hq ?_ ?_ ?_ ?_); exact rfl; exact rfl; exact rfl; intro W hnew ho; replace hr := hr.only ho (by omega); replace hq := hnew; replace hb := ho.bel _ _ (by omega) hb))
  refine bodyPost_ret (results_cell_tmp_row Tryz.results26 _ _ (w.heap.size + 1) _ _ _ _ rfl hq Tryz.underlying31 rfl size_R) rfl ?_
  exact ⟨rfl, hb⟩
set_option maxRecDepth 100000 in
set_option maxHeartbeats 1000000 in
theorem rset_ok {w : World} {N n : Nat} {f : Nat → Nat} {r : RP} (h : RefAt w N n f r) (p : Nat) (hp : p < n) (l : List Nat) (hl : ∀ y, y ∈ l → y < 256) (hlL : l.length = 4096) (sb so sc : Nat) (hsc : 4096 ≤ sc) (hsc2 : sc ≤ maxLen)
    (hsrc : ∀ j v, (byteV l)[j]? = some v → w.cell? ⟨sb, so + j, none⟩ = some v) (hsl : sb < w.heap.size) :
    Calls Tryz.prog 26 #[.agg (r.v N n), .int .i64 p, .slice (some ⟨sb, so, none⟩) 4096 sc] w fun e w' => (∃ r' : RP, e = .returned (.tuple #[.agg (r'.v N n), .int .i64 0]) ∧ RefAt w' N n (wroteF f (4096 * p) l) r' ∧ ∀ x, r'.owns x → w.heap.size ≤ x) ∧ Below w.heap.size w w' := by
  have hn9 : n ≤ 16384 := h.few.2.1
  have hN := h.few.2.2
  have t0 : decide ((p : Int) < 0) = false := decide_eq_false (by omega)
  have t1 : decide ((n : Int) ≤ (p : Int)) = false := decide_eq_false (by omega)
  have t2 : decide (n ≤ p) = false := decide_eq_false (by omega)
  have p9 : p < 16384 := by omega
  have HW : Hid (∀ W, Below w.heap.size w W → Calls Tryz.prog 24 #[.agg (r.v N n), .int .u32 (4096 * (p : Int)), .slice (some ⟨sb, so, none⟩) 4096 sc] W fun e w' => (∃ r' : RP, e = .returned (.tuple #[.agg (r'.v N n), .int .i64 0]) ∧ RefAt w' N n (wroteF f (4096 * p) l) r' ∧ ∀ x, r'.owns x → W.heap.size ≤ x) ∧ Below W.heap.size W w') := by
    refine hide (fun W hb => ?_)
    have := rwrite_ok (h.bl hb) (4096 * p) (by omega) l hl 4096 hlL (by omega) (by omega) sb so sc hsc hsc2 (fun j v hj => (hb.cell (p := ⟨sb, so + j, none⟩) hsl).trans (hsrc j v hj)) (Nat.lt_of_lt_of_le hsl hb.size)
    rw [show ((4096 * p : Nat) : Int) = 4096 * (p : Int) by omega] at this
    exact this
  have hw : IntKind.u32.wrap (4096 * (p : Int)) = 4096 * (p : Int) := by rw [IntKind.wrap_u32]; omega
  clear h hsrc hl hlL hN
  generalize wroteF f (4096 * p) l = f' at *
  go_enter Tryz.func26, Tryz.ntmps26
  go_wp2_with (first | ((with_reducible refine bx_R w.heap.size r N n ?_ ?_ ?_); exact rfl; exact rfl; intro W hr hb hz0) | ((with_reducible refine al_R (w.heap.size + 1) ?_ ?_); exact hz0.out; intro W hq hb' hz'; replace hr := hr.bl (hz0.out ▸ hb'); replace hb := hb.trans (hb'.mono (by omega)); replace hz0 := hz'; have fB : W.cell? ⟨w.heap.size, 0, none⟩ = some (.slice (some ⟨r.gB, 0, none⟩) N r.cB) := hr.cell 0; have fD : W.cell? ⟨w.heap.size, 1, none⟩ = some (.slice (some ⟨r.gD, 0, none⟩) n r.cD) := hr.cell 1) | ((with_reducible refine ld_B w.heap.size _ N n hr ?_ ?_); exact rfl) | ((with_reducible refine ld_D w.heap.size _ N n hr ?_ ?_); exact rfl) | ((with_reducible refine ld_R w.heap.size _ N n hr ?_ ?_); exact rfl) | (go_at_call 24; refine (HW.out _ hb).mono ?_; rintro e W ⟨⟨r2, rfl, hRf, hg2⟩, hx5⟩; have HG2 : Hid (∀ x, r2.owns x → w.heap.size + 1 < x) := hide (fun x hx => Nat.lt_of_lt_of_le hq.lt (hg2 x hx)); replace hr := hr.bl hx5; replace hq := hq.bl hx5; replace hb := below_bl rfl hb hx5; have HRf := hide hRf; clear hRf hg2 hx5) | ((with_reducible refine st_R (w.heap.size + 1) _ r2 N n hq ?_ ?_ ?_ ?_); exact rfl; exact rfl; exact rfl; intro W hnew ho; replace hr := hr.only ho (by omega); replace hq := hnew; replace hb := ho.bel _ _ (by omega) hb; replace HRf := hide (HRf.out.same (fun x hx => ho.row x (by (have := HG2.out x hx; omega))))))
  refine bodyPost_ret (results_cell_tmp_row Tryz.results26 _ _ (w.heap.size + 1) _ _ _ _ rfl hq Tryz.underlying31 rfl size_R) rfl ?_
  exact ⟨⟨r2, rfl, HRf.out, fun x hx => by have := HG2.out x hx; omega⟩, hb⟩
set_option maxRecDepth 100000 in
set_option maxHeartbeats 1000000 in
theorem rpages_any {w : World} {N n : Nat} {f : Nat → Nat} {r : RP} (h : RefAt w N n f r) :
    Calls Tryz.prog 49 #[.agg (r.v N n)] w fun e w' => (∃ (v : Value) (l : List Nat), e = .returned v ∧ w'.ownsRow w.heap.size 3 1 v l.length (intV l) ∧ l.length ≤ 16384) ∧ Below w.heap.size w w' := by
  have hn9 : n ≤ 16384 := h.few.2.1
  obtain ⟨d, hd⟩ := h.marks
  have HM := hide hd
  obtain ⟨i0, hi, hq0, hq1, hq2⟩ := info_parts (P := Tryz.prog) (e := 3) (z := .int .i64 0) (size := 1) (bytes := 8) (by kernel_rfl)
  clear h hd
  go_enter Tryz.func49, Tryz.ntmps49
  go_wp2_with (first | ((with_reducible refine bx_R w.heap.size r N n ?_ ?_ ?_); exact rfl; exact rfl; intro W hr hb hz0))
  go_loopw [3, 4] (fun ov kv wr => ∃ (k : Nat) (l : List Nat), k ≤ n ∧ l.length ≤ k ∧ kv = .int .i64 (k : Nat) ∧ wr.ownsRow (w.heap.size + 1) 3 1 ov l.length (intV l) ∧ RowAt wr w.heap.size (r.v N n) 31 ∧ Below w.heap.size w wr) (fun _ kv _ => n - (intOf kv).toNat)
  case atStart => exact ⟨0, [], Nat.zero_le _, Nat.le_refl _, rfl, ⟨rfl, .inl ⟨rfl, rfl⟩⟩, hr, hb⟩
  case round =>
    obtain ⟨k, l, hk, hlk, rfl, hO, hr, hb⟩ := hrel
    have HO := hide hO
    have HB := hide hb
    have HR := hide hr
    have fD : wr.cell? ⟨w.heap.size, 1, none⟩ = some (.slice (some ⟨r.gD, 0, none⟩) n r.cD) := hr.cell 1
    by_cases hlt : k < n
    · have hc := (HM.out.bl hb).cell hlt
      have k9 : (k : Int) < (n : Int) := by omega
      clear hO hb hr
      cases hdk : d k with
      | true =>
        rw [hdk] at hc
        clear hdk
        go_wp2_with (first | (at_builtin; refine wpList_append_own _ rfl _ _ 40 rfl (w.heap.size + 1) 3 i0 (.int .i64 0) 1 8 Tryz.underlying40 hi hq0 hq1 hq2 rfl (by decide) _ _ _ rfl (HO.out.alloc _) ⟨_, 0, none⟩ 1 1 [.int .i64 (k : Int)] rfl rfl (cell_one_new _ _ _) (by simp [Value.oneCell']) (by unfold maxLen; omega) (by omega) (by have := HR.out.lt; simp; omega) ?_; intro v6 w6 hown6 hgrow6 hnil6))
        go_roundw
        case rel =>
          have hX := HO.out.alloc (.cells #[.int .i64 (k : Int)] 3)
          have hbx := grown_below hgrow6 (B := w.heap.size + 1) (by have := HR.out.lt; simp; omega) (fun j hj => own_block_ge hX j hj)
          refine ⟨k + 1, l ++ [k], by omega, by simp; omega, by go_num, ?_, ?_, ?_⟩
          · rw [intV, List.map_append, List.length_append]; exact hown6
          · exact (hbx.block w.heap.size (by omega)).trans (HR.out.al _)
          · exact (HB.out.alloc HB.out.size _).trans (hbx.mono (by omega))
        case measure => simp only [intOf]; omega
      | false =>
        rw [hdk] at hc
        clear hdk
        go_wp2
        go_roundw
        case rel => exact ⟨k + 1, l, by omega, by omega, by go_num, HO.out, HR.out, HB.out⟩
        case measure => simp only [intOf]; omega
    · obtain rfl : k = n := by omega
      clear hO hb hr
      go_wp2
      go_ret
      exact ⟨⟨_, l, rfl, own_lower HO.out (by omega), by omega⟩, HB.out⟩
set_option maxHeartbeats 1000000 in
theorem rharvest_any {w : World} {N n : Nat} {f : Nat → Nat} {r : RP} (h : RefAt w N n f r) :
    Calls Tryz.prog 27 #[.agg (r.v N n)] w fun e w' => (∃ (r' : RP) (v : Value), e = .returned (.tuple #[.agg (r'.v N n), v]) ∧ (∃ l : List Nat, w'.ownsRow w.heap.size 3 1 v l.length (intV l) ∧ l.length ≤ 16384) ∧ RefAt w' N n f r' ∧ ∀ x, r'.owns x → x = r.gB ∨ w.heap.size ≤ x) ∧ Below w.heap.size w w' := by
  have hn9 : n ≤ 16384 := h.few.2.1
  have m2 := run_make_row' (P := Tryz.prog) 29 4 (.bool false) 1 Tryz.underlying29 (by kernel_rfl) rfl .i64 .i64 n (by omega) (by omega)
  have HP := hide (fun W (hb : Below w.heap.size w W) => rpages_any (h.bl hb))
  have HRef := hide h
  have HBl := hide h.bytes.lt
  clear h
  go_enter Tryz.func27, Tryz.ntmps27
  go_wp2_with (first | ((with_reducible refine bx_R w.heap.size r N n ?_ ?_ ?_); exact rfl; exact rfl; intro W hr hb hz0) | ((with_reducible refine al_R (w.heap.size + 1) ?_ ?_); exact hz0.out; intro W hq hb' hz'; replace hr := hr.bl (hz0.out ▸ hb'); replace hb := hb.trans (hb'.mono (by omega)); replace hz0 := hz'; have fB : W.cell? ⟨w.heap.size, 0, none⟩ = some (.slice (some ⟨r.gB, 0, none⟩) N r.cB) := hr.cell 0; have fD : W.cell? ⟨w.heap.size, 1, none⟩ = some (.slice (some ⟨r.gD, 0, none⟩) n r.cD) := hr.cell 1) | ((with_reducible refine ld_B w.heap.size _ N n hr ?_ ?_); exact rfl) | ((with_reducible refine ld_D w.heap.size _ N n hr ?_ ?_); exact rfl) | ((with_reducible refine ld_R w.heap.size _ N n hr ?_ ?_); exact rfl) | (go_at_call 49; refine (HP.out _ hb).mono ?_; rintro e W ⟨⟨v, l, rfl, hO, hl⟩, hx5⟩; replace hr := hr.bl hx5; have HBq : Hid (w.heap.size + 1 + 1 ≤ _) := hide (Nat.succ_le_of_lt hq.lt); have HSz := hide hx5.size; replace hq := hq.bl hx5; replace hb := below_bl rfl hb hx5; have HO := hide hO; have HL := hide hl; clear hO hl hx5; have fD2 : W.cell? ⟨w.heap.size, 1, none⟩ = some (.slice (some ⟨r.gD, 0, none⟩) n r.cD) := hr.cell 1) | ((with_reducible refine st_D w.heap.size r N n W.heap.size n (hr.al _) ?_ ?_ ?_); exact rfl; exact rfl; intro W2 hnew ho; have HN2 := hide ((HoldsAt.made (RowAt.new W _ _ _ rfl)).of_heap (ho.row _ (by (have := hr.lt; omega)))); have HO2 := hide (own_far (HO.out.alloc _) (fun x hx => ho.row x (by (have := HBq.out; omega)))); have HRf := hide (((HRef.out.bl hb).al _).same (fun x hx => ho.row x (by (have := HRef.out.lt hx; omega)))); have HS2 : Hid (W.heap.size ≤ W2.heap.size) := hide (by (rw [ho.size]; simp)); replace hq := (hq.al _).only ho (by omega); replace hr := hnew; replace hb := ho.bel _ _ (by omega) (hb.alloc hb.size _)) | ((with_reducible refine st_R (w.heap.size + 1) _ ⟨r.gB, r.cB, W.heap.size, n, r.wr⟩ N n hq ?_ ?_ ?_ ?_); exact rfl; exact rfl; exact rfl; intro W3 hnew ho; replace hr := hr.only ho (by omega); replace hq := hnew; replace hb := ho.bel _ _ (by omega) hb; replace HN2 := hide (HN2.out.of_heap (ho.row _ (by (have := HBq.out; have := HSz.out; omega)))); replace HO2 := hide (own_far HO2.out (fun x hx => ho.row x (by (have := HBq.out; omega)))); replace HRf := hide (HRf.out.same (fun x hx => ho.row x (by (have := HRef.out.lt hx; omega))))))
  refine bodyPost_ret (results_cell_tmp_row Tryz.results27 _ _ (w.heap.size + 1) _ _ _ _ rfl hq Tryz.underlying31 rfl size_R) rfl ?_
  have hw9 := HBq.out
  have hw8 := HSz.out
  exact ⟨⟨⟨r.gB, r.cB, W.heap.size, n, r.wr⟩, v, rfl, ⟨l, own_lower HO2.out (by omega), HL.out⟩, ⟨HRf.out.bytes, ⟨_, HN2.out⟩, HRef.out.small, HRef.out.capB, ⟨Nat.le_refl _, (by show n ≤ maxLen; unfold maxLen; omega)⟩, HRef.out.few⟩, fun x hx => by (rcases hx with rfl | rfl; exact .inl rfl; exact .inr (by show w.heap.size ≤ W.heap.size; omega))⟩, hb⟩
end Go.Proofs.YtficoenanfnijaaGreatDoor
