/-
  The law's step: reads, harvests.
-/
import Derived.Test.YtficoenanfnijaaGreatDoorJMeStep2
import Derived.Deep.RegionHeldLaw
import Derived.Deep.CutRange
namespace Go.Proofs.YtficoenanfnijaaGreatDoor
open Go.RowKit
set_option linter.unusedVariables false
attribute [local go_sem ↓] Go.wp_at_zero Go.wp_at_succ

variable {ops : Array Oper} {rest : List Oper} {dst : Option Tmp} {ty : TypeId} {pos : String} {after : Array Edge} {ac : Act} {w : World} {Q : Exit → Act → World → Prop} {x y : Operand}
/-- A list of numbers as it lies. -/
def IntRow (w : World) (v : Value) (l : List Nat) : Prop := ∃ sa c, v = .slice sa l.length c ∧ l.length ≤ c ∧ c ≤ maxLen ∧ (l.length = 0 ∨ ∃ g, sa = some ⟨g, 0, none⟩ ∧ ∀ j, j < l.length → w.cell? ⟨g, j, none⟩ = some (.int .i64 ((l[j]?).getD 0 : Nat)))
theorem IntRow.of {W : World} {B : Nat} {v : Value} {l : List Nat} (h : W.ownsRow B 3 1 v l.length (intV l)) : IntRow W v l := by
  by_cases h0 : l.length = 0
  · obtain ⟨_, ⟨rfl, _⟩ | ⟨g, cap, cur, rfl, _, _, h4, h5, _⟩⟩ := h
    · exact ⟨none, 0, by rw [h0], by omega, by unfold maxLen; omega, .inl h0⟩
    · exact ⟨_, cap, rfl, h4, h5, .inl h0⟩
  · obtain ⟨g, c, rfl, hH, _, h4, h5⟩ := holds_of_own (f := fun j => .int .i64 ((l[j]?).getD 0 : Nat)) h (by omega) (fun j hj => by unfold intV; rw [List.getElem?_map, List.getElem?_eq_getElem hj]; rfl)
    exact ⟨_, c, rfl, h4, h5, .inr ⟨g, rfl, fun j hj => hH.cell hj⟩⟩
theorem IntRow.bl {W W' : World} {v : Value} {l : List Nat} (h : IntRow W v l) (hb : Below W.heap.size W W') : IntRow W' v l := by
  obtain ⟨sa, c, h1, h2, h3, h4⟩ := h
  exact ⟨sa, c, h1, h2, h3, h4.imp id (fun ⟨g, e1, e2⟩ => ⟨g, e1, fun j hj => cell_bl hb (e2 j hj)⟩)⟩
theorem IntRow.only {W W' : World} {v : Value} {l : List Nat} {b : Nat} (h : IntRow W v l) (ho : Only b W W') (hb : b < W.heap.size → False) : IntRow W' v l := by
  obtain ⟨sa, c, h1, h2, h3, h4⟩ := h
  exact ⟨sa, c, h1, h2, h3, h4.imp id (fun ⟨g, e1, e2⟩ => ⟨g, e1, fun j hj => (cell_of_heap (ho.row g (fun e => hb (e ▸ lt_of_cell (e2 j hj)))) j).trans (e2 j hj)⟩)⟩
set_option maxHeartbeats 1000000 in
theorem ints_any (v1 v2 : Value) (l1 l2 : List Nat) (w : World) (h1 : IntRow w v1 l1) (h2 : IntRow w v2 l2) (b1 : l1.length ≤ 16384) (b2 : l2.length ≤ 16384) :
    Calls Tryz.prog 17 #[v1, v2] w fun e w' => (∃ bb, e = .returned (.bool bb)) ∧ Below w.heap.size w w' := by
  obtain ⟨s1, c1, rfl, d1, d2, e1⟩ := h1
  obtain ⟨s2, c2, rfl, d3, d4, e2⟩ := h2
  unfold maxLen at d2 d4
  by_cases hne : l1.length = l2.length
  · rw [← hne] at d3 e2 ⊢
    have hz : ((l1.length : Int) != (l1.length : Int)) = false := by simp
    by_cases h0 : l1.length = 0
    · rw [h0]
      go_enter Tryz.func17, Tryz.ntmps17
      go_wp2
      go_loopw [5] (fun kv wr => Below w.heap.size w wr ∧ kv = .int .i64 0) (fun _ _ => 0)
      case atStart => exact ⟨Below.refl _ _, rfl⟩
      case round =>
        obtain ⟨hB, rfl⟩ := hrel
        go_wp2
        go_ret
        exact ⟨⟨_, rfl⟩, hB⟩
    · obtain ⟨g1, rfl, k1⟩ := e1.resolve_left h0
      obtain ⟨g2, rfl, k2⟩ := e2.resolve_left h0
      generalize l1.length = M at *
      have K1 := hide k1
      have K2 := hide k2
      clear k1 k2 e1 e2 hne
      go_enter Tryz.func17, Tryz.ntmps17
      go_wp2
      go_loopw [5] (fun kv wr => Below w.heap.size w wr ∧ ∃ k : Nat, k ≤ M ∧ kv = .int .i64 (k : Nat)) (fun kv _ => M - (intOf kv).toNat)
      case atStart => exact ⟨Below.refl _ _, 0, Nat.zero_le _, rfl⟩
      case round =>
        obtain ⟨hB, k, hk, rfl⟩ := hrel
        by_cases hlt : k < M
        · have a1 := cell_bl hB (K1.out k hlt)
          have a2 := cell_bl hB (K2.out k hlt)
          generalize (l1[k]?).getD 0 = y1 at a1
          generalize (l2[k]?).getD 0 = y2 at a2
          have HB := hide hB
          clear hB
          cases hyy : (((y1 : Nat) : Int) != ((y2 : Nat) : Int)) with
          | false =>
            go_wp2
            go_region
            all_goals
              go_simp
              go_wp2
              go_roundw
              case rel => exact ⟨HB.out.drew, k + 1, by omega, by go_num⟩
              case measure => simp only [intOf]; omega
          | true =>
            go_wp2
            go_region
            all_goals
              go_simp
              go_wp2
              go_ret
              exact ⟨⟨_, rfl⟩, HB.out.drew⟩
        · obtain rfl : k = M := by omega
          go_wp2
          go_ret
          exact ⟨⟨_, rfl⟩, hB⟩
  · have hz : ((l1.length : Int) != (l2.length : Int)) = true := by simp; omega
    clear e1 e2
    go_enter Tryz.func17, Tryz.ntmps17
    go_wp2
    go_ret
    exact ⟨⟨_, rfl⟩, Below.refl _ _⟩
theorem introw_only {W2 W3 W4 : World} {v : Value} {l : List Nat} {b : Nat} (h : IntRow W2 v l) (hb : Below W2.heap.size W2 W3) (ho : Only b W3 W4) (hl : W2.heap.size ≤ b) : IntRow W4 v l := by
  obtain ⟨sa, c, h1, h2, h3, h4⟩ := h
  exact ⟨sa, c, h1, h2, h3, h4.imp id (fun ⟨g, e1, e2⟩ => ⟨g, e1, fun j hj => (cell_of_heap (ho.row g (by have := lt_of_cell (e2 j hj); omega)) j).trans (cell_bl hb (e2 j hj))⟩)⟩
set_option maxRecDepth 100000 in
set_option maxHeartbeats 2000000 in
theorem step_harvest {B b P D N n : Nat} {m : Mem} {r : RP} (hI : StepIn w B b P D N n m r) (a : Act5) (hk : a.kind = 7)
    (hP : ∀ W, Below w.heap.size w W → Calls Tryz.prog 9 #[.pointer (some ⟨b, 0, none⟩)] W fun e W' => (∃ v l, e = .returned v ∧ IntRow W' v l ∧ l.length ≤ 16384) ∧ ∃ m', MOut W W' B b P D m m' true ∧ m'.at = m.at) :
    Calls Tryz.prog 8 #[.pointer (some ⟨b, 0, none⟩), .agg (r.v N n), .agg a.cells] w (StepOut w B b P D N n m r true) := by
  have hkd := kind_eq a
  rw [hk] at hkd
  have HI := hide hI
  have HP := hide hP
  have HO0 : Hid (∀ x, w.heap.size ≤ x → ¬ m.owns b P D x) := hide (fun x hx h => by have := hI.ram.owned h; omega)
  clear hI hP
  go_enter Tryz.func8, Tryz.ntmps8
  go_upto_region 26 with (first | ((with_reducible refine bx_R w.heap.size r N n ?_ ?_ ?_); exact rfl; exact rfl; intro W hr hb hz0) | ((with_reducible refine bx_A (w.heap.size + 1) a.cells ?_ ?_ ?_); exact hz0.out; exact rfl; intro W hA hb' hz'; replace hr := hr.bl (hz0.out ▸ hb'); replace hb := hb.trans (hb'.mono (by omega)); replace hz0 := hz') | ((with_reducible refine al_R (w.heap.size + 1 + 1) ?_ ?_); exact hz0.out; intro W0 hq hb' hz'; replace hr := hr.bl (hz0.out ▸ hb'); replace hA := hA.bl (hz0.out ▸ hb'); replace hb := hb.trans (hb'.mono (by omega)); replace hz0 := hz'; have HB0 := hide hb; have HQ0 := hide hq.lt) | ((with_reducible refine la_0 (w.heap.size + 1) a hA ?_ ?_); exact rfl) | ((with_reducible refine ld_R w.heap.size _ N n hr ?_ ?_); exact rfl) | (go_at_call 9; refine (HP.out _ hb).mono ?_; rintro e W1 ⟨⟨v1, l1, rfl, hI1, hl1⟩, m', hM, hF⟩; replace hr := hr.kept hM.kept (HO0.out _ (by omega)); replace hA := hA.kept hM.kept (HO0.out _ (by omega)); replace hq := hq.kept hM.kept (HO0.out _ (by omega)); have hk1 := (Kept.of (own := m.owns b P D) HB0.out HI.out.base).trans hM.kept; have hR1 := HI.out.ref.same (fun x hx => hk1.other x (HI.out.ref.lt hx) (fun h => HI.out.off x hx (.inl h))); have hbB := hk1.below; have hsz := hk1.size; have HM := hide hM; have HF := hide hF; have HK1 := hide hk1; have HR1 := hide hR1; have HI1 := hide hI1; have HL1 := hide hl1; clear hM hF hk1 hR1 hI1 hl1) | (go_at_call 27; refine (rharvest_any HR1.out).mono ?_; rintro e W2 ⟨⟨r', v2, rfl, ⟨l2, hO2, hl2⟩, hRf, hg2⟩, hx5⟩; replace hr := hr.bl hx5; replace hA := hA.bl hx5; have HQ1 := hide hq.lt; replace hq := hq.bl hx5; have HRf := hide hRf; have HG2 : Hid (∀ x, r'.owns x → r.owns x ∨ W1.heap.size ≤ x) := hide (fun x hx => (hg2 x hx).imp (fun e => .inl e) id); have HB2 := hide hx5; have HB21 := hide hx5.size; replace HI1 := hide (HI1.out.bl hx5); have HI2 := hide (IntRow.of hO2); have HL2 := hide hl2; obtain ⟨N3, hN3⟩ : ∃ k, W2.heap.size = k := ⟨_, rfl⟩; have HN3 := hide hN3; have HNQ : Hid (w.heap.size + 1 + 1 < N3) := hide (hN3 ▸ hq.lt); have HLt : Hid (∀ x, r'.owns x → x < N3) := hide (fun x hx => hN3 ▸ hRf.lt hx); clear hRf hg2 hx5 hN3 hO2 hl2) | ((with_reducible refine al_R N3 ?_ ?_); exact HN3.out; intro W3 hs hb3 hz3; replace hb3 := (HN3.out ▸ hb3 : Below W2.heap.size W2 W3); replace hr := hr.bl hb3; replace hq := hq.bl hb3; replace HRf := hide (HRf.out.bl hb3); replace HB2 := hide (HB2.out.trans (hb3.mono HB2.out.size)); have HJ1 := HI1; have HJ2 := HI2; replace HI1 := hide (HI1.out.bl hb3); replace HI2 := hide (HI2.out.bl hb3)) | ((with_reducible refine st_R N3 _ r' N n hs ?_ ?_ ?_ ?_); exact rfl; exact rfl; exact rfl; intro W4 hnew ho4; replace hq := hq.only ho4 (by (have := HNQ.out; omega)); replace HRf := hide (HRf.out.same (fun x hx => ho4.row x (by (have := HLt.out x hx; omega)))); replace hs := hnew; have HB4 : Hid (Below W1.heap.size W1 W4) := hide (ho4.bel _ _ (by (have := HN3.out; have := HB21.out; omega)) HB2.out); replace HI1 := hide (introw_only HJ1.out hb3 ho4 (by (have := HN3.out; omega))); replace HI2 := hide (introw_only HJ2.out hb3 ho4 (by (have := HN3.out; omega)))))
  have s0 : W4.cell? ⟨N3, 0, none⟩ = some (.slice (some ⟨r'.gB, 0, none⟩) N r'.cB) := hs.cell 0
  have s1 : W4.cell? ⟨N3, 1, none⟩ = some (.slice (some ⟨r'.gD, 0, none⟩) n r'.cD) := hs.cell 1
  have s2 : W4.cell? ⟨N3, 2, none⟩ = some (.int .i64 r'.wr) := hs.cell 2
  have HS4 := hide hs
  have HQ4 := hide hq
  have HN := hide (ints_any v1 v2 l1 l2 W4.drew (HI1.out.bl (Below.refl _ W4).drew) (HI2.out.bl (Below.refl _ W4).drew) HL1.out HL2.out)
  clear hs hq hr hA hbB
  go_region_with (first | (go_at_call 17; refine HN.out.mono ?_; rintro e W5 ⟨⟨bb, rfl⟩, hx5⟩; have HX5 : Hid (Below W4.heap.size W4 W5) := hide ((Below.refl _ W4).drew.trans hx5); have hs5 := HS4.out.bl HX5.out; have hq5 := HQ4.out.bl HX5.out; have u0 : W5.cell? ⟨N3, 0, none⟩ = some (.slice (some ⟨r'.gB, 0, none⟩) N r'.cB) := hs5.cell 0; have u1 : W5.cell? ⟨N3, 1, none⟩ = some (.slice (some ⟨r'.gD, 0, none⟩) n r'.cD) := hs5.cell 1; have u2 : W5.cell? ⟨N3, 2, none⟩ = some (.int .i64 r'.wr) := hs5.cell 2; have q0 : W5.cell? ⟨w.heap.size + 1 + 1, 0, none⟩ = some (.slice none 0 0) := hq5.cell 0; have q1 : W5.cell? ⟨w.heap.size + 1 + 1, 1, none⟩ = some (.slice none 0 0) := hq5.cell 1; have q2 : W5.cell? ⟨w.heap.size + 1 + 1, 2, none⟩ = some (.int .i64 0) := hq5.cell 2; have p0 := hq5.thaw 0; have p1 := hq5.thaw 1; have p2 := hq5.thaw 2; have HQ5 := hide hq5; clear hx5 hs5 hq5))
  all_goals
    go_simp
    go_wp2
    have he := step_end HI.out HB0.out HM.out HF.out (HB4.out.trans (HX5.out.mono HB4.out.size)) (HRf.out.bl HX5.out) HG2.out (by omega) HQ0.out HQ5.out bb
    refine bodyPost_ret (results_cell_tmp_row Tryz.results8 _ _ (w.heap.size + 1 + 1) _ _ _ _ rfl he.2 Tryz.underlying31 rfl size_R) rfl ?_
    exact he.1
/-- A slice that reads as this text, whatever is made behind. -/
def IsText (s : ByteArray) (w : World) (v : Value) : Prop := ∀ w2, Below w.heap.size w w2 → (convert 28 9 v).run Tryz.prog w2 = .ok (.string s) w2
set_option maxRecDepth 100000 in
set_option maxHeartbeats 2000000 in
theorem step_read {B b P D N n : Nat} {m : Mem} {r : RP} (hI : StepIn w B b P D N n m r) (a : Act5) (hk : a.kind = 5) (c : Int) (st : ByteArray)
    (hP : PLook 19 #[.pointer (some ⟨b, 0, none⟩), .int .u32 (a.at_ : Nat), .int .i64 a.k] w B b P D m c (IsText st)) (hR : RLook 25 #[.agg (r.v N n), .int .u32 (a.at_ : Nat), .int .i64 a.k] w B N n m.at r (IsText st)) :
    Calls Tryz.prog 8 #[.pointer (some ⟨b, 0, none⟩), .agg (r.v N n), .agg a.cells] w (StepOut w B b P D N n m r false) := by
  have hkd := kind_eq a
  rw [hk] at hkd
  have HI := hide hI
  have HP := hide hP
  have HR := hide hR
  have HO0 : Hid (∀ x, w.heap.size ≤ x → ¬ m.owns b P D x) := hide (fun x hx h => by have := hI.ram.owned h; omega)
  have HN := hide (fun W h => num_any c W h)
  clear hI hP hR
  go_enter Tryz.func8, Tryz.ntmps8
  go_upto_region 14 with (first | ((with_reducible refine bx_R w.heap.size r N n ?_ ?_ ?_); exact rfl; exact rfl; intro W hr hb hz0) | ((with_reducible refine bx_A (w.heap.size + 1) a.cells ?_ ?_ ?_); exact hz0.out; exact rfl; intro W hA hb' hz'; replace hr := hr.bl (hz0.out ▸ hb'); replace hb := hb.trans (hb'.mono (by omega)); replace hz0 := hz') | ((with_reducible refine al_R (w.heap.size + 1 + 1) ?_ ?_); exact hz0.out; intro W0 hq hb' hz'; replace hr := hr.bl (hz0.out ▸ hb'); replace hA := hA.bl (hz0.out ▸ hb'); replace hb := hb.trans (hb'.mono (by omega)); replace hz0 := hz'; have HB0 := hide hb; have HQ0 := hide hq.lt) | ((with_reducible refine la_0 (w.heap.size + 1) a hA ?_ ?_); exact rfl) | ((with_reducible refine la_1 (w.heap.size + 1) a hA ?_ ?_); exact rfl) | ((with_reducible refine la_2 (w.heap.size + 1) a hA ?_ ?_); exact rfl) | ((with_reducible refine ld_R w.heap.size _ N n hr ?_ ?_); exact rfl) | (go_at_call 19; refine (HP.out _ hb).mono ?_; rintro e W1 ⟨⟨v1, rfl, hT1⟩, m', hM, hF⟩; replace hr := hr.kept hM.kept (HO0.out _ (by omega)); replace hA := hA.kept hM.kept (HO0.out _ (by omega)); replace hq := hq.kept hM.kept (HO0.out _ (by omega)); have hk1 := (Kept.of (own := m.owns b P D) HB0.out HI.out.base).trans hM.kept; have hR1 := HI.out.ref.same (fun x hx => hk1.other x (HI.out.ref.lt hx) (fun h => HI.out.off x hx (.inl h))); have hbB := hk1.below; have hsz := hk1.size; have HM := hide hM; have HF := hide hF; have HK1 := hide hk1; have HR1 := hide hR1; clear hM hF hk1 hR1; have HT1 := hide hT1; clear hT1) | (go_at_call 25; refine (HR.out _ hbB hsz HR1.out).mono ?_; rintro e W2 ⟨⟨v2, y, rfl, hT2⟩, hx5⟩; replace hr := hr.bl hx5; replace hA := hA.bl hx5; replace hq := hq.bl hx5; have HRf := hide (HR1.out.bl hx5); have HB2 := hide hx5; clear hx5; have HT2 := hide hT2; clear hT2))
  have hBB : Below B w W2 := hbB.trans (HB2.out.mono (Nat.le_trans HI.out.base hsz))
  have HH : Hid (HandleAt W2.drew) := hide (handle_bl HI.out.handle HI.out.low hBB.drew)
  have HG2 : Hid (∀ x, r.owns x → r.owns x ∨ W1.heap.size ≤ x) := hide (fun x hx => .inl hx)
  have s0 : W2.cell? ⟨w.heap.size, 0, none⟩ = some (.slice (some ⟨r.gB, 0, none⟩) N r.cB) := hr.cell 0
  have s1 : W2.cell? ⟨w.heap.size, 1, none⟩ = some (.slice (some ⟨r.gD, 0, none⟩) n r.cD) := hr.cell 1
  have s2 : W2.cell? ⟨w.heap.size, 2, none⟩ = some (.int .i64 r.wr) := hr.cell 2
  have q0 : W2.cell? ⟨w.heap.size + 1 + 1, 0, none⟩ = some (.slice none 0 0) := hq.cell 0
  have q1 : W2.cell? ⟨w.heap.size + 1 + 1, 1, none⟩ = some (.slice none 0 0) := hq.cell 1
  have q2 : W2.cell? ⟨w.heap.size + 1 + 1, 2, none⟩ = some (.int .i64 0) := hq.cell 2
  have p0 := hq.thaw 0
  have p1 := hq.thaw 1
  have p2 := hq.thaw 2
  have HS4 := hide hr
  have HQ4 := hide hq
  clear hq hr hA hbB hBB
  have g1 := HT1.out W2.drew (HB2.out.drew)
  have g2 := HT2.out W2.drew (Below.refl _ W2).drew
  go_region_with (first | (go_at_call 22; refine (HN.out _ HH.out).mono ?_; rintro e W5 ⟨rfl, hx5⟩; have HX5 : Hid (Below W2.heap.size W2 W5) := hide ((Below.refl _ W2).drew.trans hx5); have hs5 := HS4.out.bl HX5.out; have hq5 := HQ4.out.bl HX5.out; have u0 : W5.cell? ⟨w.heap.size, 0, none⟩ = some (.slice (some ⟨r.gB, 0, none⟩) N r.cB) := hs5.cell 0; have u1 : W5.cell? ⟨w.heap.size, 1, none⟩ = some (.slice (some ⟨r.gD, 0, none⟩) n r.cD) := hs5.cell 1; have u2 : W5.cell? ⟨w.heap.size, 2, none⟩ = some (.int .i64 r.wr) := hs5.cell 2; have a0 : W5.cell? ⟨w.heap.size + 1 + 1, 0, none⟩ = some (.slice none 0 0) := hq5.cell 0; have a1 : W5.cell? ⟨w.heap.size + 1 + 1, 1, none⟩ = some (.slice none 0 0) := hq5.cell 1; have a2 : W5.cell? ⟨w.heap.size + 1 + 1, 2, none⟩ = some (.int .i64 0) := hq5.cell 2; have b0 := hq5.thaw 0; have b1 := hq5.thaw 1; have b2 := hq5.thaw 2; have HQ5 := hide hq5; clear hx5 hs5 hq5))
  all_goals
    go_simp
    go_wp2
    have he := step_end HI.out HB0.out HM.out HF.out (HB2.out.trans (HX5.out.mono HB2.out.size)) (HRf.out.bl HX5.out) HG2.out (by omega) HQ0.out HQ5.out (c == y)
    refine bodyPost_ret (results_cell_tmp_row Tryz.results8 _ _ (w.heap.size + 1 + 1) _ _ _ _ rfl he.2 Tryz.underlying31 rfl size_R) rfl ?_
    exact he.1
end Go.Proofs.YtficoenanfnijaaGreatDoor
