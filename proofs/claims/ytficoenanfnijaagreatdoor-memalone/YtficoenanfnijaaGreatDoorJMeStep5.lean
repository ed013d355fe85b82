/-
  The law's step: pages set.
-/
import Derived.Test.YtficoenanfnijaaGreatDoorJMeStep2
import Derived.Deep.RegionHeldLaw
import Derived.Deep.CutRange
namespace Go.Proofs.YtficoenanfnijaaGreatDoor
open Go.RowKit
set_option linter.unusedVariables false
attribute [local go_sem ↓] Go.wp_at_zero Go.wp_at_succ

variable {ops : Array Oper} {rest : List Oper} {dst : Option Tmp} {ty : TypeId} {pos : String} {after : Array Edge} {ac : Act} {w : World} {Q : Exit → Act → World → Prop} {x y : Operand}
set_option maxRecDepth 100000 in
set_option maxHeartbeats 2000000 in
theorem step_setodd {B b P D N n : Nat} {m : Mem} {r : RP} (hI : StepIn w B b P D N n m r) (a : Act5) (hk : a.kind = 6) (hodd : (a.k.tmod 2 == 0) = false) (hv : a.v < 4294967296) (c z : Int) (F : Nat → Nat)
    (hP : PCall 14 #[.pointer (some ⟨b, 0, none⟩),  .int .i64 (a.v : Nat), .slice a.sa a.L a.sc] w B b P D m c F false) (hR : RCall 26 #[.agg (r.v N n),  .int .i64 (a.v : Nat), .slice a.sa a.L a.sc] w B N n m.at r z F) :
    Calls Tryz.prog 8 #[.pointer (some ⟨b, 0, none⟩), .agg (r.v N n), .agg a.cells] w (StepOut w B b P D N n m r false) := by
  have hkd := kind_eq a
  rw [hk] at hkd
  have HI := hide hI
  have HP := hide hP
  have HR := hide hR
  have HO0 : Hid (∀ x, w.heap.size ≤ x → ¬ m.owns b P D x) := hide (fun x hx h => by have := hI.ram.owned h; omega)
  have HN := hide (fun W h => num_any c W h)
  clear hI hP hR

  go_enter Tryz.func8, Tryz.ntmps8
  go_upto_region 22 with (first | ((with_reducible refine bx_R w.heap.size r N n ?_ ?_ ?_); exact rfl; exact rfl; intro W hr hb hz0) | ((with_reducible refine bx_A (w.heap.size + 1) a.cells ?_ ?_ ?_); exact hz0.out; exact rfl; intro W hA hb' hz'; replace hr := hr.bl (hz0.out ▸ hb'); replace hb := hb.trans (hb'.mono (by omega)); replace hz0 := hz') | ((with_reducible refine al_R (w.heap.size + 1 + 1) ?_ ?_); exact hz0.out; intro W0 hq hb' hz'; replace hr := hr.bl (hz0.out ▸ hb'); replace hA := hA.bl (hz0.out ▸ hb'); replace hb := hb.trans (hb'.mono (by omega)); replace hz0 := hz'; have HB0 := hide hb; have HQ0 := hide hq.lt) | ((with_reducible refine la_0 (w.heap.size + 1) a hA ?_ ?_); exact rfl) | ((with_reducible refine la_2 (w.heap.size + 1) a hA ?_ ?_); exact rfl) | ((with_reducible refine la_3 (w.heap.size + 1) a hA ?_ ?_); exact rfl) | ((with_reducible refine la_4 (w.heap.size + 1) a hA ?_ ?_); exact rfl) | ((with_reducible refine ld_R w.heap.size _ N n hr ?_ ?_); exact rfl) | (go_at_call 14; refine (HP.out _ hb).mono ?_; rintro e W1 ⟨rfl, m', hM, hF⟩; replace hr := hr.kept hM.kept (HO0.out _ (by omega)); replace hA := hA.kept hM.kept (HO0.out _ (by omega)); replace hq := hq.kept hM.kept (HO0.out _ (by omega)); have hk1 := (Kept.of (own := m.owns b P D) HB0.out HI.out.base).trans hM.kept; have hR1 := HI.out.ref.same (fun x hx => hk1.other x (HI.out.ref.lt hx) (fun h => HI.out.off x hx (.inl h))); have hbB := hk1.below; have hsz := hk1.size; have HM := hide hM; have HF := hide hF; have HK1 := hide hk1; have HR1 := hide hR1; clear hM hF hk1 hR1) | (go_at_call 26; refine (HR.out _ hbB hsz HR1.out).mono ?_; rintro e W2 ⟨⟨r', rfl, hRf, hg2⟩, hx5⟩; replace hr := hr.bl hx5; replace hA := hA.bl hx5; have HQ1 := hide hq.lt; replace hq := hq.bl hx5; have HRf := hide hRf; have HG2 := hide hg2; have HB2 := hide hx5; have HB21 := hide hx5.size; obtain ⟨N3, hN3⟩ : ∃ k, W2.heap.size = k := ⟨_, rfl⟩; have HN3 := hide hN3; have HNQ : Hid (w.heap.size + 1 + 1 < N3) := hide (hN3 ▸ hq.lt); have HLt : Hid (∀ x, r'.owns x → x < N3) := hide (fun x hx => hN3 ▸ hRf.lt hx); clear hRf hg2 hx5 hN3) | ((with_reducible refine al_R N3 ?_ ?_); exact HN3.out; intro W3 hs hb3 hz3; replace hb3 := (HN3.out ▸ hb3 : Below W2.heap.size W2 W3); replace hr := hr.bl hb3; replace hq := hq.bl hb3; replace HRf := hide (HRf.out.bl hb3); replace HB2 := hide (HB2.out.trans (hb3.mono HB2.out.size))) | ((with_reducible refine st_R N3 _ r' N n hs ?_ ?_ ?_ ?_); exact rfl; exact rfl; exact rfl; intro W4 hnew ho4; replace hq := hq.only ho4 (by (have := HNQ.out; omega)); replace HRf := hide (HRf.out.same (fun x hx => ho4.row x (by (have := HLt.out x hx; omega)))); replace hs := hnew; have HB4 : Hid (Below W1.heap.size W1 W4) := hide (ho4.bel _ _ (by (have := HN3.out; have := HB21.out; omega)) HB2.out)))
  have hBB : Below B w W4 := hbB.trans (HB4.out.mono (Nat.le_trans HI.out.base hsz))
  have HH : Hid (HandleAt W4.drew) := hide (handle_bl HI.out.handle HI.out.low hBB.drew)
  have s0 : W4.cell? ⟨N3, 0, none⟩ = some (.slice (some ⟨r'.gB, 0, none⟩) N r'.cB) := hs.cell 0
  have s1 : W4.cell? ⟨N3, 1, none⟩ = some (.slice (some ⟨r'.gD, 0, none⟩) n r'.cD) := hs.cell 1
  have s2 : W4.cell? ⟨N3, 2, none⟩ = some (.int .i64 r'.wr) := hs.cell 2
  have HS4 := hide hs
  have HQ4 := hide hq
  clear hs hq hr hA hbB hBB
  go_region_with (first | (go_at_call 22; refine (HN.out _ HH.out).mono ?_; rintro e W5 ⟨rfl, hx5⟩; have HX5 : Hid (Below W4.heap.size W4 W5) := hide ((Below.refl _ W4).drew.trans hx5); have hs5 := HS4.out.bl HX5.out; have hq5 := HQ4.out.bl HX5.out; have u0 : W5.cell? ⟨N3, 0, none⟩ = some (.slice (some ⟨r'.gB, 0, none⟩) N r'.cB) := hs5.cell 0; have u1 : W5.cell? ⟨N3, 1, none⟩ = some (.slice (some ⟨r'.gD, 0, none⟩) n r'.cD) := hs5.cell 1; have u2 : W5.cell? ⟨N3, 2, none⟩ = some (.int .i64 r'.wr) := hs5.cell 2; have q0 : W5.cell? ⟨w.heap.size + 1 + 1, 0, none⟩ = some (.slice none 0 0) := hq5.cell 0; have q1 : W5.cell? ⟨w.heap.size + 1 + 1, 1, none⟩ = some (.slice none 0 0) := hq5.cell 1; have q2 : W5.cell? ⟨w.heap.size + 1 + 1, 2, none⟩ = some (.int .i64 0) := hq5.cell 2; have p0 := hq5.thaw 0; have p1 := hq5.thaw 1; have p2 := hq5.thaw 2; have HQ5 := hide hq5; clear hx5 hs5 hq5))
  all_goals
    go_simp
    go_wp2
    have he := step_end HI.out HB0.out HM.out HF.out (HB4.out.trans (HX5.out.mono HB4.out.size)) (HRf.out.bl HX5.out) HG2.out (by omega) HQ0.out HQ5.out (c == z)
    refine bodyPost_ret (results_cell_tmp_row Tryz.results8 _ _ (w.heap.size + 1 + 1) _ _ _ _ rfl he.2 Tryz.underlying31 rfl size_R) rfl ?_
    exact he.1
/-- What copy of some bytes to a page of noughts does. -/
def CpOk (w w' : World) (O : Nat) (x : Value) : Prop := ∃ z, (Builtin.copy_ #[28, 28] 3 #[.slice (some ⟨O, 0, none⟩) 4096 4096, x]).run Tryz.prog w = .ok (.int .i64 z) w'
/-- The page that is set then. -/
def pageOf (l : List Nat) : List Nat := (List.range 4096).map fun j => (l[j]?).getD 0
theorem pageOf_len (l : List Nat) : (pageOf l).length = 4096 := by simp [pageOf]
theorem pageOf_at {l : List Nat} {j : Nat} (h : j < 4096) : (byteV (pageOf l))[j]? = some (.int .u8 ((l[j]?).getD 0 : Nat)) := by
  unfold pageOf byteV; rw [List.getElem?_map, List.getElem?_map, List.getElem?_range h]; rfl
theorem pageOf_small {l : List Nat} (hl : ∀ y, y ∈ l → y < 256) : ∀ y, y ∈ pageOf l → y < 256 := by
  intro y hy
  obtain ⟨j, _, rfl⟩ := List.mem_map.1 hy
  cases hx : l[j]? with
  | none => decide
  | some z => exact hl z (List.mem_of_getElem? hx)
theorem copy_page {w : World} {B : Nat} {a : Act5} {l : List Nat} (hA : ActAt w B a l) (hB : B ≤ w.heap.size) {O : Nat} (hO : HoldsAt w O 4096 5 (fun _ => .int .u8 0)) (hOB : B ≤ O) :
    ∃ w', CpOk w w' O (.slice a.sa a.L a.sc) ∧ HoldsAt w' O 4096 5 (fun j => .int .u8 ((l[j]?).getD 0 : Nat)) ∧ Only O w w' := by
  have hlen := hA.len
  rcases hA.src with h0 | ⟨sb, so, e1, e2, e3⟩
  · refine ⟨w, ⟨0, ?_⟩, ?_, ⟨rfl, fun _ _ => rfl, fun _ _ _ h => h⟩⟩
    · rw [h0]
      have := run_copy_none (P := Tryz.prog) w 28 28 3 5 (some ⟨O, 0, none⟩) a.sa 4096 4096 0 a.sc Tryz.underlying28 (by kernel_rfl) (by rfl)
      exact this
    · refine hO.congr (fun j _ => ?_)
      rw [List.getElem?_eq_none (by omega)]; rfl
  · rw [e1]
    have hc : (byteV (l.take 4096)).length = Nat.min a.L 4096 := by rw [byteV_len, List.length_take, hlen, Nat.min_comm]
    have hle : (byteV (l.take 4096)).length ≤ 4096 := by rw [hc]; exact Nat.min_le_right _ _
    have := run_copy_cells (P := Tryz.prog) w 28 28 3 5 O 0 4096 4096 ⟨sb, so, none⟩ a.L a.sc (byteV (l.take 4096)) Tryz.underlying28 (by kernel_rfl) hc
      (fun j v hj => by
        rw [Addr.add_lit]
        refine e3 j v ?_
        have hj4 : j < 4096 := by have := (List.getElem?_eq_some_iff.1 hj).1; omega
        rw [← hj, byteV, byteV, List.getElem?_map, List.getElem?_map, List.getElem?_take_of_lt hj4])
      (fun j hj => by rw [hO.cell (j := 0 + j) (by omega)]; rfl) (fun j hj => hO.thaw (0 + j)) (byteV_one _)
    refine ⟨_, ⟨_, this⟩, ?_, only_setCells O 0 _ w⟩
    refine (hO.puts (byteV (l.take 4096)) 0 (by omega)).congr (fun j hj => ?_)
    rw [if_pos (Nat.zero_le _), Nat.sub_zero, byteV, List.getElem?_map, List.getElem?_take_of_lt hj]
    cases l[j]? <;> rfl
set_option maxRecDepth 100000 in
set_option maxHeartbeats 2000000 in
theorem step_seteven {B b P D N n : Nat} {m : Mem} {r : RP} (hI : StepIn w B b P D N n m r) (a : Act5) (l : List Nat) (hAt : ActAt w B a l) (hk : a.kind = 6) (hev : (a.k.tmod 2 == 0) = true) (hv : a.v < 4294967296) (c z : Int) (F : Nat → Nat)
    (hP : ∀ W O, Below w.heap.size w W → HoldsAt W O 4096 5 (fun j => .int .u8 ((l[j]?).getD 0 : Nat)) → w.heap.size ≤ O → Calls Tryz.prog 14 #[.pointer (some ⟨b, 0, none⟩), .int .i64 (a.v : Nat), .slice (some ⟨O, 0, none⟩) 4096 4096] W fun e W' => e = .returned (errM c) ∧ ∃ m', MOut W W' B b P D m m' false ∧ m'.at = F)
    (hR : ∀ W O, Below B w W → w.heap.size ≤ W.heap.size → RefAt W N n m.at r → HoldsAt W O 4096 5 (fun j => .int .u8 ((l[j]?).getD 0 : Nat)) → Calls Tryz.prog 26 #[.agg (r.v N n), .int .i64 (a.v : Nat), .slice (some ⟨O, 0, none⟩) 4096 4096] W fun e W' => (∃ r' : RP, e = .returned (.tuple #[.agg (r'.v N n), .int .i64 z]) ∧ RefAt W' N n F r' ∧ ∀ x, r'.owns x → r.owns x ∨ W.heap.size ≤ x) ∧ Below W.heap.size W W') :
    Calls Tryz.prog 8 #[.pointer (some ⟨b, 0, none⟩), .agg (r.v N n), .agg a.cells] w (StepOut w B b P D N n m r false) := by
  have hkd := kind_eq a
  rw [hk] at hkd
  have HI := hide hI
  have HP := hide hP
  have HR := hide hR
  have HAt := hide hAt
  have HO0 : Hid (∀ x, w.heap.size ≤ x → ¬ m.owns b P D x) := hide (fun x hx h => by have := hI.ram.owned h; omega)
  have HN := hide (fun W h => num_any c W h)
  have hmk : ∀ w : World, (Instr.makeSlice 28 (.int .i64 4096) (.int .i64 4096)).run Tryz.prog w = .ok (.slice (some ⟨w.heap.size, 0, none⟩) 4096 4096) (w.alloc newPage) :=
    run_make_row' (P := Tryz.prog) 28 5 (.int .u8 0) 1 Tryz.underlying28 (by kernel_rfl) rfl .i64 .i64 4096 (by omega) (by omega)
  have HNew : Hid (∀ w : World, HoldsAt (w.alloc newPage) w.heap.size 4096 5 (fun _ => .int .u8 0)) := hide (fun w => HoldsAt.made (RowAt.new w _ _ _ rfl))
  clear hI hP hR hAt
  generalize newPage = OP at *
  go_enter Tryz.func8, Tryz.ntmps8
  go_upto_region 19 with (first | ((with_reducible refine bx_R w.heap.size r N n ?_ ?_ ?_); exact rfl; exact rfl; intro W hr hb hz0) | ((with_reducible refine bx_A (w.heap.size + 1) a.cells ?_ ?_ ?_); exact hz0.out; exact rfl; intro W hA hb' hz'; replace hr := hr.bl (hz0.out ▸ hb'); replace hb := hb.trans (hb'.mono (by omega)); replace hz0 := hz') | ((with_reducible refine al_R (w.heap.size + 1 + 1) ?_ ?_); exact hz0.out; intro W0 hq hb' hz'; replace hr := hr.bl (hz0.out ▸ hb'); replace hA := hA.bl (hz0.out ▸ hb'); replace hb := hb.trans (hb'.mono (by omega)); replace hz0 := hz'; have HB0 := hide hb; have HQ0 := hide hq.lt) | ((with_reducible refine la_0 (w.heap.size + 1) a hA ?_ ?_); exact rfl) | ((with_reducible refine la_2 (w.heap.size + 1) a hA ?_ ?_); exact rfl) | ((with_reducible refine la_4 (w.heap.size + 1) a hA ?_ ?_); exact rfl))
  obtain ⟨X, hX⟩ : ∃ X, W0.alloc OP = X := ⟨_, rfl⟩
  obtain ⟨O, hO⟩ : ∃ O, W0.heap.size = O := ⟨_, rfl⟩
  have hbx : Below W0.heap.size W0 X := hX ▸ below_one W0 OP
  have hOr : HoldsAt X O 4096 5 (fun _ => .int .u8 0) := by have := HNew.out W0; rw [hX, hO] at this; exact this
  have hOw : w.heap.size ≤ O := hO ▸ hb.size
  have hQO : w.heap.size + 1 + 1 < O := hO ▸ HQ0.out
  replace hr := hr.bl hbx
  replace hA := hA.bl hbx
  replace hq := hq.bl hbx
  replace hb := below_bl rfl hb hbx
  rw [hX, hO]
  clear hX hbx hmk HNew
  obtain ⟨Y, hcp, hHY, hOY⟩ := copy_page (HAt.out.bl (hb.mono HI.out.base)) (Nat.le_trans HI.out.base hb.size) hOr (Nat.le_trans HI.out.base hOw)
  have hbY := hOY.bel _ _ hOw hb
  have hrY := hr.only hOY (by omega)
  have hAY := hA.only hOY (by omega)
  have hqY := hq.only hOY (by omega)
  have hsY := hOY.size
  go_wp2_with (first | ((with_reducible refine la_4 (w.heap.size + 1) a hA ?_ ?_); exact rfl))
  obtain ⟨zc, hcp⟩ := hcp
  rw [hcp]
  go_simp
  have hQY : w.heap.size + 1 + 1 < Y.heap.size := hqY.lt
  have HOc := hide hHY
  replace hr := hrY
  replace hA := hAY
  replace hq := hqY
  replace hb := hbY
  replace HB0 := hide hbY
  replace HQ0 := hide hQY
  clear hcp hHY hOY hrY hAY hqY hbY hsY hOr
  go_upto_region 22 with (first | ((with_reducible refine la_3 (w.heap.size + 1) a hA ?_ ?_); exact rfl) | ((with_reducible refine ld_R w.heap.size _ N n hr ?_ ?_); exact rfl) | (go_at_call 14; refine (HP.out _ O hb HOc.out hOw).mono ?_; rintro e W1 ⟨rfl, m', hM, hF⟩; replace hr := hr.kept hM.kept (HO0.out _ (by omega)); replace hA := hA.kept hM.kept (HO0.out _ (by omega)); replace hq := hq.kept hM.kept (HO0.out _ (by omega)); have hk1 := (Kept.of (own := m.owns b P D) HB0.out HI.out.base).trans hM.kept; have hR1 := HI.out.ref.same (fun x hx => hk1.other x (HI.out.ref.lt hx) (fun h => HI.out.off x hx (.inl h))); have hbB := hk1.below; have hsz := hk1.size; have HOk := hide (hM.kept.holds HOc.out (HO0.out _ (by omega))); have HM := hide hM; have HF := hide hF; have HK1 := hide hk1; have HR1 := hide hR1; clear hM hF hk1 hR1) | (go_at_call 26; refine (HR.out _ O hbB hsz HR1.out HOk.out).mono ?_; rintro e W2 ⟨⟨r', rfl, hRf, hg2⟩, hx5⟩; replace hr := hr.bl hx5; replace hA := hA.bl hx5; have HQ1 := hide hq.lt; replace hq := hq.bl hx5; have HRf := hide hRf; have HG2 := hide hg2; have HB2 := hide hx5; have HB21 := hide hx5.size; obtain ⟨N3, hN3⟩ : ∃ k, W2.heap.size = k := ⟨_, rfl⟩; have HN3 := hide hN3; have HNQ : Hid (w.heap.size + 1 + 1 < N3) := hide (hN3 ▸ hq.lt); have HLt : Hid (∀ x, r'.owns x → x < N3) := hide (fun x hx => hN3 ▸ hRf.lt hx); clear hRf hg2 hx5 hN3) | ((with_reducible refine al_R N3 ?_ ?_); exact HN3.out; intro W3 hs hb3 hz3; replace hb3 := (HN3.out ▸ hb3 : Below W2.heap.size W2 W3); replace hr := hr.bl hb3; replace hq := hq.bl hb3; replace HRf := hide (HRf.out.bl hb3); replace HB2 := hide (HB2.out.trans (hb3.mono HB2.out.size))) | ((with_reducible refine st_R N3 _ r' N n hs ?_ ?_ ?_ ?_); exact rfl; exact rfl; exact rfl; intro W4 hnew ho4; replace hq := hq.only ho4 (by (have := HNQ.out; omega)); replace HRf := hide (HRf.out.same (fun x hx => ho4.row x (by (have := HLt.out x hx; omega)))); replace hs := hnew; have HB4 : Hid (Below W1.heap.size W1 W4) := hide (ho4.bel _ _ (by (have := HN3.out; have := HB21.out; omega)) HB2.out)))
  have hBB : Below B w W4 := hbB.trans (HB4.out.mono (Nat.le_trans HI.out.base hsz))
  have HH : Hid (HandleAt W4.drew) := hide (handle_bl HI.out.handle HI.out.low hBB.drew)
  have s0 : W4.cell? ⟨N3, 0, none⟩ = some (.slice (some ⟨r'.gB, 0, none⟩) N r'.cB) := hs.cell 0
  have s1 : W4.cell? ⟨N3, 1, none⟩ = some (.slice (some ⟨r'.gD, 0, none⟩) n r'.cD) := hs.cell 1
  have s2 : W4.cell? ⟨N3, 2, none⟩ = some (.int .i64 r'.wr) := hs.cell 2
  have HS4 := hide hs
  have HQ4 := hide hq
  clear hs hq hr hA hbB hBB
  go_region_with (first | (go_at_call 22; refine (HN.out _ HH.out).mono ?_; rintro e W5 ⟨rfl, hx5⟩; have HX5 : Hid (Below W4.heap.size W4 W5) := hide ((Below.refl _ W4).drew.trans hx5); have hs5 := HS4.out.bl HX5.out; have hq5 := HQ4.out.bl HX5.out; have u0 : W5.cell? ⟨N3, 0, none⟩ = some (.slice (some ⟨r'.gB, 0, none⟩) N r'.cB) := hs5.cell 0; have u1 : W5.cell? ⟨N3, 1, none⟩ = some (.slice (some ⟨r'.gD, 0, none⟩) n r'.cD) := hs5.cell 1; have u2 : W5.cell? ⟨N3, 2, none⟩ = some (.int .i64 r'.wr) := hs5.cell 2; have q0 : W5.cell? ⟨w.heap.size + 1 + 1, 0, none⟩ = some (.slice none 0 0) := hq5.cell 0; have q1 : W5.cell? ⟨w.heap.size + 1 + 1, 1, none⟩ = some (.slice none 0 0) := hq5.cell 1; have q2 : W5.cell? ⟨w.heap.size + 1 + 1, 2, none⟩ = some (.int .i64 0) := hq5.cell 2; have p0 := hq5.thaw 0; have p1 := hq5.thaw 1; have p2 := hq5.thaw 2; have HQ5 := hide hq5; clear hx5 hs5 hq5))
  all_goals
    go_simp
    go_wp2
    have he := step_end HI.out HB0.out HM.out HF.out (HB4.out.trans (HX5.out.mono HB4.out.size)) (HRf.out.bl HX5.out) HG2.out (by omega) HQ0.out HQ5.out (c == z)
    refine bodyPost_ret (results_cell_tmp_row Tryz.results8 _ _ (w.heap.size + 1 + 1) _ _ _ _ rfl he.2 Tryz.underlying31 rfl size_R) rfl ?_
    exact he.1
end Go.Proofs.YtficoenanfnijaaGreatDoor
