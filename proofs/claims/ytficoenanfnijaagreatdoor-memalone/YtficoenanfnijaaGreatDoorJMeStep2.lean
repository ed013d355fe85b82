/-
  The law's step: stores, loads, reads.
-/
import Derived.Test.YtficoenanfnijaaGreatDoorJMeStep1
import Derived.Deep.RegionHeldLaw
import Derived.Deep.CutRange
namespace Go.Proofs.YtficoenanfnijaaGreatDoor
open Go.RowKit
set_option linter.unusedVariables false
attribute [local go_sem ↓] Go.wp_at_zero Go.wp_at_succ

variable {ops : Array Oper} {rest : List Oper} {dst : Option Tmp} {ty : TypeId} {pos : String} {after : Array Edge} {ac : Act} {w : World} {Q : Exit → Act → World → Prop} {x y : Operand}
/-- A call of the program that only looks, and answers some value of a kind and an error's number. -/
def PLook (f : Nat) (args : Array Value) (w : World) (B b P D : Nat) (m : Mem) (c : Int) (V : World → Value → Prop) : Prop :=
  ∀ W, Below w.heap.size w W → Calls Tryz.prog f args W fun e W' => (∃ v, e = .returned (.tuple #[v, errM c]) ∧ V W' v) ∧ ∃ m', MOut W W' B b P D m m' false ∧ m'.at = m.at
def RLook (f : Nat) (args : Array Value) (w : World) (B N n : Nat) (g : Nat → Nat) (r : RP) (V : World → Value → Prop) : Prop :=
  ∀ W, Below B w W → w.heap.size ≤ W.heap.size → RefAt W N n g r → Calls Tryz.prog f args W fun e W' => (∃ v y, e = .returned (.tuple #[v, .int .i64 y]) ∧ V W' v) ∧ Below W.heap.size W W'
def IsU32 (_ : World) (v : Value) : Prop := ∃ x : Int, v = .int .u32 x
def IsStr (w : World) (v : Value) : Prop := ∀ w2, Below w.heap.size w w2 → Strs w2 v
set_option maxRecDepth 100000 in
set_option maxHeartbeats 2000000 in
theorem step_store0 {B b P D N n : Nat} {m : Mem} {r : RP} (hI : StepIn w B b P D N n m r) (a : Act5) (hk : a.kind = 0) (c z : Int) (F : Nat → Nat)
    (hP : PCall 31 #[.pointer (some ⟨b, 0, none⟩),  .int .u32 (a.at_ : Nat), .int .i64 a.k, .int .u32 (a.v : Nat)] w B b P D m c F false) (hR : RCall 32 #[.agg (r.v N n),  .int .u32 (a.at_ : Nat), .int .i64 a.k, .int .u32 (a.v : Nat)] w B N n m.at r z F) :
    Calls Tryz.prog 8 #[.pointer (some ⟨b, 0, none⟩), .agg (r.v N n), .agg a.cells] w (StepOut w B b P D N n m r false) := by
  have hkd := kind_eq a
  rw [hk] at hkd
  have HI := hide hI
  have HP := hide hP
  have HR := hide hR
  have HO0 : Hid (∀ x, w.heap.size ≤ x → ¬ m.owns b P D x) := hide (fun x hx h => by have := hI.ram.owned h; omega)
  have HN := hide (fun W h => num_any c W h)
  clear hI hP hR

  go_enter Tryz.func8, Tryz.ntmps8
  go_upto_region 37 with (first | ((with_reducible refine bx_R w.heap.size r N n ?_ ?_ ?_); exact rfl; exact rfl; intro W hr hb hz0) | ((with_reducible refine bx_A (w.heap.size + 1) a.cells ?_ ?_ ?_); exact hz0.out; exact rfl; intro W hA hb' hz'; replace hr := hr.bl (hz0.out ▸ hb'); replace hb := hb.trans (hb'.mono (by omega)); replace hz0 := hz') | ((with_reducible refine al_R (w.heap.size + 1 + 1) ?_ ?_); exact hz0.out; intro W0 hq hb' hz'; replace hr := hr.bl (hz0.out ▸ hb'); replace hA := hA.bl (hz0.out ▸ hb'); replace hb := hb.trans (hb'.mono (by omega)); replace hz0 := hz'; have HB0 := hide hb; have HQ0 := hide hq.lt) | ((with_reducible refine la_0 (w.heap.size + 1) a hA ?_ ?_); exact rfl) | ((with_reducible refine la_1 (w.heap.size + 1) a hA ?_ ?_); exact rfl) | ((with_reducible refine la_2 (w.heap.size + 1) a hA ?_ ?_); exact rfl) | ((with_reducible refine la_3 (w.heap.size + 1) a hA ?_ ?_); exact rfl) | ((with_reducible refine ld_R w.heap.size _ N n hr ?_ ?_); exact rfl) | (go_at_call 31; refine (HP.out _ hb).mono ?_; rintro e W1 ⟨rfl, m', hM, hF⟩; replace hr := hr.kept hM.kept (HO0.out _ (by omega)); replace hA := hA.kept hM.kept (HO0.out _ (by omega)); replace hq := hq.kept hM.kept (HO0.out _ (by omega)); have hk1 := (Kept.of (own := m.owns b P D) HB0.out HI.out.base).trans hM.kept; have hR1 := HI.out.ref.same (fun x hx => hk1.other x (HI.out.ref.lt hx) (fun h => HI.out.off x hx (.inl h))); have hbB := hk1.below; have hsz := hk1.size; have HM := hide hM; have HF := hide hF; have HK1 := hide hk1; have HR1 := hide hR1; clear hM hF hk1 hR1) | (go_at_call 32; refine (HR.out _ hbB hsz HR1.out).mono ?_; rintro e W2 ⟨⟨r', rfl, hRf, hg2⟩, hx5⟩; replace hr := hr.bl hx5; replace hA := hA.bl hx5; have HQ1 := hide hq.lt; replace hq := hq.bl hx5; have HRf := hide hRf; have HG2 := hide hg2; have HB2 := hide hx5; have HB21 := hide hx5.size; obtain ⟨N3, hN3⟩ : ∃ k, W2.heap.size = k := ⟨_, rfl⟩; have HN3 := hide hN3; have HNQ : Hid (w.heap.size + 1 + 1 < N3) := hide (hN3 ▸ hq.lt); have HLt : Hid (∀ x, r'.owns x → x < N3) := hide (fun x hx => hN3 ▸ hRf.lt hx); clear hRf hg2 hx5 hN3) | ((with_reducible refine al_R N3 ?_ ?_); exact HN3.out; intro W3 hs hb3 hz3; replace hb3 := (HN3.out ▸ hb3 : Below W2.heap.size W2 W3); replace hr := hr.bl hb3; replace hq := hq.bl hb3; replace HRf := hide (HRf.out.bl hb3); replace HB2 := hide (HB2.out.trans (hb3.mono HB2.out.size))) | ((with_reducible refine st_R N3 _ r' N n hs ?_ ?_ ?_ ?_); exact rfl; exact rfl; exact rfl; intro W4 hnew ho4; replace hq := hq.only ho4 (by (have := HNQ.out; omega)); replace HRf := hide (HRf.out.same (fun x hx => ho4.row x (by (have := HLt.out x hx; omega)))); replace hs := hnew; have HB4 : Hid (Below W1.heap.size W1 W4) := hide (ho4.bel _ _ (by (have := HN3.out; have := HB21.out; omega)) HB2.out)))
  have hBB : Below B w W4 := hbB.trans (HB4.out.mono (Nat.le_trans HI.out.base hsz))
  have HH : Hid (HandleAt W4.drew) := hide (handle_bl HI.out.handle HI.out.low hBB.drew)
  have s0 : W4.cell? ⟨N3, 0, none⟩ = some (.slice (some ⟨r'.gB, 0, none⟩) N r'.cB) := hs.cell 0
  have s1 : W4.cell? ⟨N3, 1, none⟩ = some (.slice (some ⟨r'.gD, 0, none⟩) n r'.cD) := hs.cell 1
  have s2 : W4.cell? ⟨N3, 2, none⟩ = some (.int .i64 r'.wr) := hs.cell 2
  have HS4 := hide hs
  have HQ4 := hide hq
  clear hs hq hr hA hbB hBB
  go_region_with (first | (go_at_call 22; refine (HN.out _ HH.out).mono ?_; rintro e W5 ⟨rfl, hx5⟩; have HX5 : Hid (Below W4.heap.size W4 W5) := hide ((Below.refl _ W4).drew.trans hx5); have hs5 := HS4.out.bl HX5.out; have hq5 := HQ4.out.bl HX5.out; have u0 : W5.cell? ⟨N3, 0, none⟩ = some (.slice (some ⟨r'.gB, 0, none⟩) N r'.cB) := hs5.cell 0; have u1 : W5.cell? ⟨N3, 1, none⟩ = some (.slice (some ⟨r'.gD, 0, none⟩) n r'.cD) := hs5.cell 1; have u2 : W5.cell? ⟨N3, 2, none⟩ = some (.int .i64 r'.wr) := hs5.cell 2; have q0 : W5.cell? ⟨w.heap.size + 1 + 1, 0, none⟩ = some (.slice none 0 0) := hq5.cell 0; have q1 : W5.cell? ⟨w.heap.size + 1 + 1, 1, none⟩ = some (.slice none 0 0) := hq5.cell 1; have q2 : W5.cell? ⟨w.heap.size + 1 + 1, 2, none⟩ = some (.int .i64 0) := hq5.cell 2; have p0 := hq5.thaw 0; have p1 := hq5.thaw 1; have p2 := hq5.thaw 2; have HQ5 := hide hq5; clear hx5 hs5 hq5))
  all_goals
    go_simp
    go_wp2
    have he := step_end HI.out HB0.out HM.out HF.out (HB4.out.trans (HX5.out.mono HB4.out.size)) (HRf.out.bl HX5.out) HG2.out (by omega) HQ0.out HQ5.out (c == z)
    refine bodyPost_ret (results_cell_tmp_row Tryz.results8 _ _ (w.heap.size + 1 + 1) _ _ _ _ rfl he.2 Tryz.underlying31 rfl size_R) rfl ?_
    exact he.1
set_option maxRecDepth 100000 in
set_option maxHeartbeats 2000000 in
theorem step_store1 {B b P D N n : Nat} {m : Mem} {r : RP} (hI : StepIn w B b P D N n m r) (a : Act5) (hk : a.kind = 1) (c z : Int) (F : Nat → Nat)
    (hP : PCall 31 #[.pointer (some ⟨b, 0, none⟩),  .int .u32 (a.at_ : Nat), .int .i64 a.k, .int .u32 (a.v : Nat)] w B b P D m c F false) (hR : RCall 32 #[.agg (r.v N n),  .int .u32 (a.at_ : Nat), .int .i64 a.k, .int .u32 (a.v : Nat)] w B N n m.at r z F) :
    Calls Tryz.prog 8 #[.pointer (some ⟨b, 0, none⟩), .agg (r.v N n), .agg a.cells] w (StepOut w B b P D N n m r false) := by
  have hkd := kind_eq a
  rw [hk] at hkd
  have HI := hide hI
  have HP := hide hP
  have HR := hide hR
  have HO0 : Hid (∀ x, w.heap.size ≤ x → ¬ m.owns b P D x) := hide (fun x hx h => by have := hI.ram.owned h; omega)
  have HN := hide (fun W h => num_any c W h)
  clear hI hP hR

  go_enter Tryz.func8, Tryz.ntmps8
  go_upto_region 37 with (first | ((with_reducible refine bx_R w.heap.size r N n ?_ ?_ ?_); exact rfl; exact rfl; intro W hr hb hz0) | ((with_reducible refine bx_A (w.heap.size + 1) a.cells ?_ ?_ ?_); exact hz0.out; exact rfl; intro W hA hb' hz'; replace hr := hr.bl (hz0.out ▸ hb'); replace hb := hb.trans (hb'.mono (by omega)); replace hz0 := hz') | ((with_reducible refine al_R (w.heap.size + 1 + 1) ?_ ?_); exact hz0.out; intro W0 hq hb' hz'; replace hr := hr.bl (hz0.out ▸ hb'); replace hA := hA.bl (hz0.out ▸ hb'); replace hb := hb.trans (hb'.mono (by omega)); replace hz0 := hz'; have HB0 := hide hb; have HQ0 := hide hq.lt) | ((with_reducible refine la_0 (w.heap.size + 1) a hA ?_ ?_); exact rfl) | ((with_reducible refine la_1 (w.heap.size + 1) a hA ?_ ?_); exact rfl) | ((with_reducible refine la_2 (w.heap.size + 1) a hA ?_ ?_); exact rfl) | ((with_reducible refine la_3 (w.heap.size + 1) a hA ?_ ?_); exact rfl) | ((with_reducible refine ld_R w.heap.size _ N n hr ?_ ?_); exact rfl) | (go_at_call 31; refine (HP.out _ hb).mono ?_; rintro e W1 ⟨rfl, m', hM, hF⟩; replace hr := hr.kept hM.kept (HO0.out _ (by omega)); replace hA := hA.kept hM.kept (HO0.out _ (by omega)); replace hq := hq.kept hM.kept (HO0.out _ (by omega)); have hk1 := (Kept.of (own := m.owns b P D) HB0.out HI.out.base).trans hM.kept; have hR1 := HI.out.ref.same (fun x hx => hk1.other x (HI.out.ref.lt hx) (fun h => HI.out.off x hx (.inl h))); have hbB := hk1.below; have hsz := hk1.size; have HM := hide hM; have HF := hide hF; have HK1 := hide hk1; have HR1 := hide hR1; clear hM hF hk1 hR1) | (go_at_call 32; refine (HR.out _ hbB hsz HR1.out).mono ?_; rintro e W2 ⟨⟨r', rfl, hRf, hg2⟩, hx5⟩; replace hr := hr.bl hx5; replace hA := hA.bl hx5; have HQ1 := hide hq.lt; replace hq := hq.bl hx5; have HRf := hide hRf; have HG2 := hide hg2; have HB2 := hide hx5; have HB21 := hide hx5.size; obtain ⟨N3, hN3⟩ : ∃ k, W2.heap.size = k := ⟨_, rfl⟩; have HN3 := hide hN3; have HNQ : Hid (w.heap.size + 1 + 1 < N3) := hide (hN3 ▸ hq.lt); have HLt : Hid (∀ x, r'.owns x → x < N3) := hide (fun x hx => hN3 ▸ hRf.lt hx); clear hRf hg2 hx5 hN3) | ((with_reducible refine al_R N3 ?_ ?_); exact HN3.out; intro W3 hs hb3 hz3; replace hb3 := (HN3.out ▸ hb3 : Below W2.heap.size W2 W3); replace hr := hr.bl hb3; replace hq := hq.bl hb3; replace HRf := hide (HRf.out.bl hb3); replace HB2 := hide (HB2.out.trans (hb3.mono HB2.out.size))) | ((with_reducible refine st_R N3 _ r' N n hs ?_ ?_ ?_ ?_); exact rfl; exact rfl; exact rfl; intro W4 hnew ho4; replace hq := hq.only ho4 (by (have := HNQ.out; omega)); replace HRf := hide (HRf.out.same (fun x hx => ho4.row x (by (have := HLt.out x hx; omega)))); replace hs := hnew; have HB4 : Hid (Below W1.heap.size W1 W4) := hide (ho4.bel _ _ (by (have := HN3.out; have := HB21.out; omega)) HB2.out)))
  have hBB : Below B w W4 := hbB.trans (HB4.out.mono (Nat.le_trans HI.out.base hsz))
  have HH : Hid (HandleAt W4.drew) := hide (handle_bl HI.out.handle HI.out.low hBB.drew)
  have s0 : W4.cell? ⟨N3, 0, none⟩ = some (.slice (some ⟨r'.gB, 0, none⟩) N r'.cB) := hs.cell 0
  have s1 : W4.cell? ⟨N3, 1, none⟩ = some (.slice (some ⟨r'.gD, 0, none⟩) n r'.cD) := hs.cell 1
  have s2 : W4.cell? ⟨N3, 2, none⟩ = some (.int .i64 r'.wr) := hs.cell 2
  have HS4 := hide hs
  have HQ4 := hide hq
  clear hs hq hr hA hbB hBB
  go_region_with (first | (go_at_call 22; refine (HN.out _ HH.out).mono ?_; rintro e W5 ⟨rfl, hx5⟩; have HX5 : Hid (Below W4.heap.size W4 W5) := hide ((Below.refl _ W4).drew.trans hx5); have hs5 := HS4.out.bl HX5.out; have hq5 := HQ4.out.bl HX5.out; have u0 : W5.cell? ⟨N3, 0, none⟩ = some (.slice (some ⟨r'.gB, 0, none⟩) N r'.cB) := hs5.cell 0; have u1 : W5.cell? ⟨N3, 1, none⟩ = some (.slice (some ⟨r'.gD, 0, none⟩) n r'.cD) := hs5.cell 1; have u2 : W5.cell? ⟨N3, 2, none⟩ = some (.int .i64 r'.wr) := hs5.cell 2; have q0 : W5.cell? ⟨w.heap.size + 1 + 1, 0, none⟩ = some (.slice none 0 0) := hq5.cell 0; have q1 : W5.cell? ⟨w.heap.size + 1 + 1, 1, none⟩ = some (.slice none 0 0) := hq5.cell 1; have q2 : W5.cell? ⟨w.heap.size + 1 + 1, 2, none⟩ = some (.int .i64 0) := hq5.cell 2; have p0 := hq5.thaw 0; have p1 := hq5.thaw 1; have p2 := hq5.thaw 2; have HQ5 := hide hq5; clear hx5 hs5 hq5))
  all_goals
    go_simp
    go_wp2
    have he := step_end HI.out HB0.out HM.out HF.out (HB4.out.trans (HX5.out.mono HB4.out.size)) (HRf.out.bl HX5.out) HG2.out (by omega) HQ0.out HQ5.out (c == z)
    refine bodyPost_ret (results_cell_tmp_row Tryz.results8 _ _ (w.heap.size + 1 + 1) _ _ _ _ rfl he.2 Tryz.underlying31 rfl size_R) rfl ?_
    exact he.1
set_option maxRecDepth 100000 in
set_option maxHeartbeats 2000000 in
theorem step_load {B b P D N n : Nat} {m : Mem} {r : RP} (hI : StepIn w B b P D N n m r) (a : Act5) (hk : a.kind = 2) (c : Int)
    (hP : PLook 20 #[.pointer (some ⟨b, 0, none⟩), .int .u32 (a.at_ : Nat), .int .i64 a.k] w B b P D m c IsU32) (hR : RLook 21 #[.agg (r.v N n), .int .u32 (a.at_ : Nat), .int .i64 a.k] w B N n m.at r IsU32) :
    Calls Tryz.prog 8 #[.pointer (some ⟨b, 0, none⟩), .agg (r.v N n), .agg a.cells] w (StepOut w B b P D N n m r false) := by
  have hkd := kind_eq a
  rw [hk] at hkd
  have HI := hide hI
  have HP := hide hP
  have HR := hide hR
  have HO0 : Hid (∀ x, w.heap.size ≤ x → ¬ m.owns b P D x) := hide (fun x hx h => by have := hI.ram.owned h; omega)
  have HN := hide (fun W h => num_any c W h)
  clear hI hP hR
  go_enter Tryz.func8, Tryz.ntmps8
  go_upto_region 5 with (first | ((with_reducible refine bx_R w.heap.size r N n ?_ ?_ ?_); exact rfl; exact rfl; intro W hr hb hz0) | ((with_reducible refine bx_A (w.heap.size + 1) a.cells ?_ ?_ ?_); exact hz0.out; exact rfl; intro W hA hb' hz'; replace hr := hr.bl (hz0.out ▸ hb'); replace hb := hb.trans (hb'.mono (by omega)); replace hz0 := hz') | ((with_reducible refine al_R (w.heap.size + 1 + 1) ?_ ?_); exact hz0.out; intro W0 hq hb' hz'; replace hr := hr.bl (hz0.out ▸ hb'); replace hA := hA.bl (hz0.out ▸ hb'); replace hb := hb.trans (hb'.mono (by omega)); replace hz0 := hz'; have HB0 := hide hb; have HQ0 := hide hq.lt) | ((with_reducible refine la_0 (w.heap.size + 1) a hA ?_ ?_); exact rfl) | ((with_reducible refine la_1 (w.heap.size + 1) a hA ?_ ?_); exact rfl) | ((with_reducible refine la_2 (w.heap.size + 1) a hA ?_ ?_); exact rfl) | ((with_reducible refine ld_R w.heap.size _ N n hr ?_ ?_); exact rfl) | (go_at_call 20; refine (HP.out _ hb).mono ?_; rintro e W1 ⟨⟨v1, rfl, x1, rfl⟩, m', hM, hF⟩; replace hr := hr.kept hM.kept (HO0.out _ (by omega)); replace hA := hA.kept hM.kept (HO0.out _ (by omega)); replace hq := hq.kept hM.kept (HO0.out _ (by omega)); have hk1 := (Kept.of (own := m.owns b P D) HB0.out HI.out.base).trans hM.kept; have hR1 := HI.out.ref.same (fun x hx => hk1.other x (HI.out.ref.lt hx) (fun h => HI.out.off x hx (.inl h))); have hbB := hk1.below; have hsz := hk1.size; have HM := hide hM; have HF := hide hF; have HK1 := hide hk1; have HR1 := hide hR1; clear hM hF hk1 hR1) | (go_at_call 21; refine (HR.out _ hbB hsz HR1.out).mono ?_; rintro e W2 ⟨⟨v2, y, rfl, x2, rfl⟩, hx5⟩; replace hr := hr.bl hx5; replace hA := hA.bl hx5; replace hq := hq.bl hx5; have HRf := hide (HR1.out.bl hx5); have HB2 := hide hx5; clear hx5))
  have hBB : Below B w W2 := hbB.trans (HB2.out.mono (Nat.le_trans HI.out.base hsz))
  have HH : Hid (HandleAt W2.drew) := hide (handle_bl HI.out.handle HI.out.low hBB.drew)
  have HG2 : Hid (∀ x, r.owns x → r.owns x ∨ W1.heap.size ≤ x) := hide (fun x hx => .inl hx)
  have s0 : W2.cell? ⟨w.heap.size, 0, none⟩ = some (.slice (some ⟨r.gB, 0, none⟩) N r.cB) := hr.cell 0
  have s1 : W2.cell? ⟨w.heap.size, 1, none⟩ = some (.slice (some ⟨r.gD, 0, none⟩) n r.cD) := hr.cell 1
  have s2 : W2.cell? ⟨w.heap.size, 2, none⟩ = some (.int .i64 r.wr) := hr.cell 2
  have q0 : W2.cell? ⟨w.heap.size + 1 + 1, 0, none⟩ = some (.slice none 0 0) := hq.cell 0
  have q1 : W2.cell? ⟨w.heap.size + 1 + 1, 1, none⟩ = some (.slice none 0 0) := hq.cell 1
  have q2 : W2.cell? ⟨w.heap.size + 1 + 1, 2, none⟩ = some (.int .i64 0) := hq.cell 2
  have p0 := hq.thaw 0
  have p1 := hq.thaw 1
  have p2 := hq.thaw 2
  have HS4 := hide hr
  have HQ4 := hide hq
  clear hq hr hA hbB hBB
  cases hxx : (x1 == x2) with
  | false =>
    refine wp_region_held_drew (S := (fun V => RowAt V w.heap.size (r.v N n) 31)) (by kernel_rfl) ?_ (fun hHeld => ?_)
    · exact HS4.out.dr
    obtain ⟨V, hV⟩ : ∃ V, W2.drew = V := ⟨_, rfl⟩
    have HQ : Hid (RowAt V (w.heap.size + 1 + 1) zR 31) := hide (hV ▸ HQ4.out.dr)
    have HV : Hid (Below W2.heap.size W2 V) := hide (hV ▸ (Below.refl _ W2).drew)
    rw [hV] at hHeld ⊢
    clear hV
    refine wpAnyH_take (i := 0) (oi := ?oi1) (v := .agg (r.v N n)) ?hi1 (by kernel_rfl) (by kernel_rfl) (by kernel_rfl) ?hQ1 ?hy1 (by assumption) ?rest1
    case hi1 => (simp only [List.getElem?_toArray, List.getElem?_cons_zero]; rfl)
    case hQ1 => exact fun _ _ _ h => h
    case hy1 => exact y_load w.heap.size (r.v N n) _ (fun V hV => hV) _ Tryz.underlying31 rfl size_R rfl
    simp only [Act.put, List.setIfInBounds_toArray, List.set_cons_zero, List.set_cons_succ]
    refine wpAnyH_take (i := 1) (oi := ?oi2) (v := .int .u32 x1) ?hi2 (by kernel_rfl) (by kernel_rfl) (by kernel_rfl) ?hQ2 ?hy2 (by assumption) ?rest2
    case hi2 => (simp only [List.getElem?_toArray, List.getElem?_cons_zero, List.getElem?_cons_succ]; rfl)
    case hQ2 => exact fun _ _ _ h => h
    case hy2 => exact Or.inl ⟨by rfl, by (intro w hSw; (try dsimp only at hSw); go_simp )⟩
    simp only [Act.put, List.setIfInBounds_toArray, List.set_cons_zero, List.set_cons_succ]
    refine wpAnyH_take (i := 2) (oi := ?oi3) (v := .int .u32 x2) ?hi3 (by kernel_rfl) (by kernel_rfl) (by kernel_rfl) ?hQ3 ?hy3 (by assumption) ?rest3
    case hi3 => (simp only [List.getElem?_toArray, List.getElem?_cons_zero, List.getElem?_cons_succ]; rfl)
    case hQ3 => exact fun _ _ _ h => h
    case hy3 => exact Or.inl ⟨by rfl, by (intro w hSw; (try dsimp only at hSw); go_simp )⟩
    simp only [Act.put, List.setIfInBounds_toArray, List.set_cons_zero, List.set_cons_succ]
    refine wpAnyH_take (i := 3) (oi := ?oi4) (v := .bool false) ?hi4 (by kernel_rfl) (by kernel_rfl) (by kernel_rfl) ?hQ4 ?hy4 (by assumption) ?rest4
    case hi4 => (simp only [List.getElem?_toArray, List.getElem?_cons_zero, List.getElem?_cons_succ]; rfl)
    case hQ4 => exact fun _ _ _ h => h
    case hy4 => exact Or.inl ⟨by rfl, by (intro w hSw; (try dsimp only at hSw); go_simp )⟩
    simp only [Act.put, List.setIfInBounds_toArray, List.set_cons_zero, List.set_cons_succ]
    refine wpAnyH_take (i := 4) (oi := ?oi5) (v := .bool false) ?hi5 (by kernel_rfl) (by kernel_rfl) (by kernel_rfl) ?hQ5 ?hy5 (by assumption) ?rest5
    case hi5 => (simp only [List.getElem?_toArray, List.getElem?_cons_zero, List.getElem?_cons_succ]; rfl)
    case hQ5 => exact fun _ _ _ h => h
    case hy5 => exact Or.inl ⟨by rfl, by (intro w hSw; (try dsimp only at hSw); go_simp )⟩
    simp only [Act.put, List.setIfInBounds_toArray, List.set_cons_zero, List.set_cons_succ]
    refine wpAnyH_take (i := 5) (oi := ?oi6) (v := undef) ?hi6 (by kernel_rfl) (by kernel_rfl) (by kernel_rfl) ?hQ6 ?hy6 (by assumption) ?rest6
    case hi6 => (simp only [List.getElem?_toArray, List.getElem?_cons_zero, List.getElem?_cons_succ]; rfl)
    case hQ6 => exact fun _ _ _ h => h
    case hy6 => exact Or.inr ⟨by rfl, rfl⟩
    simp only [Act.put, List.setIfInBounds_toArray, List.set_cons_zero, List.set_cons_succ]
    refine wpAnyH_take (i := 6) (oi := ?oi7) (v := undef) ?hi7 (by kernel_rfl) (by kernel_rfl) (by kernel_rfl) ?hQ7 ?hy7 (by assumption) ?rest7
    case hi7 => (simp only [List.getElem?_toArray, List.getElem?_cons_zero, List.getElem?_cons_succ]; rfl)
    case hQ7 => exact fun _ _ _ h => h
    case hy7 => exact Or.inr ⟨by rfl, rfl⟩
    simp only [Act.put, List.setIfInBounds_toArray, List.set_cons_zero, List.set_cons_succ]
    refine wpAnyH_take (i := 7) (oi := ?oi8) (v := undef) ?hi8 (by kernel_rfl) (by kernel_rfl) (by kernel_rfl) ?hQ8 ?hy8 (by assumption) ?rest8
    case hi8 => (simp only [List.getElem?_toArray, List.getElem?_cons_zero, List.getElem?_cons_succ]; rfl)
    case hQ8 => exact fun _ _ _ h => h
    case hy8 => exact Or.inr ⟨by rfl, rfl⟩
    simp only [Act.put, List.setIfInBounds_toArray, List.set_cons_zero, List.set_cons_succ]
    refine wpAnyH_take (i := 8) (oi := ?oi9) (v := undef) ?hi9 (by kernel_rfl) (by kernel_rfl) (by kernel_rfl) ?hQ9 ?hy9 (by assumption) ?rest9
    case hi9 => (simp only [List.getElem?_toArray, List.getElem?_cons_zero, List.getElem?_cons_succ]; rfl)
    case hQ9 => exact fun _ _ _ h => h
    case hy9 => exact Or.inr ⟨by rfl, rfl⟩
    simp only [Act.put, List.setIfInBounds_toArray, List.set_cons_zero, List.set_cons_succ]
    refine wpAnyH_take (i := 9) (oi := ?oi10) (v := .bool false) ?hi10 (by kernel_rfl) (by kernel_rfl) (by kernel_rfl) ?hQ10 ?hy10 (by assumption) ?rest10
    case hi10 => (simp only [List.getElem?_toArray, List.getElem?_cons_zero, List.getElem?_cons_succ]; rfl)
    case hQ10 => exact fun _ _ _ h => h
    case hy10 => exact Or.inl ⟨by rfl, by (intro w hSw; (try dsimp only at hSw); go_simp )⟩
    simp only [Act.put, List.setIfInBounds_toArray, List.set_cons_zero, List.set_cons_succ]
    refine wpAnyH_ready (rs := [10]) (by kernel_rfl) (by simp) ?_
    refine AllReadyH.cons (o := ?oi11) ?hi11 (fun K hK => ?_) AllReadyH.nil
    case hi11 => (simp only [List.getElem?_toArray, List.getElem?_cons_zero, List.getElem?_cons_succ]; rfl)
    rw [if_pos (by rfl)]
    (with_reducible refine s_store (w.heap.size + 1 + 1) ?_ (r.v N n) ?_ zR _ HQ.out (size_Rv r N n) rfl (v_one r N n) ?_)
    · exact rfl
    · exact rfl
    intro V2 hnew ho
    have hr2 := hHeld.only ho (by omega)
    clear hHeld
    refine hK.out _ _ ?_ (fun hHeld => ?_)
    · exact hr2
    clear hK K
    refine wpAnyH_take (i := 11) (oi := ?oi12) (v := .bool false) ?hi12 (by kernel_rfl) (by kernel_rfl) (by kernel_rfl) ?hQ12 ?hy12 (by assumption) ?rest12
    case hi12 => (simp only [List.getElem?_toArray, List.getElem?_cons_zero, List.getElem?_cons_succ]; rfl)
    case hQ12 => exact fun _ _ _ h => h
    case hy12 => exact Or.inl ⟨by rfl, by (intro w hSw; (try dsimp only at hSw); go_simp )⟩
    simp only [Act.put, List.setIfInBounds_toArray, List.set_cons_zero, List.set_cons_succ]
    refine wpAnyH_done (by kernel_rfl) ?_ _
    go_wp2
    refine bodyPost_ret (results_cell_tmp_row Tryz.results8 _ _ (w.heap.size + 1 + 1) _ _ _ _ rfl hnew Tryz.underlying31 rfl size_R) rfl ?_
    exact step_only HI.out HB0.out HM.out HF.out (HB2.out.trans (HV.out.mono HB2.out.size)) (HRf.out.bl HV.out) HG2.out (by omega) HQ0.out ho false

  | true =>
    go_region_with (first | (go_at_call 22; refine (HN.out _ HH.out).mono ?_; rintro e W5 ⟨rfl, hx5⟩; have HX5 : Hid (Below W2.heap.size W2 W5) := hide ((Below.refl _ W2).drew.trans hx5); have hs5 := HS4.out.bl HX5.out; have hq5 := HQ4.out.bl HX5.out; have u0 : W5.cell? ⟨w.heap.size, 0, none⟩ = some (.slice (some ⟨r.gB, 0, none⟩) N r.cB) := hs5.cell 0; have u1 : W5.cell? ⟨w.heap.size, 1, none⟩ = some (.slice (some ⟨r.gD, 0, none⟩) n r.cD) := hs5.cell 1; have u2 : W5.cell? ⟨w.heap.size, 2, none⟩ = some (.int .i64 r.wr) := hs5.cell 2; have a0 : W5.cell? ⟨w.heap.size + 1 + 1, 0, none⟩ = some (.slice none 0 0) := hq5.cell 0; have a1 : W5.cell? ⟨w.heap.size + 1 + 1, 1, none⟩ = some (.slice none 0 0) := hq5.cell 1; have a2 : W5.cell? ⟨w.heap.size + 1 + 1, 2, none⟩ = some (.int .i64 0) := hq5.cell 2; have b0 := hq5.thaw 0; have b1 := hq5.thaw 1; have b2 := hq5.thaw 2; have HQ5 := hide hq5; clear hx5 hs5 hq5))
    all_goals
      go_simp
      go_wp2
      have he := step_end HI.out HB0.out HM.out HF.out (HB2.out.trans (HX5.out.mono HB2.out.size)) (HRf.out.bl HX5.out) HG2.out (by omega) HQ0.out HQ5.out (c == y)
      refine bodyPost_ret (results_cell_tmp_row Tryz.results8 _ _ (w.heap.size + 1 + 1) _ _ _ _ rfl he.2 Tryz.underlying31 rfl size_R) rfl ?_
      exact he.1
end Go.Proofs.YtficoenanfnijaaGreatDoor
