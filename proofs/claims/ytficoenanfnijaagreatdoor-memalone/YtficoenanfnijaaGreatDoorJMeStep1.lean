/-
  The law's step, kind by kind: what it leaves, where both sides' calls are told.
-/
import Derived.Test.YtficoenanfnijaaGreatDoorJMeStep0
import Derived.Deep.CutRange
namespace Go.Proofs.YtficoenanfnijaaGreatDoor
open Go.RowKit
set_option linter.unusedVariables false
attribute [local go_sem ↓] Go.wp_at_zero Go.wp_at_succ

variable {ops : Array Oper} {rest : List Oper} {dst : Option Tmp} {ty : TypeId} {pos : String} {after : Array Edge} {ac : Act} {w : World} {Q : Exit → Act → World → Prop} {x y : Operand}
theorem la_0 (c : Nat) (a : Act5) (hr : RowAt w c a.cells 37) (hx : ac.eval x = .pointer (some ⟨c, 0, none⟩))
    (k : wpList Tryz.prog ops Q rest (ac.put dst (.int .i64 a.kd)) w) : wpList Tryz.prog ops Q (⟨dst, .load 3 x, ty, pos, after, none⟩ :: rest) ac w :=
  op_load_cell c 0 hx _ _ _ hr rfl _ Tryz.underlying3 rfl k
theorem la_1 (c : Nat) (a : Act5) (hr : RowAt w c a.cells 37) (hx : ac.eval x = .pointer (some ⟨c, 1, none⟩))
    (k : wpList Tryz.prog ops Q rest (ac.put dst (.int .u32 (a.at_ : Nat))) w) : wpList Tryz.prog ops Q (⟨dst, .load 35 x, ty, pos, after, none⟩ :: rest) ac w :=
  op_load_cell c 1 hx _ _ _ hr rfl _ Tryz.underlying35 rfl k
theorem la_2 (c : Nat) (a : Act5) (hr : RowAt w c a.cells 37) (hx : ac.eval x = .pointer (some ⟨c, 2, none⟩))
    (k : wpList Tryz.prog ops Q rest (ac.put dst (.int .i64 a.k)) w) : wpList Tryz.prog ops Q (⟨dst, .load 3 x, ty, pos, after, none⟩ :: rest) ac w :=
  op_load_cell c 2 hx _ _ _ hr rfl _ Tryz.underlying3 rfl k
theorem la_3 (c : Nat) (a : Act5) (hr : RowAt w c a.cells 37) (hx : ac.eval x = .pointer (some ⟨c, 3, none⟩))
    (k : wpList Tryz.prog ops Q rest (ac.put dst (.int .u32 (a.v : Nat))) w) : wpList Tryz.prog ops Q (⟨dst, .load 35 x, ty, pos, after, none⟩ :: rest) ac w :=
  op_load_cell c 3 hx _ _ _ hr rfl _ Tryz.underlying35 rfl k
theorem la_4 (c : Nat) (a : Act5) (hr : RowAt w c a.cells 37) (hx : ac.eval x = .pointer (some ⟨c, 4, none⟩))
    (k : wpList Tryz.prog ops Q rest (ac.put dst (.slice a.sa a.L a.sc)) w) : wpList Tryz.prog ops Q (⟨dst, .load 28 x, ty, pos, after, none⟩ :: rest) ac w :=
  op_load_cell c 4 hx _ _ _ hr rfl _ Tryz.underlying28 rfl k
theorem kind_eq (a : Act5) : wrap64 ((IntKind.u64.wrap a.kd).tmod 9) = (a.kind : Int) := by
  have h0 : (0 : Int) ≤ a.kd % 18446744073709551616 := Int.emod_nonneg _ (by decide)
  unfold Act5.kind
  rw [IntKind.wrap_u64, Int.tmod_eq_emod_of_nonneg h0]
  have h1 : 0 ≤ a.kd % 18446744073709551616 % 9 := Int.emod_nonneg _ (by decide)
  have h2 : a.kd % 18446744073709551616 % 9 < 9 := Int.emod_lt_of_pos _ (by decide)
  generalize a.kd % 18446744073709551616 % 9 = z at *
  rw [Int.toNat_of_nonneg h1]
  unfold wrap64
  omega
theorem RowAt.kept {w w' : World} {B c : Nat} {cs : Array Value} {t : TypeId} {own : Nat → Prop} (h : RowAt w c cs t) (hk : Kept B w w' own) (hn : ¬ own c) : RowAt w' c cs t := (hk.other c h.lt hn).trans h
theorem mout_end {W0 W1 W3 w' : World} {B b P D c : Nat} {m m' : Mem} {hv : Bool} (hm : RamAt w B b P D m) (hB : B ≤ w.heap.size) (h0 : Below w.heap.size w W0) (hM : MOut W0 W1 B b P D m m' hv) (h1 : Below W1.heap.size W1 W3) (ho : Only c W3 w') (hc : w.heap.size ≤ c) (hc2 : c < W0.heap.size) : MOut w w' B b P D m m' hv := by
  have hne : ∀ x, (m'.owns b P D x ∨ m'.z = some x) → x ≠ c := fun x hx e => by
    rcases hM.st.own x hx with (h2 | h2) | h2
    · have := hm.owned h2; omega
    · have := hm.z_lt h2; omega
    · omega
  have hk0 : Kept B w W0 (m.owns b P D) := Kept.of h0 hB
  have hk1 := hk0.trans hM.kept
  have hk3 := hk1.trans (Kept.of (own := m.owns b P D) h1 (Nat.le_trans hB hk1.size))
  refine ⟨(hM.ram.bl h1).same (fun x hx => ho.row x (hne x hx)), ⟨?_, ?_, fun x hx hn => ?_⟩, { n := hM.st.n, wr := hM.st.wr, small := hM.st.small, clean := hM.st.clean, own1 := fun x hx => (hM.st.own1 x hx).imp id (fun h => Nat.le_trans h0.size h), own2 := fun x hx => (hM.st.own2 x hx).imp id (fun h => Nat.le_trans h0.size h) }⟩
  · exact ho.bel B w (Nat.le_trans hB hc) hk3.below
  · rw [ho.size]; exact hk3.size
  · exact (ho.row x (by omega)).trans (hk3.other x hx hn)
/-- What is asked of a memory and of the document's beside it. -/
structure StepIn (w : World) (B b P D N n : Nat) (m : Mem) (r : RP) : Prop where
  ram : RamAt w B b P D m
  ref : RefAt w N n m.at r
  base : B ≤ w.heap.size
  off : ∀ x, r.owns x → ¬ (m.owns b P D x ∨ m.z = some x)
  handle : HandleAt w
  low : 0 < B
  count : m.wr ≤ 1000000
  same : m.n = n
theorem handle_bl {w w' : World} {B : Nat} (h : HandleAt w) (hG : 0 < B) (hb : Below B w w') : HandleAt w' := (hb.cell (p := ⟨0, 0, none⟩) hG).trans h
theorem step_only {W0 W1 W5 wF : World} {B b P D N n c : Nat} {m m' : Mem} {r r' : RP} {F : Nat → Nat} {hv : Bool} (hI : StepIn w B b P D N n m r) (h0 : Below w.heap.size w W0) (hM : MOut W0 W1 B b P D m m' hv) (hF : m'.at = F) (h15 : Below W1.heap.size W1 W5) (hRf : RefAt W5 N n F r')
    (hg : ∀ x, r'.owns x → r.owns x ∨ W1.heap.size ≤ x) (hc : w.heap.size ≤ c) (hc0 : c < W0.heap.size) (ho : Only c W5 wF) (bb : Bool) :
    StepOut w B b P D N n m r hv (.returned (.tuple #[.agg (r'.v N n), .bool bb])) wF := by
  have hs1 := hM.kept.size
  have hs0 := h0.size
  refine ⟨m', r', bb, rfl, mout_end hI.ram hI.base h0 hM h15 ho hc hc0, ?_, fun x hx => (hg x hx).imp id (fun h => by omega), fun x hx hh => ?_⟩
  · rw [hF]
    exact hRf.same (fun x hx => ho.row x (fun e => by
      rcases hg x hx with h | h
      · have := hI.ref.lt h; omega
      · omega))
  · rcases hg x hx with h | h
    · have hlt := hI.ref.lt h
      rcases hM.st.own x hh with h2 | h2
      · exact hI.off x h h2
      · omega
    · rcases hh with h2 | h2
      · have := hM.ram.owned h2; omega
      · have := hM.ram.z_lt h2; omega
theorem step_end {W0 W1 W5 : World} {B b P D N n c : Nat} {m m' : Mem} {r r' : RP} {F : Nat → Nat} {hv : Bool} (hI : StepIn w B b P D N n m r) (h0 : Below w.heap.size w W0) (hM : MOut W0 W1 B b P D m m' hv) (hF : m'.at = F) (h15 : Below W1.heap.size W1 W5) (hRf : RefAt W5 N n F r')
    (hg : ∀ x, r'.owns x → r.owns x ∨ W1.heap.size ≤ x) (hc : w.heap.size ≤ c) (hc0 : c < W0.heap.size) (hQ5 : RowAt W5 c zR 31) (bb : Bool) :
    StepOut w B b P D N n m r hv (.returned (.tuple #[.agg (r'.v N n), .bool bb])) (W5.setCells c 0 [.slice (some ⟨r'.gB, 0, none⟩) N r'.cB, .slice (some ⟨r'.gD, 0, none⟩) n r'.cD, .int .i64 r'.wr]) ∧
    RowAt (W5.setCells c 0 [.slice (some ⟨r'.gB, 0, none⟩) N r'.cB, .slice (some ⟨r'.gD, 0, none⟩) n r'.cD, .int .i64 r'.wr]) c (r'.v N n) 31 :=
  ⟨step_only hI h0 hM hF h15 hRf hg hc hc0 (only_setCells c 0 _ W5) bb, RowAt.puts _ 0 hQ5⟩
theorem size_Rv (r : RP) (N n : Nat) : (Tryz.prog.info? 31).map (·.size) = some (r.v N n).size := size_R
/-- What the program's call does: an error's number, and the memory behind it. -/
def PCall (f : Nat) (args : Array Value) (w : World) (B b P D : Nat) (m : Mem) (c : Int) (F : Nat → Nat) (hv : Bool) : Prop :=
  ∀ W, Below w.heap.size w W → Calls Tryz.prog f args W fun e W' => e = .returned (errM c) ∧ ∃ m', MOut W W' B b P D m m' hv ∧ m'.at = F
/-- .. and the document's. -/
def RCall (f : Nat) (args : Array Value) (w : World) (B N n : Nat) (g : Nat → Nat) (r : RP) (z : Int) (F : Nat → Nat) : Prop :=
  ∀ W, Below B w W → w.heap.size ≤ W.heap.size → RefAt W N n g r → Calls Tryz.prog f args W fun e W' => (∃ r' : RP, e = .returned (.tuple #[.agg (r'.v N n), .int .i64 z]) ∧ RefAt W' N n F r' ∧ ∀ x, r'.owns x → r.owns x ∨ W.heap.size ≤ x) ∧ Below W.heap.size W W'
set_option maxRecDepth 100000 in
set_option maxHeartbeats 2000000 in
theorem step_write3 {B b P D N n : Nat} {m : Mem} {r : RP} (hI : StepIn w B b P D N n m r) (a : Act5) (hk : a.kind = 3) (c z : Int) (F : Nat → Nat)
    (hP : PCall 23 #[.pointer (some ⟨b, 0, none⟩),  .int .u32 (a.at_ : Nat), .slice a.sa a.L a.sc] w B b P D m c F false) (hR : RCall 24 #[.agg (r.v N n),  .int .u32 (a.at_ : Nat), .slice a.sa a.L a.sc] w B N n m.at r z F) :
    Calls Tryz.prog 8 #[.pointer (some ⟨b, 0, none⟩), .agg (r.v N n), .agg a.cells] w (StepOut w B b P D N n m r false) := by
  have hkd := kind_eq a
  rw [hk] at hkd
  have HI := hide hI
  have HP := hide hP
  have HR := hide hR
  have HO0 : Hid (∀ x, w.heap.size ≤ x → ¬ m.owns b P D x) := hide (fun x hx h => by have := hI.ram.owned h; omega)
  have HN := hide (fun W h => num_any c W h)
  clear hI hP hR

  go_enter Tryz.func8, Tryz.ntmps8
  go_upto_region 10 with (first | ((with_reducible refine bx_R w.heap.size r N n ?_ ?_ ?_); exact rfl; exact rfl; intro W hr hb hz0) | ((with_reducible refine bx_A (w.heap.size + 1) a.cells ?_ ?_ ?_); exact hz0.out; exact rfl; intro W hA hb' hz'; replace hr := hr.bl (hz0.out ▸ hb'); replace hb := hb.trans (hb'.mono (by omega)); replace hz0 := hz') | ((with_reducible refine al_R (w.heap.size + 1 + 1) ?_ ?_); exact hz0.out; intro W0 hq hb' hz'; replace hr := hr.bl (hz0.out ▸ hb'); replace hA := hA.bl (hz0.out ▸ hb'); replace hb := hb.trans (hb'.mono (by omega)); replace hz0 := hz'; have HB0 := hide hb; have HQ0 := hide hq.lt) | ((with_reducible refine la_0 (w.heap.size + 1) a hA ?_ ?_); exact rfl) | ((with_reducible refine la_1 (w.heap.size + 1) a hA ?_ ?_); exact rfl) | ((with_reducible refine la_4 (w.heap.size + 1) a hA ?_ ?_); exact rfl) | ((with_reducible refine ld_R w.heap.size _ N n hr ?_ ?_); exact rfl) | (go_at_call 23; refine (HP.out _ hb).mono ?_; rintro e W1 ⟨rfl, m', hM, hF⟩; replace hr := hr.kept hM.kept (HO0.out _ (by omega)); replace hA := hA.kept hM.kept (HO0.out _ (by omega)); replace hq := hq.kept hM.kept (HO0.out _ (by omega)); have hk1 := (Kept.of (own := m.owns b P D) HB0.out HI.out.base).trans hM.kept; have hR1 := HI.out.ref.same (fun x hx => hk1.other x (HI.out.ref.lt hx) (fun h => HI.out.off x hx (.inl h))); have hbB := hk1.below; have hsz := hk1.size; have HM := hide hM; have HF := hide hF; have HK1 := hide hk1; have HR1 := hide hR1; clear hM hF hk1 hR1) | (go_at_call 24; refine (HR.out _ hbB hsz HR1.out).mono ?_; rintro e W2 ⟨⟨r', rfl, hRf, hg2⟩, hx5⟩; replace hr := hr.bl hx5; replace hA := hA.bl hx5; have HQ1 := hide hq.lt; replace hq := hq.bl hx5; have HRf := hide hRf; have HG2 := hide hg2; have HB2 := hide hx5; have HB21 := hide hx5.size; obtain ⟨N3, hN3⟩ : ∃ k, W2.heap.size = k := ⟨_, rfl⟩; have HN3 := hide hN3; have HNQ : Hid (w.heap.size + 1 + 1 < N3) := hide (hN3 ▸ hq.lt); have HLt : Hid (∀ x, r'.owns x → x < N3) := hide (fun x hx => hN3 ▸ hRf.lt hx); clear hRf hg2 hx5 hN3) | ((with_reducible refine al_R N3 ?_ ?_); exact HN3.out; intro W3 hs hb3 hz3; replace hb3 := (HN3.out ▸ hb3 : Below W2.heap.size W2 W3); replace hr := hr.bl hb3; replace hq := hq.bl hb3; replace HRf := hide (HRf.out.bl hb3); replace HB2 := hide (HB2.out.trans (hb3.mono HB2.out.size))) | ((with_reducible refine st_R N3 _ r' N n hs ?_ ?_ ?_ ?_); exact rfl; exact rfl; exact rfl; intro W4 hnew ho4; replace hq := hq.only ho4 (by (have := HNQ.out; omega)); replace HRf := hide (HRf.out.same (fun x hx => ho4.row x (by (have := HLt.out x hx; omega)))); replace hs := hnew; have HB4 : Hid (Below W1.heap.size W1 W4) := hide (ho4.bel _ _ (by (have := HN3.out; have := HB21.out; omega)) HB2.out)))
  have hBB : Below B w W4 := hbB.trans (HB4.out.mono (Nat.le_trans HI.out.base hsz))
  have HH : Hid (HandleAt W4.drew) := hide (handle_bl HI.out.handle HI.out.low hBB.drew)
  have s0 : W4.cell? ⟨N3, 0, none⟩ = some (.slice (some ⟨r'.gB, 0, none⟩) N r'.cB) := hs.cell 0
  have s1 : W4.cell? ⟨N3, 1, none⟩ = some (.slice (some ⟨r'.gD, 0, none⟩) n r'.cD) := hs.cell 1
  have s2 : W4.cell? ⟨N3, 2, none⟩ = some (.int .i64 r'.wr) := hs.cell 2
  have HS4 := hide hs
  have HQ4 := hide hq
  clear hs hq hr hA hbB hBB
  go_region_with (first | (go_at_call 22; refine (HN.out _ HH.out).mono ?_; rintro e W5 ⟨rfl, hx5⟩; have HX5 : Hid (Below W4.heap.size W4 W5) := hide ((Below.refl _ W4).drew.trans hx5); have hs5 := HS4.out.bl HX5.out; have hq5 := HQ4.out.bl HX5.out; have u0 : W5.cell? ⟨N3, 0, none⟩ = some (.slice (some ⟨r'.gB, 0, none⟩) N r'.cB) := hs5.cell 0; have u1 : W5.cell? ⟨N3, 1, none⟩ = some (.slice (some ⟨r'.gD, 0, none⟩) n r'.cD) := hs5.cell 1; have u2 : W5.cell? ⟨N3, 2, none⟩ = some (.int .i64 r'.wr) := hs5.cell 2; have q0 : W5.cell? ⟨w.heap.size + 1 + 1, 0, none⟩ = some (.slice none 0 0) := hq5.cell 0; have q1 : W5.cell? ⟨w.heap.size + 1 + 1, 1, none⟩ = some (.slice none 0 0) := hq5.cell 1; have q2 : W5.cell? ⟨w.heap.size + 1 + 1, 2, none⟩ = some (.int .i64 0) := hq5.cell 2; have p0 := hq5.thaw 0; have p1 := hq5.thaw 1; have p2 := hq5.thaw 2; have HQ5 := hide hq5; clear hx5 hs5 hq5))
  all_goals
    go_simp
    go_wp2
    have he := step_end HI.out HB0.out HM.out HF.out (HB4.out.trans (HX5.out.mono HB4.out.size)) (HRf.out.bl HX5.out) HG2.out (by omega) HQ0.out HQ5.out (c == z)
    refine bodyPost_ret (results_cell_tmp_row Tryz.results8 _ _ (w.heap.size + 1 + 1) _ _ _ _ rfl he.2 Tryz.underlying31 rfl size_R) rfl ?_
    exact he.1
set_option maxRecDepth 100000 in
set_option maxHeartbeats 2000000 in
theorem step_write4 {B b P D N n : Nat} {m : Mem} {r : RP} (hI : StepIn w B b P D N n m r) (a : Act5) (hk : a.kind = 4) (c z : Int) (F : Nat → Nat)
    (hP : PCall 23 #[.pointer (some ⟨b, 0, none⟩),  .int .u32 (a.at_ : Nat), .slice a.sa a.L a.sc] w B b P D m c F false) (hR : RCall 24 #[.agg (r.v N n),  .int .u32 (a.at_ : Nat), .slice a.sa a.L a.sc] w B N n m.at r z F) :
    Calls Tryz.prog 8 #[.pointer (some ⟨b, 0, none⟩), .agg (r.v N n), .agg a.cells] w (StepOut w B b P D N n m r false) := by
  have hkd := kind_eq a
  rw [hk] at hkd
  have HI := hide hI
  have HP := hide hP
  have HR := hide hR
  have HO0 : Hid (∀ x, w.heap.size ≤ x → ¬ m.owns b P D x) := hide (fun x hx h => by have := hI.ram.owned h; omega)
  have HN := hide (fun W h => num_any c W h)
  clear hI hP hR

  go_enter Tryz.func8, Tryz.ntmps8
  go_upto_region 10 with (first | ((with_reducible refine bx_R w.heap.size r N n ?_ ?_ ?_); exact rfl; exact rfl; intro W hr hb hz0) | ((with_reducible refine bx_A (w.heap.size + 1) a.cells ?_ ?_ ?_); exact hz0.out; exact rfl; intro W hA hb' hz'; replace hr := hr.bl (hz0.out ▸ hb'); replace hb := hb.trans (hb'.mono (by omega)); replace hz0 := hz') | ((with_reducible refine al_R (w.heap.size + 1 + 1) ?_ ?_); exact hz0.out; intro W0 hq hb' hz'; replace hr := hr.bl (hz0.out ▸ hb'); replace hA := hA.bl (hz0.out ▸ hb'); replace hb := hb.trans (hb'.mono (by omega)); replace hz0 := hz'; have HB0 := hide hb; have HQ0 := hide hq.lt) | ((with_reducible refine la_0 (w.heap.size + 1) a hA ?_ ?_); exact rfl) | ((with_reducible refine la_1 (w.heap.size + 1) a hA ?_ ?_); exact rfl) | ((with_reducible refine la_4 (w.heap.size + 1) a hA ?_ ?_); exact rfl) | ((with_reducible refine ld_R w.heap.size _ N n hr ?_ ?_); exact rfl) | (go_at_call 23; refine (HP.out _ hb).mono ?_; rintro e W1 ⟨rfl, m', hM, hF⟩; replace hr := hr.kept hM.kept (HO0.out _ (by omega)); replace hA := hA.kept hM.kept (HO0.out _ (by omega)); replace hq := hq.kept hM.kept (HO0.out _ (by omega)); have hk1 := (Kept.of (own := m.owns b P D) HB0.out HI.out.base).trans hM.kept; have hR1 := HI.out.ref.same (fun x hx => hk1.other x (HI.out.ref.lt hx) (fun h => HI.out.off x hx (.inl h))); have hbB := hk1.below; have hsz := hk1.size; have HM := hide hM; have HF := hide hF; have HK1 := hide hk1; have HR1 := hide hR1; clear hM hF hk1 hR1) | (go_at_call 24; refine (HR.out _ hbB hsz HR1.out).mono ?_; rintro e W2 ⟨⟨r', rfl, hRf, hg2⟩, hx5⟩; replace hr := hr.bl hx5; replace hA := hA.bl hx5; have HQ1 := hide hq.lt; replace hq := hq.bl hx5; have HRf := hide hRf; have HG2 := hide hg2; have HB2 := hide hx5; have HB21 := hide hx5.size; obtain ⟨N3, hN3⟩ : ∃ k, W2.heap.size = k := ⟨_, rfl⟩; have HN3 := hide hN3; have HNQ : Hid (w.heap.size + 1 + 1 < N3) := hide (hN3 ▸ hq.lt); have HLt : Hid (∀ x, r'.owns x → x < N3) := hide (fun x hx => hN3 ▸ hRf.lt hx); clear hRf hg2 hx5 hN3) | ((with_reducible refine al_R N3 ?_ ?_); exact HN3.out; intro W3 hs hb3 hz3; replace hb3 := (HN3.out ▸ hb3 : Below W2.heap.size W2 W3); replace hr := hr.bl hb3; replace hq := hq.bl hb3; replace HRf := hide (HRf.out.bl hb3); replace HB2 := hide (HB2.out.trans (hb3.mono HB2.out.size))) | ((with_reducible refine st_R N3 _ r' N n hs ?_ ?_ ?_ ?_); exact rfl; exact rfl; exact rfl; intro W4 hnew ho4; replace hq := hq.only ho4 (by (have := HNQ.out; omega)); replace HRf := hide (HRf.out.same (fun x hx => ho4.row x (by (have := HLt.out x hx; omega)))); replace hs := hnew; have HB4 : Hid (Below W1.heap.size W1 W4) := hide (ho4.bel _ _ (by (have := HN3.out; have := HB21.out; omega)) HB2.out)))
  have hBB : Below B w W4 := hbB.trans (HB4.out.mono (Nat.le_trans HI.out.base hsz))
  have HH : Hid (HandleAt W4.drew) := hide (handle_bl HI.out.handle HI.out.low hBB.drew)
  have s0 : W4.cell? ⟨N3, 0, none⟩ = some (.slice (some ⟨r'.gB, 0, none⟩) N r'.cB) := hs.cell 0
  have s1 : W4.cell? ⟨N3, 1, none⟩ = some (.slice (some ⟨r'.gD, 0, none⟩) n r'.cD) := hs.cell 1
  have s2 : W4.cell? ⟨N3, 2, none⟩ = some (.int .i64 r'.wr) := hs.cell 2
  have HS4 := hide hs
  have HQ4 := hide hq
  clear hs hq hr hA hbB hBB
  go_region_with (first | (go_at_call 22; refine (HN.out _ HH.out).mono ?_; rintro e W5 ⟨rfl, hx5⟩; have HX5 : Hid (Below W4.heap.size W4 W5) := hide ((Below.refl _ W4).drew.trans hx5); have hs5 := HS4.out.bl HX5.out; have hq5 := HQ4.out.bl HX5.out; have u0 : W5.cell? ⟨N3, 0, none⟩ = some (.slice (some ⟨r'.gB, 0, none⟩) N r'.cB) := hs5.cell 0; have u1 : W5.cell? ⟨N3, 1, none⟩ = some (.slice (some ⟨r'.gD, 0, none⟩) n r'.cD) := hs5.cell 1; have u2 : W5.cell? ⟨N3, 2, none⟩ = some (.int .i64 r'.wr) := hs5.cell 2; have q0 : W5.cell? ⟨w.heap.size + 1 + 1, 0, none⟩ = some (.slice none 0 0) := hq5.cell 0; have q1 : W5.cell? ⟨w.heap.size + 1 + 1, 1, none⟩ = some (.slice none 0 0) := hq5.cell 1; have q2 : W5.cell? ⟨w.heap.size + 1 + 1, 2, none⟩ = some (.int .i64 0) := hq5.cell 2; have p0 := hq5.thaw 0; have p1 := hq5.thaw 1; have p2 := hq5.thaw 2; have HQ5 := hide hq5; clear hx5 hs5 hq5))
  all_goals
    go_simp
    go_wp2
    have he := step_end HI.out HB0.out HM.out HF.out (HB4.out.trans (HX5.out.mono HB4.out.size)) (HRf.out.bl HX5.out) HG2.out (by omega) HQ0.out HQ5.out (c == z)
    refine bodyPost_ret (results_cell_tmp_row Tryz.results8 _ _ (w.heap.size + 1 + 1) _ _ _ _ rfl he.2 Tryz.underlying31 rfl size_R) rfl ?_
    exact he.1
end Go.Proofs.YtficoenanfnijaaGreatDoor
