/-
  BusQueues, walked.
-/
import Derived.Test.YtcjfjkkkepjpmaaDoorBuGive
import Derived.Deep.RegionHeld3
namespace Go.Proofs.YtcjfjkkkepjpmaaDoor
open Go.RowKit
set_option linter.unusedVariables false

structure QuIn (w W : World) (a : Option Addr) (N cap : Nat) (p : Pst) (l : List Pst) : Prop where
  q : RowAt W w.heap.size #[.slice a N cap] 37
  p : RowAt W (w.heap.size + 1) #[.int .i64 p.dev, .int .u32 (p.at' : Nat), .int .i64 p.n, .int .u32 (p.v : Nat)] 39
  bel : Below w.heap.size w W
  rq : RQAt W a l
  ar : AreasAt W
  hd : HandleAt W
theorem QuIn.bl {w W W' : World} {a : Option Addr} {N cap : Nat} {p : Pst} {l : List Pst} (h : QuIn w W a N cap p l) (hb : Below W.heap.size W W') : QuIn w W' a N cap p l :=
  ⟨h.q.bl hb, h.p.bl hb, below_bl rfl h.bel hb, h.rq.bl hb, h.ar.bl hb, h.hd.below hb⟩

set_option maxHeartbeats 4000000 in
set_option maxRecDepth 100000 in
theorem queues_walk (a : Option Addr) (l : List Pst) (hl : l.length ≤ 9223372036854775807) (cap : Nat) (hcap : l.length ≤ cap) (p : Pst) (hp : p.Ok) (w : World) (hr : RQAt w a l) (hA : AreasAt w) (hH : HandleAt w) :
    Calls Tryd.prog 5 #[.agg #[.slice a l.length cap], .agg p.cells] w fun e w' => e = .returned (.bool true) ∧ Below w.heap.size w w' := by
  have HA := hide hA
  have HH := hide hH
  have HR := hide hr
  have HP := hide hp
  by_cases h2 : l.length ≤ 200
  · have HGv : Hid (∀ W, RQAt W a l → Calls Tryd.prog 14 #[.agg #[.slice a l.length cap]] W fun e w' => ∃ a' c, e = .returned (.agg #[.slice a' l.length c]) ∧ l.length ≤ c ∧ QAt w' a' l ∧ Below W.heap.size W w') := hide (fun W h => give_any a l h2 cap hcap W h)
    have HPu : Hid (∀ W ax cx, l.length ≤ cx → QAt W ax l → AreasAt W → _) := hide (fun W ax cx h3 h4 h5 => push_any ax l (by omega) cx p hp W h4 h5 h3)
    have HRPu : Hid (∀ W, RQAt W a l → _) := hide (fun W h => rpush_any a l (by omega) cap p hp W h hcap)
    have HPo : Hid (∀ W ax cx, l.length ≤ cx → QAt W ax l → AreasAt W → _) := hide (fun W ax cx h3 h4 h5 => pop_any ax l (by omega) cx W h4 h5 h3)
    have HRPo : Hid (∀ W, RQAt W a l → _) := hide (fun W h => rpop_any a l (by omega) cap W h hcap)
    have HCk : Hid (∀ W ax cx, QAt W ax l → AreasAt W → _) := hide (fun W ax cx h4 h5 => check_any ax l (by omega) cx W h4 h5)
    have HRCk : Hid (∀ W, RQAt W a l → _) := hide (fun W h => rcheck_any a l hl cap W h)
    have HS0 : Hid (∀ W ax cx, l.length ≤ cx → QAt W ax l → RQAt W a l → _) := hide (fun W ax cx h3 h4 h5 => same_eq ax a l hl cx cap h3 hcap W h4 h5)
    have hpl : (pushL l p).length ≤ 9223372036854775807 := by
      unfold pushL
      split
      · simp; omega
      · simp
    have hql : (popL l).length ≤ 9223372036854775807 := by
      unfold popL
      split
      · simp; omega
      · simp
    have HS1 : Hid (∀ W a1 a2 c1 c2, (pushL l p).length ≤ c1 → (pushL l p).length ≤ c2 → QAt W a1 (pushL l p) → RQAt W a2 (pushL l p) → _) := hide (fun W a1 a2 c1 c2 h3 h4 h5 h6 => same_eq a1 a2 (pushL l p) hpl c1 c2 h3 h4 W h5 h6)
    have HS2 : Hid (∀ W a1 a2 c1 c2, (popL l).length ≤ c1 → (popL l).length ≤ c2 → QAt W a1 (popL l) → RQAt W a2 (popL l) → _) := hide (fun W a1 a2 c1 c2 h3 h4 h5 h6 => same_eq a1 a2 (popL l) hql c1 c2 h3 h4 W h5 h6)
    have t1 : ¬ 200 < (l.length : Int) := by omega
    clear hpl hql hA hH hr hp hl
    generalize (if checkQ l = true then 0 else 1 : Nat) = kC at HCk HRCk
    generalize pushL l p = L1 at *
    generalize popL l = L2 at *
    generalize pushE l p = k1 at *
    generalize popE l = k2 at *
    generalize popP l = p2 at *
    have HNC := hide (num_all kC)
    have HN1 := hide (num_all k1)
    have HN2 := hide (num_all k2)
    generalize errB kC = ebC at *
    generalize errB k1 = eb1 at *
    generalize errB k2 = eb2 at *
    obtain ⟨M1, hM1⟩ : ∃ M1, L1.length = M1 := ⟨_, rfl⟩
    obtain ⟨M2, hM2⟩ : ∃ M2, L2.length = M2 := ⟨_, rfl⟩
    obtain ⟨N, hN⟩ : ∃ N, l.length = N := ⟨_, rfl⟩
    simp only [hM1, hM2, hN] at *
    have h0 : Hid (QuIn w ((w.alloc (.cells #[.slice a N cap] 37)).alloc (.cells #[.int .i64 p.dev, .int .u32 (p.at' : Nat), .int .i64 p.n, .int .u32 (p.v : Nat)] 39)) a N cap p l) := hide ⟨(RowAt.new w w.heap.size _ _ rfl).al _, RowAt.new _ _ _ _ (by simp), below_two _ _ _, HR.out.bl (below_two _ _ _), HA.out.bl (below_two _ _ _), HH.out.below (below_two _ _ _)⟩
    clear hN hM1 hM2 HR HA HH HP
    obtain ⟨dev, pa, n, v⟩ := p
    obtain ⟨dev2, pa2, n2, v2⟩ := p2
    simp only [Pst.cells] at HPo HRPo HPu HRPu
    show Calls Tryd.prog 5 #[.agg #[.slice a N cap], .agg #[.int .i64 dev, .int .u32 (pa : Nat), .int .i64 n, .int .u32 (v : Nat)]] w _
    go_enter Tryd.func5, Tryd.ntmps5
    go_wp2_with (fail)
    refine (HGv.out _ h0.out.rq).mono ?_
    rintro e W1 ⟨ax, cx, rfl, hcx, hQx, hb⟩
    have HI := hide (h0.out.bl hb)
    have HX := hide hQx
    clear h0 hb hQx HGv
    have HI' := hide (fun o => HI.out.bl (below_one W1 o))
    have d0 : ∀ o, (W1.alloc o).cell? ⟨w.heap.size, 0, none⟩ = some (.slice a N cap) := fun o => (HI'.out o).q.cell 0
    have c0 : ∀ o, (W1.alloc o).cell? ⟨w.heap.size + 1, 0, none⟩ = some (.int .i64 dev) := fun o => (HI'.out o).p.cell 0
    have c1 : ∀ o, (W1.alloc o).cell? ⟨w.heap.size + 1, 1, none⟩ = some (.int .u32 (pa : Nat)) := fun o => (HI'.out o).p.cell 1
    have c2 : ∀ o, (W1.alloc o).cell? ⟨w.heap.size + 1, 2, none⟩ = some (.int .i64 n) := fun o => (HI'.out o).p.cell 2
    have c3 : ∀ o, (W1.alloc o).cell? ⟨w.heap.size + 1, 3, none⟩ = some (.int .u32 (v : Nat)) := fun o => (HI'.out o).p.cell 3
    go_wp2_with (fail)
    clear d0 c0 c1 c2 c3
    obtain ⟨X1, hX1⟩ : ∃ X1, W1.alloc (.cells #[.slice ax N cx] 42) = X1 := ⟨_, rfl⟩
    obtain ⟨b1, hb1⟩ : ∃ b1, W1.heap.size = b1 := ⟨_, rfl⟩
    have RX := hide (hX1 ▸ RowAt.new W1 b1 #[.slice ax N cx] 42 hb1)
    replace HI := hide (hX1 ▸ HI.out.bl (below_one W1 (.cells #[.slice ax N cx] 42)))
    replace HX := hide (hX1 ▸ HX.out.bl (below_one W1 (.cells #[.slice ax N cx] 42)))
    rw [hX1, hb1]
    clear hX1 hb1 HI'
    refine (HPu.out _ ax cx hcx HX.out HI.out.ar).mono ?_
    rintro e W2 ⟨aa, ca, rfl, hca, hQa, hb, -⟩
    have HI2 := hide (HI.out.bl hb)
    have HX2 := hide (HX.out.bl hb)
    have RX2 := hide (RX.out.bl hb)
    have HQA := hide hQa
    clear hb hQa HI HX RX HPu
    have HI' := hide (fun o => HI2.out.bl (below_one W2 o))
    have d0 : W2.cell? ⟨w.heap.size, 0, none⟩ = some (.slice a N cap) := HI2.out.q.cell 0
    have c0 : W2.cell? ⟨w.heap.size + 1, 0, none⟩ = some (.int .i64 dev) := HI2.out.p.cell 0
    have c1 : W2.cell? ⟨w.heap.size + 1, 1, none⟩ = some (.int .u32 (pa : Nat)) := HI2.out.p.cell 1
    have c2 : W2.cell? ⟨w.heap.size + 1, 2, none⟩ = some (.int .i64 n) := HI2.out.p.cell 2
    have c3 : W2.cell? ⟨w.heap.size + 1, 3, none⟩ = some (.int .u32 (v : Nat)) := HI2.out.p.cell 3
    have e0 : ∀ o, (W2.alloc o).cell? ⟨w.heap.size, 0, none⟩ = some (.slice a N cap) := fun o => (HI'.out o).q.cell 0
    have f0 : ∀ o, (W2.alloc o).cell? ⟨w.heap.size + 1, 0, none⟩ = some (.int .i64 dev) := fun o => (HI'.out o).p.cell 0
    have f1 : ∀ o, (W2.alloc o).cell? ⟨w.heap.size + 1, 1, none⟩ = some (.int .u32 (pa : Nat)) := fun o => (HI'.out o).p.cell 1
    have f2 : ∀ o, (W2.alloc o).cell? ⟨w.heap.size + 1, 2, none⟩ = some (.int .i64 n) := fun o => (HI'.out o).p.cell 2
    have f3 : ∀ o, (W2.alloc o).cell? ⟨w.heap.size + 1, 3, none⟩ = some (.int .u32 (v : Nat)) := fun o => (HI'.out o).p.cell 3
    go_wp2_with (fail)
    clear d0 c0 c1 c2 c3 e0 f0 f1 f2 f3 HI'
    obtain ⟨X2, hX2⟩ : ∃ X, W2.alloc (.cells #[.slice aa M1 ca] 42) = X := ⟨_, rfl⟩
    obtain ⟨b2, hb2⟩ : ∃ b, W2.heap.size = b := ⟨_, rfl⟩
    have RA := hide (hX2 ▸ RowAt.new W2 b2 #[.slice aa M1 ca] 42 hb2)
    replace HI2 := hide (hX2 ▸ HI2.out.bl (below_one W2 (.cells #[.slice aa M1 ca] 42)))
    replace HX2 := hide (hX2 ▸ HX2.out.bl (below_one W2 (.cells #[.slice aa M1 ca] 42)))
    replace RX2 := hide (hX2 ▸ RX2.out.bl (below_one W2 (.cells #[.slice aa M1 ca] 42)))
    replace HQA := hide (hX2 ▸ HQA.out.bl (below_one W2 (.cells #[.slice aa M1 ca] 42)))
    rw [hX2, hb2]
    clear hX2 hb2
    refine (HRPu.out _ HI2.out.rq).mono ?_
    rintro e W3 ⟨ab, cb, rfl, hcb, hQ, hb, -⟩
    replace HI2 := hide (HI2.out.bl hb)
    replace HX2 := hide (HX2.out.bl hb)
    replace RX2 := hide (RX2.out.bl hb)
    replace HQA := hide (HQA.out.bl hb)
    replace RA := hide (RA.out.bl hb)
    have HQB := hide hQ
    clear hb hQ HRPu
    have g0 : ∀ o, (W3.alloc o).cell? ⟨b1, 0, none⟩ = some (.slice ax N cx) := fun o => (RX2.out.al o).cell 0
    go_wp2_with (fail)
    clear g0
    obtain ⟨X3, hX3⟩ : ∃ X, W3.alloc (.cells #[.slice ab M1 cb] 37) = X := ⟨_, rfl⟩
    obtain ⟨b3, hb3⟩ : ∃ b, W3.heap.size = b := ⟨_, rfl⟩
    have RB := hide (hX3 ▸ RowAt.new W3 b3 #[.slice ab M1 cb] 37 hb3)
    replace HI2 := hide (hX3 ▸ HI2.out.bl (below_one W3 (.cells #[.slice ab M1 cb] 37)))
    replace HX2 := hide (hX3 ▸ HX2.out.bl (below_one W3 (.cells #[.slice ab M1 cb] 37)))
    replace RX2 := hide (hX3 ▸ RX2.out.bl (below_one W3 (.cells #[.slice ab M1 cb] 37)))
    replace HQA := hide (hX3 ▸ HQA.out.bl (below_one W3 (.cells #[.slice ab M1 cb] 37)))
    replace RA := hide (hX3 ▸ RA.out.bl (below_one W3 (.cells #[.slice ab M1 cb] 37)))
    replace HQB := hide (hX3 ▸ HQB.out.bl (below_one W3 (.cells #[.slice ab M1 cb] 37)))
    rw [hX3, hb3]
    clear hX3 hb3
    refine (HPo.out _ ax cx hcx HX2.out HI2.out.ar).mono ?_
    rintro e W4 ⟨ac, cc, rfl, hcc, hQ, hb, -⟩
    replace HI2 := hide (HI2.out.bl hb)
    replace HX2 := hide (HX2.out.bl hb)
    replace RX2 := hide (RX2.out.bl hb)
    replace HQA := hide (HQA.out.bl hb)
    replace RA := hide (RA.out.bl hb)
    replace HQB := hide (HQB.out.bl hb)
    replace RB := hide (RB.out.bl hb)
    have HQC := hide hQ
    clear hb hQ HPo
    have g0 : ∀ o o', ((W4.alloc o).alloc o').cell? ⟨w.heap.size, 0, none⟩ = some (.slice a N cap) := fun o o' => ((HI2.out.q.al o).al o').cell 0
    go_wp2_with (fail)
    clear g0
    obtain ⟨X4, hX4⟩ : ∃ X, (W4.alloc (.cells #[.slice ac M2 cc] 42)).alloc (.cells #[.int .i64 dev2, .int .u32 (pa2 : Nat), .int .i64 n2, .int .u32 (v2 : Nat)] 46) = X := ⟨_, rfl⟩
    obtain ⟨b4, hb4⟩ : ∃ b, W4.heap.size = b := ⟨_, rfl⟩
    have RC := hide (hX4 ▸ (RowAt.new W4 b4 #[.slice ac M2 cc] 42 hb4).al (.cells #[.int .i64 dev2, .int .u32 (pa2 : Nat), .int .i64 n2, .int .u32 (v2 : Nat)] 46))
    have RS := hide (hX4 ▸ RowAt.new (W4.alloc (.cells #[.slice ac M2 cc] 42)) (b4 + 1) #[.int .i64 dev2, .int .u32 (pa2 : Nat), .int .i64 n2, .int .u32 (v2 : Nat)] 46 (by simp [hb4]))
    replace HI2 := hide (hX4 ▸ HI2.out.bl (below_two W4 (.cells #[.slice ac M2 cc] 42) (.cells #[.int .i64 dev2, .int .u32 (pa2 : Nat), .int .i64 n2, .int .u32 (v2 : Nat)] 46)))
    replace HX2 := hide (hX4 ▸ HX2.out.bl (below_two W4 (.cells #[.slice ac M2 cc] 42) (.cells #[.int .i64 dev2, .int .u32 (pa2 : Nat), .int .i64 n2, .int .u32 (v2 : Nat)] 46)))
    replace RX2 := hide (hX4 ▸ RX2.out.bl (below_two W4 (.cells #[.slice ac M2 cc] 42) (.cells #[.int .i64 dev2, .int .u32 (pa2 : Nat), .int .i64 n2, .int .u32 (v2 : Nat)] 46)))
    replace HQA := hide (hX4 ▸ HQA.out.bl (below_two W4 (.cells #[.slice ac M2 cc] 42) (.cells #[.int .i64 dev2, .int .u32 (pa2 : Nat), .int .i64 n2, .int .u32 (v2 : Nat)] 46)))
    replace RA := hide (hX4 ▸ RA.out.bl (below_two W4 (.cells #[.slice ac M2 cc] 42) (.cells #[.int .i64 dev2, .int .u32 (pa2 : Nat), .int .i64 n2, .int .u32 (v2 : Nat)] 46)))
    replace HQB := hide (hX4 ▸ HQB.out.bl (below_two W4 (.cells #[.slice ac M2 cc] 42) (.cells #[.int .i64 dev2, .int .u32 (pa2 : Nat), .int .i64 n2, .int .u32 (v2 : Nat)] 46)))
    replace RB := hide (hX4 ▸ RB.out.bl (below_two W4 (.cells #[.slice ac M2 cc] 42) (.cells #[.int .i64 dev2, .int .u32 (pa2 : Nat), .int .i64 n2, .int .u32 (v2 : Nat)] 46)))
    replace HQC := hide (hX4 ▸ HQC.out.bl (below_two W4 (.cells #[.slice ac M2 cc] 42) (.cells #[.int .i64 dev2, .int .u32 (pa2 : Nat), .int .i64 n2, .int .u32 (v2 : Nat)] 46)))
    rw [hX4, hb4]
    clear hX4 hb4
    refine (HRPo.out _ HI2.out.rq).mono ?_
    rintro e W5 ⟨ad, cd, rfl, hcd, hQ, hb⟩
    replace HI2 := hide (HI2.out.bl hb)
    replace HX2 := hide (HX2.out.bl hb)
    replace RX2 := hide (RX2.out.bl hb)
    replace HQA := hide (HQA.out.bl hb)
    replace RA := hide (RA.out.bl hb)
    replace HQB := hide (HQB.out.bl hb)
    replace RB := hide (RB.out.bl hb)
    replace HQC := hide (HQC.out.bl hb)
    replace RC := hide (RC.out.bl hb)
    replace RS := hide (RS.out.bl hb)
    have HQD := hide hQ
    clear hb hQ HRPo
    have g0 : ∀ o o', ((W5.alloc o).alloc o').cell? ⟨b2, 0, none⟩ = some (.slice aa M1 ca) := fun o o' => ((RA.out.al o).al o').cell 0
    have g1 : ∀ o o', ((W5.alloc o).alloc o').cell? ⟨b3, 0, none⟩ = some (.slice ab M1 cb) := fun o o' => ((RB.out.al o).al o').cell 0
    go_wp2_with (fail)
    clear g0 g1
    obtain ⟨X5, hX5⟩ : ∃ X, (W5.alloc (.cells #[.slice ad M2 cd] 37)).alloc (.cells #[.int .i64 dev2, .int .u32 (pa2 : Nat), .int .i64 n2, .int .u32 (v2 : Nat)] 39) = X := ⟨_, rfl⟩
    obtain ⟨b5, hb5⟩ : ∃ b, W5.heap.size = b := ⟨_, rfl⟩
    have RD := hide (hX5 ▸ (RowAt.new W5 b5 #[.slice ad M2 cd] 37 hb5).al (.cells #[.int .i64 dev2, .int .u32 (pa2 : Nat), .int .i64 n2, .int .u32 (v2 : Nat)] 39))
    have RT := hide (hX5 ▸ RowAt.new (W5.alloc (.cells #[.slice ad M2 cd] 37)) (b5 + 1) #[.int .i64 dev2, .int .u32 (pa2 : Nat), .int .i64 n2, .int .u32 (v2 : Nat)] 39 (by simp [hb5]))
    replace HI2 := hide (hX5 ▸ HI2.out.bl (below_two W5 (.cells #[.slice ad M2 cd] 37) (.cells #[.int .i64 dev2, .int .u32 (pa2 : Nat), .int .i64 n2, .int .u32 (v2 : Nat)] 39)))
    replace HX2 := hide (hX5 ▸ HX2.out.bl (below_two W5 (.cells #[.slice ad M2 cd] 37) (.cells #[.int .i64 dev2, .int .u32 (pa2 : Nat), .int .i64 n2, .int .u32 (v2 : Nat)] 39)))
    replace RX2 := hide (hX5 ▸ RX2.out.bl (below_two W5 (.cells #[.slice ad M2 cd] 37) (.cells #[.int .i64 dev2, .int .u32 (pa2 : Nat), .int .i64 n2, .int .u32 (v2 : Nat)] 39)))
    replace HQA := hide (hX5 ▸ HQA.out.bl (below_two W5 (.cells #[.slice ad M2 cd] 37) (.cells #[.int .i64 dev2, .int .u32 (pa2 : Nat), .int .i64 n2, .int .u32 (v2 : Nat)] 39)))
    replace RA := hide (hX5 ▸ RA.out.bl (below_two W5 (.cells #[.slice ad M2 cd] 37) (.cells #[.int .i64 dev2, .int .u32 (pa2 : Nat), .int .i64 n2, .int .u32 (v2 : Nat)] 39)))
    replace HQB := hide (hX5 ▸ HQB.out.bl (below_two W5 (.cells #[.slice ad M2 cd] 37) (.cells #[.int .i64 dev2, .int .u32 (pa2 : Nat), .int .i64 n2, .int .u32 (v2 : Nat)] 39)))
    replace RB := hide (hX5 ▸ RB.out.bl (below_two W5 (.cells #[.slice ad M2 cd] 37) (.cells #[.int .i64 dev2, .int .u32 (pa2 : Nat), .int .i64 n2, .int .u32 (v2 : Nat)] 39)))
    replace HQC := hide (hX5 ▸ HQC.out.bl (below_two W5 (.cells #[.slice ad M2 cd] 37) (.cells #[.int .i64 dev2, .int .u32 (pa2 : Nat), .int .i64 n2, .int .u32 (v2 : Nat)] 39)))
    replace RC := hide (hX5 ▸ RC.out.bl (below_two W5 (.cells #[.slice ad M2 cd] 37) (.cells #[.int .i64 dev2, .int .u32 (pa2 : Nat), .int .i64 n2, .int .u32 (v2 : Nat)] 39)))
    replace RS := hide (hX5 ▸ RS.out.bl (below_two W5 (.cells #[.slice ad M2 cd] 37) (.cells #[.int .i64 dev2, .int .u32 (pa2 : Nat), .int .i64 n2, .int .u32 (v2 : Nat)] 39)))
    replace HQD := hide (hX5 ▸ HQD.out.bl (below_two W5 (.cells #[.slice ad M2 cd] 37) (.cells #[.int .i64 dev2, .int .u32 (pa2 : Nat), .int .i64 n2, .int .u32 (v2 : Nat)] 39)))
    rw [hX5, hb5]
    clear hX5 hb5
    have HK : Hid (∀ w', Below X5.heap.size X5 w' → w'.cell? ⟨w.heap.size, 0, none⟩ = some (.slice a N cap) ∧ w'.cell? ⟨b1, 0, none⟩ = some (.slice ax N cx) ∧ w'.cell? ⟨b2, 0, none⟩ = some (.slice aa M1 ca) ∧ w'.cell? ⟨b3, 0, none⟩ = some (.slice ab M1 cb) ∧ w'.cell? ⟨b4, 0, none⟩ = some (.slice ac M2 cc) ∧ w'.cell? ⟨b5, 0, none⟩ = some (.slice ad M2 cd) ∧ w'.cell? ⟨b4 + 1, 0, none⟩ = some (.int .i64 dev2) ∧ w'.cell? ⟨b4 + 1, 1, none⟩ = some (.int .u32 (pa2 : Nat)) ∧ w'.cell? ⟨b4 + 1, 2, none⟩ = some (.int .i64 n2) ∧ w'.cell? ⟨b4 + 1, 3, none⟩ = some (.int .u32 (v2 : Nat)) ∧ w'.cell? ⟨b5 + 1, 0, none⟩ = some (.int .i64 dev2) ∧ w'.cell? ⟨b5 + 1, 1, none⟩ = some (.int .u32 (pa2 : Nat)) ∧ w'.cell? ⟨b5 + 1, 2, none⟩ = some (.int .i64 n2) ∧ w'.cell? ⟨b5 + 1, 3, none⟩ = some (.int .u32 (v2 : Nat)) ∧ Below X5.heap.size X5 w') := hide (fun w' hb => ⟨(HI2.out.q.bl hb).cell 0, (RX2.out.bl hb).cell 0, (RA.out.bl hb).cell 0, (RB.out.bl hb).cell 0, (RC.out.bl hb).cell 0, (RD.out.bl hb).cell 0, (RS.out.bl hb).cell 0, (RS.out.bl hb).cell 1, (RS.out.bl hb).cell 2, (RS.out.bl hb).cell 3, (RT.out.bl hb).cell 0, (RT.out.bl hb).cell 1, (RT.out.bl hb).cell 2, (RT.out.bl hb).cell 3, hb⟩)
    have L1' : Hid (∀ W, Below X5.heap.size X5 W → Calls Tryd.prog 19 #[.agg #[.slice aa M1 ca], .agg #[.slice ab M1 cb]] W fun e w' => e = .returned (.bool true) ∧ Below X5.heap.size X5 w') := hide (fun W h => (HS1.out W aa ab ca cb hca hcb (HQA.out.bl h) (HQB.out.bl h)).mono fun e w' ⟨h1, h2⟩ => ⟨h1, below_bl rfl h h2⟩)
    have L2' : Hid (∀ W, Below X5.heap.size X5 W → Calls Tryd.prog 19 #[.agg #[.slice ac M2 cc], .agg #[.slice ad M2 cd]] W fun e w' => e = .returned (.bool true) ∧ Below X5.heap.size X5 w') := hide (fun W h => (HS2.out W ac ad cc cd hcc hcd (HQC.out.bl h) (HQD.out.bl h)).mono fun e w' ⟨h1, h2⟩ => ⟨h1, below_bl rfl h h2⟩)
    have L0' : Hid (∀ W, Below X5.heap.size X5 W → Calls Tryd.prog 19 #[.agg #[.slice ax N cx], .agg #[.slice a N cap]] W fun e w' => e = .returned (.bool true) ∧ Below X5.heap.size X5 w') := hide (fun W h => (HS0.out W ax cx hcx (HX2.out.bl h) (HI2.out.rq.bl h)).mono fun e w' ⟨h1, h2⟩ => ⟨h1, below_bl rfl h h2⟩)
    have N1' : Hid (∀ W, Below X5.heap.size X5 W → Calls Tryd.prog 10 #[eb1] W fun e w' => e = .returned (.int .i64 (k1 : Nat)) ∧ Below X5.heap.size X5 w') := hide (fun W h => (HN1.out W (HI2.out.hd.below h)).mono fun e w' ⟨h1, h2⟩ => ⟨h1, below_bl rfl h h2⟩)
    have N2' : Hid (∀ W, Below X5.heap.size X5 W → Calls Tryd.prog 10 #[eb2] W fun e w' => e = .returned (.int .i64 (k2 : Nat)) ∧ Below X5.heap.size X5 w') := hide (fun W h => (HN2.out W (HI2.out.hd.below h)).mono fun e w' ⟨h1, h2⟩ => ⟨h1, below_bl rfl h h2⟩)
    have NC' : Hid (∀ W, Below X5.heap.size X5 W → Calls Tryd.prog 10 #[ebC] W fun e w' => e = .returned (.int .i64 (kC : Nat)) ∧ Below X5.heap.size X5 w') := hide (fun W h => (HNC.out W (HI2.out.hd.below h)).mono fun e w' ⟨h1, h2⟩ => ⟨h1, below_bl rfl h h2⟩)
    have C1' : Hid (∀ W, Below X5.heap.size X5 W → Calls Tryd.prog 20 #[.agg #[.slice ax N cx]] W fun e w' => e = .returned ebC ∧ Below X5.heap.size X5 w') := hide (fun W h => (HCk.out W ax cx (HX2.out.bl h) (HI2.out.ar.bl h)).mono fun e w' ⟨h1, h2⟩ => ⟨h1, below_bl rfl h h2⟩)
    have C2' : Hid (∀ W, Below X5.heap.size X5 W → Calls Tryd.prog 21 #[.agg #[.slice a N cap]] W fun e w' => e = .returned (.int .i64 (kC : Nat)) ∧ Below X5.heap.size X5 w') := hide (fun W h => (HRCk.out W (HI2.out.rq.bl h)).mono fun e w' ⟨h1, h2⟩ => ⟨h1, below_bl rfl h h2⟩)
    have S1' : Hid (∀ W, Below X5.heap.size X5 W → Calls Tryd.prog 11 #[] W fun e w' => e = .returned (.bool true) ∧ Below X5.heap.size X5 w') := hide (fun W h => (sure_any W (HI2.out.ar.bl h) (HI2.out.hd.below h)).mono fun e w' ⟨h1, h2⟩ => ⟨h1, below_bl rfl h h2⟩)
    have HB := hide HI2.out.bel
    clear HS0 HS1 HS2 HNC HN1 HN2 HCk HRCk HI2 HX2 RX2 HQA RA HQB RB HQC RC RS HQD RD RT
    have q' := HK.out X5 (Below.refl _ _)
    obtain ⟨q0, q1, q2, q3, q4, q5, q6, q7, q8, q9, q10, q11, q12, q13, q14⟩ := q'
    go_region_held3 (fun w' => w'.cell? ⟨w.heap.size, 0, none⟩ = some (.slice a N cap) ∧ w'.cell? ⟨b1, 0, none⟩ = some (.slice ax N cx) ∧ w'.cell? ⟨b2, 0, none⟩ = some (.slice aa M1 ca) ∧ w'.cell? ⟨b3, 0, none⟩ = some (.slice ab M1 cb) ∧ w'.cell? ⟨b4, 0, none⟩ = some (.slice ac M2 cc) ∧ w'.cell? ⟨b5, 0, none⟩ = some (.slice ad M2 cd) ∧ w'.cell? ⟨b4 + 1, 0, none⟩ = some (.int .i64 dev2) ∧ w'.cell? ⟨b4 + 1, 1, none⟩ = some (.int .u32 (pa2 : Nat)) ∧ w'.cell? ⟨b4 + 1, 2, none⟩ = some (.int .i64 n2) ∧ w'.cell? ⟨b4 + 1, 3, none⟩ = some (.int .u32 (v2 : Nat)) ∧ w'.cell? ⟨b5 + 1, 0, none⟩ = some (.int .i64 dev2) ∧ w'.cell? ⟨b5 + 1, 1, none⟩ = some (.int .u32 (pa2 : Nat)) ∧ w'.cell? ⟨b5 + 1, 2, none⟩ = some (.int .i64 n2) ∧ w'.cell? ⟨b5 + 1, 3, none⟩ = some (.int .u32 (v2 : Nat)) ∧ Below X5.heap.size X5 w') (exact HK.out _ (by first | assumption | exact (Below.refl _ _).drew | exact Below.refl _ _))
      (first
        | (go_at_call 19; with_reducible refine (L1'.out _ ?hbel).mono ?_; (case hbel => first | assumption | exact (Below.refl _ _).drew | exact Below.refl _ _); rintro e W9 ⟨rfl, hB⟩)
        | (go_at_call 19; with_reducible refine (L2'.out _ ?hbel).mono ?_; (case hbel => first | assumption | exact (Below.refl _ _).drew | exact Below.refl _ _); rintro e W9 ⟨rfl, hB⟩)
        | (go_at_call 19; with_reducible refine (L0'.out _ ?hbel).mono ?_; (case hbel => first | assumption | exact (Below.refl _ _).drew | exact Below.refl _ _); rintro e W9 ⟨rfl, hB⟩)
        | (go_at_call 10; with_reducible refine (N1'.out _ ?hbel).mono ?_; (case hbel => first | assumption | exact (Below.refl _ _).drew | exact Below.refl _ _); rintro e W9 ⟨rfl, hB⟩)
        | (go_at_call 10; with_reducible refine (N2'.out _ ?hbel).mono ?_; (case hbel => first | assumption | exact (Below.refl _ _).drew | exact Below.refl _ _); rintro e W9 ⟨rfl, hB⟩)
        | (go_at_call 10; with_reducible refine (NC'.out _ ?hbel).mono ?_; (case hbel => first | assumption | exact (Below.refl _ _).drew | exact Below.refl _ _); rintro e W9 ⟨rfl, hB⟩)
        | (go_at_call 20; with_reducible refine (C1'.out _ ?hbel).mono ?_; (case hbel => first | assumption | exact (Below.refl _ _).drew | exact Below.refl _ _); rintro e W9 ⟨rfl, hB⟩)
        | (go_at_call 21; with_reducible refine (C2'.out _ ?hbel).mono ?_; (case hbel => first | assumption | exact (Below.refl _ _).drew | exact Below.refl _ _); rintro e W9 ⟨rfl, hB⟩)
        | (go_at_call 11; with_reducible refine (S1'.out _ ?hbel).mono ?_; (case hbel => first | assumption | exact (Below.refl _ _).drew | exact Below.refl _ _); rintro e W9 ⟨rfl, hB⟩))
    all_goals
      go_wp2
      go_ret
      exact ⟨rfl, below_bl rfl HB.out (by assumption)⟩
  · obtain ⟨dev, pa, n, v⟩ := p
    have t1 : 200 < (l.length : Int) := by omega
    generalize l.length = N at *
    clear hA hH hr hp HR
    show Calls Tryd.prog 5 #[.agg #[.slice a N cap], .agg #[.int .i64 dev, .int .u32 (pa : Nat), .int .i64 n, .int .u32 (v : Nat)]] w _
    go_enter Tryd.func5, Tryd.ntmps5
    go_wp2_with (go_at_call 11; refine (sure_any _ (HA.out.bl (below_two _ _ _)) (HH.out.below (below_two _ _ _))).mono ?_; rintro e w9 ⟨rfl, hx9⟩; have HB9 := hide (below_bl rfl (below_two _ _ _) hx9); clear hx9)
    go_ret
    exact ⟨rfl, HB9.out⟩
end Go.Proofs.YtcjfjkkkepjpmaaDoor
