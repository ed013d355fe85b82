/-
  What the document's may and put answer.
-/
import Derived.Test.YthopfecjnbfnmaaDoorUaRow
namespace Go.Proofs.YthopfecjnbfnmaaDoor
open Go.RowKit
set_option linter.unusedVariables false

attribute [local go_sem] F.at0 F.at1 F.at2 F.at3 F.at4 F.at5 F.at6 F.at7 F.at8 F.at9 F.at10 F.at11 F.at12 F.at13 F.at14 F.at15 F.at16
set_option maxHeartbeats 1000000 in
theorem rmay_lo (f : F) (h : f.n < 0) (w : World) :
    Calls Tryd.prog 21 #[.agg f.cells] w fun e w' => e = .returned (.bool (mayF f)) ∧ Below w.heap.size w w' := by
  have HV : mayF f = false := by unfold mayF; rw [decide_eq_false (show ¬ 0 ≤ f.n by omega)]; simp
  rw [HV]; clear HV
  have t1 : f.n < 0 := h
  clear h
  go_enter Tryd.func21, Tryd.ntmps21
  go_wp2_with (first | ((with_reducible refine bx_fr w.heap.size f ?_ ?_ ?_); exact rfl; exact rfl; intro W hr hb hz; have fx := hr.cell))
  go_ret
  exact ⟨rfl, hb⟩

set_option maxHeartbeats 1000000 in
theorem rmay_hi (f : F) (h : 16 < f.n) (w : World) :
    Calls Tryd.prog 21 #[.agg f.cells] w fun e w' => e = .returned (.bool (mayF f)) ∧ Below w.heap.size w w' := by
  have HV : mayF f = false := by unfold mayF; rw [decide_eq_false (show ¬ f.n ≤ 16 by omega)]; simp
  rw [HV]; clear HV
  have t1 : decide (f.n < 0) = false := by simp; omega
  have t2 : f.n > 16 := by omega
  clear h
  go_enter Tryd.func21, Tryd.ntmps21
  go_wp2_with (first | ((with_reducible refine bx_fr w.heap.size f ?_ ?_ ?_); exact rfl; exact rfl; intro W hr hb hz; have fx := hr.cell))
  go_ret
  exact ⟨rfl, hb⟩

set_option maxHeartbeats 1000000 in
theorem rmay_in (f : F) (m : Nat) (hm : f.n = (m : Int)) (hlt : m ≤ 16) (w : World) :
    Calls Tryd.prog 21 #[.agg f.cells] w fun e w' => e = .returned (.bool (mayF f)) ∧ Below w.heap.size w w' := by
  have HM : mayF f = decide (∀ i : Nat, i < 16 → m ≤ i → f.b i = 0) := by
    unfold mayF tailB; rw [hm, decide_eq_true (show (0 : Int) ≤ (m : Int) by omega), decide_eq_true (show (m : Int) ≤ 16 by omega)]
    simp
  rw [HM]
  clear HM
  have HY := hide (fun h : (∀ i : Nat, i < 16 → m ≤ i → f.b i = 0) => decide_eq_true h)
  have HN := hide (fun h : ¬ (∀ i : Nat, i < 16 → m ≤ i → f.b i = 0) => decide_eq_false h)
  generalize decide (∀ i : Nat, i < 16 → m ≤ i → f.b i = 0) = z at HY HN ⊢
  have HF := hide (fun i h => f.cell_b i h)
  obtain ⟨b, n⟩ := f
  simp only at hm HY HN
  subst hm
  have b1 : (m : Int) ≤ 16 := by omega
  go_enter Tryd.func21, Tryd.ntmps21
  go_wp2_with (first | ((with_reducible refine bx_fr w.heap.size ⟨b, (m : Int)⟩ ?_ ?_ ?_); exact rfl; exact rfl; intro W hr hb hz; have HR := hide hr; have c16 := hr.cell 16; rw [F.at16] at c16; clear hr) | ((with_reducible refine ld_n w.heap.size _ _ HR.out ?_ ?_); exact rfl))
  go_loop [3] (fun iv => ∃ k : Nat, m ≤ k ∧ k ≤ 16 ∧ iv = .int .i64 (k : Nat) ∧ ∀ i : Nat, i < k → m ≤ i → b i = 0) (fun iv => 16 - (intOf iv).toNat)
  case atStart => exact ⟨m, by omega, by omega, rfl, fun i h1 h2 => by omega⟩
  case round =>
    obtain ⟨k, hk0, hk, rfl, hz0⟩ := hrel
    have HZ := hide hz0
    clear hz0
    by_cases hl : k < 16
    · have hc := (HR.out.cell k).trans (HF.out k hl)
      obtain ⟨c, hcc⟩ : ∃ c, b k = c := ⟨_, rfl⟩
      rw [hcc] at hc
      by_cases h0 : c = 0
      · have t0 : (((c : Nat) : Int) != 0) = false := by simp [h0]
        have HCC := hide (hcc.trans h0)
        clear h0 hcc
        go_wp2
        go_round
        case rel => exact ⟨k + 1, by omega, by omega, by go_num, fun i h1 h2 => by
          by_cases hi : i < k
          · exact HZ.out i hi h2
          · obtain rfl : i = k := by omega
            exact HCC.out⟩
        case measure => simp [intOf]; omega
      · have t0 : (((c : Nat) : Int) != 0) = true := by simp [h0]
        have HCC := hide (fun h : b k = 0 => h0 (hcc.symm.trans h))
        clear h0 hcc
        go_wp2
        go_ret
        exact ⟨by rw [HN.out (fun h => HCC.out (h k hl hk0))]; rfl, hb⟩
    · obtain rfl : k = 16 := by omega
      go_wp2
      go_ret
      exact ⟨by rw [HY.out (fun i h1 h2 => HZ.out i h1 h2)]; rfl, hb⟩
theorem rmay_any (f : F) (w : World) :
    Calls Tryd.prog 21 #[.agg f.cells] w fun e w' => e = .returned (.bool (mayF f)) ∧ Below w.heap.size w w' := by
  by_cases h : f.n < 0
  · exact rmay_lo f h w
  by_cases h2 : 16 < f.n
  · exact rmay_hi f h2 w
  · exact rmay_in f f.n.toNat (by omega) (by omega) w
theorem built_f (b : Nat → Nat) (n : Int) : Tryd.prog.built 24 [(0, .agg (F.arr ⟨b, n⟩)), (1, .int .i64 n)] = some (F.cells ⟨b, n⟩) := by kernel_rfl
theorem bd_f {ops : Array Oper} {rest : List Oper} {dst : Option Tmp} {ty : TypeId} {pos : String} {after : Array Edge} {a : Act} {w : World} {Q : Exit → Act → World → Prop} {x0 x1 : Operand} (b : Nat → Nat) (n m : Int) (h0 : a.eval x0 = .agg (F.arr ⟨b, m⟩)) (h1 : a.eval x1 = .int .i64 n)
    (k : wpList Tryd.prog ops Q rest (a.put dst (.agg (F.cells ⟨b, n⟩))) w) : wpList Tryd.prog ops Q (⟨dst, .build 24 #[(0, x0), (1, x1)], ty, pos, after, none⟩ :: rest) a w := by
  have hp : ((#[(0, x0), (1, x1)] : Array (Nat × Operand)).map fun (i, x) => (i, a.eval x)).toList = [(0, .agg (F.arr ⟨b, n⟩)), (1, .int .i64 n)] := by
    simp [h0, h1]; rfl
  refine wpList_build rfl 24 _ rfl ?_ ?_
  · rw [hp, built_f]; rfl
  · rw [hp, built_f]; exact k
set_option maxHeartbeats 1000000 in
theorem rput_room (f : F) (m : Nat) (hm : f.n = (m : Int)) (hlt : m < 16) (c : Nat) (w : World) :
    Calls Tryd.prog 28 #[.agg f.cells, .int .u8 (c : Nat)] w fun e w' => e = .returned (.tuple #[.agg (putF f c).cells, .bool true]) ∧ Below w.heap.size w w' := by
  obtain ⟨b, n⟩ := f
  simp only at hm
  subst hm
  have b1 : (m : Int) < 16 := by omega
  have b2 : decide ((m : Int) > 15) = false := by simp; omega
  have b3 : decide (15 < m) = false := by simp; omega
  go_enter Tryd.func28, Tryd.ntmps28
  go_wp2_with (first | ((with_reducible refine bx_fr w.heap.size ⟨b, (m : Int)⟩ ?_ ?_ ?_); exact rfl; exact rfl; intro W hr hb hz) | ((with_reducible refine al_fr (w.heap.size + 1) ?_ ?_); exact hz.out; intro W hq hb' hz'; replace hr := hr.bl (hz.out ▸ hb'); replace hb := hb.trans (hb'.mono (by omega)); replace hz := hz') | ((with_reducible refine ld_n w.heap.size _ _ hr ?_ ?_); exact rfl) | ((with_reducible refine st_b w.heap.size m _ c _ hlt hr ?_ ?_ ?_); exact rfl; exact rfl; intro W hnew ho; replace hq := hq.only ho (by omega); replace hr := hnew; replace hb := ho.bel _ _ (by omega) hb) | ((with_reducible refine ld_arr w.heap.size _ _ hr ?_ ?_); exact rfl) | ((with_reducible refine bd_f (setB b m c) ((m : Int) + 1) (m : Int) ?_ ?_ ?_); exact rfl; exact rfl) | ((with_reducible refine st_fr (w.heap.size + 1) _ (putF ⟨b, (m : Int)⟩ c) hq ?_ ?_ ?_); exact rfl; exact rfl; intro W hnew ho; replace hr := hr.only ho (by omega); replace hq := hnew; replace hb := ho.bel _ _ (by omega) hb))
  refine bodyPost_ret (results_cell_one Tryd.results28 _ _ (w.heap.size + 1) _ _ _ rfl hq Tryd.underlying24 rfl size_fr) rfl ?_
  exact ⟨rfl, hb⟩

set_option maxHeartbeats 1000000 in
theorem rput_full (f : F) (hm : f.n = 16) (c : Nat) (w : World) :
    Calls Tryd.prog 28 #[.agg f.cells, .int .u8 (c : Nat)] w fun e w' => e = .returned (.tuple #[.agg f.cells, .bool false]) ∧ Below w.heap.size w w' := by
  obtain ⟨b, n⟩ := f
  simp only at hm
  subst hm
  go_enter Tryd.func28, Tryd.ntmps28
  go_wp2_with (first | ((with_reducible refine bx_fr w.heap.size ⟨b, 16⟩ ?_ ?_ ?_); exact rfl; exact rfl; intro W hr hb hz) | ((with_reducible refine al_fr (w.heap.size + 1) ?_ ?_); exact hz.out; intro W hq hb' hz'; replace hr := hr.bl (hz.out ▸ hb'); replace hb := hb.trans (hb'.mono (by omega)); replace hz := hz') | ((with_reducible refine ld_n w.heap.size _ _ hr ?_ ?_); exact rfl) | ((with_reducible refine ld_fr w.heap.size _ hr ?_ ?_ ?_); exact rfl; exact rfl) | ((with_reducible refine st_fr (w.heap.size + 1) _ ⟨b, 16⟩ hq ?_ ?_ ?_); exact rfl; exact rfl; intro W hnew ho; replace hr := hr.only ho (by omega); replace hq := hnew; replace hb := ho.bel _ _ (by omega) hb))
  refine bodyPost_ret (results_cell_one Tryd.results28 _ _ (w.heap.size + 1) _ _ _ rfl hq Tryd.underlying24 rfl size_fr) rfl ?_
  exact ⟨rfl, hb⟩

end Go.Proofs.YthopfecjnbfnmaaDoor
