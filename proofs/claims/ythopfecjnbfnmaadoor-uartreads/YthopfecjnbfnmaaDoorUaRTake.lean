/-
  What the document's take answers.
-/
import Derived.Test.YthopfecjnbfnmaaDoorUaRow
import Derived.Deep.RegionHeld3
namespace Go.Proofs.YthopfecjnbfnmaaDoor
open Go.RowKit
set_option linter.unusedVariables false

def gone (b : Nat → Nat) (k : Nat) : Nat → Nat := fun j => if j + 1 < k then b (j + 1) else 0
theorem gone_step (b : Nat → Nat) (k : Nat) : setB (gone b (k + 1)) k (b (k + 1)) = gone b (k + 2) := by
  funext j
  unfold setB gone
  by_cases h : j = k
  · subst h; rw [if_pos rfl, if_pos (by omega)]
  · rw [if_neg h]
    by_cases h2 : j + 1 < k + 1
    · rw [if_pos h2, if_pos (by omega)]
    · rw [if_neg h2, if_neg (by omega)]
theorem gone_all (b : Nat → Nat) (m : Nat) (h0 : 0 < m) (h1 : m ≤ 16) (ht : ∀ i : Nat, i < 16 → m ≤ i → b i = 0) (n : Int) : F.cells ⟨gone b m, n⟩ = F.cells ⟨moved b, n⟩ := by
  refine F.same (fun i hi => ?_) rfl
  show gone b m i = moved b i
  unfold gone moved
  by_cases h : i < 15
  · rw [if_pos h]
    by_cases h2 : i + 1 < m
    · rw [if_pos h2]
    · rw [if_neg h2, ht (i + 1) (by omega) (by omega)]
  · rw [if_neg h, if_neg (by omega)]
set_option maxHeartbeats 1000000 in
theorem rtake_in (b : Nat → Nat) (m : Nat) (h0 : 0 < m) (h1 : m ≤ 16) (ht : ∀ i : Nat, i < 16 → m ≤ i → b i = 0) (w : World) :
    Calls Tryd.prog 20 #[.agg (F.cells ⟨b, (m : Int)⟩)] w fun e w' => e = .returned (.tuple #[.agg (F.cells ⟨moved b, (m : Int) - 1⟩), .int .u8 (b 0 : Nat)]) ∧ Below w.heap.size w w' := by
  have HA := gone_all b m h0 h1 ht ((m : Int) - 1)
  rw [← HA]
  clear HA ht
  have t0 : ((m : Int) == 0) = false := by simp; omega
  have t0n : (m == 0) = false := by simp; omega
  go_enter Tryd.func20, Tryd.ntmps20
  go_wp2_with (first | ((with_reducible refine bx_fr w.heap.size ⟨b, (m : Int)⟩ ?_ ?_ ?_); exact rfl; exact rfl; intro W hr hb hz) | ((with_reducible refine al_fr (w.heap.size + 1) ?_ ?_); exact hz.out; intro W hq hb' hz'; replace hr := hr.bl (hz.out ▸ hb'); replace hb := hb.trans (hb'.mono (by omega)); replace hz := hz') | ((with_reducible refine al_fr (w.heap.size + 2) ?_ ?_); exact hz.out; intro W hg hb' hz'; replace hr := hr.bl (hz.out ▸ hb'); replace hq := hq.bl (hz.out ▸ hb'); replace hb := hb.trans (hb'.mono (by omega)); replace hz := hz') | ((with_reducible refine ld_n w.heap.size _ _ hr ?_ ?_); exact rfl))
  go_loopw [5] (fun iv wr => ∃ j : Nat, j + 1 ≤ m ∧ iv = .int .i64 ((j + 1 : Nat) : Int) ∧ RowAt wr (w.heap.size + 2) (F.cells ⟨gone b (j + 1), 0⟩) 24 ∧ RowAt wr w.heap.size (F.cells ⟨b, (m : Int)⟩) 24 ∧ RowAt wr (w.heap.size + 1) zeroF.cells 24 ∧ Below w.heap.size w wr) (fun iv _ => 16 - (intOf iv).toNat)
  case atStart => exact ⟨0, by omega, rfl, hg, hr, hq, hb⟩
  case round =>
    clear hr hq hg hb hz hb' hz'
    obtain ⟨j, hj, rfl, hg, hr, hq, hb⟩ := hrel
    by_cases hl : j + 1 < m
    · have b1 : (j : Int) + 1 < (m : Int) := by omega
      have b3 : (j : Int) + 1 < 16 := by omega
      go_wp2_with (first | ((with_reducible refine ld_n w.heap.size _ _ hr ?_ ?_); exact rfl) | ((with_reducible refine ld_b w.heap.size (j + 1) _ _ (by omega) hr ?_ ?_); exact rfl) | ((with_reducible refine st_b (w.heap.size + 2) j _ (b (j + 1)) _ (by omega) hg ?_ ?_ ?_); exact rfl; exact rfl; intro W hnew ho; replace hq := hq.only ho (by omega); replace hr := hr.only ho (by omega); replace hg := hnew; replace hb := ho.bel _ _ (by omega) hb))
      go_roundw
      case rel => exact ⟨j + 1, by omega, by go_num, (gone_step b j) ▸ hg, hr, hq, hb⟩
      case measure => simp [intOf]; omega
    · have hjm : j + 1 = m := by omega
      rw [hjm] at hg ⊢
      clear hl hj hjm
      have b1 : decide ((m : Int) < (m : Int)) = false := by simp
      have b2 : decide (m < m) = false := by simp
      have b3 : (m : Int) ≤ 16 := by omega
      go_wp2_with (first | ((with_reducible refine ld_n w.heap.size _ _ hr ?_ ?_); exact rfl) | ((with_reducible refine st_n (w.heap.size + 2) _ ((m : Int) - 1) _ hg ?_ ?_ ?_); exact rfl; exact rfl; intro W hnew ho; replace hq := hq.only ho (by omega); replace hr := hr.only ho (by omega); replace hg := (show RowAt W (w.heap.size + 2) (F.cells ⟨gone b m, (m : Int) - 1⟩) 24 from hnew); replace hb := ho.bel _ _ (by omega) hb))
      refine wp_region_held_drew (S := (fun V => RowAt V w.heap.size (F.cells ⟨b, (m : Int)⟩) 24 ∧ RowAt V (w.heap.size + 2) (F.cells ⟨gone b m, (m : Int) - 1⟩) 24 ∧ Below w.heap.size w V)) (by kernel_rfl) ?_ (fun hHeld => ?_)
      · exact ⟨hr.dr, hg.dr, hb.drew⟩
      replace hq := hq.dr
      generalize World.drew _ = V at hHeld hq ⊢
      clear hr hb hg
      refine wpAnyH_take (i := 0) (oi := ?oi1) (v := .agg (F.cells ⟨gone b m, (m : Int) - 1⟩)) ?hi1 (by kernel_rfl) (by kernel_rfl) (by kernel_rfl) ?hQ1 ?hy1 (by assumption) ?rest1
      case hi1 => (simp only [List.getElem?_toArray, List.getElem?_cons_zero]; rfl)
      case hQ1 => exact fun _ _ _ h => h
      case hy1 => exact y_fr (w.heap.size + 2) _ (fun V hV => hV.2.1) rfl rfl
      simp only [Act.put, List.setIfInBounds_toArray, List.set_cons_zero, List.set_cons_succ]
      refine wpAnyH_take (i := 1) (oi := ?oi2) (v := .pointer (some ⟨w.heap.size, 0, none⟩)) ?hi2 (by kernel_rfl) (by kernel_rfl) (by kernel_rfl) ?hQ2 ?hy2 (by assumption) ?rest2
      case hi2 => (simp only [List.getElem?_toArray, List.getElem?_cons_zero, List.getElem?_cons_succ]; rfl)
      case hQ2 => exact fun _ _ _ h => h
      case hy2 => exact Or.inl ⟨by rfl, by (intro w hSw; (try dsimp only at hSw); go_simp )⟩
      simp only [Act.put, List.setIfInBounds_toArray, List.set_cons_zero, List.set_cons_succ]
      refine wpAnyH_take (i := 2) (oi := ?oi3) (v := .pointer (some ⟨w.heap.size, 0, none⟩)) ?hi3 (by kernel_rfl) (by kernel_rfl) (by kernel_rfl) ?hQ3 ?hy3 (by assumption) ?rest3
      case hi3 => (simp only [List.getElem?_toArray, List.getElem?_cons_zero, List.getElem?_cons_succ]; rfl)
      case hQ3 => exact fun _ _ _ h => h
      case hy3 => exact Or.inl ⟨by rfl, by (intro w hSw; (try dsimp only at hSw); go_simp )⟩
      simp only [Act.put, List.setIfInBounds_toArray, List.set_cons_zero, List.set_cons_succ]
      refine wpAnyH_take (i := 3) (oi := ?oi4) (v := .int .u8 (b 0 : Nat)) ?hi4 (by kernel_rfl) (by kernel_rfl) (by kernel_rfl) ?hQ4 ?hy4 (by assumption) ?rest4
      case hi4 => (simp only [List.getElem?_toArray, List.getElem?_cons_zero, List.getElem?_cons_succ]; rfl)
      case hQ4 => exact fun _ _ _ h => h
      case hy4 => exact y_cell w.heap.size 0 _ (fun V hV => (hV.1.cell 0).trans rfl) _ Tryd.underlying5 rfl rfl
      simp only [Act.put, List.setIfInBounds_toArray, List.set_cons_zero, List.set_cons_succ]
      refine wpAnyH_ready (rs := [4]) (by kernel_rfl) (by simp) ?_
      refine AllReadyH.cons (o := ?oi5) ?hi5 (fun K hK => ?_) AllReadyH.nil
      case hi5 => (simp only [List.getElem?_toArray, List.getElem?_cons_zero, List.getElem?_cons_succ]; rfl)
      rw [if_pos (by rfl)]
      (with_reducible refine s_fr (w.heap.size + 1) _ ⟨gone b m, (m : Int) - 1⟩ hq ?_ ?_ ?_)
      · exact rfl
      · exact rfl
      intro V hnew ho
      have hH2 := hide (And.intro (hHeld.1.only ho (by omega)) (And.intro (hHeld.2.1.only ho (by omega)) (ho.bel _ _ (by omega) hHeld.2.2)))
      replace hq := hnew
      clear hHeld hnew ho
      refine hK.out _ _ ?_ (fun hHeld => ?_)
      · exact hH2.out
      clear hK K
      clear hH2
      refine wpAnyH_take (i := 5) (oi := ?oi6) (v := .int .u8 (b 0 : Nat)) ?hi6 (by kernel_rfl) (by kernel_rfl) (by kernel_rfl) ?hQ6 ?hy6 (by assumption) ?rest6
      case hi6 => (simp only [List.getElem?_toArray, List.getElem?_cons_zero, List.getElem?_cons_succ]; rfl)
      case hQ6 => exact fun _ _ _ h => h
      case hy6 => exact Or.inl ⟨by rfl, by (intro w hSw; (try dsimp only at hSw); go_simp )⟩
      simp only [Act.put, List.setIfInBounds_toArray, List.set_cons_zero, List.set_cons_succ]
      refine wpAnyH_done (by kernel_rfl) ?_ _
      have hb := hHeld.2.2
      clear hHeld
      go_wp2
      refine bodyPost_ret (results_cell_one Tryd.results20 _ _ (w.heap.size + 1) _ _ _ rfl hq Tryd.underlying24 rfl size_fr) rfl ?_
      exact ⟨rfl, hb⟩
theorem rtake_any (f : F) (hm : mayF f = true) (h0 : 0 < f.n) (w : World) :
    Calls Tryd.prog 20 #[.agg f.cells] w fun e w' => e = .returned (.tuple #[.agg (takeF f).cells, .int .u8 (f.b 0 : Nat)]) ∧ Below w.heap.size w w' := by
  obtain ⟨b, n⟩ := f
  obtain ⟨h1, h2, h3⟩ := (mayF_iff _).1 hm
  simp only at h0 h1 h2 h3
  obtain ⟨m, rfl⟩ := Int.eq_ofNat_of_zero_le h1
  exact rtake_in b m (by omega) (by omega) (fun i hi hj => h3 i hi (by omega)) w
set_option maxHeartbeats 1000000 in
theorem rtake_no (f : F) (hm : f.n = 0) (w : World) :
    Calls Tryd.prog 20 #[.agg f.cells] w fun e w' => e = .returned (.tuple #[.agg f.cells, .int .u8 ((0 : Nat) : Int)]) ∧ Below w.heap.size w w' := by
  obtain ⟨b, n⟩ := f
  simp only at hm
  subst hm
  go_enter Tryd.func20, Tryd.ntmps20
  go_wp2_with (first | ((with_reducible refine bx_fr w.heap.size ⟨b, 0⟩ ?_ ?_ ?_); exact rfl; exact rfl; intro W hr hb hz) | ((with_reducible refine al_fr (w.heap.size + 1) ?_ ?_); exact hz.out; intro W hq hb' hz'; replace hr := hr.bl (hz.out ▸ hb'); replace hb := hb.trans (hb'.mono (by omega)); replace hz := hz') | ((with_reducible refine al_fr (w.heap.size + 2) ?_ ?_); exact hz.out; intro W hg hb' hz'; replace hr := hr.bl (hz.out ▸ hb'); replace hq := hq.bl (hz.out ▸ hb'); replace hb := hb.trans (hb'.mono (by omega)); replace hz := hz') | ((with_reducible refine ld_n w.heap.size _ _ hr ?_ ?_); exact rfl) | ((with_reducible refine ld_fr w.heap.size _ hr ?_ ?_ ?_); exact rfl; exact rfl) | ((with_reducible refine st_fr (w.heap.size + 1) _ ⟨b, 0⟩ hq ?_ ?_ ?_); exact rfl; exact rfl; intro W hnew ho; replace hr := hr.only ho (by omega); replace hq := hnew; replace hb := ho.bel _ _ (by omega) hb))
  refine bodyPost_ret (results_cell_one Tryd.results20 _ _ (w.heap.size + 1) _ _ _ rfl hq Tryd.underlying24 rfl size_fr) rfl ?_
  exact ⟨rfl, hb⟩

end Go.Proofs.YthopfecjnbfnmaaDoor
