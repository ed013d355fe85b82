/-
  What the document's Read answers.
-/
import Derived.Test.YtadgdgjmadchjaaDoorPlRefB
import Derived.Test.YtadgdgjmadchjaaDoorPlRead
namespace Go.Proofs.YtadgdgjmadchjaaDoor
open Go.RowKit
set_option linter.unusedVariables false

theorem isPr_of (a : Nat) : isPr a = true ↔ ∃ n, n < 8 ∧ a = 4 * n := by
  unfold isPr
  simp
  constructor
  · intro ⟨h1, h2⟩; exact ⟨a / 4, by omega, by omega⟩
  · intro ⟨n, h1, h2⟩; omega
theorem set0 (v n : Nat) (hv : v < 4294967296) (hn : n ≤ 7) : num (setBit v (n : Int) 1 0) 32 = v &&& (4294967295 - 2 ^ n) := by
  apply Nat.eq_of_testBit_eq
  intro i
  rw [set_tb v n 0 hv (by omega), Nat.testBit_and, tb_not _ _ (pow_lt32 hn), Nat.testBit_two_pow]
  by_cases e : i = n
  · subst e; simp
  · rw [if_neg e]
    have e' : ¬ n = i := fun h => e h.symm
    cases h : v.testBit i with
    | false => simp
    | true =>
      have := lt_of_tb hv h
      simp [e', this]
theorem set1 (v n : Nat) (hv : v < 4294967296) (hn : n ≤ 7) : num (setBit v (n : Int) 1 1) 32 = v ||| 2 ^ n := by
  apply Nat.eq_of_testBit_eq
  intro i
  rw [set_tb v n 1 hv (by omega), Nat.testBit_or, Nat.testBit_two_pow]
  by_cases e : i = n
  · subst e; simp
  · rw [if_neg e]
    have e' : ¬ n = i := fun h => e h.symm
    simp [e']
theorem set_contract (v n x z : Nat) (hv : v < 4294967296) (hn : n ≤ 7) (hx : x < 4294967296) (h : num (setBit v (n : Int) 1 x) 32 = z) (w : World) :
    Calls Tryd.prog 17 #[.int .u32 v, .int .i64 (n : Nat), .int .i64 1, .int .u32 x] w fun e w' => e = .returned (.int .u32 (z : Nat)) ∧ Below w.heap.size w w' := by
  have := refset_any v hv (n : Int) 1 (by omega) (by omega) x hx w
  rw [h] at this
  exact this
set_option maxRecDepth 100000 in
set_option maxHeartbeats 4000000 in
theorem rread_any (s : P5) (hs : s.Ok) (a : Nat) (ha : a < 4294967296) (w : World) :
    Calls Tryd.prog 6 #[.agg s.cells, .int .u32 (a : Nat)] w fun e w' => e = .returned (.tuple #[.agg (readV s a).1.cells, .int .u32 ((readV s a).2.1 : Nat), .int .i64 ((readV s a).2.2 : Nat)]) ∧ Below w.heap.size w w' := by
  obtain ⟨z, hz0⟩ : ∃ z, readV s a = z := ⟨_, rfl⟩
  rw [hz0]
  have HZ0 := hide hz0
  clear hz0
  go_enter Tryd.func6, Tryd.ntmps6
  go_wp2_with (first | ((with_reducible refine bx_r w.heap.size s ?_ ?_ ?_); exact rfl; exact rfl; intro W hr hb hz) | ((with_reducible refine al_r (w.heap.size + 1) ?_ ?_); exact hz.out; intro W hq hb' hz'; replace hr := hr.bl (hz.out ▸ hb'); replace hb := hb.trans (hb'.mono (by omega)); replace hz := hz'))
  clear hz
  go_loop [7] (fun iv => ∃ n : Nat, n ≤ 8 ∧ iv = .int .i64 n ∧ ∀ j, j < n → a ≠ 4 * j) (fun iv => 8 - (intOf iv).toNat)
  case atStart => exact ⟨0, by omega, rfl, fun j h => absurd h (by omega)⟩
  case round =>
    obtain ⟨n, hn8, rfl, hno⟩ := hrel
    by_cases hlt : n < 8
    · have e4 : ((4 : Int) * (n : Int)) = ((4 * n : Nat) : Int) := by omega
      by_cases he : a = 4 * n
      · have t1 : ((a : Int) == 4 * (n : Int)) = true := by simp; omega
        have tn : ((n : Int) < 8) := by omega
        clear hno e4
        have HV : Hid (readV s a = (s, s.pr n, 0)) := hide (by
          unfold readV
          rw [if_pos ((isPr_of a).2 ⟨n, hlt, he⟩), show a / 4 = n by omega])
        have HZ := hide (HZ0.out.symm.trans HV.out)
        clear he
        go_wp2
        refine wp_region_held_drew (S := (fun V => RowAt V w.heap.size s.cells 25 ∧ Below w.heap.size w V)) (by kernel_rfl) ?_ (fun hHeld => ?_)
        · exact ⟨hr.dr, hb.drew⟩
        replace hq := hq.dr
        clear hr hb
        refine wpAnyH_take (i := 0) (oi := ?oi1) (v := .agg s.cells) ?hi1 (by kernel_rfl) (by kernel_rfl) (by kernel_rfl) ?hQ1 ?hy1 (by assumption) ?rest1
        case hi1 => (simp only [List.getElem?_toArray, List.getElem?_cons_zero]; rfl)
        case hQ1 => exact fun _ _ _ h => h
        case hy1 => exact y_r w.heap.size s (fun V hV => hV.1) rfl
        simp only [Act.put, List.setIfInBounds_toArray, List.set_cons_zero, List.set_cons_succ]
        refine wpAnyH_take (i := 1) (oi := ?oi2) (v := .int .i64 (n : Nat)) ?hi2 (by kernel_rfl) (by kernel_rfl) (by kernel_rfl) ?hQ2 ?hy2 (by assumption) ?rest2
        case hi2 => (simp only [List.getElem?_toArray, List.getElem?_cons_zero, List.getElem?_cons_succ]; rfl)
        case hQ2 => exact fun _ _ _ h => h
        case hy2 => exact Or.inl ⟨by rfl, by (intro w hSw; (try dsimp only at hSw); go_simp )⟩
        simp only [Act.put, List.setIfInBounds_toArray, List.set_cons_zero, List.set_cons_succ]
        refine wpAnyH_take (i := 2) (oi := ?oi3) (v := .pointer (some ⟨w.heap.size, 0, none⟩)) ?hi3 (by kernel_rfl) (by kernel_rfl) (by kernel_rfl) ?hQ3 ?hy3 (by assumption) ?rest3
        case hi3 => (simp only [List.getElem?_toArray, List.getElem?_cons_zero, List.getElem?_cons_succ]; rfl)
        case hQ3 => exact fun _ _ _ h => h
        case hy3 => exact Or.inl ⟨by rfl, by (intro w hSw; (try dsimp only at hSw); go_simp )⟩
        simp only [Act.put, List.setIfInBounds_toArray, List.set_cons_zero, List.set_cons_succ]
        refine wpAnyH_take (i := 3) (oi := ?oi4) (v := .pointer (some ⟨w.heap.size, n, none⟩)) ?hi4 (by kernel_rfl) (by kernel_rfl) (by kernel_rfl) ?hQ4 ?hy4 (by assumption) ?rest4
        case hi4 => (simp only [List.getElem?_toArray, List.getElem?_cons_zero, List.getElem?_cons_succ]; rfl)
        case hQ4 => exact fun _ _ _ h => h
        case hy4 => exact Or.inl ⟨by rfl, by (intro w hSw; (try dsimp only at hSw); go_simp )⟩
        simp only [Act.put, List.setIfInBounds_toArray, List.set_cons_zero, List.set_cons_succ]
        refine wpAnyH_take (i := 4) (oi := ?oi5) (v := .int .u32 (s.pr n : Nat)) ?hi5 (by kernel_rfl) (by kernel_rfl) (by kernel_rfl) ?hQ5 ?hy5 (by assumption) ?rest5
        case hi5 => (simp only [List.getElem?_toArray, List.getElem?_cons_zero, List.getElem?_cons_succ]; rfl)
        case hQ5 => exact fun _ _ _ h => h
        case hy5 => exact y_word w.heap.size n _ (fun V hV => (hV.1.cell n).trans (s.cell_pr n hlt)) rfl
        simp only [Act.put, List.setIfInBounds_toArray, List.set_cons_zero, List.set_cons_succ]
        refine wpAnyH_ready (rs := [5]) (by kernel_rfl) (by simp) ?_
        refine AllReadyH.cons (o := ?oi6) ?hi6 (fun K hK => ?_) AllReadyH.nil
        case hi6 => (simp only [List.getElem?_toArray, List.getElem?_cons_zero, List.getElem?_cons_succ]; rfl)
        rw [if_pos (by rfl)]
        (with_reducible refine s_r (w.heap.size + 1) _ s hq ?_ ?_ ?_)
        · exact rfl
        · exact rfl
        intro V hnew ho
        have hr := hHeld.1.only ho (by omega)
        have hb := ho.bel _ _ (by omega) hHeld.2
        replace hq := hnew
        clear hHeld hnew ho
        refine hK.out _ _ ?_ (fun hHeld => ?_)
        · exact ⟨hr, hb⟩
        clear hK K
        refine wpAnyH_take (i := 6) (oi := ?oi7) (v := .int .u32 (s.pr n : Nat)) ?hi7 (by kernel_rfl) (by kernel_rfl) (by kernel_rfl) ?hQ7 ?hy7 (by assumption) ?rest7
        case hi7 => (simp only [List.getElem?_toArray, List.getElem?_cons_zero, List.getElem?_cons_succ]; rfl)
        case hQ7 => exact fun _ _ _ h => h
        case hy7 => exact Or.inl ⟨by rfl, by (intro w hSw; (try dsimp only at hSw); go_simp )⟩
        simp only [Act.put, List.setIfInBounds_toArray, List.set_cons_zero, List.set_cons_succ]
        refine wpAnyH_take (i := 7) (oi := ?oi8) (v := .int .i64 0) ?hi8 (by kernel_rfl) (by kernel_rfl) (by kernel_rfl) ?hQ8 ?hy8 (by assumption) ?rest8
        case hi8 => (simp only [List.getElem?_toArray, List.getElem?_cons_zero, List.getElem?_cons_succ]; rfl)
        case hQ8 => exact fun _ _ _ h => h
        case hy8 => exact Or.inl ⟨by rfl, by (intro w hSw; (try dsimp only at hSw); go_simp )⟩
        simp only [Act.put, List.setIfInBounds_toArray, List.set_cons_zero, List.set_cons_succ]
        refine wpAnyH_done (by kernel_rfl) ?_ _
        go_wp2
        refine bodyPost_ret (results_cell_two Tryd.results6 _ _ (w.heap.size + 1) _ _ _ rfl hq Tryd.underlying25 rfl size_r) rfl ?_
        exact ⟨by rw [HZ.out]; rfl, hHeld.2⟩
      · have t1 : ((a : Int) == 4 * (n : Int)) = false := by simp; omega
        replace hno := hide hno
        clear e4
        go_wp2
        go_round
        case rel => exact ⟨n + 1, by omega, by go_num, fun j hj => by (by_cases e : j = n; (subst e; exact he); exact hno.out j (by omega))⟩
        case measure => simp [intOf]; omega
    · obtain rfl : n = 8 := by omega
      have hp : isPr a = false := by
        rw [Bool.eq_false_iff]
        intro h
        obtain ⟨j, h1, h2⟩ := (isPr_of a).1 h
        exact hno j h1 h2
      clear hno
      by_cases n1 : a = 4096
      · subst n1
        have HV : Hid (readV s 4096 = (s, s.pe, 0)) := hide rfl
        have HZ := hide (HZ0.out.symm.trans HV.out)
        try rw [show (((4096 : Nat) : Int)) = 4096 from rfl]
        go_wp2
        refine wp_region_held_drew (S := (fun V => RowAt V w.heap.size s.cells 25 ∧ Below w.heap.size w V)) (by kernel_rfl) ?_ (fun hHeld => ?_)
        · exact ⟨hr.dr, hb.drew⟩
        replace hq := hq.dr
        clear hr hb
        refine wpAnyH_take (i := 0) (oi := ?oi9) (v := .agg s.cells) ?hi9 (by kernel_rfl) (by kernel_rfl) (by kernel_rfl) ?hQ9 ?hy9 (by assumption) ?rest9
        case hi9 => (simp only [List.getElem?_toArray, List.getElem?_cons_zero]; rfl)
        case hQ9 => exact fun _ _ _ h => h
        case hy9 => exact y_r w.heap.size s (fun V hV => hV.1) rfl
        simp only [Act.put, List.setIfInBounds_toArray, List.set_cons_zero, List.set_cons_succ]
        refine wpAnyH_take (i := 1) (oi := ?oi10) (v := .pointer (some ⟨w.heap.size, 10, none⟩)) ?hi10 (by kernel_rfl) (by kernel_rfl) (by kernel_rfl) ?hQ10 ?hy10 (by assumption) ?rest10
        case hi10 => (simp only [List.getElem?_toArray, List.getElem?_cons_zero, List.getElem?_cons_succ]; rfl)
        case hQ10 => exact fun _ _ _ h => h
        case hy10 => exact Or.inl ⟨by rfl, by (intro w hSw; (try dsimp only at hSw); go_simp )⟩
        simp only [Act.put, List.setIfInBounds_toArray, List.set_cons_zero, List.set_cons_succ]
        refine wpAnyH_take (i := 2) (oi := ?oi11) (v := .int .u32 (s.pe : Nat)) ?hi11 (by kernel_rfl) (by kernel_rfl) (by kernel_rfl) ?hQ11 ?hy11 (by assumption) ?rest11
        case hi11 => (simp only [List.getElem?_toArray, List.getElem?_cons_zero, List.getElem?_cons_succ]; rfl)
        case hQ11 => exact fun _ _ _ h => h
        case hy11 => exact y_word w.heap.size 10 _ (fun V hV => (hV.1.cell 10).trans rfl) rfl
        simp only [Act.put, List.setIfInBounds_toArray, List.set_cons_zero, List.set_cons_succ]
        refine wpAnyH_ready (rs := [3]) (by kernel_rfl) (by simp) ?_
        refine AllReadyH.cons (o := ?oi12) ?hi12 (fun K hK => ?_) AllReadyH.nil
        case hi12 => (simp only [List.getElem?_toArray, List.getElem?_cons_zero, List.getElem?_cons_succ]; rfl)
        rw [if_pos (by rfl)]
        (with_reducible refine s_r (w.heap.size + 1) _ s hq ?_ ?_ ?_)
        · exact rfl
        · exact rfl
        intro V hnew ho
        have hr := hHeld.1.only ho (by omega)
        have hb := ho.bel _ _ (by omega) hHeld.2
        replace hq := hnew
        clear hHeld hnew ho
        refine hK.out _ _ ?_ (fun hHeld => ?_)
        · exact ⟨hr, hb⟩
        clear hK K
        refine wpAnyH_take (i := 4) (oi := ?oi13) (v := .int .u32 (s.pe : Nat)) ?hi13 (by kernel_rfl) (by kernel_rfl) (by kernel_rfl) ?hQ13 ?hy13 (by assumption) ?rest13
        case hi13 => (simp only [List.getElem?_toArray, List.getElem?_cons_zero, List.getElem?_cons_succ]; rfl)
        case hQ13 => exact fun _ _ _ h => h
        case hy13 => exact Or.inl ⟨by rfl, by (intro w hSw; (try dsimp only at hSw); go_simp )⟩
        simp only [Act.put, List.setIfInBounds_toArray, List.set_cons_zero, List.set_cons_succ]
        refine wpAnyH_take (i := 5) (oi := ?oi14) (v := .int .i64 0) ?hi14 (by kernel_rfl) (by kernel_rfl) (by kernel_rfl) ?hQ14 ?hy14 (by assumption) ?rest14
        case hi14 => (simp only [List.getElem?_toArray, List.getElem?_cons_zero, List.getElem?_cons_succ]; rfl)
        case hQ14 => exact fun _ _ _ h => h
        case hy14 => exact Or.inl ⟨by rfl, by (intro w hSw; (try dsimp only at hSw); go_simp )⟩
        simp only [Act.put, List.setIfInBounds_toArray, List.set_cons_zero, List.set_cons_succ]
        refine wpAnyH_done (by kernel_rfl) ?_ _
        go_wp2
        refine bodyPost_ret (results_cell_two Tryd.results6 _ _ (w.heap.size + 1) _ _ _ rfl hq Tryd.underlying25 rfl size_r) rfl ?_
        exact ⟨by rw [HZ.out]; rfl, hHeld.2⟩
      by_cases n2 : a = 8192
      · subst n2
        have HV : Hid (readV s 8192 = (s, s.en, 0)) := hide rfl
        have HZ := hide (HZ0.out.symm.trans HV.out)
        try rw [show (((8192 : Nat) : Int)) = 8192 from rfl]
        go_wp2
        refine wp_region_held_drew (S := (fun V => RowAt V w.heap.size s.cells 25 ∧ Below w.heap.size w V)) (by kernel_rfl) ?_ (fun hHeld => ?_)
        · exact ⟨hr.dr, hb.drew⟩
        replace hq := hq.dr
        clear hr hb
        refine wpAnyH_take (i := 0) (oi := ?oi15) (v := .agg s.cells) ?hi15 (by kernel_rfl) (by kernel_rfl) (by kernel_rfl) ?hQ15 ?hy15 (by assumption) ?rest15
        case hi15 => (simp only [List.getElem?_toArray, List.getElem?_cons_zero]; rfl)
        case hQ15 => exact fun _ _ _ h => h
        case hy15 => exact y_r w.heap.size s (fun V hV => hV.1) rfl
        simp only [Act.put, List.setIfInBounds_toArray, List.set_cons_zero, List.set_cons_succ]
        refine wpAnyH_take (i := 1) (oi := ?oi16) (v := .pointer (some ⟨w.heap.size, 8, none⟩)) ?hi16 (by kernel_rfl) (by kernel_rfl) (by kernel_rfl) ?hQ16 ?hy16 (by assumption) ?rest16
        case hi16 => (simp only [List.getElem?_toArray, List.getElem?_cons_zero, List.getElem?_cons_succ]; rfl)
        case hQ16 => exact fun _ _ _ h => h
        case hy16 => exact Or.inl ⟨by rfl, by (intro w hSw; (try dsimp only at hSw); go_simp )⟩
        simp only [Act.put, List.setIfInBounds_toArray, List.set_cons_zero, List.set_cons_succ]
        refine wpAnyH_take (i := 2) (oi := ?oi17) (v := .int .u32 (s.en : Nat)) ?hi17 (by kernel_rfl) (by kernel_rfl) (by kernel_rfl) ?hQ17 ?hy17 (by assumption) ?rest17
        case hi17 => (simp only [List.getElem?_toArray, List.getElem?_cons_zero, List.getElem?_cons_succ]; rfl)
        case hQ17 => exact fun _ _ _ h => h
        case hy17 => exact y_word w.heap.size 8 _ (fun V hV => (hV.1.cell 8).trans rfl) rfl
        simp only [Act.put, List.setIfInBounds_toArray, List.set_cons_zero, List.set_cons_succ]
        refine wpAnyH_ready (rs := [3]) (by kernel_rfl) (by simp) ?_
        refine AllReadyH.cons (o := ?oi18) ?hi18 (fun K hK => ?_) AllReadyH.nil
        case hi18 => (simp only [List.getElem?_toArray, List.getElem?_cons_zero, List.getElem?_cons_succ]; rfl)
        rw [if_pos (by rfl)]
        (with_reducible refine s_r (w.heap.size + 1) _ s hq ?_ ?_ ?_)
        · exact rfl
        · exact rfl
        intro V hnew ho
        have hr := hHeld.1.only ho (by omega)
        have hb := ho.bel _ _ (by omega) hHeld.2
        replace hq := hnew
        clear hHeld hnew ho
        refine hK.out _ _ ?_ (fun hHeld => ?_)
        · exact ⟨hr, hb⟩
        clear hK K
        refine wpAnyH_take (i := 4) (oi := ?oi19) (v := .int .u32 (s.en : Nat)) ?hi19 (by kernel_rfl) (by kernel_rfl) (by kernel_rfl) ?hQ19 ?hy19 (by assumption) ?rest19
        case hi19 => (simp only [List.getElem?_toArray, List.getElem?_cons_zero, List.getElem?_cons_succ]; rfl)
        case hQ19 => exact fun _ _ _ h => h
        case hy19 => exact Or.inl ⟨by rfl, by (intro w hSw; (try dsimp only at hSw); go_simp )⟩
        simp only [Act.put, List.setIfInBounds_toArray, List.set_cons_zero, List.set_cons_succ]
        refine wpAnyH_take (i := 5) (oi := ?oi20) (v := .int .i64 0) ?hi20 (by kernel_rfl) (by kernel_rfl) (by kernel_rfl) ?hQ20 ?hy20 (by assumption) ?rest20
        case hi20 => (simp only [List.getElem?_toArray, List.getElem?_cons_zero, List.getElem?_cons_succ]; rfl)
        case hQ20 => exact fun _ _ _ h => h
        case hy20 => exact Or.inl ⟨by rfl, by (intro w hSw; (try dsimp only at hSw); go_simp )⟩
        simp only [Act.put, List.setIfInBounds_toArray, List.set_cons_zero, List.set_cons_succ]
        refine wpAnyH_done (by kernel_rfl) ?_ _
        go_wp2
        refine bodyPost_ret (results_cell_two Tryd.results6 _ _ (w.heap.size + 1) _ _ _ rfl hq Tryd.underlying25 rfl size_r) rfl ?_
        exact ⟨by rw [HZ.out]; rfl, hHeld.2⟩
      by_cases n3 : a = 2097152
      · subst n3
        have HV : Hid (readV s 2097152 = (s, s.th, 0)) := hide rfl
        have HZ := hide (HZ0.out.symm.trans HV.out)
        try rw [show (((2097152 : Nat) : Int)) = 2097152 from rfl]
        go_wp2
        refine wp_region_held_drew (S := (fun V => RowAt V w.heap.size s.cells 25 ∧ Below w.heap.size w V)) (by kernel_rfl) ?_ (fun hHeld => ?_)
        · exact ⟨hr.dr, hb.drew⟩
        replace hq := hq.dr
        clear hr hb
        refine wpAnyH_take (i := 0) (oi := ?oi21) (v := .agg s.cells) ?hi21 (by kernel_rfl) (by kernel_rfl) (by kernel_rfl) ?hQ21 ?hy21 (by assumption) ?rest21
        case hi21 => (simp only [List.getElem?_toArray, List.getElem?_cons_zero]; rfl)
        case hQ21 => exact fun _ _ _ h => h
        case hy21 => exact y_r w.heap.size s (fun V hV => hV.1) rfl
        simp only [Act.put, List.setIfInBounds_toArray, List.set_cons_zero, List.set_cons_succ]
        refine wpAnyH_take (i := 1) (oi := ?oi22) (v := .pointer (some ⟨w.heap.size, 9, none⟩)) ?hi22 (by kernel_rfl) (by kernel_rfl) (by kernel_rfl) ?hQ22 ?hy22 (by assumption) ?rest22
        case hi22 => (simp only [List.getElem?_toArray, List.getElem?_cons_zero, List.getElem?_cons_succ]; rfl)
        case hQ22 => exact fun _ _ _ h => h
        case hy22 => exact Or.inl ⟨by rfl, by (intro w hSw; (try dsimp only at hSw); go_simp )⟩
        simp only [Act.put, List.setIfInBounds_toArray, List.set_cons_zero, List.set_cons_succ]
        refine wpAnyH_take (i := 2) (oi := ?oi23) (v := .int .u32 (s.th : Nat)) ?hi23 (by kernel_rfl) (by kernel_rfl) (by kernel_rfl) ?hQ23 ?hy23 (by assumption) ?rest23
        case hi23 => (simp only [List.getElem?_toArray, List.getElem?_cons_zero, List.getElem?_cons_succ]; rfl)
        case hQ23 => exact fun _ _ _ h => h
        case hy23 => exact y_word w.heap.size 9 _ (fun V hV => (hV.1.cell 9).trans rfl) rfl
        simp only [Act.put, List.setIfInBounds_toArray, List.set_cons_zero, List.set_cons_succ]
        refine wpAnyH_ready (rs := [3]) (by kernel_rfl) (by simp) ?_
        refine AllReadyH.cons (o := ?oi24) ?hi24 (fun K hK => ?_) AllReadyH.nil
        case hi24 => (simp only [List.getElem?_toArray, List.getElem?_cons_zero, List.getElem?_cons_succ]; rfl)
        rw [if_pos (by rfl)]
        (with_reducible refine s_r (w.heap.size + 1) _ s hq ?_ ?_ ?_)
        · exact rfl
        · exact rfl
        intro V hnew ho
        have hr := hHeld.1.only ho (by omega)
        have hb := ho.bel _ _ (by omega) hHeld.2
        replace hq := hnew
        clear hHeld hnew ho
        refine hK.out _ _ ?_ (fun hHeld => ?_)
        · exact ⟨hr, hb⟩
        clear hK K
        refine wpAnyH_take (i := 4) (oi := ?oi25) (v := .int .u32 (s.th : Nat)) ?hi25 (by kernel_rfl) (by kernel_rfl) (by kernel_rfl) ?hQ25 ?hy25 (by assumption) ?rest25
        case hi25 => (simp only [List.getElem?_toArray, List.getElem?_cons_zero, List.getElem?_cons_succ]; rfl)
        case hQ25 => exact fun _ _ _ h => h
        case hy25 => exact Or.inl ⟨by rfl, by (intro w hSw; (try dsimp only at hSw); go_simp )⟩
        simp only [Act.put, List.setIfInBounds_toArray, List.set_cons_zero, List.set_cons_succ]
        refine wpAnyH_take (i := 5) (oi := ?oi26) (v := .int .i64 0) ?hi26 (by kernel_rfl) (by kernel_rfl) (by kernel_rfl) ?hQ26 ?hy26 (by assumption) ?rest26
        case hi26 => (simp only [List.getElem?_toArray, List.getElem?_cons_zero, List.getElem?_cons_succ]; rfl)
        case hQ26 => exact fun _ _ _ h => h
        case hy26 => exact Or.inl ⟨by rfl, by (intro w hSw; (try dsimp only at hSw); go_simp )⟩
        simp only [Act.put, List.setIfInBounds_toArray, List.set_cons_zero, List.set_cons_succ]
        refine wpAnyH_done (by kernel_rfl) ?_ _
        go_wp2
        refine bodyPost_ret (results_cell_two Tryd.results6 _ _ (w.heap.size + 1) _ _ _ rfl hq Tryd.underlying25 rfl size_r) rfl ?_
        exact ⟨by rw [HZ.out]; rfl, hHeld.2⟩
      by_cases n4 : a = 2097156
      · subst n4
        have HV : Hid (readV s 2097156 = (serveV s (bestV s), bestV s, 0)) := hide rfl
        have HZ := hide (HZ0.out.symm.trans HV.out)
        try rw [show (((2097156 : Nat) : Int)) = 2097156 from rfl]
        have HBe := hide (fun w => rbest_any s hs w)
        have hle := bestV_le s
        generalize bestV s = b at *
        by_cases hb0 : b = 0
        · subst hb0
          have HS0 : Hid (serveV s 0 = s) := hide rfl
          rw [HS0.out] at HZ
          rw [show (((0 : Nat) : Int)) = 0 from rfl] at HBe
          go_wp2_with (first | ((with_reducible refine ld_r w.heap.size _ hr ?_ ?_); exact rfl) | (go_at_call 11; (with_reducible refine (HBe.out _).mono ?_); rintro e W ⟨rfl, hbc⟩; replace hr := hr.bl hbc; replace hq := hq.bl hbc; replace hb := below_bl rfl hb hbc) | ((with_reducible refine st_r (w.heap.size + 1) _ s hq ?_ ?_ ?_); exact rfl; exact rfl; intro W hnew ho; replace hr := hr.only ho (by omega); replace hq := hnew; replace hb := ho.bel _ _ (by omega) hb))
          refine bodyPost_ret (results_cell_two Tryd.results6 _ _ (w.heap.size + 1) _ _ _ rfl hq Tryd.underlying25 rfl size_r) rfl ?_
          exact ⟨by rw [HZ.out]; rfl, hb⟩
        · have HSv : Hid (serveV s b = ⟨s.pr, s.en, s.th, s.pe &&& (4294967295 - 2 ^ b), s.bu ||| 2 ^ b⟩) := hide (by unfold serveV; rw [if_neg hb0])
          rw [HSv.out] at HZ
          have HS1 := hide (fun w => set_contract s.pe b 0 _ hs.pe hle (by decide) (set0 s.pe b hs.pe hle) w)
          have HS2 := hide (fun w => set_contract s.bu b 1 _ hs.bu hle (by decide) (set1 s.bu b hs.bu hle) w)
          rw [show (((0 : Nat) : Int)) = 0 from rfl] at HS1
          rw [show (((1 : Nat) : Int)) = 1 from rfl] at HS2
          generalize s.pe &&& (4294967295 - 2 ^ b) = x3 at *
          generalize s.bu ||| 2 ^ b = x4 at *
          have tb : ((b : Int) > 0) := by omega
          have tb2 : 0 < b := by omega
          go_wp2_with (first | ((with_reducible refine ld_r w.heap.size _ hr ?_ ?_); exact rfl) | (go_at_call 11; (with_reducible refine (HBe.out _).mono ?_); rintro e W ⟨rfl, hbc⟩; replace hr := hr.bl hbc; replace hq := hq.bl hbc; replace hb := below_bl rfl hb hbc) | ((with_reducible refine ld_pe w.heap.size _ _ hr ?_ ?_); exact rfl) | ((with_reducible refine ld_bu w.heap.size _ _ hr ?_ ?_); exact rfl) | (go_at_call 17; (with_reducible refine (HS1.out _).mono ?_); rintro e W ⟨rfl, hbc⟩; replace hr := hr.bl hbc; replace hq := hq.bl hbc; replace hb := below_bl rfl hb hbc) | (go_at_call 17; (with_reducible refine (HS2.out _).mono ?_); rintro e W ⟨rfl, hbc⟩; replace hr := hr.bl hbc; replace hq := hq.bl hbc; replace hb := below_bl rfl hb hbc) | ((with_reducible refine st_pe w.heap.size _ x3 _ hr ?_ ?_ ?_); exact rfl; exact rfl; intro W hnew ho; replace hq := hq.only ho (by omega); replace hr := hnew; replace hb := ho.bel _ _ (by omega) hb) | ((with_reducible refine st_bu w.heap.size _ x4 _ hr ?_ ?_ ?_); exact rfl; exact rfl; intro W hnew ho; replace hq := hq.only ho (by omega); replace hr := hnew; replace hb := ho.bel _ _ (by omega) hb) | ((with_reducible refine st_r (w.heap.size + 1) _ ⟨s.pr, s.en, s.th, x3, x4⟩ hq ?_ ?_ ?_); exact rfl; exact rfl; intro W hnew ho; replace hr := hr.only ho (by omega); replace hq := hnew; replace hb := ho.bel _ _ (by omega) hb))
          refine bodyPost_ret (results_cell_two Tryd.results6 _ _ (w.heap.size + 1) _ _ _ rfl hq Tryd.underlying25 rfl size_r) rfl ?_
          exact ⟨by rw [HZ.out]; exact ret_three rfl (by go_num) rfl, hb⟩
      · have HV : Hid (readV s a = (zeroP, 0, 20)) := hide (by unfold readV; rw [hp, if_neg (by simp), if_neg n1, if_neg n2, if_neg n3, if_neg n4])
        have HZ := hide (HZ0.out.symm.trans HV.out)
        have t1 : ((a : Int) == 4096) = false := by simp; omega
        have t2 : ((a : Int) == 8192) = false := by simp; omega
        have t3 : ((a : Int) == 2097152) = false := by simp; omega
        have t4 : ((a : Int) == 2097156) = false := by simp; omega
        go_wp2_with (first | ((with_reducible refine st_r (w.heap.size + 1) _ zeroP hq ?_ ?_ ?_); exact rfl; exact rfl; intro W hnew ho; replace hr := hr.only ho (by omega); replace hq := hnew; replace hb := ho.bel _ _ (by omega) hb))
        refine bodyPost_ret (results_cell_two Tryd.results6 _ _ (w.heap.size + 1) _ _ _ rfl hq Tryd.underlying25 rfl size_r) rfl ?_
        exact ⟨by rw [HZ.out]; rfl, hb⟩

end Go.Proofs.YtadgdgjmadchjaaDoor
