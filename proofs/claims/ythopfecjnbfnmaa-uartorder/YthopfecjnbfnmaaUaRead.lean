/-
  What uart's Read answers of place 2, and of any.
-/
import Derived.Test.YthopfecjnbfnmaaUaRead0
namespace Go.Proofs.Ythopfecjnbfnmaa
open Go.RowKit
set_option linter.unusedVariables false

theorem or192 (n : Nat) (h : n < 8) : bits .or .u8 192 (n : Int) = ((192 + n : Nat) : Int) := by
  exact (by decide +kernel : ∀ n, n < 8 → bits .or .u8 192 ((n : Nat) : Int) = ((192 + n : Nat) : Int)) n h
theorem asksN_8 (s : U) : asksN s < 8 := by
  unfold asksN
  split
  · decide
  · split
    · decide
    · split <;> decide
set_option maxHeartbeats 1000000 in
theorem read_2 (s : U) (ok : s.Ok) (hm : mayU s = true) (w : World) :
    Calls Try.prog 13 #[.agg s.cells, .int .u32 ((2 : Nat) : Int)] w fun e w' => e = .returned (.tuple #[.agg (readV s 2).1.cells, .int .u8 ((readV s 2).2.1 : Nat), errP (readV s 2).2.2]) ∧ Below w.heap.size w w' := by
  rw [show (((2 : Nat) : Int)) = 2 from rfl]
  have HV : readV s 2 = (s, 192 + asksN s, 0) := by unfold readV readS; rw [if_pos hm, if_neg (by decide), if_neg (by decide), if_pos rfl]
  rw [HV]; clear HV
  have HC := hide (fun w => check_ok s ok hm w)
  have HA := hide (fun w => asks_any s ok w)
  have HO := or192 (asksN s) (asksN_8 s)
  dsimp only
  rw [← HO]
  clear HO
  generalize asksN s = v at HA ⊢
  go_enter Try.func13, Try.ntmps13
  go_wp2_with (first | ((with_reducible refine bx_up w.heap.size s ?_ ?_ ?_); exact rfl; exact rfl; intro W hr hb hz) | ((with_reducible refine al_up (w.heap.size + 1) ?_ ?_); exact hz.out; intro W hq hb' hz'; replace hr := hr.bl (hz.out ▸ hb'); replace hb := hb.trans (hb'.mono (by omega)); replace hz := hz') | ((with_reducible refine ld_up w.heap.size _ hr ?_ ?_ ?_); exact rfl; exact rfl) | (go_at_call 14; (with_reducible refine (HC.out _).mono ?_); rintro e W ⟨rfl, hbc⟩; replace hr := hr.bl hbc; replace hq := hq.bl hbc; replace hb := below_bl rfl hb hbc))
  refine wp_region_held_drew (S := (fun V => RowAt V w.heap.size s.cells 29 ∧ Below w.heap.size w V)) (by kernel_rfl) ?_ (fun hHeld => ?_)
  · exact ⟨hr.dr, hb.drew⟩
  replace hq := hq.dr
  generalize W.drew = V at hHeld hq ⊢
  clear hr hb
  refine wpAnyH_take (i := 0) (oi := ?oi36) (v := .agg s.cells) ?hi36 (by kernel_rfl) (by kernel_rfl) (by kernel_rfl) ?hQ36 ?hy36 (by assumption) ?rest36
  case hi36 => (simp only [List.getElem?_toArray, List.getElem?_cons_zero]; rfl)
  case hQ36 => exact fun _ _ _ h => h
  case hy36 => exact y_up w.heap.size s (fun V hV => hV.1) rfl rfl
  simp only [Act.put, List.setIfInBounds_toArray, List.set_cons_zero, List.set_cons_succ]
  refine wpAnyH_take (i := 1) (oi := ?oi37) (v := .agg s.cells) ?hi37 (by kernel_rfl) (by kernel_rfl) (by kernel_rfl) ?hQ37 ?hy37 (by assumption) ?rest37
  case hi37 => (simp only [List.getElem?_toArray, List.getElem?_cons_zero, List.getElem?_cons_succ]; rfl)
  case hQ37 => exact fun _ _ _ h => h
  case hy37 => exact y_up w.heap.size s (fun V hV => hV.1) rfl rfl
  simp only [Act.put, List.setIfInBounds_toArray, List.set_cons_zero, List.set_cons_succ]
  refine wpAnyH_ready (rs := [2]) (by kernel_rfl) (by simp) ?_
  refine AllReadyH.cons (o := ?oi38) ?hi38 (fun K hK => ?_) AllReadyH.nil
  case hi38 => (simp only [List.getElem?_toArray, List.getElem?_cons_zero, List.getElem?_cons_succ]; rfl)
  go_simp
  (with_reducible refine (HA.out _).mono ?_)
  rintro e V ⟨rfl, hbc⟩
  have hH2 := hide (And.intro (hHeld.1.bl hbc) (below_bl rfl hHeld.2 hbc))
  replace hq := hq.bl hbc
  clear hHeld hbc
  go_simp
  refine hK.out _ _ ?_ (fun hHeld => ?_)
  · exact hH2.out
  clear hK K
  clear hH2
  refine wpAnyH_take (i := 3) (oi := ?oi39) (v := .int .u8 (bits .or .u8 192 (v : Nat))) ?hi39 (by kernel_rfl) (by kernel_rfl) (by kernel_rfl) ?hQ39 ?hy39 (by assumption) ?rest39
  case hi39 => (simp only [List.getElem?_toArray, List.getElem?_cons_zero, List.getElem?_cons_succ]; rfl)
  case hQ39 => exact fun _ _ _ h => h
  case hy39 => exact Or.inl ⟨by rfl, by (intro w hSw; (try dsimp only at hSw); go_simp )⟩
  simp only [Act.put, List.setIfInBounds_toArray, List.set_cons_zero, List.set_cons_succ]
  refine wpAnyH_ready (rs := [4]) (by kernel_rfl) (by simp) ?_
  refine AllReadyH.cons (o := ?oi40) ?hi40 (fun K hK => ?_) AllReadyH.nil
  case hi40 => (simp only [List.getElem?_toArray, List.getElem?_cons_zero, List.getElem?_cons_succ]; rfl)
  rw [if_pos (by rfl)]
  (with_reducible refine s_up (w.heap.size + 1) _ s hq ?_ ?_ ?_)
  · exact rfl
  · exact rfl
  intro V hnew ho
  have hH2 := hide (And.intro (hHeld.1.only ho (by omega)) (ho.bel _ _ (by omega) hHeld.2))
  replace hq := hnew
  clear hHeld hnew ho
  refine hK.out _ _ ?_ (fun hHeld => ?_)
  · exact hH2.out
  clear hK K
  clear hH2
  refine wpAnyH_take (i := 5) (oi := ?oi41) (v := .int .u8 (bits .or .u8 192 (v : Nat))) ?hi41 (by kernel_rfl) (by kernel_rfl) (by kernel_rfl) ?hQ41 ?hy41 (by assumption) ?rest41
  case hi41 => (simp only [List.getElem?_toArray, List.getElem?_cons_zero, List.getElem?_cons_succ]; rfl)
  case hQ41 => exact fun _ _ _ h => h
  case hy41 => exact Or.inl ⟨by rfl, by (intro w hSw; (try dsimp only at hSw); go_simp )⟩
  simp only [Act.put, List.setIfInBounds_toArray, List.set_cons_zero, List.set_cons_succ]
  refine wpAnyH_take (i := 6) (oi := ?oi42) (v := .nilIface) ?hi42 (by kernel_rfl) (by kernel_rfl) (by kernel_rfl) ?hQ42 ?hy42 (by assumption) ?rest42
  case hi42 => (simp only [List.getElem?_toArray, List.getElem?_cons_zero, List.getElem?_cons_succ]; rfl)
  case hQ42 => exact fun _ _ _ h => h
  case hy42 => exact Or.inl ⟨by rfl, by (intro w hSw; (try dsimp only at hSw); go_simp )⟩
  simp only [Act.put, List.setIfInBounds_toArray, List.set_cons_zero, List.set_cons_succ]
  refine wpAnyH_done (by kernel_rfl) ?_ _
  have hr := hHeld.1
  have hb := hHeld.2
  clear hHeld
  go_wp2
  refine bodyPost_ret (results_cell_two Try.results13 _ _ (w.heap.size + 1) _ _ _ rfl hq Try.underlying29 rfl size_up) rfl ?_
  exact ⟨rfl, hb⟩

theorem read_any (s : U) (ok : s.Ok) (a : Nat) (w : World) :
    Calls Try.prog 13 #[.agg s.cells, .int .u32 (a : Nat)] w fun e w' => e = .returned (.tuple #[.agg (readV s a).1.cells, .int .u8 ((readV s a).2.1 : Nat), errP (readV s a).2.2]) ∧ Below w.heap.size w w' := by
  cases hm : mayU s with
  | false => exact read_no s ok a hm w
  | true =>
    by_cases h : 7 < a
    · exact read_none s ok a h hm w
    have h8 : a = 0 ∨ a = 1 ∨ a = 2 ∨ a = 3 ∨ a = 4 ∨ a = 5 ∨ a = 6 ∨ a = 7 := by omega
    rcases h8 with rfl | rfl | rfl | rfl | rfl | rfl | rfl | rfl
    · exact read_0 s ok hm w
    · cases hd : dlB s with
      | true => exact read_1t s ok hm hd w
      | false => exact read_1f s ok hm hd w
    · exact read_2 s ok hm w
    · exact read_3 s ok hm w
    · exact read_4 s ok hm w
    · exact read_5 s ok hm w
    · exact read_6 s ok hm w
    · exact read_7 s ok hm w
end Go.Proofs.Ythopfecjnbfnmaa
