/-
  What the document's Room answers.
-/
import Derived.Test.YtghpjibjhaomoaaGreatDoorJRiEq
namespace Go.Proofs.YtghpjibjhaomoaaGreatDoor
open Go.RowKit
set_option linter.unusedVariables false
set_option linter.unusedSimpArgs false

/-- A sum of bytes, which stays at the greatest number. -/
def moreN (s n : Int) : Int := if 0 ≤ n then (if n ≤ 9223372036854775807 - s then s + n else 9223372036854775807) else s
theorem moreN_in {s n : Int} (h0 : 0 ≤ s) (h1 : s ≤ 9223372036854775807) : 0 ≤ moreN s n ∧ moreN s n ≤ 9223372036854775807 := by unfold moreN; split <;> (try split) <;> omega
def roomV (wr : Bool) : Int → List Sg → Int
  | a, [] => a
  | a, s :: t => roomV wr (if s.wr = wr then moreN a s.n else a) t
theorem roomV_app (wr : Bool) : ∀ (l m : List Sg) (a : Int), roomV wr a (l ++ m) = roomV wr (roomV wr a l) m
  | [], m, a => rfl
  | s :: t, m, a => roomV_app wr t m _
theorem roomV_in (wr : Bool) : ∀ (l : List Sg) (a : Int), 0 ≤ a → a ≤ 9223372036854775807 → 0 ≤ roomV wr a l ∧ roomV wr a l ≤ 9223372036854775807
  | [], a, h0, h1 => ⟨h0, h1⟩
  | s :: t, a, h0, h1 => by
    have := moreN_in (n := s.n) h0 h1
    exact roomV_in wr t _ (by split <;> omega) (by split <;> omega)
set_option maxHeartbeats 1000000 in
theorem more_any (s n : Int) (h0 : 0 ≤ s) (h1 : s ≤ 9223372036854775807) (n0 : -9223372036854775808 ≤ n) (n1 : n ≤ 9223372036854775807) (w : World) : Calls Tryz.prog 43 #[.int .i64 s, .int .i64 n] w fun e w' => e = .returned (.int .i64 (moreN s n)) ∧ w' = w := by
  unfold moreN
  by_cases c0 : 0 ≤ n
  · by_cases c1 : n ≤ 9223372036854775807 - s
    · rw [if_pos c0, if_pos c1]
      have e1 : max n 0 = n := by omega
      have e2 : min n (9223372036854775807 - s) = n := by omega
      go_enter Tryz.func43, Tryz.ntmps43
      go_wp2
      go_ret
      refine ⟨?_, rfl⟩
      show Ending.returned (.int .i64 _) = _
      congr 2
    · rw [if_pos c0, if_neg c1]
      have e1 : max n 0 = n := by omega
      have e2 : min n (9223372036854775807 - s) = 9223372036854775807 - s := by omega
      go_enter Tryz.func43, Tryz.ntmps43
      go_wp2
      go_ret
      refine ⟨?_, rfl⟩
      show Ending.returned (.int .i64 _) = _
      congr 2
      omega
  · rw [if_neg c0]
    have e1 : max n 0 = 0 := by omega
    have e2 : min (0 : Int) (9223372036854775807 - s) = 0 := by omega
    go_enter Tryz.func43, Tryz.ntmps43
    go_wp2
    go_ret
    refine ⟨?_, rfl⟩
    show Ending.returned (.int .i64 _) = _
    congr 2
set_option maxHeartbeats 2000000 in
theorem room_any (l : List Sg) (hl : l.length ≤ 1000000) (hw : ∀ s ∈ l, s.Ok) {w : World} {Bl : Nat} {v : Value} (hL : w.ownsRow Bl 70 3 v l.length (segL l)) :
    Calls Tryz.prog 18 #[v] w fun e w' => e = .returned (.tuple #[.int .i64 (roomV false 0 l), .int .i64 (roomV true 0 l)]) ∧ Below w.heap.size w w' := by
  have HL := hide hL
  obtain ⟨n, hn⟩ : ∃ n, l.length = n := ⟨_, rfl⟩
  have HN := hide hn
  rw [hn] at hl
  obtain ⟨av, cap, rfl, hc1, hc2⟩ := own_form hL
  rw [hn] at hc1 ⊢
  clear hL hn
  go_enter Tryz.func18, Tryz.ntmps18
  go_wp2
  go_loopw [4, 5, 10] (fun rv wv iv wr => ∃ (k : Nat), k ≤ n ∧ iv = .int .i64 (k : Nat) ∧ rv = .int .i64 (roomV false 0 (l.take k)) ∧ wv = .int .i64 (roomV true 0 (l.take k)) ∧ Below w.heap.size w wr) (fun rv wv iv _ => n - (intOf iv).toNat)
  case atStart => exact ⟨0, Nat.zero_le _, rfl, rfl, rfl, Below.refl _ _⟩
  case round =>
    obtain ⟨k, hk, rfl, rfl, rfl, hb⟩ := hrel
    have hb1 := roomV_in false (l.take k) 0 (by decide) (by decide)
    have hb2 := roomV_in true (l.take k) 0 (by decide) (by decide)
    obtain ⟨ra, hra⟩ : ∃ x, roomV false 0 (l.take k) = x := ⟨_, rfl⟩
    obtain ⟨wa, hwa⟩ : ∃ x, roomV true 0 (l.take k) = x := ⟨_, rfl⟩
    rw [hra] at hb1 ⊢
    rw [hwa] at hb2 ⊢
    have HRA := hide hra
    have HWA := hide hwa
    clear hra hwa
    by_cases hlt : k < n
    · obtain ⟨gb, cap', cur, hve, _, _, _, hLr0, _, htk⟩ := own_row (own_bel HL.out hb) (show 0 < l.length by rw [HN.out]; omega)
      obtain ⟨rfl, rfl⟩ : av = some ⟨gb, 0, none⟩ ∧ cap = cap' := by injection hve with e1 e2 e3; exact ⟨e1, e3⟩
      have hgl : gb < w.heap.size := (HL.out.lt gb rfl).2
      have hLr := hLr0
      obtain ⟨s, hs⟩ : ∃ s, l[k]? = some s := ⟨_, List.getElem?_eq_getElem (by rw [HN.out]; exact hlt)⟩
      have hmid := mid_s htk hs
      have hok := hw s (List.mem_of_getElem? hs)
      have ht1 : l.take (k + 1) = l.take k ++ [s] := by rw [List.take_add_one, hs]; rfl
      have hr1 : roomV false 0 (l.take (k + 1)) = if s.wr = false then moreN ra s.n else ra := by rw [ht1, roomV_app, HRA.out]; rfl
      have hw1 : roomV true 0 (l.take (k + 1)) = if s.wr = true then moreN wa s.n else wa := by rw [ht1, roomV_app, HWA.out]; rfl
      have HR1 := hide hr1
      have HW1 := hide hw1
      have HM1 : Hid (∀ W, Calls Tryz.prog 43 #[.int .i64 ra, .int .i64 s.n] W fun e w' => e = .returned (.int .i64 (moreN ra s.n)) ∧ w' = W) := hide (fun W => more_any ra s.n hb1.1 hb1.2 hok.n0 hok.n1 W)
      have HM2 : Hid (∀ W, Calls Tryz.prog 43 #[.int .i64 wa, .int .i64 s.n] W fun e w' => e = .returned (.int .i64 (moreN wa s.n)) ∧ w' = W) := hide (fun W => more_any wa s.n hb2.1 hb2.2 hok.n0 hok.n1 W)
      have hlt' : (k : Int) < (n : Int) := by omega
      obtain ⟨ND, hND0⟩ : ∃ x, wr.heap.size = x := ⟨_, rfl⟩
      have hND := hide hND0
      have hd1 : w.heap.size ≤ ND := hND0 ▸ hb.size
      clear hs htk hve ht1 hr1 hw1 hok hND0
      obtain ⟨sw, hsw⟩ : ∃ x, s.wr = x := ⟨_, rfl⟩
      rw [hsw] at HR1 HW1
      cases sw with
      | true =>
        rw [if_neg (by decide)] at HR1
        rw [if_pos rfl] at HW1
        go_wp2_with (first | ((with_reducible refine ld_sm gb (k * 3) s cur _ hLr hmid ?_ ?_); exact rfl) | ((with_reducible refine al_sp ND ?_ ?_); exact hND.out; intro W hsr hb' hz; have hbc := hND.out ▸ hb'; replace hb := hb.trans (hb'.mono (by omega)); replace hLr := hLr.bl hbc; clear hb' hbc) | ((with_reducible refine st_sp ND _ s hsr ?_ ?_ ?_); exact rfl; exact rfl; intro W hnew ho; replace hLr := hLr.only ho (by omega); replace hb := ho.bel _ _ (by omega) hb; replace hsr := hnew; clear hnew ho) | ((with_reducible refine ld_swr ND _ _ hsr ?_ ?_ ?_); exact rfl; exact rfl; rw [hsw]) | ((with_reducible refine ld_sn ND _ _ hsr ?_ ?_ ?_); exact rfl; exact rfl) | (go_at_call 43; (with_reducible refine (HM2.out _).mono ?_); rintro e W2 ⟨rfl, rfl⟩))
        go_roundw
        case rel => exact ⟨k + 1, hlt, by go_num, by rw [HR1.out], by rw [HW1.out], hb⟩
        case measure => simp [intOf]; omega
      | false =>
        rw [if_pos rfl] at HR1
        rw [if_neg (by decide)] at HW1
        go_wp2_with (first | ((with_reducible refine ld_sm gb (k * 3) s cur _ hLr hmid ?_ ?_); exact rfl) | ((with_reducible refine al_sp ND ?_ ?_); exact hND.out; intro W hsr hb' hz; have hbc := hND.out ▸ hb'; replace hb := hb.trans (hb'.mono (by omega)); replace hLr := hLr.bl hbc; clear hb' hbc) | ((with_reducible refine st_sp ND _ s hsr ?_ ?_ ?_); exact rfl; exact rfl; intro W hnew ho; replace hLr := hLr.only ho (by omega); replace hb := ho.bel _ _ (by omega) hb; replace hsr := hnew; clear hnew ho) | ((with_reducible refine ld_swr ND _ _ hsr ?_ ?_ ?_); exact rfl; exact rfl; rw [hsw]) | ((with_reducible refine ld_sn ND _ _ hsr ?_ ?_ ?_); exact rfl; exact rfl) | (go_at_call 43; (with_reducible refine (HM1.out _).mono ?_); rintro e W2 ⟨rfl, rfl⟩))
        go_roundw
        case rel => exact ⟨k + 1, hlt, by go_num, by rw [HR1.out], by rw [HW1.out], hb⟩
        case measure => simp [intOf]; omega
    · obtain rfl : k = n := by omega
      have ht : l.take k = l := by rw [← HN.out, List.take_length]
      rw [ht] at HRA HWA
      go_wp2
      go_ret2
      exact ⟨by rw [HRA.out, HWA.out]; rfl, hb⟩
end Go.Proofs.YtghpjibjhaomoaaGreatDoor
namespace Go.Proofs.YtghpjibjhaomoaaGreatDoor
open Go.RowKit
set_option linter.unusedVariables false
set_option linter.unusedSimpArgs false

theorem moreN_add {a n : Int} (h0 : 0 ≤ a) (h1 : a ≤ 1000000000000000) (n0 : 0 ≤ n) (n1 : n ≤ 4294967296) : moreN a n = a + n := by
  unfold moreN
  rw [if_pos n0, if_pos (by omega)]
theorem room_le (wr : Bool) (l : List Sg) (hw : ∀ s ∈ l, 0 ≤ s.n ∧ s.n ≤ 4294967296) : ∀ k, k ≤ 1000 → 0 ≤ roomV wr 0 (l.take k) ∧ roomV wr 0 (l.take k) ≤ 4294967296 * k
  | 0, _ => by simp [roomV]
  | k + 1, hk => by
    have ih := room_le wr l hw k (by omega)
    cases hs : l[k]? with
    | none => rw [List.take_add_one, hs]; simp only [Option.toList, List.append_nil]; omega
    | some s =>
      have hb := hw s (List.mem_of_getElem? hs)
      rw [List.take_add_one, hs]
      simp only [Option.toList]
      rw [roomV_app]
      simp only [roomV]
      split
      · rw [moreN_add ih.1 (by omega) hb.1 hb.2]; omega
      · omega
set_option maxHeartbeats 2000000 in
theorem droom_any (l : List Sg) (hl : l.length ≤ 256) (hw : ∀ s ∈ l, 0 ≤ s.n ∧ s.n ≤ 4294967296) {w : World} {Bl : Nat} {v : Value} (hL : w.ownsRow Bl 100 3 v l.length (segL l)) :
    Calls Tryz.prog 19 #[v] w fun e w' => e = .returned (.tuple #[.int .i64 (roomV false 0 l), .int .i64 (roomV true 0 l)]) ∧ w' = w := by
  have HL := hide hL
  obtain ⟨n, hn⟩ : ∃ n, l.length = n := ⟨_, rfl⟩
  have HN := hide hn
  rw [hn] at hl
  obtain ⟨av, cap, rfl, hc1, hc2⟩ := own_form hL
  rw [hn] at hc1 ⊢
  clear hL hn
  go_enter Tryz.func19, Tryz.ntmps19
  go_wp2
  go_loopw [4, 5, 6] (fun rv wv iv wr => ∃ (k : Nat), k ≤ n ∧ iv = .int .i64 (k : Nat) ∧ rv = .int .i64 (roomV false 0 (l.take k)) ∧ wv = .int .i64 (roomV true 0 (l.take k)) ∧ wr = w) (fun rv wv iv _ => n - (intOf iv).toNat)
  case atStart => exact ⟨0, Nat.zero_le _, rfl, rfl, rfl, rfl⟩
  case round =>
    obtain ⟨k, hk, rfl, rfl, rfl, rfl⟩ := hrel
    have hb1 := room_le false l hw k (by omega)
    have hb2 := room_le true l hw k (by omega)
    obtain ⟨ra, hra⟩ : ∃ x, roomV false 0 (l.take k) = x := ⟨_, rfl⟩
    obtain ⟨wa, hwa⟩ : ∃ x, roomV true 0 (l.take k) = x := ⟨_, rfl⟩
    rw [hra] at hb1 ⊢
    rw [hwa] at hb2 ⊢
    have HRA := hide hra
    have HWA := hide hwa
    clear hra hwa
    by_cases hlt : k < n
    · obtain ⟨gb, cap', hve, _, _, _, _, hcell⟩ := own_pos HL.out (show 0 < l.length by rw [HN.out]; omega)
      obtain ⟨rfl, rfl⟩ : av = some ⟨gb, 0, none⟩ ∧ cap = cap' := by injection hve with e1 e2 e3; exact ⟨e1, e3⟩
      obtain ⟨s, hs⟩ : ∃ s, l[k]? = some s := ⟨_, List.getElem?_eq_getElem (by rw [HN.out]; exact hlt)⟩
      have f1 : wr.cell? ⟨gb, k * 3 + 1, none⟩ = some (.int .i64 s.n) := hcell _ _ ((segL_at l k s hs 1 (by decide)).trans rfl)
      have f2 : wr.cell? ⟨gb, k * 3 + 2, none⟩ = some (.bool s.wr) := hcell _ _ ((segL_at l k s hs 2 (by decide)).trans rfl)
      obtain ⟨hs0, hs1⟩ := hw s (List.mem_of_getElem? hs)
      have ht1 : l.take (k + 1) = l.take k ++ [s] := by rw [List.take_add_one, hs]; rfl
      have hr1 : roomV false 0 (l.take (k + 1)) = if s.wr = false then ra + s.n else ra := by
        rw [ht1, roomV_app, HRA.out]
        simp only [roomV]
        split
        · exact moreN_add hb1.1 (by omega) hs0 hs1
        · rfl
      have hw1 : roomV true 0 (l.take (k + 1)) = if s.wr = true then wa + s.n else wa := by
        rw [ht1, roomV_app, HWA.out]
        simp only [roomV]
        split
        · exact moreN_add hb2.1 (by omega) hs0 hs1
        · rfl
      have HR1 := hide hr1
      have HW1 := hide hw1
      have hlt' : (k : Int) < (n : Int) := by omega
      obtain ⟨sn, hsn⟩ : ∃ x, s.n = x := ⟨_, rfl⟩
      obtain ⟨sw, hsw⟩ : ∃ x, s.wr = x := ⟨_, rfl⟩
      rw [hsn] at f1 hs0 hs1 HR1 HW1
      rw [hsw] at f2 HR1 HW1
      clear hs hve hcell ht1 hr1 hw1 hsn hsw
      by_cases c0 : 0 < sn
      · cases sw with
        | true =>
          rw [if_neg (by decide)] at HR1
          rw [if_pos rfl] at HW1
          go_wp2
          go_roundw
          case rel => exact ⟨k + 1, hlt, by go_num, by rw [HR1.out], by rw [HW1.out], by first | rfl | trivial⟩
          case measure => simp [intOf]; omega
        | false =>
          rw [if_pos rfl] at HR1
          rw [if_neg (by decide)] at HW1
          go_wp2
          go_roundw
          case rel => exact ⟨k + 1, hlt, by go_num, by rw [HR1.out], by rw [HW1.out], by first | rfl | trivial⟩
          case measure => simp [intOf]; omega
      · obtain rfl : sn = 0 := by omega
        have e1 : (if sw = false then ra + 0 else ra) = ra := by split <;> omega
        have e2 : (if sw = true then wa + 0 else wa) = wa := by split <;> omega
        rw [e1] at HR1
        rw [e2] at HW1
        clear c0
        go_wp2
        go_roundw
        case rel => exact ⟨k + 1, hlt, by go_num, by rw [HR1.out], by rw [HW1.out], by first | rfl | trivial⟩
        case measure => simp [intOf]; omega
    · obtain rfl : k = n := by omega
      have ht : l.take k = l := by rw [← HN.out, List.take_length]
      rw [ht] at HRA HWA
      go_wp2
      go_ret2
      exact ⟨by rw [HRA.out, HWA.out]; rfl, by first | rfl | trivial⟩
end Go.Proofs.YtghpjibjhaomoaaGreatDoor
