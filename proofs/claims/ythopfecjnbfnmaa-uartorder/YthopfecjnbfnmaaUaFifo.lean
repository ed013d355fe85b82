/-
  What a fifo's isEmpty, isFull, put and mayBe answer.
-/
import Derived.Test.YthopfecjnbfnmaaUaRow
namespace Go.Proofs.Ythopfecjnbfnmaa
open Go.RowKit
set_option linter.unusedVariables false
attribute [local go_sem] F.at0 F.at1 F.at2 F.at3 F.at4 F.at5 F.at6 F.at7 F.at8 F.at9 F.at10 F.at11 F.at12 F.at13 F.at14 F.at15 F.at16

theorem empty_any (f : F) (w : World) :
    Calls Try.prog 15 #[.agg f.cells] w fun e w' => e = .returned (.bool (f.n == 0)) ∧ Below w.heap.size w w' := by
  go_enter Try.func15, Try.ntmps15
  go_wp2_with (first | ((with_reducible refine bx_fp w.heap.size f ?_ ?_ ?_); exact rfl; exact rfl; intro W hr hb hz; have fx := hr.cell))
  go_ret
  exact ⟨rfl, hb⟩
theorem full_any (f : F) (w : World) :
    Calls Try.prog 19 #[.agg f.cells] w fun e w' => e = .returned (.bool (f.n == 16)) ∧ Below w.heap.size w w' := by
  go_enter Try.func19, Try.ntmps19
  go_wp2_with (first | ((with_reducible refine bx_fp w.heap.size f ?_ ?_ ?_); exact rfl; exact rfl; intro W hr hb hz; have fx := hr.cell))
  go_ret
  exact ⟨rfl, hb⟩
theorem put_any (f : F) (m : Nat) (hm : f.n = (m : Int)) (hlt : m < 16) (c : Nat) (w : World) :
    Calls Try.prog 20 #[.agg f.cells, .int .u8 (c : Nat)] w fun e w' => e = .returned (.agg (putF f c).cells) ∧ Below w.heap.size w w' := by
  have b1 : (m : Int) < 16 := by omega
  obtain ⟨b, n⟩ := f
  simp only at hm
  subst hm
  go_enter Try.func20, Try.ntmps20
  go_wp2_with (first | ((with_reducible refine bx_fp w.heap.size ⟨b, (m : Int)⟩ ?_ ?_ ?_); exact rfl; exact rfl; intro W hr hb hz) | ((with_reducible refine al_fp (w.heap.size + 1) ?_ ?_); exact hz.out; intro W hq hb' hz'; replace hr := hr.bl (hz.out ▸ hb'); replace hb := hb.trans (hb'.mono (by omega)); replace hz := hz') | ((with_reducible refine ld_n w.heap.size _ _ hr ?_ ?_); exact rfl) | ((with_reducible refine st_b w.heap.size m _ c _ hlt hr ?_ ?_ ?_); exact rfl; exact rfl; intro W hnew ho; replace hq := hq.only ho (by omega); replace hr := hnew; replace hb := ho.bel _ _ (by omega) hb) | ((with_reducible refine st_n w.heap.size _ ((m : Int) + 1) _ hr ?_ ?_ ?_); exact rfl; exact rfl; intro W hnew ho; replace hq := hq.only ho (by omega); replace hr := hnew; replace hb := ho.bel _ _ (by omega) hb) | ((with_reducible refine ld_fp w.heap.size _ hr ?_ ?_ ?_); exact rfl; exact rfl) | ((with_reducible refine st_fp (w.heap.size + 1) _ (putF ⟨b, (m : Int)⟩ c) hq ?_ ?_ ?_); exact rfl; exact rfl; intro W hnew ho; replace hr := hr.only ho (by omega); replace hq := hnew; replace hb := ho.bel _ _ (by omega) hb))
  refine bodyPost_ret (results_cell_row Try.results20 _ _ (w.heap.size + 1) _ _ _ _ rfl hq Try.underlying27 rfl size_fp) rfl ?_
  exact ⟨rfl, hb⟩
theorem set_any (c : Nat) (w : World) :
    Calls Try.prog 31 #[.int .u8 (c : Nat)] w fun e w' => e = .returned (.bool (((c : Int)) != 0)) ∧ w' = w := by
  go_enter Try.func31, Try.ntmps31
  go_wp2
  go_ret
  exact ⟨rfl, rfl⟩
/-- What a search tells of the bytes from m on. -/
structure Told (r : Int) (f : F) (m : Nat) : Prop where
  h : 0 ≤ r ↔ ¬ ∀ i : Nat, i < 16 → m ≤ i → f.b i = 0
set_option maxHeartbeats 1000000 in
theorem index_any (f : F) (N o m len cap : Nat) (t : TypeId) (hol : m + len = 16) (hom : len = 0 ∨ o = m) (w : World) (hr : RowAt w N f.cells t) :
    Calls Try.prog 33 #[.slice (some ⟨N, o, none⟩) len cap, .func (.func 31) #[] #[]] w fun e w' => (∃ r : Int, e = .returned (.int .i64 r) ∧ Told r f m) ∧ w' = w := by
  have HC := hide (fun c w => set_any c w)
  go_enter Try.func33, Try.ntmps33
  go_wp2
  go_loop [8] (fun iv => ∃ k : Nat, k ≤ len ∧ iv = .int .i64 (k : Nat) ∧ ∀ i : Nat, i < m + k → m ≤ i → f.b i = 0) (fun iv => len - (intOf iv).toNat)
  case atStart => exact ⟨0, by omega, rfl, fun i h1 h2 => by omega⟩
  case round =>
    obtain ⟨k, hk, rfl, hz⟩ := hrel
    have HZ := hide hz
    clear hz
    by_cases hlt : k < len
    · obtain rfl : o = m := by omega
      have hc := (hr.cell (o + k)).trans (f.cell_b (o + k) (by omega))
      obtain ⟨c, hcc⟩ : ∃ c, f.b (o + k) = c := ⟨_, rfl⟩
      rw [hcc] at hc
      by_cases h0 : c = 0
      · have t0 : (((c : Nat) : Int) != 0) = false := by simp [h0]
        have HCC := hide (hcc.trans h0)
        clear h0 hcc
        go_wp2_with (go_at_call 31; refine (HC.out _ _).mono ?_; rintro e w2 ⟨rfl, rfl⟩)
        go_round
        case rel => exact ⟨k + 1, by omega, by go_num, fun i h1 h2 => by
          by_cases hi : i < o + k
          · exact HZ.out i hi h2
          · obtain rfl : i = o + k := by omega
            exact HCC.out⟩
        case measure => simp [intOf]; omega
      · have t0 : (((c : Nat) : Int) != 0) = true := by simp [h0]
        have HCC := hide (fun h : f.b (o + k) = 0 => h0 (hcc.symm.trans h))
        clear h0 hcc
        go_wp2_with (go_at_call 31; refine (HC.out _ _).mono ?_; rintro e w2 ⟨rfl, rfl⟩)
        go_ret
        exact ⟨⟨_, rfl, ⟨⟨fun _ h => HCC.out (h _ (by omega) (by omega)), fun _ => by omega⟩⟩⟩, rfl⟩
    · obtain rfl : k = len := by omega
      go_wp2
      go_ret
      exact ⟨⟨_, rfl, ⟨⟨fun h => absurd h (by decide), fun h => (h (fun i h1 h2 => HZ.out i (by omega) h2)).elim⟩⟩⟩, rfl⟩
theorem contains_any (f : F) (N o m len cap : Nat) (t : TypeId) (hol : m + len = 16) (hom : len = 0 ∨ o = m) (w : World) (hr : RowAt w N f.cells t) :
    Calls Try.prog 32 #[.slice (some ⟨N, o, none⟩) len cap, .func (.func 31) #[] #[]] w fun e w' => e = .returned (.bool (!decide (∀ i : Nat, i < 16 → m ≤ i → f.b i = 0))) ∧ w' = w := by
  have HC := hide (index_any f N o m len cap t hol hom w hr)
  go_enter Try.func32, Try.ntmps32
  go_wp2_with (go_at_call 33; refine (HC.out).mono ?_; rintro e w2 ⟨⟨r, rfl, hr1⟩, rfl⟩; have HR := hide hr1; clear hr1)
  go_ret
  refine ⟨?_, rfl⟩
  have := HR.out
  by_cases h : ∀ i : Nat, i < 16 → m ≤ i → f.b i = 0
  · rw [decide_eq_true h]
    have h2 : ¬ 0 ≤ r := fun h0 => this.h.1 h0 h
    simp; omega
  · rw [decide_eq_false h]
    have h2 : 0 ≤ r := this.h.2 h
    simp; omega
set_option maxHeartbeats 1000000 in
theorem maybe_lt (f : F) (m : Nat) (hm : f.n = (m : Int)) (hlt : m < 16) (w : World) :
    Calls Try.prog 28 #[.agg f.cells] w fun e w' => e = .returned (.bool (mayF f)) ∧ Below w.heap.size w w' := by
  have HM : mayF f = decide (∀ i : Nat, i < 16 → m ≤ i → f.b i = 0) := by
    unfold mayF tailB; rw [hm, decide_eq_true (show (0 : Int) ≤ (m : Int) by omega), decide_eq_true (show (m : Int) ≤ 16 by omega)]
    simp
  have HC := hide (fun W hr => contains_any f w.heap.size m m (16 - m) (16 - m) 27 (by omega) (by omega) W hr)
  rw [HM]
  clear HM
  generalize decide (∀ i : Nat, i < 16 → m ≤ i → f.b i = 0) = z at HC ⊢
  obtain ⟨b, n⟩ := f
  simp only at hm
  subst hm
  have b1 : (m : Int) < 16 := by omega
  have b2 : ¬ 16 = m := by omega
  go_enter Try.func28, Try.ntmps28
  go_wp2_with (first | ((with_reducible refine bx_fp w.heap.size ⟨b, (m : Int)⟩ ?_ ?_ ?_); exact rfl; exact rfl; intro W hr hb hz; have fx := hr.cell) | (go_at_call 32; (with_reducible refine (HC.out _ hr).mono ?_); rintro e w2 ⟨rfl, rfl⟩))
  go_ret
  exact ⟨by simp, hb⟩
set_option maxHeartbeats 1000000 in
theorem maybe_16 (f : F) (m : Nat) (hm : f.n = (m : Int)) (hlt : m = 16) (w : World) :
    Calls Try.prog 28 #[.agg f.cells] w fun e w' => e = .returned (.bool (mayF f)) ∧ Below w.heap.size w w' := by
  have HM : mayF f = decide (∀ i : Nat, i < 16 → m ≤ i → f.b i = 0) := by
    unfold mayF tailB; rw [hm, decide_eq_true (show (0 : Int) ≤ (m : Int) by omega), decide_eq_true (show (m : Int) ≤ 16 by omega)]
    simp
  have HC := hide (fun W hr => contains_any f w.heap.size 0 m 0 0 27 (by omega) (by omega) W hr)
  rw [HM]
  clear HM
  generalize decide (∀ i : Nat, i < 16 → m ≤ i → f.b i = 0) = z at HC ⊢
  obtain ⟨b, n⟩ := f
  simp only at hm
  subst hm
  subst hlt
  go_enter Try.func28, Try.ntmps28
  go_wp2_with (first | ((with_reducible refine bx_fp w.heap.size ⟨b, ((16 : Nat) : Int)⟩ ?_ ?_ ?_); exact rfl; exact rfl; intro W hr hb hz; have fx := hr.cell) | (go_at_call 32; (with_reducible refine (HC.out _ hr).mono ?_); rintro e w2 ⟨rfl, rfl⟩))
  go_ret
  exact ⟨by simp, hb⟩
theorem maybe_out (f : F) (hm : f.n < 0 ∨ 16 < f.n) (w : World) :
    Calls Try.prog 28 #[.agg f.cells] w fun e w' => e = .returned (.bool (mayF f)) ∧ Below w.heap.size w w' := by
  have HM : mayF f = false := by
    unfold mayF
    rcases hm with h | h
    · rw [decide_eq_false (show ¬ 0 ≤ f.n by omega)]; rfl
    · rw [decide_eq_false (show ¬ f.n ≤ 16 by omega)]; simp
  rw [HM]
  clear HM
  rcases hm with h | h
  · have t1 : decide (0 ≤ f.n) = false := by simp; omega
    clear h
    go_enter Try.func28, Try.ntmps28
    go_wp2_with (first | ((with_reducible refine bx_fp w.heap.size f ?_ ?_ ?_); exact rfl; exact rfl; intro W hr hb hz; have fx := hr.cell))
    go_ret
    exact ⟨rfl, hb⟩
  · have t1 : decide (f.n ≤ 16) = false := by simp; omega
    have t2 : 0 ≤ f.n := by omega
    clear h
    go_enter Try.func28, Try.ntmps28
    go_wp2_with (first | ((with_reducible refine bx_fp w.heap.size f ?_ ?_ ?_); exact rfl; exact rfl; intro W hr hb hz; have fx := hr.cell))
    go_ret
    exact ⟨rfl, hb⟩
theorem maybe_any (f : F) (w : World) :
    Calls Try.prog 28 #[.agg f.cells] w fun e w' => e = .returned (.bool (mayF f)) ∧ Below w.heap.size w w' := by
  by_cases h : 0 ≤ f.n ∧ f.n ≤ 16
  · by_cases h2 : f.n = 16
    · exact maybe_16 f 16 h2 rfl w
    · exact maybe_lt f f.n.toNat (by omega) (by omega) w
  · exact maybe_out f (by omega) w
end Go.Proofs.Ythopfecjnbfnmaa
