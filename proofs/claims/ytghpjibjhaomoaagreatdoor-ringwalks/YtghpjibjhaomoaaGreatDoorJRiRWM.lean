/-
  The document's walk, plain: it is the program's.
-/
import Derived.Test.YtghpjibjhaomoaaGreatDoorJRiLd
import Derived.Test.YtghpjibjhaomoaaGreatDoorJRiBoth
import Derived.Test.YtghpjibjhaomoaaGreatDoorJRiWalk
namespace Go.Proofs.YtghpjibjhaomoaaGreatDoor
open Go.RowKit
set_option linter.unusedVariables false
set_option linter.unusedSimpArgs false

attribute [local go_sem] Rg.at0 Rg.at1 Rg.at2 Rg.at3 Rg.at4 Rg.at5
/-- Is s one of the first k powers of 2? -/
def inPw (s : Int) : Nat → Bool
  | 0 => false
  | k + 1 => inPw s k || (s == ((2 ^ k : Nat) : Int))
theorem inPw_all (s : Int) : inPw s 9 = okSz s := by
  simp only [inPw, okSz, Bool.false_or]
  rfl
set_option maxHeartbeats 2000000 in
theorem dcheck_any (r : Rg) (hr0 : r.Ok) (w : World) : Calls Tryz.prog 12 #[.agg r.cells] w fun e w' => e = .returned (.int .i64 (if chkR r then 0 else 1)) ∧ Below w.heap.size w w' := by
  obtain ⟨z, hz⟩ : ∃ z : Int, (if chkR r = true then (0 : Int) else 1) = z := ⟨_, rfl⟩
  rw [hz]
  have HZ := hide hz
  clear hz
  go_enter Tryz.func12, Tryz.ntmps12
  go_wp2_with (first | ((with_reducible refine bx_rr w.heap.size r ?_ ?_ ?_); exact rfl; exact rfl; intro W hr hb hz; have fx := hr.cell))
  have HR := hide hr
  have HB := hide hb
  clear hr hb hz fx
  go_loopw [3, 4] (fun pv nv wr => ∃ k : Nat, k ≤ 9 ∧ pv = .bool (inPw r.sz k) ∧ nv = .int .i64 ((2 ^ k : Nat) : Int) ∧ wr = W) (fun pv nv _ => 600 - (intOf nv).toNat)
  case atStart => exact ⟨0, Nat.zero_le _, rfl, rfl, rfl⟩
  case round =>
    obtain ⟨k, hk, rfl, rfl, rfl⟩ := hrel
    have fx := HR.out.cell
    by_cases hlt : k < 9
    · have hp : 2 ^ k ≤ 256 := Nat.le_trans (Nat.pow_le_pow_right (by decide) (show k ≤ 8 by omega)) (by decide)
      have hp0 : 0 < 2 ^ k := Nat.pow_pos (by decide)
      have hst : inPw r.sz (k + 1) = (inPw r.sz k || (r.sz == ((2 ^ k : Nat) : Int))) := rfl
      have hps : (2 ^ (k + 1) : Nat) = 2 * 2 ^ k := by rw [Nat.pow_succ]; omega
      have HST := hide hst
      have HPS := hide hps
      obtain ⟨P, hP⟩ : ∃ x, 2 ^ k = x := ⟨_, rfl⟩
      rw [hP] at hp hp0 HST HPS ⊢
      have l1 : (P : Int) ≤ 256 := by omega
      obtain ⟨pb, hpb⟩ : ∃ x, inPw r.sz k = x := ⟨_, rfl⟩
      rw [hpb] at HST ⊢
      clear hst hps hP hpb
      cases pb with
      | true =>
        go_wp2
        go_roundw
        case rel => exact ⟨k + 1, hlt, by rw [HST.out]; rfl, by rw [HPS.out]; go_num, by first | rfl | trivial⟩
        case measure => simp [intOf]; omega
      | false =>
        go_wp2
        go_roundw
        case rel => exact ⟨k + 1, hlt, by rw [HST.out]; rfl, by rw [HPS.out]; go_num, by first | rfl | trivial⟩
        case measure => simp [intOf]; omega
    · obtain rfl : k = 9 := by omega
      rw [inPw_all]
      have l1 : decide (((2 ^ 9 : Nat) : Int) ≤ 256) = false := by decide
      have hd := hr0.de
      have hv := hr0.av
      have hu := hr0.us
      obtain ⟨sz, de, av, us, la, pu⟩ := r
      simp only at hd hv hu ⊢
      obtain ⟨ob, hob⟩ : ∃ x, okSz sz = x := ⟨_, rfl⟩
      have HCK : Hid (∀ b, alR ⟨sz, de, av, us, la, pu⟩ = b → (if chkR ⟨sz, de, av, us, la, pu⟩ = true then (0 : Int) else 1) = if (ob && b) = true then 0 else 1) := hide (fun b e => by unfold chkR; rw [e]; simp only; rw [hob])
      rw [hob]
      clear hob
      cases ob with
      | false =>
        go_wp2
        go_ret
        exact ⟨by rw [← HZ.out, HCK.out _ rfl]; rfl, HB.out⟩
      | true =>
        by_cases d1 : de % 16 = 0
        · by_cases d2 : av % 2 = 0
          · by_cases d3 : us % 4 = 0
            · have HC := hide (HCK.out true (by unfold alR; simp [d1, d2, d3]))
              have mde1 : (((de : Int) % 16) != 0) = false := by simp; omega
              have mde2 : ((((de % 16 : Nat)) : Int) != 0) = false := by simp; omega
              have mde3 : (((de : Int) % 16) == 0) = true := by simp; omega
              have mde4 : ((((de % 16 : Nat)) : Int) == 0) = true := by simp; omega
              have mav1 : (((av : Int) % 2) != 0) = false := by simp; omega
              have mav2 : ((((av % 2 : Nat)) : Int) != 0) = false := by simp; omega
              have mav3 : (((av : Int) % 2) == 0) = true := by simp; omega
              have mav4 : ((((av % 2 : Nat)) : Int) == 0) = true := by simp; omega
              have mus1 : (((us : Int) % 4) != 0) = false := by simp; omega
              have mus2 : ((((us % 4 : Nat)) : Int) != 0) = false := by simp; omega
              have mus3 : (((us : Int) % 4) == 0) = true := by simp; omega
              have mus4 : ((((us % 4 : Nat)) : Int) == 0) = true := by simp; omega
              clear d1 d2 d3
              go_wp2
              go_ret
              exact ⟨by rw [← HZ.out, HC.out]; rfl, HB.out⟩
            · have HC := hide (HCK.out false (by unfold alR; simp [d3]))
              have mde1 : (((de : Int) % 16) != 0) = false := by simp; omega
              have mde2 : ((((de % 16 : Nat)) : Int) != 0) = false := by simp; omega
              have mde3 : (((de : Int) % 16) == 0) = true := by simp; omega
              have mde4 : ((((de % 16 : Nat)) : Int) == 0) = true := by simp; omega
              have mav1 : (((av : Int) % 2) != 0) = false := by simp; omega
              have mav2 : ((((av % 2 : Nat)) : Int) != 0) = false := by simp; omega
              have mav3 : (((av : Int) % 2) == 0) = true := by simp; omega
              have mav4 : ((((av % 2 : Nat)) : Int) == 0) = true := by simp; omega
              have mus1 : (((us : Int) % 4) != 0) = true := by simp; omega
              have mus2 : ((((us % 4 : Nat)) : Int) != 0) = true := by simp; omega
              have mus3 : (((us : Int) % 4) == 0) = false := by simp; omega
              have mus4 : ((((us % 4 : Nat)) : Int) == 0) = false := by simp; omega
              clear d1 d2 d3
              go_wp2
              go_ret
              exact ⟨by rw [← HZ.out, HC.out]; rfl, HB.out⟩
          · have HC := hide (HCK.out false (by unfold alR; simp [d2]))
            have mde1 : (((de : Int) % 16) != 0) = false := by simp; omega
            have mde2 : ((((de % 16 : Nat)) : Int) != 0) = false := by simp; omega
            have mde3 : (((de : Int) % 16) == 0) = true := by simp; omega
            have mde4 : ((((de % 16 : Nat)) : Int) == 0) = true := by simp; omega
            have mav1 : (((av : Int) % 2) != 0) = true := by simp; omega
            have mav2 : ((((av % 2 : Nat)) : Int) != 0) = true := by simp; omega
            have mav3 : (((av : Int) % 2) == 0) = false := by simp; omega
            have mav4 : ((((av % 2 : Nat)) : Int) == 0) = false := by simp; omega
            clear d1 d2
            go_wp2
            go_ret
            exact ⟨by rw [← HZ.out, HC.out]; rfl, HB.out⟩
        · have HC := hide (HCK.out false (by unfold alR; simp [d1]))
          have mde1 : (((de : Int) % 16) != 0) = true := by simp; omega
          have mde2 : ((((de % 16 : Nat)) : Int) != 0) = true := by simp; omega
          have mde3 : (((de : Int) % 16) == 0) = false := by simp; omega
          have mde4 : ((((de % 16 : Nat)) : Int) == 0) = false := by simp; omega
          clear d1
          go_wp2
          go_ret
          exact ⟨by rw [← HZ.out, HC.out]; rfl, HB.out⟩
end Go.Proofs.YtghpjibjhaomoaaGreatDoor
namespace Go.Proofs.YtghpjibjhaomoaaGreatDoor
open Go.RowKit
set_option linter.unusedVariables false
set_option linter.unusedSimpArgs false

theorem numF_cons (f : Nat → Nat) (a : Nat) : ∀ n, numF f a (n + 1) = f a + 256 * numF f (a + 1) n
  | 0 => by simp [numF]
  | n + 1 => by
    rw [numF, numF_cons f a n]
    conv => rhs; rw [numF]
    rw [show a + (n + 1) = a + 1 + n by omega, Nat.pow_succ, Nat.mul_add]
    have : f (a + 1 + n) * (256 ^ n * 256) = 256 * (f (a + 1 + n) * 256 ^ n) := by
      rw [← Nat.mul_assoc, Nat.mul_comm]
    omega
variable {ops : Array Oper} {rest : List Oper} {dst : Option Tmp} {ty : TypeId} {pos : String} {after : Array Edge} {a : Act} {w : World} {Q : Exit → Act → World → Prop} {x y : Operand}
theorem bx_Rv (N : Nat) (r : RP) (hN : w.heap.size = N) (hx : a.eval x = .agg (r.v 8192 2))
    (k : ∀ W, RowAt W N (r.v 8192 2) 31 → Below N w W → Hid (W.heap.size = N + 1) → wpList Tryz.prog ops Q rest (a.put dst (.pointer (some ⟨N, 0, none⟩))) W) :
    wpList Tryz.prog ops Q (⟨dst, .box 31 x, ty, pos, after, none⟩ :: rest) a w := op_box N hN (r.v 8192 2) hx k
set_option maxHeartbeats 2000000 in
theorem dload_ok {w : World} {f : Nat → Nat} {r : RP} (h : RefAt w 8192 2 f r) (x k : Nat) (hx : x < 4294967296) (hk : k = 2 ∨ k = 4) (hal : x % k = 0) (h0 : plB 2 x k = true) : Calls Tryz.prog 32 #[.agg (r.v 8192 2), .int .u32 (x : Nat), .int .i64 (k : Nat)] w fun e w' => e = .returned (.tuple #[.int .u32 (numF f (plM x) k : Nat), .bool true]) ∧ Below w.heap.size w w' := by
  have hin := plB_in h0 (by omega)
  have hx31 : 2147483648 ≤ x := by unfold plM at hin; split at hin <;> omega
  have hpm : plM x = x - 2147483648 := by unfold plM; rw [if_pos hx31]
  obtain ⟨a, ha⟩ : ∃ a, plM x = a := ⟨_, rfl⟩
  rw [ha] at hin hpm ⊢
  obtain ⟨z, hz⟩ : ∃ z, numF f a k = z := ⟨_, rfl⟩
  rw [hz]
  have HZ := hide hz
  have hsm := hide h.small
  have HH := hide h
  have HCB := hide h.capB
  clear hz h0 h hal ha
  go_enter Tryz.func32, Tryz.ntmps32
  go_wp2_with (first | ((with_reducible refine bx_Rv w.heap.size r ?_ ?_ ?_); exact rfl; exact rfl; intro W hr hb hz))
  have HB := hide hb
  have HR := hide (HH.out.bl hb)
  have f0 : W.cell? ⟨w.heap.size, 0, none⟩ = some (.slice (some ⟨r.gB, 0, none⟩) 8192 r.cB) := (hr.cell 0).trans rfl
  clear hr hb hz
  go_loopw [8, 9] (fun vv iv wr => ∃ i : Nat, i ≤ k ∧ vv = .int .u32 ((numF f (a + i) (k - i) : Nat) : Int) ∧ iv = .int .i64 ((i : Int) - 1) ∧ wr = W) (fun vv iv _ => ((intOf iv) + 1).toNat)
  case atStart => exact ⟨k, Nat.le_refl _, by rw [Nat.sub_self]; rfl, by go_num, rfl⟩
  case round =>
    obtain ⟨i, hi, rfl, rfl, rfl⟩ := hrel
    by_cases hlt : 0 < i
    · obtain ⟨j, rfl⟩ : ∃ j, i = j + 1 := ⟨i - 1, by omega⟩
      have hc : wr.cell? ⟨r.gB, a + j, none⟩ = some (.int .u8 (f (a + j) : Nat)) := HR.out.bytes.cell (by omega)
      have hbl := hsm.out (a + j)
      have hnc : numF f (a + j) (k - j) = f (a + j) + 256 * numF f (a + (j + 1)) (k - (j + 1)) := by rw [show k - j = (k - (j + 1)) + 1 by omega, numF_cons]; rfl
      have hnl : numF f (a + j) (k - j) < 4294967296 := Nat.lt_of_lt_of_le (numF_lt hsm.out _ _) (Nat.le_trans (Nat.pow_le_pow_right (by decide) (show k - j ≤ 4 by omega)) (by decide))
      have HNC := hide hnc
      rw [hnc] at hnl
      obtain ⟨v, hv⟩ : ∃ v, numF f (a + (j + 1)) (k - (j + 1)) = v := ⟨_, rfl⟩
      obtain ⟨y, hy⟩ : ∃ y, f (a + j) = y := ⟨_, rfl⟩
      obtain ⟨q, hq⟩ : ∃ q, x + j = q := ⟨_, rfl⟩
      have hql : q < 4294967296 := by omega
      have hq3 : 2147483648 ≤ q := by omega
      have hqa : q - 2147483648 = a + j := by omega
      rw [hv] at hnl HNC ⊢
      rw [hy] at hc hbl hnl HNC
      have ex : (x : Int) + ((j : Int) + 1 - 1) = (q : Int) := by omega
      have ex2 : ((j + 1 : Nat) : Int) - 1 = (j : Int) := by omega
      have ex3 : (x : Int) + (j : Int) = (q : Int) := by omega
      have eq2 : (q : Int) - 2147483648 = ((a + j : Nat) : Int) := by omega
      have t1 : decide ((q : Int) < 2147483648) = false := by simp; omega
      have t2 : decide ((8192 : Int) ≤ ((a + j : Nat) : Int)) = false := by simp; omega
      have t3 : (0 : Int) ≤ (j : Int) := by omega
      have hjl : j < 4 := by omega
      obtain ⟨aj, haj⟩ : ∃ x, a + j = x := ⟨_, rfl⟩
      have HAJ := hide haj
      rw [haj] at hc eq2 t2 HNC
      have hajl : aj < 8192 := by omega
      have hcb := HCB.out
      rw [ex2]
      clear hnc hv hy hq hqa haj ex ex2
      go_wp2
      go_roundw
      case rel => exact ⟨j, by omega, by (rw [HAJ.out, HNC.out]; exact congrArg (Value.int .u32) (by omega)), by go_num, by first | rfl | trivial⟩
      case measure => simp [intOf]
    · obtain rfl : i = 0 := by omega
      go_wp2
      go_ret2
      exact ⟨by rw [← HZ.out]; rfl, HB.out⟩
set_option maxRecDepth 20000 in
set_option maxHeartbeats 1000000 in
theorem dload_no {w : World} {f : Nat → Nat} {r : RP} (h : RefAt w 8192 2 f r) (x k : Nat) (hx : x < 4294967296) (hk : k = 2 ∨ k = 4) (hal : x % k = 0) (h0 : plB 2 x k = false) : Calls Tryz.prog 32 #[.agg (r.v 8192 2), .int .u32 (x : Nat), .int .i64 (k : Nat)] w fun e w' => e = .returned (.tuple #[.int .u32 0, .bool false]) ∧ Below w.heap.size w w' := by
  have hout := plB_out h0
  have hal2 : (k = 2 ∧ x % 2 = 0) ∨ (k = 4 ∧ x % 4 = 0) := by rcases hk with rfl | rfl; exact .inl ⟨rfl, hal⟩; exact .inr ⟨rfl, hal⟩
  obtain ⟨q, hq⟩ : ∃ q, x + (k - 1) = q := ⟨_, rfl⟩
  have hql : q < 4294967296 := by omega
  have hcase : q < 2147483648 ∨ (2147483648 ≤ q ∧ 8192 ≤ q - 2147483648) := by
    unfold plM at hout
    split at hout <;> omega
  have hk1 : 1 ≤ k := by omega
  have hk4 : k ≤ 4 := by omega
  obtain ⟨j, rfl⟩ : ∃ j, k = j + 1 := ⟨k - 1, by omega⟩
  have ex : (x : Int) + (j : Int) = (q : Int) := by omega
  have t0 : (0 : Int) ≤ (j : Int) := by omega
  have hj4 : j < 4 := by omega
  clear h0 hout hq hal hal2 h hk hk1 hk4
  rcases hcase with hq1 | ⟨hq1, hq2⟩
  · have t1 : (q : Int) < 2147483648 := by omega
    go_enter Tryz.func32, Tryz.ntmps32
    go_wp2_with (first | ((with_reducible refine bx_Rv w.heap.size r ?_ ?_ ?_); exact rfl; exact rfl; intro W hr hb hz))
    have HB := hide hb
    have HRo := hide hr
    clear hr hb hz
    go_loopw [8, 9] (fun vv iv wr => vv = .int .u32 0 ∧ iv = .int .i64 (j : Int) ∧ wr = W) (fun vv iv _ => 0)
    case atStart => exact ⟨rfl, by go_num, rfl⟩
    case round =>
      obtain ⟨rfl, rfl, rfl⟩ := hrel
      go_wp2
      go_ret2
      exact ⟨rfl, HB.out⟩
  · have t1 : decide ((q : Int) < 2147483648) = false := by simp; omega
    obtain ⟨d, hd⟩ : ∃ d, q - 2147483648 = d := ⟨_, rfl⟩
    have eq2 : (q : Int) - 2147483648 = (d : Int) := by omega
    have t2 : (8192 : Int) ≤ (d : Int) := by omega
    have hdl : d < 4294967296 := by omega
    go_enter Tryz.func32, Tryz.ntmps32
    go_wp2_with (first | ((with_reducible refine bx_Rv w.heap.size r ?_ ?_ ?_); exact rfl; exact rfl; intro W hr hb hz))
    have HB := hide hb
    have HRo := hide hr
    clear hr hb hz
    have f0 : W.cell? ⟨w.heap.size, 0, none⟩ = some (.slice (some ⟨r.gB, 0, none⟩) 8192 r.cB) := (HRo.out.cell 0).trans rfl
    go_loopw [8, 9] (fun vv iv wr => vv = .int .u32 0 ∧ iv = .int .i64 (j : Int) ∧ wr = W) (fun vv iv _ => 0)
    case atStart => exact ⟨rfl, by go_num, rfl⟩
    case round =>
      obtain ⟨rfl, rfl, rfl⟩ := hrel
      go_wp2
      go_ret2
      exact ⟨rfl, HB.out⟩
set_option maxHeartbeats 2000000 in
theorem dthere_any {w : World} (r : RP) (x n : Nat) (hx : x < 4294967296) (hn : n < 4294967296) : Calls Tryz.prog 39 #[.agg (r.v 8192 2), .int .u32 (x : Nat), .int .i64 (n : Nat)] w fun e w' => e = .returned (.bool (plB 2 x n)) ∧ Below w.heap.size w w' := by
  unfold plB
  by_cases h0 : n = 0
  · subst h0
    rw [show decide (0 = 0 ∨ plM x + 0 ≤ 4096 * 2) = true by simp]
    go_enter Tryz.func39, Tryz.ntmps39
    go_wp2_with (first | ((with_reducible refine bx_Rv w.heap.size r ?_ ?_ ?_); exact rfl; exact rfl; intro W hr hb hz; have f0 : W.cell? ⟨w.heap.size, 0, none⟩ = some (.slice (some ⟨r.gB, 0, none⟩) 8192 r.cB) := (hr.cell 0).trans rfl))
    go_ret
    exact ⟨rfl, hb⟩
  · have t0 : ((n : Int) == 0) = false := by simp; omega
    by_cases h1 : 2147483648 ≤ x
    · have hp : plM x = x - 2147483648 := by unfold plM; rw [if_pos h1]
      have t1 : (2147483648 : Int) ≤ (x : Int) := by omega
      obtain ⟨d, hd⟩ : ∃ d, x - 2147483648 = d := ⟨_, rfl⟩
      have ed : (x : Int) - 2147483648 = (d : Int) := by omega
      have hdl : d < 4294967296 := by omega
      rw [hp, hd]
      by_cases h2 : n ≤ 8192
      · have t2 : (n : Int) ≤ 8192 := by omega
        rw [show decide (n = 0 ∨ d + n ≤ 4096 * 2) = decide ((d : Int) ≤ 8192 - (n : Int)) from decide_eq_decide.2 ⟨fun q => by omega, fun q => by omega⟩]
        clear hp hd h0 h1 h2
        go_enter Tryz.func39, Tryz.ntmps39
        go_wp2_with (first | ((with_reducible refine bx_Rv w.heap.size r ?_ ?_ ?_); exact rfl; exact rfl; intro W hr hb hz; have f0 : W.cell? ⟨w.heap.size, 0, none⟩ = some (.slice (some ⟨r.gB, 0, none⟩) 8192 r.cB) := (hr.cell 0).trans rfl))
        go_ret
        exact ⟨rfl, hb⟩
      · have t2 : decide ((n : Int) ≤ 8192) = false := by simp; omega
        rw [show decide (n = 0 ∨ d + n ≤ 4096 * 2) = false from decide_eq_false (by omega)]
        clear hp hd h0 h1 h2
        go_enter Tryz.func39, Tryz.ntmps39
        go_wp2_with (first | ((with_reducible refine bx_Rv w.heap.size r ?_ ?_ ?_); exact rfl; exact rfl; intro W hr hb hz; have f0 : W.cell? ⟨w.heap.size, 0, none⟩ = some (.slice (some ⟨r.gB, 0, none⟩) 8192 r.cB) := (hr.cell 0).trans rfl))
        go_ret
        exact ⟨rfl, hb⟩
    · have hp : plM x = x + 2147483648 := by unfold plM; rw [if_neg h1]
      have t1 : decide ((2147483648 : Int) ≤ (x : Int)) = false := by simp; omega
      rw [show decide (n = 0 ∨ plM x + n ≤ 4096 * 2) = false from decide_eq_false (by rw [hp]; omega)]
      clear hp h0 h1
      go_enter Tryz.func39, Tryz.ntmps39
      go_wp2_with (first | ((with_reducible refine bx_Rv w.heap.size r ?_ ?_ ?_); exact rfl; exact rfl; intro W hr hb hz; have f0 : W.cell? ⟨w.heap.size, 0, none⟩ = some (.slice (some ⟨r.gB, 0, none⟩) 8192 r.cB) := (hr.cell 0).trans rfl))
      go_ret
      exact ⟨rfl, hb⟩
end Go.Proofs.YtghpjibjhaomoaaGreatDoor
namespace Go.Proofs.YtghpjibjhaomoaaGreatDoor
open Go.RowKit
set_option linter.unusedVariables false
set_option linter.unusedSimpArgs false

def oddE (p sum : Nat) (wr : Bool) (g : Nat → Nat) : Bool :=
  decide (g 1 ≠ 0) || (decide (3 < g 3 % 65536) || (decide (1048576 < g 2) || (!plB p (g 0) (g 2) || ((wr && !hasD g 2) || decide (1048576 < sum + g 2)))))
def rwalk (p : Nat) (f : Nat → Nat) (r : Rg) : Nat → Nat → Bool → Int → Option (List Sg)
  | 0, _, _, _ => none
  | k + 1, sum, wr, n =>
    if 0 ≤ n ∧ n < r.sz then
      if plB p (deA r n.toNat) 16 then
        if oddE p sum wr (dscAt f r n) then none
        else if hasD (dscAt f r n) 1 then (rwalk p f r k (sum + dscAt f r n 2) (wr || hasD (dscAt f r n) 2) (dscAt f r n 3 / 65536 : Nat)).map (sgOf (dscAt f r n) :: ·) else some [sgOf (dscAt f r n)]
      else none
    else none
theorem mark_hi (m : Nat) (h : m < 65536) : decide (m &&& 4294967292 ≠ 0) = decide (3 < m) := by
  rw [show m &&& 4294967292 = m % 4294967296 / 4 * 4 from nat_midmask 32 2 m (by decide)]
  exact decide_eq_decide.2 ⟨fun q => by omega, fun q => by omega⟩
theorem mark_lo : ∀ m : Fin 4, (decide (m.val &&& 2 ≠ 0)) = decide (m.val / 2 = 1) ∧ (decide (m.val &&& 1 ≠ 0)) = !decide (m.val % 2 = 0) := by decide
theorem odd_same (p sum : Nat) (wr : Bool) (g : Nat → Nat) : oddE p sum wr g = oddD p sum wr g := by
  unfold oddE oddD
  rw [mark_hi _ (Nat.mod_lt _ (by decide))]
  by_cases h : 1048576 < g 2
  · have h2 : 1048576 < sum + g 2 := by omega
    simp [h, h2]
  · simp only [h, decide_false, Bool.false_or]
    cases decide (g 1 ≠ 0) <;> cases decide (3 < g 3 % 65536) <;> cases plB p (g 0) (g 2) <;> cases (wr && !hasD g 2) <;> cases decide (1048576 < sum + g 2) <;> rfl
theorem rwalk_same (p : Nat) (f : Nat → Nat) (r : Rg) : ∀ (k sum : Nat) (wr : Bool) (n : Int), rwalk p f r k sum wr n = match followV p f r k n with | none => none | some l => if oddL p sum wr l then none else some (l.map sgOf)
  | 0, _, _, _ => rfl
  | k + 1, sum, wr, n => by
    simp only [rwalk, followV]
    by_cases h1 : 0 ≤ n ∧ n < r.sz
    · rw [if_pos h1, if_pos h1]
      by_cases h2 : plB p (deA r n.toNat) 16 = true
      · rw [if_pos h2, if_pos h2, odd_same]
        by_cases h3 : hasD (dscAt f r n) 1 = true
        · rw [if_pos h3, if_pos h3]
          rw [rwalk_same p f r k]
          cases hq : followV p f r k (dscAt f r n 3 / 65536 : Nat) with
          | none => simp
          | some l =>
            simp only [Option.map_some]
            have eo : oddL p sum wr (dscAt f r n :: l) = (oddD p sum wr (dscAt f r n) || oddL p (sum + dscAt f r n 2) (hasD (dscAt f r n) 2) l) := rfl
            rw [eo]
            by_cases h4 : oddD p sum wr (dscAt f r n) = true
            · simp [h4]
            · have h4' : oddD p sum wr (dscAt f r n) = false := by simpa using h4
              have hw : (wr || hasD (dscAt f r n) 2) = hasD (dscAt f r n) 2 := by
                unfold oddD at h4'
                simp only [Bool.or_eq_false_iff] at h4'
                exact (by decide : ∀ a b : Bool, (a && !b) = false → (a || b) = b) _ _ h4'.1
              rw [h4', hw, if_neg (by decide), Bool.false_or]
              cases oddL p (sum + dscAt f r n 2) (hasD (dscAt f r n) 2) l <;> rfl
        · rw [if_neg h3, if_neg h3]
          simp only [oddL, Bool.or_false]
          by_cases h4 : oddD p sum wr (dscAt f r n) = true
          · simp [h4]
          · have h4' : oddD p sum wr (dscAt f r n) = false := by simpa using h4
            simp [h4']
      · rw [if_neg h2, if_neg h2]
    · rw [if_neg h1, if_neg h1]
theorem rwalk_is (p : Nat) (f : Nat → Nat) (r : Rg) (hd : Int) : rwalk p f r r.sz.toNat 0 false hd = walkV p f r hd := by
  rw [rwalk_same]
  rfl
/-- A descriptor's last word is two numbers. -/
theorem num_two (f : Nat → Nat) (hf : ∀ x, f x < 256) (a : Nat) : numF f a 4 % 65536 = numF f a 2 ∧ numF f a 4 / 65536 = numF f (a + 2) 2 := by
  have h1 := numF_lt hf a 2
  have h2 := numF_lt hf (a + 2) 2
  have e : numF f a 4 = numF f a 2 + 65536 * numF f (a + 2) 2 := by
    simp only [numF, Nat.zero_add, Nat.pow_zero, Nat.mul_one, Nat.pow_one, Nat.reducePow, show a + 2 + 0 = a + 2 from rfl, show a + 2 + 1 = a + 3 from rfl]
    omega
  omega
theorem de_at {x j : Nat} (h : x % 16 = 0) (hx : x < 4294967296) (hj : j < 16) : x + j < 4294967296 ∧ plM (x + j) = plM x + j := by
  refine ⟨by omega, ?_⟩
  unfold plM
  split <;> split <;> omega
theorem de_yes {x j k : Nat} (h : x % 16 = 0) (hx : x < 4294967296) (h0 : plB 2 x 16 = true) (hj : j + k ≤ 16) (hk : 0 < k) : plB 2 (x + j) k = true := by
  have := plB_in h0 (by decide)
  unfold plB
  rw [(de_at h hx (by omega)).2]
  exact decide_eq_true (by omega)
theorem de_none {x j k : Nat} (h : x % 16 = 0) (hx : x < 4294967296) (h0 : plB 2 x 16 = false) (hj : j + k ≤ 16) (hk : 0 < k) : plB 2 (x + j) k = false := by
  have := plB_out h0
  have h2 := plM_al x 16 (by decide) h
  unfold plB
  rw [(de_at h hx (by omega)).2]
  exact decide_eq_false (by omega)
theorem info_r : ∃ i, Tryz.prog.info? 100 = some i ∧ i.zero = some (.agg zeroSg.cells) ∧ i.size = 3 ∧ i.bytes = 24 := info_parts (P := Tryz.prog) (e := 100) (z := .agg zeroSg.cells) (size := 3) (bytes := 24) (by kernel_rfl)
variable {ops : Array Oper} {rest : List Oper} {dst : Option Tmp} {ty : TypeId} {pos : String} {after : Array Edge} {a : Act} {w : World} {Q : Exit → Act → World → Prop} {x y : Operand} {B : Nat} {v : Value}
theorem app_r (l : List Sg) (g : Sg) (n : Nat) (hn : l.length = n) (hown : w.ownsRow B 100 3 v n (segL l)) (s : Nat) (hs : RowAt w s g.cells 100) (hl : n ≤ 1000000000) (hB : B ≤ w.heap.size) (hx : a.eval x = v) (hy : a.eval y = .slice (some ⟨s, 0, none⟩) 1 1)
    (k : ∀ W v', W.ownsRow B 100 3 v' (n + 1) (segL (l ++ [g])) → w.grownBy W v.ownBlock → (v'.ownBlock = v.ownBlock ∨ v'.ownBlock = some w.heap.size) → wpList Tryz.prog ops Q rest (a.put dst v') W) :
    wpList Tryz.prog ops Q (⟨dst, .call { callee := .builtin .append, args := #[x, y], argTypes := #[49, 49] }, 49, pos, after, none⟩ :: rest) a w := by
  obtain ⟨i, h1, h2, h3, h4⟩ := info_r
  refine op_appl 49 100 i _ 3 24 Tryz.underlying49 h1 h2 h3 h4 rfl (by decide) hown ⟨s, 0, none⟩ 1 1 (segL [g]) (by rw [segL_len]; rfl) ?_ (segL_ones _) (by unfold maxLen; omega) (by omega) hB hx hy ?_
  · intro j u hu
    rw [Addr.add_lit, Nat.zero_add, hs.cell, ← Array.getElem?_toList]
    rwa [segL_one] at hu
  · intro W v' q1 q2 q3
    rw [← segL_app] at q1
    exact k W v' q1 q2 q3
theorem bs_r (N : Nat) (hN : w.heap.size = N) (g : Sg) (hx : a.eval x = .agg g.cells)
    (k : ∀ W, RowAt W N g.cells 100 → Below N w W → Hid (W.heap.size = N + 1) → wpList Tryz.prog ops Q rest (a.put dst (.slice (some ⟨N, 0, none⟩) 1 1)) W) :
    wpList Tryz.prog ops Q (⟨dst, .buildSlice 49 1 #[(0, x)], ty, pos, after, none⟩ :: rest) a w :=
  op_bsn 49 100 1 Tryz.underlying49 g.cells N hN [(0, .agg g.cells)] (by simp [hx]) ⟨by kernel_rfl⟩ k
end Go.Proofs.YtghpjibjhaomoaaGreatDoor
