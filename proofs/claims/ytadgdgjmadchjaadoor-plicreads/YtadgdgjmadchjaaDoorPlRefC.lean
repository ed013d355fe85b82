/-
  What the document's Check answers.
-/
import Derived.Test.YtadgdgjmadchjaaDoorPlBits
import Derived.Test.YtadgdgjmadchjaaDoorPlRefM
namespace Go.Proofs.YtadgdgjmadchjaaDoor
open Go.RowKit
set_option linter.unusedVariables false

def list3 (a b c : Nat) : Array Value := #[.int .u32 (a : Nat), .int .u32 (b : Nat), .int .u32 (c : Nat)]
theorem bs_list {ops : Array Oper} {rest : List Oper} {dst : Option Tmp} {ty : TypeId} {pos : String} {after : Array Edge} {a : Act} {w : World} {Q : Exit → Act → World → Prop} {x0 x1 x2 : Operand} (N : Nat) (u v t : Nat) (hN : w.heap.size = N) (h0 : a.eval x0 = .int .u32 (u : Nat)) (h1 : a.eval x1 = .int .u32 (v : Nat)) (h2 : a.eval x2 = .int .u32 (t : Nat))
    (k : ∀ W, RowAt W N (list3 u v t) 22 → Below N w W → Hid (W.heap.size = N + 1) → wpList Tryd.prog ops Q rest (a.put dst (.slice (some ⟨N, 0, none⟩) 3 3)) W) :
    wpList Tryd.prog ops Q (⟨dst, .buildSlice 51 3 #[(0, x0), (1, x1), (2, x2)], ty, pos, after, none⟩ :: rest) a w := by
  subst hN
  have hb : Tryd.prog.builtSlice 22 3 [(0, .int .u32 (u : Nat)), (1, .int .u32 (v : Nat)), (2, .int .u32 (t : Nat))] = some (list3 u v t) := by kernel_rfl
  have hp : ((#[(0, x0), (1, x1), (2, x2)] : Array (Nat × Operand)).map fun (i, x) => (i, a.eval x)).toList = [(0, .int .u32 (u : Nat)), (1, .int .u32 (v : Nat)), (2, .int .u32 (t : Nat))] := by simp [h0, h1, h2]
  exact Great.wpList_buildSliceTo rfl _ 22 3 _ rfl _ rfl dst rfl Tryd.underlying51 (list3 u v t) (by rw [hp]; exact hb) (k _ (RowAt.new w _ _ 22 rfl) (below_one w _) (hide (by simp)))
/-- What the document's Check answers. -/
def ckN (s : P5) : Int := if mayP5 s = true then 0 else 1
theorem ckN_no {s : P5} (hs : s.Ok) (h : ¬ May s) : ckN s = 1 := by
  unfold ckN
  rw [if_neg (fun hh => h ((may_iff s hs).1 hh))]
theorem ckN_yes {s : P5} (hs : s.Ok) (h : May s) : ckN s = 0 := by
  unfold ckN
  rw [if_pos ((may_iff s hs).2 h)]
set_option maxRecDepth 100000 in
set_option maxHeartbeats 4000000 in
theorem rcheck_any (s : P5) (hs : s.Ok) (w : World) :
    Calls Tryd.prog 9 #[.agg s.cells] w fun e w' => e = .returned (.int .i64 (ckN s)) ∧ Below w.heap.size w w' := by
  have HC := hide hs
  go_enter Tryd.func9, Tryd.ntmps9
  go_wp2_with (first | ((with_reducible refine bx_r w.heap.size s ?_ ?_ ?_); exact rfl; exact rfl; intro W hr hb hz))
  go_loopw [3] (fun iv wr => ∃ i : Nat, i ≤ 8 ∧ iv = .int .i64 i ∧ (∀ j, j < i → s.pr j ≤ 7) ∧ RowAt wr w.heap.size s.cells 25 ∧ Below w.heap.size w wr) (fun iv _ => 8 - (intOf iv).toNat)
  case atStart => exact ⟨0, by omega, rfl, fun j h => absurd h (by omega), hr, hb⟩
  case round =>
    clear hr hb hz
    obtain ⟨i, hi8, rfl, hsm, hr, hb⟩ := hrel
    by_cases hi : i < 8
    · by_cases h7 : s.pr i ≤ 7
      · have u2 : ((s.pr i : Nat) : Int) > 7 ↔ False := by simp; omega
        have u2b : decide ((7 : Int) < ((s.pr i : Nat) : Int)) = false := by simp; omega
        have u2c : decide (7 < s.pr i) = false := by simp; omega
        replace hsm := hide hsm
        go_wp2_with (first | ((with_reducible refine ld_pr w.heap.size i _ _ hi hr ?_ ?_); exact rfl))
        go_roundw
        case rel => exact ⟨i + 1, by omega, by go_num, fun j hj => by (by_cases e : j = i; (subst e; exact h7); exact hsm.out j (by omega)), hr, hb⟩
        case measure => simp [intOf]; omega
      · have u2 : ((s.pr i : Nat) : Int) > 7 := by omega
        have u2b : (7 : Int) < ((s.pr i : Nat) : Int) := by omega
        have u2c : decide (7 < s.pr i) = true := by simp; omega
        replace hsm := hide hsm
        go_wp2_with (first | ((with_reducible refine ld_pr w.heap.size i _ _ hi hr ?_ ?_); exact rfl))
        go_ret
        exact ⟨by rw [ckN_no HC.out (fun h => h7 (h.pr i hi))]; rfl, hb⟩
    · obtain rfl : i = 8 := by omega
      replace hsm := hide hsm
      obtain ⟨NL, hNL⟩ : ∃ N, wr.heap.size = N := ⟨_, rfl⟩
      have lNL : w.heap.size + 1 ≤ NL := by have := hr.lt; omega
      replace hNL := hide hNL
      go_wp2_with (first | ((with_reducible refine ld_en w.heap.size _ _ hr ?_ ?_); exact rfl) | ((with_reducible refine ld_pe w.heap.size _ _ hr ?_ ?_); exact rfl) | ((with_reducible refine ld_bu w.heap.size _ _ hr ?_ ?_); exact rfl) | ((with_reducible refine bs_list NL s.en s.pe s.bu ?_ ?_ ?_ ?_ ?_); exact hNL.out; exact rfl; exact rfl; exact rfl; intro W hl hb' hz'; replace hr := hr.bl (hNL.out ▸ hb'); replace hb := hb.trans (hb'.mono (by omega))))
      go_loopw [5] (fun kv wq => ∃ k : Nat, k ≤ 3 ∧ kv = .int .i64 k ∧ (0 < k → Srcs s.en ∧ (1 < k → Srcs s.pe) ∧ (2 < k → Srcs s.bu)) ∧ RowAt wq w.heap.size s.cells 25 ∧ RowAt wq NL (list3 s.en s.pe s.bu) 22 ∧ Below w.heap.size w wq) (fun kv _ => 3 - (intOf kv).toNat)
      case atStart => exact ⟨0, by omega, rfl, fun h => absurd h (by omega), hr, hl, hb⟩
      case round =>
        clear hr hl hb
        obtain ⟨k, hk, rfl, hk3, hr, hl, hb⟩ := hrel
        have hk' : k = 0 ∨ k = 1 ∨ k = 2 ∨ k = 3 := by omega
        rcases hk' with rfl | rfl | rfl | rfl
        · clear hk3
          by_cases e1 : s.en % 2 = 0
          · have u1 : ((s.en : Int) % 2 != 0) = false := by simp; omega
            by_cases e2 : s.en ≤ 255
            · have u2 : ((s.en : Int) > 255) = False := by simp; omega
              have u2b : decide ((255 : Int) < (s.en : Int)) = false := by simp; omega
              have u2c : decide (255 < s.en) = false := by simp; omega
              go_wp2_with (first | ((with_reducible refine ld_w NL 0 _ s.en _ hl ?_ ?_ ?_); exact rfl; exact rfl) | ((with_reducible refine g_ldw NL 0 _ _ s.en hl ?_ ?_ ?_ ?_); exact rfl; exact rfl; exact rfl))
              go_roundw
              case rel => exact ⟨1, by omega, by go_num, fun h => ⟨(srcs_num _).2 ⟨e1, e2⟩, fun h => absurd h (by omega), fun h => absurd h (by omega)⟩, hr, hl, hb⟩
              case measure => simp [intOf]
            · have u2 : ((s.en : Int) > 255) := by omega
              have u2b : (255 : Int) < (s.en : Int) := by omega
              have u2c : decide (255 < s.en) = true := by simp; omega
              go_wp2_with (first | ((with_reducible refine ld_w NL 0 _ s.en _ hl ?_ ?_ ?_); exact rfl; exact rfl) | ((with_reducible refine g_ldw NL 0 _ _ s.en hl ?_ ?_ ?_ ?_); exact rfl; exact rfl; exact rfl))
              go_ret
              exact ⟨by rw [ckN_no HC.out (fun h => e2 ((srcs_num _).1 h.en).2)]; rfl, hb⟩
          · have u1 : ((s.en : Int) % 2 != 0) = true := by simp; omega
            go_wp2_with (first | ((with_reducible refine ld_w NL 0 _ s.en _ hl ?_ ?_ ?_); exact rfl; exact rfl) | ((with_reducible refine g_ldw NL 0 _ _ s.en hl ?_ ?_ ?_ ?_); exact rfl; exact rfl; exact rfl))
            go_ret
            exact ⟨by rw [ckN_no HC.out (fun h => e1 ((srcs_num _).1 h.en).1)]; rfl, hb⟩
        · replace hk3 := hide hk3
          by_cases e1 : s.pe % 2 = 0
          · have u1 : ((s.pe : Int) % 2 != 0) = false := by simp; omega
            by_cases e2 : s.pe ≤ 255
            · have u2 : ((s.pe : Int) > 255) = False := by simp; omega
              have u2b : decide ((255 : Int) < (s.pe : Int)) = false := by simp; omega
              have u2c : decide (255 < s.pe) = false := by simp; omega
              go_wp2_with (first | ((with_reducible refine ld_w NL 1 _ s.pe _ hl ?_ ?_ ?_); exact rfl; exact rfl) | ((with_reducible refine g_ldw NL 1 _ _ s.pe hl ?_ ?_ ?_ ?_); exact rfl; exact rfl; exact rfl))
              go_roundw
              case rel => exact ⟨2, by omega, by go_num, fun h => ⟨(hk3.out (by omega)).1, fun _ => (srcs_num _).2 ⟨e1, e2⟩, fun h => absurd h (by omega)⟩, hr, hl, hb⟩
              case measure => simp [intOf]
            · have u2 : ((s.pe : Int) > 255) := by omega
              have u2b : (255 : Int) < (s.pe : Int) := by omega
              have u2c : decide (255 < s.pe) = true := by simp; omega
              go_wp2_with (first | ((with_reducible refine ld_w NL 1 _ s.pe _ hl ?_ ?_ ?_); exact rfl; exact rfl) | ((with_reducible refine g_ldw NL 1 _ _ s.pe hl ?_ ?_ ?_ ?_); exact rfl; exact rfl; exact rfl))
              go_ret
              exact ⟨by rw [ckN_no HC.out (fun h => e2 ((srcs_num _).1 h.pe).2)]; rfl, hb⟩
          · have u1 : ((s.pe : Int) % 2 != 0) = true := by simp; omega
            go_wp2_with (first | ((with_reducible refine ld_w NL 1 _ s.pe _ hl ?_ ?_ ?_); exact rfl; exact rfl) | ((with_reducible refine g_ldw NL 1 _ _ s.pe hl ?_ ?_ ?_ ?_); exact rfl; exact rfl; exact rfl))
            go_ret
            exact ⟨by rw [ckN_no HC.out (fun h => e1 ((srcs_num _).1 h.pe).1)]; rfl, hb⟩
        · replace hk3 := hide hk3
          by_cases e1 : s.bu % 2 = 0
          · have u1 : ((s.bu : Int) % 2 != 0) = false := by simp; omega
            by_cases e2 : s.bu ≤ 255
            · have u2 : ((s.bu : Int) > 255) = False := by simp; omega
              have u2b : decide ((255 : Int) < (s.bu : Int)) = false := by simp; omega
              have u2c : decide (255 < s.bu) = false := by simp; omega
              go_wp2_with (first | ((with_reducible refine ld_w NL 2 _ s.bu _ hl ?_ ?_ ?_); exact rfl; exact rfl) | ((with_reducible refine g_ldw NL 2 _ _ s.bu hl ?_ ?_ ?_ ?_); exact rfl; exact rfl; exact rfl))
              go_roundw
              case rel => exact ⟨3, by omega, by go_num, fun h => ⟨(hk3.out (by omega)).1, fun _ => (hk3.out (by omega)).2.1 (by omega), fun _ => (srcs_num _).2 ⟨e1, e2⟩⟩, hr, hl, hb⟩
              case measure => simp [intOf]
            · have u2 : ((s.bu : Int) > 255) := by omega
              have u2b : (255 : Int) < (s.bu : Int) := by omega
              have u2c : decide (255 < s.bu) = true := by simp; omega
              go_wp2_with (first | ((with_reducible refine ld_w NL 2 _ s.bu _ hl ?_ ?_ ?_); exact rfl; exact rfl) | ((with_reducible refine g_ldw NL 2 _ _ s.bu hl ?_ ?_ ?_ ?_); exact rfl; exact rfl; exact rfl))
              go_ret
              exact ⟨by rw [ckN_no HC.out (fun h => e2 ((srcs_num _).1 h.bu).2)]; rfl, hb⟩
          · have u1 : ((s.bu : Int) % 2 != 0) = true := by simp; omega
            go_wp2_with (first | ((with_reducible refine ld_w NL 2 _ s.bu _ hl ?_ ?_ ?_); exact rfl; exact rfl) | ((with_reducible refine g_ldw NL 2 _ _ s.bu hl ?_ ?_ ?_ ?_); exact rfl; exact rfl; exact rfl))
            go_ret
            exact ⟨by rw [ckN_no HC.out (fun h => e1 ((srcs_num _).1 h.bu).1)]; rfl, hb⟩
        · obtain ⟨h1, h2, h3⟩ := hk3 (by omega)
          replace h2 := h2 (by omega)
          replace h3 := h3 (by omega)
          have HM := hide (fun (e0 : s.pr 0 = 0) (et : s.th ≤ 7) => (⟨e0, et, hsm.out, h1, h2, h3⟩ : May s))
          clear h1 h2 h3
          by_cases e0 : s.pr 0 = 0
          · have u0 : (((s.pr 0 : Nat) : Int) != 0) = false := by simp; omega
            by_cases et : s.th ≤ 7
            · have u2 : ((s.th : Int) > 7) = False := by simp; omega
              have u2b : decide ((7 : Int) < (s.th : Int)) = false := by simp; omega
              have u2c : decide (7 < s.th) = false := by simp; omega
              go_wp2_with (first | ((with_reducible refine ld_w w.heap.size 0 _ (s.pr 0) _ hr ?_ ?_ ?_); exact rfl; exact rfl) | ((with_reducible refine g_ldw w.heap.size 9 _ _ s.th hr ?_ ?_ ?_ ?_); exact rfl; exact rfl; exact rfl))
              go_ret
              exact ⟨by rw [ckN_yes HC.out (HM.out e0 et)]; rfl, hb⟩
            · have u2 : ((s.th : Int) > 7) := by omega
              have u2b : (7 : Int) < (s.th : Int) := by omega
              have u2c : decide (7 < s.th) = true := by simp; omega
              go_wp2_with (first | ((with_reducible refine ld_w w.heap.size 0 _ (s.pr 0) _ hr ?_ ?_ ?_); exact rfl; exact rfl) | ((with_reducible refine g_ldw w.heap.size 9 _ _ s.th hr ?_ ?_ ?_ ?_); exact rfl; exact rfl; exact rfl))
              go_ret
              exact ⟨by rw [ckN_no HC.out (fun h => et h.th)]; rfl, hb⟩
          · have u0 : (((s.pr 0 : Nat) : Int) != 0) = true := by simp; omega
            go_wp2_with (first | ((with_reducible refine ld_w w.heap.size 0 _ (s.pr 0) _ hr ?_ ?_ ?_); exact rfl; exact rfl))
            go_ret
            exact ⟨by rw [ckN_no HC.out (fun h => e0 h.p0)]; rfl, hb⟩

end Go.Proofs.YtadgdgjmadchjaaDoor
