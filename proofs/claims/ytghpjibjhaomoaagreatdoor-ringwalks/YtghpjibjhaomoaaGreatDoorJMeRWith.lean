/-
  What word.With answers of a place that may not be, and what the document's With answers.
-/
import Derived.Test.YtghpjibjhaomoaaGreatDoorJMeWith
import Derived.Test.YtghpjibjhaomoaaGreatDoorJMeErrs
namespace Go.Proofs.YtghpjibjhaomoaaGreatDoor
open Go.RowKit
set_option linter.unusedVariables false

set_option maxHeartbeats 1000000 in
theorem with_bad (a : Option Addr) (len cap : Nat) (hlen : len ≤ 140737488351232) (at_ n : Int) (hc : codeN len at_ n ≠ 0) (v : Int) (w : World) :
    Calls Tryz.prog 53 #[.slice a len cap, .int .i64 at_, .int .i64 n, .int .u32 v] w fun e w' => e = .returned (.tuple #[.slice none 0 0, .iface 84 (.int .i64 (codeN len at_ n))]) ∧ w' = w := by
  have HK := hide (check_bad (len : Int) at_ n (by omega) (by omega) hc)
  clear hc
  generalize codeN len at_ n = c at *
  go_enter Tryz.func53, Tryz.ntmps53
  go_wp2_with (first | (go_at_call 74; refine (HK.out _).mono ?_; rintro e w' ⟨rfl, rfl⟩))
  go_ret2
  exact ⟨rfl, rfl⟩

set_option maxHeartbeats 1000000 in
theorem refwith_bad (a : Option Addr) (len cap : Nat) (hlen : len ≤ 140737488351232) (at_ n : Int) (hc : codeN len at_ n ≠ 0) (v : Int) (w : World) :
    Calls Tryz.prog 54 #[.slice a len cap, .int .i64 at_, .int .i64 n, .int .u32 v] w fun e w' => e = .returned (.tuple #[.slice none 0 0, .int .i64 (codeN len at_ n)]) ∧ w' = w := by
  have HK := hide (refcheck_any a len cap hlen at_ n)
  have hb : (codeN len at_ n != 0) = true := by rw [bne_iff_ne]; exact hc
  clear hc
  generalize codeN len at_ n = c at *
  go_enter Tryz.func54, Tryz.ntmps54
  go_wp2_with (first | (go_at_call 75; refine (HK.out _).mono ?_; rintro e w' ⟨rfl, rfl⟩))
  go_ret2
  exact ⟨rfl, rfl⟩

set_option maxHeartbeats 2000000 in
set_option maxRecDepth 100000 in
theorem refwith_ok (b off cap : Nat) (l : List UInt8) (at_ n : Nat) (hn : n = 1 ∨ n = 2 ∨ n = 4) (hal : at_ % n = 0) (hfit : at_ + n ≤ l.length) (hmax : l.length ≤ 140737488351232) (v : Nat) (hv : v < 4294967296) (w : World)
    (hsrc : ∀ j u, (cellsB l)[j]? = some u → w.cell? ⟨b, off + j, none⟩ = some u) (hb : b < w.heap.size) :
    Calls Tryz.prog 54 #[.slice (some ⟨b, off, none⟩) l.length cap, .int .i64 at_, .int .i64 n, .int .u32 v] w fun e w' => ∃ g c, e = .returned (.tuple #[.slice (some ⟨g, 0, none⟩) l.length c, .int .i64 0]) ∧
      w'.ownsRow w.heap.size 5 1 (.slice (some ⟨g, 0, none⟩) l.length c) l.length (cellsB (withTo l at_ v n)) ∧ Below w.heap.size w w' := by
  obtain ⟨i0, hi, hz0, hz1, hz2⟩ := info_parts infoByte
  have hk := refcheck_any (some ⟨b, off, none⟩) l.length cap hmax (at_ : Int) (n : Int)
  have e0 : codeN l.length at_ n = 0 := by unfold codeN; rw [if_neg (by omega), if_neg (by omega), if_neg (by omega)]
  rw [e0] at hk
  have HK := hide hk
  have hn4 : n ≤ 4 := by omega
  have hn1 : 1 ≤ n := by omega
  have HC := hide (cellsB_length l)
  clear hal hn hk e0
  generalize hN : l.length = N at *
  have HN := hide hN
  clear hN
  go_enter Tryz.func54, Tryz.ntmps54
  go_wp2_with (first | (go_at_call 75; refine (HK.out _).mono ?_; rintro e w1 ⟨rfl, rfl⟩) | (at_builtin; refine wpList_append_own _ rfl _ _ 28 rfl w1.heap.size 5 i0 (.int .u8 0) 1 1 Tryz.underlying28 hi hz0 hz1 hz2 rfl (by decide) _ 0 [] rfl (World.ownsRow_nil _ _ _ _) ⟨b, off, none⟩ N cap (cellsB l) rfl (by rw [HC.out]; omega) (fun j u hj => by rw [Addr.add_lit]; exact hsrc j u hj) (cellsB_one l) (by unfold maxLen; omega) (by omega) (Nat.le_refl _) ?_; intro v' w2 hown' hgrow' hnil; clear hnil; simp only [Nat.zero_add, List.nil_append] at hown'; obtain ⟨g, c, rfl, hbg, hgl⟩ := own_shape hown' (by omega); have hb2 := (Below.refl w1.heap.size w1).grown hgrow' (Nat.le_refl _) (fun k e => by cases e); clear hgrow'))
  clear hsrc
  go_loopw [3, 12] (fun xv iv wr => ∃ k : Nat, k ≤ n ∧ iv = .int .i64 k ∧ xv = .int .u32 (v / 256 ^ k : Nat) ∧ wr.ownsRow w1.heap.size 5 1 (.slice (some ⟨g, 0, none⟩) N c) N (cellsB (withTo l at_ v k)) ∧ Below w1.heap.size w1 wr) (fun _ iv _ => n - (intOf iv).toNat)
  case atStart => exact ⟨0, Nat.zero_le _, rfl, by simp, hown', hb2⟩
  case round =>
    obtain ⟨k, hk, rfl, rfl, hrow, hB⟩ := hrel
    clear hown' hb2
    by_cases hlt : k < n
    · have hc := hrow.cellAt (at_ + k) (by omega)
      have hf := hrow.frozenAt (at_ + k)
      have hst := (hrow.stored (at_ + k) (.int .u8 (((v / 256 ^ k % 256 : Nat)) : Int))).1
      have HS := hide (show (cellsB (withTo l at_ v k)).set (at_ + k) (.int .u8 (((v / 256 ^ k % 256 : Nat)) : Int)) = cellsB (withTo l at_ v (k + 1)) by rw [withTo, cellsB_set, byte_of]; simp)
      rw [HS.out] at hst
      have hlen : at_ + k < (cellsB (withTo l at_ v k)).length := by rw [cellsB_length, withTo_length, HN.out]; omega
      rw [List.getElem?_eq_getElem hlen] at hc
      generalize (cellsB (withTo l at_ v k))[at_ + k] = old at *
      have HT := hide hst
      have HV := hide (show v / 256 ^ k / 256 = v / 256 ^ (k + 1) by rw [Nat.div_div_eq_div_mul, ← Nat.pow_succ])
      have hq : v / 256 ^ k ≤ v := Nat.div_le_self _ _
      clear hst HS hlen
      generalize v / 256 ^ k = q at *
      have HM := hide (show ((q % 256 : Nat) : Int) = (q : Int) % 256 by simp)
      rw [HM.out] at HT
      go_wp2
      go_roundw
      case rel => exact ⟨k + 1, by omega, by go_num, by rw [← HV.out]; go_num, HT.out, hB.setCell (p := ⟨g, at_ + k, none⟩) hbg _⟩
      case measure => simp [intOf]; omega
    · obtain rfl : k = n := by omega
      go_wp2
      go_ret2
      exact ⟨_, _, rfl, hrow, hB⟩
end Go.Proofs.YtghpjibjhaomoaaGreatDoor
