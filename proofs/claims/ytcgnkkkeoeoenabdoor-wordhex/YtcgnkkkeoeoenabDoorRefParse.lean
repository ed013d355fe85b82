/-
  What the document's Parse answers of any text.
-/
import Derived.Test.YtcgnkkkeoeoenabDoorDigits
import Derived.Deep.QuietTactic
import Derived.BigQuiet
import Derived.WalkSmall
namespace Go.Proofs.YtcgnkkkeoeoenabDoor
open Go.RowKit
set_option linter.unusedVariables false

/-- The last digit below k that is this byte; 16 of none. -/
def lastD (c : UInt8) : Nat → Nat
  | 0 => 16
  | k + 1 => if digs.getD k 0 = c then k else lastD c k
theorem lastD_all : ∀ n : Fin 256, (lastD (UInt8.ofNat n.val) 16 : Int) = if dig (UInt8.ofNat n.val) < 0 then 16 else dig (UInt8.ofNat n.val) := by decide +kernel
theorem lastD_dig (c : UInt8) : (lastD c 16 : Int) = if dig c < 0 then 16 else dig c := by
  have := lastD_all ⟨c.toNat, c.toNat_lt⟩
  simpa using this
theorem lastD_le (c : UInt8) : ∀ k, k ≤ 16 → lastD c k ≤ 16 := by
  intro k
  induction k with
  | zero => intro _; exact Nat.le_refl _
  | succ k ih => intro h; unfold lastD; split; omega; exact ih (by omega)

def dgs : ByteArray := ⟨#[48, 49, 50, 51, 52, 53, 54, 55, 56, 57, 97, 98, 99, 100, 101, 102]⟩
theorem dgs_size : dgs.size = 16 := rfl
theorem dgs_at : ∀ k : Fin 16, (dgs[k.val]'(by rw [dgs_size]; exact k.isLt)) = digs.getD k.val 0 := by decide +kernel
theorem run_dgs (k : Nat) (h : k < 16) (w : World) : (Instr.index 9 (.string dgs) (.int .i64 (k : Int))).run Tryd.prog w = .ok (.int .u8 ((digs.getD k 0).toNat : Int)) w := by
  have hi : 0 ≤ (k : Int) ∧ (k : Int) < (dgs.size : Int) := by rw [dgs_size]; omega
  rw [run_index_string w _ dgs _ _ Tryd.underlying9, dif_pos hi]
  have := dgs_at ⟨k, h⟩
  simp only [Int.toNat_natCast]
  simp only at this
  rw [this]
theorem empt (s : ByteArray) : s.toList.isEmpty = decide (s.size = 0) := by
  rw [ByteArray.toList_eq, Bool.eq_iff_iff]
  simp only [List.isEmpty_iff, decide_eq_true_eq]
  constructor
  · intro h
    have : s.data.toList.length = 0 := by rw [h]; rfl
    simpa using this
  · intro h
    apply List.eq_nil_of_length_eq_zero
    simpa using h
theorem byte_beq (a b : UInt8) : (((a.toNat : Nat) : Int) == ((b.toNat : Nat) : Int)) = decide (a = b) := by
  rw [Bool.eq_iff_iff]
  simp only [beq_iff_eq, decide_eq_true_eq]
  constructor
  · intro h; exact UInt8.toNat_inj.1 (by omega)
  · intro h; rw [h]

set_option maxHeartbeats 4000000 in
set_option maxRecDepth 100000 in
theorem refparse_any (s : ByteArray) (hs : s.size ≤ 9223372036854775807) (w : World) :
    Calls Tryd.prog 5 #[.string s] w fun e w' => e = .returned (.tuple #[.int .u32 (parseV s : Nat), .int .i64 (parseE s)]) ∧ ∃ n, w' = w.drewN n := by
  by_cases hsz : 1 ≤ s.size ∧ s.size ≤ 8
  · obtain ⟨h1, h8⟩ := hsz
    have HB := hide (fun (h : okN s.data.toList = false) => show parseV s = 0 ∧ parseE s = 3 by unfold parseV parseE; rw [if_neg (by simp [h]), if_neg (by simp [h])]; exact ⟨rfl, rfl⟩)
    have HO := hide (fun (h : okN s.data.toList = true) => show parseV s = valN s.data.toList ∧ parseE s = 0 by unfold parseV parseE; rw [if_pos ⟨h1, h8, h⟩, if_pos ⟨h1, h8, h⟩]; exact ⟨rfl, rfl⟩)
    have hne : s.toList.isEmpty = false := by rw [empt]; exact decide_eq_false (by omega)
    generalize parseV s = pv at *
    generalize parseE s = pe at *
    go_enter Tryd.func5, Tryd.ntmps5
    generalize hdg : ByteArray.mk #[48, 49, 50, 51, 52, 53, 54, 55, 56, 57, 97, 98, 99, 100, 101, 102] = dg
    have hdg' : dg = dgs := hdg.symm
    subst hdg'
    clear hdg
    go_wp2
    go_loopw [4, 5] (fun x i wr => ∃ k n : Nat, k ≤ s.size ∧ i = .int .i64 k ∧ x = .int .u32 (valN (s.data.toList.take k) : Nat) ∧ okN (s.data.toList.take k) = true ∧ wr = w.drewN n) (fun _ i _ => s.size - (intOf i).toNat)
    case atStart => exact ⟨0, 0, Nat.zero_le _, rfl, rfl, rfl, rfl⟩
    case round =>
      obtain ⟨k, n, hk, rfl, rfl, hok, rfl⟩ := hrel
      by_cases hlt : k < s.size
      · have hts := take_snoc s k hlt
        have hvs := valN_snoc (s.data.toList.take k) s[k]
        have hos := okN_snoc (s.data.toList.take k) s[k]
        rw [← hts] at hvs hos
        rw [hok] at hos
        have hl : (s.data.toList.take k).length = k := by simp; omega
        have hvl := valN_lt k _ hl
        have hpw : 16 ^ k ≤ 16 ^ 7 := Nat.pow_le_pow_right (by decide) (by omega)
        have hdl := dig_le s[k]
        have hlast := lastD_dig s[k]
        have HV := hide hvs
        have HOS := hide hos
        have HTS := hide hts
        have HL := hide hlast
        clear hvs hos hts hok hlast hne
        go_wp2
        go_loopw [6, 7] (fun d q wr => ∃ j m : Nat, j ≤ 16 ∧ q = .int .i64 j ∧ d = .int .i64 (lastD s[k] j : Nat) ∧ wr = w.drewN m) (fun _ q _ => 16 - (intOf q).toNat)
        case atStart => exact ⟨0, n, Nat.zero_le _, rfl, rfl, rfl⟩
        case round =>
          obtain ⟨j, m, hj, rfl, rfl, rfl⟩ := hrel
          by_cases hjl : j < 16
          · have hrun := run_dgs j hjl
            have hbeq := byte_beq (digs.getD j 0) s[k]
            have HJ := hide (show lastD s[k] (j + 1) = if digs.getD j 0 = s[k] then j else lastD s[k] j from rfl)
            have hki : (k : Int) < (s.size : Int) := by omega
            by_cases hc : digs.getD j 0 = s[k]
            · have HJ2 := hide (show lastD s[k] (j + 1) = j by rw [HJ.out, if_pos hc])
              rw [decide_eq_true hc] at hbeq
              clear hc
              generalize digs.getD j 0 = dj at *
              go_wp2
              go_quiet (fail)
              go_wp2
              go_roundw
              case rel => exact ⟨j + 1, m + _, by omega, by go_num, by rw [HJ2.out], rfl⟩
              case measure => simp [intOf]; omega
            · have HJ2 := hide (show lastD s[k] (j + 1) = lastD s[k] j by rw [HJ.out, if_neg hc])
              rw [decide_eq_false hc] at hbeq
              clear hc
              generalize digs.getD j 0 = dj at *
              go_wp2
              go_quiet (fail)
              go_wp2
              go_roundw
              case rel => exact ⟨j + 1, m + _, by omega, by go_num, by rw [HJ2.out], rfl⟩
              case measure => simp [intOf]; omega
          · obtain rfl : j = 16 := by omega
            have hlast := HL.out
            by_cases hd : dig s[k] < 0
            · rw [if_pos hd] at hlast
              have hl16 : lastD s[k] 16 = 16 := by omega
              rw [hl16]
              have hbad : okN s.data.toList = false := by
                have hmem : s[k] ∈ s.data.toList := List.mem_of_mem_take (by rw [HTS.out]; simp : s[k] ∈ s.data.toList.take (k + 1))
                unfold okN
                rw [List.all_eq_false]
                exact ⟨s[k], hmem, by simp; omega⟩
              obtain ⟨rfl, rfl⟩ := HB.out hbad
              clear hlast hl16 hbad hd
              go_wp2
              go_ret2
              exact ⟨rfl, m, rfl⟩
            · obtain ⟨d, hde⟩ := Int.eq_ofNat_of_zero_le (show 0 ≤ dig s[k] by omega)
              have HV2 := hide (show valN (s.data.toList.take (k + 1)) = valN (s.data.toList.take k) * 16 + d by rw [HV.out, hde]; simp)
              have HOK := hide (show okN (s.data.toList.take (k + 1)) = true by rw [HOS.out, hde]; simp)
              rw [if_neg hd, hde] at hlast
              have hl16 : lastD s[k] 16 = d := by omega
              rw [hl16]
              have hd15 : d ≤ 15 := by omega
              have hdb : ((d : Int) == 16) = false := by rw [beq_eq_false_iff_ne]; omega
              have hy : valN (s.data.toList.take k) < 268435456 := by omega
              clear hlast hl16 hd hde hvl hpw hdl
              generalize valN (s.data.toList.take k) = y at *
              go_wp2
              go_roundw
              case rel => exact ⟨k + 1, m, by omega, by go_num, by rw [HV2.out]; go_num, HOK.out, rfl⟩
              case measure => simp [intOf]; omega
      · obtain rfl : k = s.size := by omega
        go_wp2
        go_ret2
        have hall : s.data.toList.take s.size = s.data.toList := List.take_of_length_le (by simp)
        rw [hall] at hok ⊢
        obtain ⟨rfl, rfl⟩ := HO.out hok
        exact ⟨rfl, n, rfl⟩
  · have hp : parseV s = 0 ∧ parseE s = 3 := by unfold parseV parseE; rw [if_neg (by omega), if_neg (by omega)]; exact ⟨rfl, rfl⟩
    rw [hp.1, hp.2]
    clear hp
    by_cases h0 : s.size < 1
    · have hne : s.toList.isEmpty = true := by rw [empt]; exact decide_eq_true (by omega)
      go_enter Tryd.func5, Tryd.ntmps5
      go_wp2
      go_ret2
      exact ⟨rfl, 0, rfl⟩
    · have h9 : 8 < s.size := by omega
      have hne : s.toList.isEmpty = false := by rw [empt]; exact decide_eq_false (by omega)
      clear hsz
      go_enter Tryd.func5, Tryd.ntmps5
      go_wp2
      go_ret2
      exact ⟨rfl, 0, rfl⟩
end Go.Proofs.YtcgnkkkeoeoenabDoor
