/-
  What strings.IndexByte answers of the digits, and what word.Parse answers of any text.
-/
import Derived.Test.YthfcodiplmodaaaGreatDoorBase
import Derived.Lib.Bytealg
import Derived.Laws.BitsAllLaws
import Derived.Stop.Asserts
namespace Go.Proofs.YthfcodiplmodaaaGreatDoor
open Go.RowKit Go.Extern.Stop Go.Stop Go.Extern
set_option linter.unusedVariables false

def digs : List UInt8 := [48, 49, 50, 51, 52, 53, 54, 55, 56, 57, 97, 98, 99, 100, 101, 102]
/-- What a digit counts; -1 of none. -/
def dig (c : UInt8) : Int := Lib.indexByte digs c
theorem dig_bd : ∀ n : Fin 256, -1 ≤ dig (UInt8.ofNat n.val) ∧ dig (UInt8.ofNat n.val) ≤ 15 := by decide +kernel
theorem dig_le (c : UInt8) : -1 ≤ dig c ∧ dig c ≤ 15 := by
  have := dig_bd ⟨c.toNat, c.toNat_lt⟩
  simpa using this

set_option maxHeartbeats 1000000 in
theorem idx_any (c : UInt8) (w : World) :
    Calls Tryz.prog 109 #[.string ⟨#[48, 49, 50, 51, 52, 53, 54, 55, 56, 57, 97, 98, 99, 100, 101, 102]⟩, .int .u8 (c.toNat : Int)] w fun e w' => e = .returned (.int .i64 (dig c)) ∧ w' = w := by
  have hx := @run_callFunc_extern Tryz.prog 140 _ Extern.BytealgIndexByte.indexByte Tryz.func140 (by kernel_rfl) (by kernel_rfl) (by kernel_rfl) (by kernel_rfl)
  have hi : ∀ W, (Extern.BytealgIndexByte.indexByte #[.string ⟨#[48, 49, 50, 51, 52, 53, 54, 55, 56, 57, 97, 98, 99, 100, 101, 102]⟩, .int .u8 (c.toNat : Int)]).run Tryz.prog W = .ok (.int .i64 (dig c)) W := fun W => by
    rw [Lib.run_indexByteString]
    simp [dig, digs]
  go_enter Tryz.func109, Tryz.ntmps109
  go_wp2
  go_ret
  exact ⟨rfl, rfl⟩

/-- The number of digits, and whether all are digits. -/
def valN (l : List UInt8) : Nat := l.foldl (fun s c => s * 16 + (dig c).toNat) 0
def okN (l : List UInt8) : Bool := l.all fun c => decide (0 ≤ dig c)
theorem valN_snoc (l : List UInt8) (c : UInt8) : valN (l ++ [c]) = valN l * 16 + (dig c).toNat := by simp [valN]
theorem okN_snoc (l : List UInt8) (c : UInt8) : okN (l ++ [c]) = (okN l && decide (0 ≤ dig c)) := by simp [okN]
theorem valN_lt : ∀ (n : Nat) (l : List UInt8), l.length = n → valN l < 16 ^ n := by
  intro n
  induction n with
  | zero => intro l h; have : l = [] := List.eq_nil_of_length_eq_zero h; subst this; decide
  | succ n ih =>
    intro l h
    rcases List.eq_nil_or_concat l with rfl | ⟨l', c, rfl⟩
    · simp at h
    · rw [List.concat_eq_append] at h ⊢
      rw [valN_snoc]
      have := ih l' (by simpa using h)
      have := dig_le c
      have hd : (dig c).toNat ≤ 15 := by omega
      rw [Nat.pow_succ]
      omega
theorem take_snoc (s : ByteArray) (k : Nat) (h : k < s.size) : s.data.toList.take (k + 1) = s.data.toList.take k ++ [s[k]] := by
  rw [List.take_succ_eq_append_getElem (by simpa using h)]; rfl
theorem or16 (y d : Nat) (hy : y < 268435456) (hd : d ≤ 15) : bits .or .u32 ((y : Int) * 16) (d : Int) = ((y * 16 + d : Nat) : Int) := by
  have e : ((y : Int) * 16) = ((y * 16 : Nat) : Int) := by simp
  rw [e, u32_or_nat _ _ (by omega) (by omega), nat_join 4 _ _ (by omega) (by omega)]

/-- What Parse answers: the number, or the error's number. -/
def parseV (s : ByteArray) : Nat := if 1 ≤ s.size ∧ s.size ≤ 8 ∧ okN s.data.toList = true then valN s.data.toList else 0
def parseE (s : ByteArray) : Int := if 1 ≤ s.size ∧ s.size ≤ 8 ∧ okN s.data.toList = true then 0 else 3
def errV (c : Int) : Value := if c = 0 then .nilIface else .iface 69 (.int .i64 c)

set_option maxHeartbeats 2000000 in
theorem parse_any (s : ByteArray) (hs : s.size ≤ 9223372036854775807) (w : World) :
    Calls Tryz.prog 77 #[.string s] w fun e w' => e = .returned (.tuple #[.int .u32 (parseV s : Nat), errV (parseE s)]) ∧ w' = w := by
  by_cases hsz : 1 ≤ s.size ∧ s.size ≤ 8
  · obtain ⟨h1, h8⟩ := hsz
    have HB := hide (fun (h : okN s.data.toList = false) => show parseV s = 0 ∧ parseE s = 3 by unfold parseV parseE; rw [if_neg (by simp [h]), if_neg (by simp [h])]; exact ⟨rfl, rfl⟩)
    have HO := hide (fun (h : okN s.data.toList = true) => show parseV s = valN s.data.toList ∧ parseE s = 0 by unfold parseV parseE; rw [if_pos ⟨h1, h8, h⟩, if_pos ⟨h1, h8, h⟩]; exact ⟨rfl, rfl⟩)
    generalize parseV s = pv at *
    generalize parseE s = pe at *
    go_enter Tryz.func77, Tryz.ntmps77
    go_wp2
    go_loop [4, 18] (fun x i => ∃ k : Nat, k ≤ s.size ∧ i = .int .i64 k ∧ x = .int .u32 (valN (s.data.toList.take k) : Nat) ∧ okN (s.data.toList.take k) = true) (fun _ i => s.size - (intOf i).toNat)
    case atStart => exact ⟨0, Nat.zero_le _, rfl, rfl, rfl⟩
    case round =>
      obtain ⟨k, hk, rfl, rfl, hok⟩ := hrel
      by_cases hlt : k < s.size
      · have hts := take_snoc s k hlt
        have hvs := valN_snoc (s.data.toList.take k) s[k]
        have hos := okN_snoc (s.data.toList.take k) s[k]
        rw [← hts] at hvs hos
        rw [hok] at hos
        have hl : (s.data.toList.take k).length = k := by simp; omega
        have hvl := valN_lt k _ hl
        have hpw : 16 ^ k ≤ 16 ^ 7 := Nat.pow_le_pow_right (by decide) (by omega)
        have hdl := dig_le s[k]
        have HI := hide (idx_any s[k])
        have HK := hide hok
        by_cases hd : dig s[k] < 0
        · have hbad : okN s.data.toList = false := by
            have hmem : s[k] ∈ s.data.toList := List.mem_of_mem_take (by rw [hts]; simp : s[k] ∈ s.data.toList.take (k + 1))
            unfold okN
            rw [List.all_eq_false]
            exact ⟨s[k], hmem, by simp; omega⟩
          obtain ⟨rfl, rfl⟩ := HB.out hbad
          clear hvs hos hts hok
          go_wp2_with (go_at_call 109; refine (HI.out _).mono ?_; rintro e w' ⟨rfl, rfl⟩)
          go_ret2
          exact ⟨rfl, rfl⟩
        · obtain ⟨d, hde⟩ := Int.eq_ofNat_of_zero_le (show 0 ≤ dig s[k] by omega)
          have HV := hide (show valN (s.data.toList.take (k + 1)) = valN (s.data.toList.take k) * 16 + d by rw [hvs, hde]; simp)
          have HOK := hide (show okN (s.data.toList.take (k + 1)) = true by rw [hos, hde]; simp)
          rw [hde] at HI hdl hd
          have hor := or16 (valN (s.data.toList.take k)) d (by omega) (by omega)
          clear hvs hos hts hok hde
          generalize valN (s.data.toList.take k) = y at *
          have hy : y < 268435456 := by omega
          clear hvl hpw
          go_wp2_with (go_at_call 109; refine (HI.out _).mono ?_; rintro e w' ⟨rfl, rfl⟩)
          go_round
          case rel => exact ⟨k + 1, by omega, by go_num, by rw [HV.out]; go_num, HOK.out⟩
          case measure => simp [intOf]; omega
      · obtain rfl : k = s.size := by omega
        go_wp2
        go_ret2
        have hall : s.data.toList.take s.size = s.data.toList := List.take_of_length_le (by simp)
        rw [hall] at hok ⊢
        obtain ⟨rfl, rfl⟩ := HO.out hok
        exact ⟨rfl, rfl⟩
  · have hp : parseV s = 0 ∧ parseE s = 3 := by unfold parseV parseE; rw [if_neg (by omega), if_neg (by omega)]; exact ⟨rfl, rfl⟩
    rw [hp.1, hp.2]
    clear hp
    by_cases h0 : s.size < 1
    · go_enter Tryz.func77, Tryz.ntmps77
      go_wp2
      go_ret2
      exact ⟨rfl, rfl⟩
    · have h9 : 8 < s.size := by omega
      clear hsz
      go_enter Tryz.func77, Tryz.ntmps77
      go_wp2
      go_ret2
      exact ⟨rfl, rfl⟩
end Go.Proofs.YthfcodiplmodaaaGreatDoor
