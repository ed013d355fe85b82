/-
  What the second loop of the document's Program carries on.
-/
import Derived.Test.YtoekcfbjdcibpaaGreatDoorJG
import Derived.Deep.QuietTactic
import Derived.BigQuiet
import Derived.WalkSmall
import Derived.Test.YtoekcfbjdcibpaaGreatDoorBase
import Derived.Lib.ItoaNum
import Derived.Lib.ItoaLen
import Derived.Test.YtoekcfbjdcibpaaGreatDoorInNm
import Derived.Test.YtoekcfbjdcibpaaGreatDoorJD
import Derived.Test.YtoekcfbjdcibpaaGreatDoorJN
import Derived.Test.YtoekcfbjdcibpaaGreatDoorJH
import Derived.Test.YtoekcfbjdcibpaaGreatDoorJR
namespace Go.Proofs.YtoekcfbjdcibpaaGreatDoor
open Go.RowKit
set_option linter.unusedVariables false

/-- The last digit below k that is this byte; 16 of none. -/
def lastD (c : UInt8) : Nat → Nat
  | 0 => 16
  | k + 1 => if digs.getD k 0 = c then k else lastD c k
theorem lastD_all : ∀ n : Fin 256, (lastD (UInt8.ofNat n.val) 16 : Int) = if dig (UInt8.ofNat n.val) < 0 then 16 else dig (UInt8.ofNat n.val) := by decide +kernel
theorem lastD_dig (c : UInt8) : (lastD c 16 : Int) = if dig c < 0 then 16 else dig c := by
  have := lastD_all ⟨c.toNat, c.toNat_lt⟩
  simpa using this
theorem lastD_le (c : UInt8) : ∀ k, k ≤ 16 → lastD c k ≤ 16 := by
  intro k
  induction k with
  | zero => intro _; exact Nat.le_refl _
  | succ k ih => intro h; unfold lastD; split; omega; exact ih (by omega)

def dgs : ByteArray := ⟨#[48, 49, 50, 51, 52, 53, 54, 55, 56, 57, 97, 98, 99, 100, 101, 102]⟩
theorem dgs_size : dgs.size = 16 := rfl
theorem dgs_at : ∀ k : Fin 16, (dgs[k.val]'(by rw [dgs_size]; exact k.isLt)) = digs.getD k.val 0 := by decide +kernel
theorem run_dgs (k : Nat) (h : k < 16) (w : World) : (Instr.index 9 (.string dgs) (.int .i64 (k : Int))).run Tryz.prog w = .ok (.int .u8 ((digs.getD k 0).toNat : Int)) w := by
  have hi : 0 ≤ (k : Int) ∧ (k : Int) < (dgs.size : Int) := by rw [dgs_size]; omega
  rw [run_index_string w _ dgs _ _ Tryz.underlying9, dif_pos hi]
  have := dgs_at ⟨k, h⟩
  simp only [Int.toNat_natCast]
  simp only at this
  rw [this]
theorem empt (s : ByteArray) : s.toList.isEmpty = decide (s.size = 0) := by
  rw [ByteArray.toList_eq, Bool.eq_iff_iff]
  simp only [List.isEmpty_iff, decide_eq_true_eq]
  constructor
  · intro h
    have : s.data.toList.length = 0 := by rw [h]; rfl
    simpa using this
  · intro h
    apply List.eq_nil_of_length_eq_zero
    simpa using h
theorem byte_beq (a b : UInt8) : (((a.toNat : Nat) : Int) == ((b.toNat : Nat) : Int)) = decide (a = b) := by
  rw [Bool.eq_iff_iff]
  simp only [beq_iff_eq, decide_eq_true_eq]
  constructor
  · intro h; exact UInt8.toNat_inj.1 (by omega)
  · intro h; rw [h]

set_option maxHeartbeats 4000000 in
set_option maxRecDepth 100000 in
theorem refparse_any (s : ByteArray) (hs : s.size ≤ 9223372036854775807) (w : World) :
    Calls Tryz.prog 49 #[.string s] w fun e w' => e = .returned (.tuple #[.int .u32 (parseV s : Nat), .int .i64 (parseE s)]) ∧ ∃ n, w' = w.drewN n := by
  by_cases hsz : 1 ≤ s.size ∧ s.size ≤ 8
  · obtain ⟨h1, h8⟩ := hsz
    have HB := hide (fun (h : okN s.data.toList = false) => show parseV s = 0 ∧ parseE s = 3 by unfold parseV parseE; rw [if_neg (by simp [h]), if_neg (by simp [h])]; exact ⟨rfl, rfl⟩)
    have HO := hide (fun (h : okN s.data.toList = true) => show parseV s = valN s.data.toList ∧ parseE s = 0 by unfold parseV parseE; rw [if_pos ⟨h1, h8, h⟩, if_pos ⟨h1, h8, h⟩]; exact ⟨rfl, rfl⟩)
    have hne : s.toList.isEmpty = false := by rw [empt]; exact decide_eq_false (by omega)
    generalize parseV s = pv at *
    generalize parseE s = pe at *
    go_enter Tryz.func49, Tryz.ntmps49
    generalize hdg : ByteArray.mk #[48, 49, 50, 51, 52, 53, 54, 55, 56, 57, 97, 98, 99, 100, 101, 102] = dg
    have hdg' : dg = dgs := hdg.symm
    subst hdg'
    clear hdg
    go_wp2
    go_loopw [4, 5] (fun x i wr => ∃ k n : Nat, k ≤ s.size ∧ i = .int .i64 k ∧ x = .int .u32 (valN (s.data.toList.take k) : Nat) ∧ okN (s.data.toList.take k) = true ∧ wr = w.drewN n) (fun _ i _ => s.size - (intOf i).toNat)
    case atStart => exact ⟨0, 0, Nat.zero_le _, rfl, rfl, rfl, rfl⟩
    case round =>
      obtain ⟨k, n, hk, rfl, rfl, hok, rfl⟩ := hrel
      by_cases hlt : k < s.size
      · have hts := take_snoc s k hlt
        have hvs := valN_snoc (s.data.toList.take k) s[k]
        have hos := okN_snoc (s.data.toList.take k) s[k]
        rw [← hts] at hvs hos
        rw [hok] at hos
        have hl : (s.data.toList.take k).length = k := by simp; omega
        have hvl := valN_lt k _ hl
        have hpw : 16 ^ k ≤ 16 ^ 7 := Nat.pow_le_pow_right (by decide) (by omega)
        have hdl := dig_le s[k]
        have hlast := lastD_dig s[k]
        have HV := hide hvs
        have HOS := hide hos
        have HTS := hide hts
        have HL := hide hlast
        clear hvs hos hts hok hlast hne
        go_wp2
        go_loopw [6, 7] (fun d q wr => ∃ j m : Nat, j ≤ 16 ∧ q = .int .i64 j ∧ d = .int .i64 (lastD s[k] j : Nat) ∧ wr = w.drewN m) (fun _ q _ => 16 - (intOf q).toNat)
        case atStart => exact ⟨0, n, Nat.zero_le _, rfl, rfl, rfl⟩
        case round =>
          obtain ⟨j, m, hj, rfl, rfl, rfl⟩ := hrel
          by_cases hjl : j < 16
          · have hrun := run_dgs j hjl
            have hbeq := byte_beq (digs.getD j 0) s[k]
            have HJ := hide (show lastD s[k] (j + 1) = if digs.getD j 0 = s[k] then j else lastD s[k] j from rfl)
            have hki : (k : Int) < (s.size : Int) := by omega
            by_cases hc : digs.getD j 0 = s[k]
            · have HJ2 := hide (show lastD s[k] (j + 1) = j by rw [HJ.out, if_pos hc])
              rw [decide_eq_true hc] at hbeq
              clear hc
              generalize digs.getD j 0 = dj at *
              go_wp2
              go_quiet (fail)
              go_wp2
              go_roundw
              case rel => exact ⟨j + 1, m + _, by omega, by go_num, by rw [HJ2.out], rfl⟩
              case measure => simp [intOf]; omega
            · have HJ2 := hide (show lastD s[k] (j + 1) = lastD s[k] j by rw [HJ.out, if_neg hc])
              rw [decide_eq_false hc] at hbeq
              clear hc
              generalize digs.getD j 0 = dj at *
              go_wp2
              go_quiet (fail)
              go_wp2
              go_roundw
              case rel => exact ⟨j + 1, m + _, by omega, by go_num, by rw [HJ2.out], rfl⟩
              case measure => simp [intOf]; omega
          · obtain rfl : j = 16 := by omega
            have hlast := HL.out
            by_cases hd : dig s[k] < 0
            · rw [if_pos hd] at hlast
              have hl16 : lastD s[k] 16 = 16 := by omega
              rw [hl16]
              have hbad : okN s.data.toList = false := by
                have hmem : s[k] ∈ s.data.toList := List.mem_of_mem_take (by rw [HTS.out]; simp : s[k] ∈ s.data.toList.take (k + 1))
                unfold okN
                rw [List.all_eq_false]
                exact ⟨s[k], hmem, by simp; omega⟩
              obtain ⟨rfl, rfl⟩ := HB.out hbad
              clear hlast hl16 hbad hd
              go_wp2
              go_ret2
              exact ⟨rfl, m, rfl⟩
            · obtain ⟨d, hde⟩ := Int.eq_ofNat_of_zero_le (show 0 ≤ dig s[k] by omega)
              have HV2 := hide (show valN (s.data.toList.take (k + 1)) = valN (s.data.toList.take k) * 16 + d by rw [HV.out, hde]; simp)
              have HOK := hide (show okN (s.data.toList.take (k + 1)) = true by rw [HOS.out, hde]; simp)
              rw [if_neg hd, hde] at hlast
              have hl16 : lastD s[k] 16 = d := by omega
              rw [hl16]
              have hd15 : d ≤ 15 := by omega
              have hdb : ((d : Int) == 16) = false := by rw [beq_eq_false_iff_ne]; omega
              have hy : valN (s.data.toList.take k) < 268435456 := by omega
              clear hlast hl16 hd hde hvl hpw hdl
              generalize valN (s.data.toList.take k) = y at *
              go_wp2
              go_roundw
              case rel => exact ⟨k + 1, m, by omega, by go_num, by rw [HV2.out]; go_num, HOK.out, rfl⟩
              case measure => simp [intOf]; omega
      · obtain rfl : k = s.size := by omega
        go_wp2
        go_ret2
        have hall : s.data.toList.take s.size = s.data.toList := List.take_of_length_le (by simp)
        rw [hall] at hok ⊢
        obtain ⟨rfl, rfl⟩ := HO.out hok
        exact ⟨rfl, n, rfl⟩
  · have hp : parseV s = 0 ∧ parseE s = 3 := by unfold parseV parseE; rw [if_neg (by omega), if_neg (by omega)]; exact ⟨rfl, rfl⟩
    rw [hp.1, hp.2]
    clear hp
    by_cases h0 : s.size < 1
    · have hne : s.toList.isEmpty = true := by rw [empt]; exact decide_eq_true (by omega)
      go_enter Tryz.func49, Tryz.ntmps49
      go_wp2
      go_ret2
      exact ⟨rfl, 0, rfl⟩
    · have h9 : 8 < s.size := by omega
      have hne : s.toList.isEmpty = false := by rw [empt]; exact decide_eq_false (by omega)
      clear hsz
      go_enter Tryz.func49, Tryz.ntmps49
      go_wp2
      go_ret2
      exact ⟨rfl, 0, rfl⟩
end Go.Proofs.YtoekcfbjdcibpaaGreatDoor
namespace Go.Proofs.YtoekcfbjdcibpaaGreatDoor
open Go.RowKit Go.Lib
set_option linter.unusedVariables false

def ten : ByteArray := ByteArray.mk #[48, 49, 50, 51, 52, 53, 54, 55, 56, 57]
theorem ten_size : ten.size = 10 := rfl
theorem ten_one : ∀ a : Fin 10, ten.extract a.val (a.val + 1) = ⟨#[UInt8.ofNat (48 + a.val)]⟩ := by decide +kernel
theorem ten_add (a : Nat) (h : a < 10) (l : List UInt8) : ten.extract a (a + 1) ++ (⟨l.toArray⟩ : ByteArray) = ⟨(UInt8.ofNat (48 + a) :: l).toArray⟩ := by
  have e := ten_one ⟨a, h⟩
  simp only at e
  rw [e]
  apply ByteArray.ext
  simp
/-- The digits that are still to come: none of 0. -/
def dTo (n : Nat) : List UInt8 := if n = 0 then [] else decDigits n
theorem dec_step10 (n : Nat) : decDigits n = dTo (n / 10) ++ [UInt8.ofNat (48 + n % 10)] := by
  by_cases h : n < 10
  · rw [decDigits, dif_pos h, dTo, if_pos (by omega), Nat.mod_eq_of_lt h]; rfl
  · rw [decDigits, dif_neg h, dTo, if_neg (by omega)]
theorem dTo_step (n : Nat) (h : n ≠ 0) : dTo n = dTo (n / 10) ++ [UInt8.ofNat (48 + n % 10)] := by
  rw [← dec_step10, dTo, if_neg h]
def emptyOf : Value → Nat
  | .string b => if b.size = 0 then 1 else 0
  | _ => 0
theorem empty_cons (c : UInt8) (l : List UInt8) : emptyOf (.string ⟨(c :: l).toArray⟩) = 0 := by
  simp [emptyOf, ByteArray.size]
theorem empty_nil : emptyOf (.string ⟨([] : List UInt8).toArray⟩) = 1 := rfl
theorem dec_len (N : Nat) (h : N ≤ 9223372036854775807) : (decDigits N).length ≤ 21 := by
  have := itoa_length_le (N : Int) (by omega) (by omega)
  unfold itoa at this
  rwa [if_neg (by omega), Int.toNat_natCast] at this

set_option maxHeartbeats 1000000 in
set_option maxRecDepth 100000 in
theorem rdec_pos (N : Nat) (hN : N ≤ 9223372036854775807) (w : World) :
    Calls Tryz.prog 31 #[.int .i64 N] w fun e w' => e = .returned (.string ⟨(decDigits N).toArray⟩) ∧ w' = w := by
  have HL := hide (dec_len N hN)
  go_enter Tryz.func31, Tryz.ntmps31
  generalize hdg : ByteArray.mk #[48, 49, 50, 51, 52, 53, 54, 55, 56, 57] = dg
  have hdg' : dg = ten := hdg.symm
  subst hdg'
  clear hdg
  go_wp2
  go_loop [0, 3] (fun x sv => ∃ (n : Nat) (s : List UInt8), n ≤ N ∧ x = .int .i64 n ∧ sv = .string ⟨s.toArray⟩ ∧ ((s = [] ∧ n = N) ∨ (s ≠ [] ∧ decDigits N = dTo n ++ s))) (fun x sv => (intOf x).toNat + emptyOf sv)
  case atStart => exact ⟨N, [], Nat.le_refl _, rfl, rfl, Or.inl ⟨rfl, rfl⟩⟩
  case round =>
    obtain ⟨n, s, hn, rfl, rfl, hs⟩ := hrel
    have hds := ten_size
    have hm : n % 10 < 10 := Nat.mod_lt _ (by decide)
    have HH := hide (ten_add (n % 10) hm s)
    have hsl : s.length ≤ 21 := by
      rcases hs with ⟨rfl, _⟩ | ⟨_, he⟩
      · simp
      · have := HL.out; rw [he, List.length_append] at this; omega
    have ht : (ByteArray.mk s.toArray).size ≤ 21 := by show s.toArray.size ≤ 21; rw [List.size_toArray]; exact hsl
    by_cases hz : n = 0
    · subst hz
      rcases hs with ⟨rfl, rfl⟩ | ⟨hne, he⟩
      · go_wp2
        go_round
        case rel => exact ⟨0, [48], by omega, by go_num, by rfl, Or.inr ⟨by simp, (dec_step10 0).trans rfl⟩⟩
        case measure =>
          show 0 + emptyOf (.string (ten.extract 0 1 ++ ⟨#[]⟩)) < 0 + emptyOf (.string ⟨#[]⟩)
          decide +kernel
      · have hE : s.isEmpty = false := by cases s with
          | nil => exact absurd rfl hne
          | cons a b => rfl
        have HF := hide (show decDigits N = s by rw [he]; rfl)
        clear he
        go_wp2
        go_ret
        exact ⟨by rw [HF.out]; rfl, rfl⟩
    · have hpos : 0 < n := by omega
      have HS : Hid (decDigits N = dTo (n / 10) ++ (UInt8.ofNat (48 + n % 10) :: s)) := by
        show _ = _
        rcases hs with ⟨rfl, rfl⟩ | ⟨hne, he⟩
        · exact dec_step10 n
        · rw [he, dTo_step n hz]; simp
      have HM := hide (empty_cons (UInt8.ofNat (48 + n % 10)) s)
      clear hs
      generalize ByteArray.mk s.toArray = t at *
      go_wp2
      go_round
      case rel => exact ⟨n / 10, UInt8.ofNat (48 + n % 10) :: s, by omega, by go_num, by rw [← HH.out], Or.inr ⟨by simp, HS.out⟩⟩
      case measure =>
        show ((n : Int) / 10).toNat + emptyOf (.string (ten.extract (n % 10) (n % 10 + 1) ++ t)) < ((n : Int)).toNat + emptyOf (.string t)
        rw [HH.out, HM.out]
        omega
set_option maxHeartbeats 400000 in
theorem rdec_neg (N : Nat) (h0 : 1 ≤ N) (hN : N ≤ 9223372036854775807) (w : World) :
    Calls Tryz.prog 31 #[.int .i64 (-(N : Int))] w fun e w' => e = .returned (.string ⟨(45 :: decDigits N).toArray⟩) ∧ w' = w := by
  have HD := hide (rdec_pos N hN)
  have HB := hide (show (ByteArray.mk #[45] ++ ByteArray.mk (decDigits N).toArray) = ⟨(45 :: decDigits N).toArray⟩ by apply ByteArray.ext; simp)
  have hneg : -(N : Int) < 0 := by omega
  have hlen := dec_len N hN
  have hnn : -(-(N : Int)) = (N : Int) := by omega
  go_enter Tryz.func31, Tryz.ntmps31
  go_wp2_with (first | (go_at_call 31; refine (HD.out _).mono ?_; rintro e w1 ⟨rfl, rfl⟩))
  go_ret
  exact ⟨by rw [← HB.out]; rfl, rfl⟩

theorem rdec_any (z : Int) (h0 : -9223372036854775807 ≤ z) (h1 : z ≤ 9223372036854775807) (w : World) :
    Calls Tryz.prog 31 #[.int .i64 z] w fun e w' => e = .returned (.string ⟨(itoa z).toArray⟩) ∧ w' = w := by
  by_cases h : z < 0
  · obtain ⟨n, rfl⟩ : ∃ n : Nat, z = -(n : Int) := ⟨z.natAbs, by omega⟩
    have e : itoa (-(n : Int)) = 45 :: decDigits n := by unfold itoa; rw [if_pos h]; simp
    rw [e]
    exact rdec_neg n (by omega) (by omega) w
  · obtain ⟨n, rfl⟩ := Int.eq_ofNat_of_zero_le (show 0 ≤ z by omega)
    have e : itoa (n : Int) = decDigits n := by unfold itoa; rw [if_neg h]; simp
    rw [e]
    exact rdec_pos n (by omega) w
end Go.Proofs.YtoekcfbjdcibpaaGreatDoor
namespace Go.Proofs.YtoekcfbjdcibpaaGreatDoor
open Go.RowKit
set_option linter.unusedVariables false

theorem rname_all (c : Int) (w : World) : Calls Tryz.prog 28 #[.int .i64 c] w fun e w' => e = .returned (.string (nameC c)) ∧ Below w.heap.size w w' := by
  unfold nameC
  by_cases h : 0 ≤ c ∧ c < 57
  · obtain ⟨k, rfl⟩ := Int.eq_ofNat_of_zero_le h.1
    rw [if_pos h]
    exact rname_yes k (by omega) w
  · rw [if_neg h]
    refine (rname_no c (by omega) w).mono ?_
    rintro e w' ⟨rfl, rfl⟩
    exact ⟨rfl, Below.refl _ _⟩
theorem rkind_all (c : Int) (w : World) : Calls Tryz.prog 29 #[.int .i64 c] w fun e w' => e = .returned (.int .u8 (kindC c : Nat)) ∧ w' = w := by
  unfold kindC
  by_cases h : 0 ≤ c ∧ c < 57
  · obtain ⟨k, rfl⟩ := Int.eq_ofNat_of_zero_le h.1
    rw [if_pos h]
    exact rkind_yes k (by omega) w
  · rw [if_neg h]
    exact rkind_no c (by omega) w

theorem rfind_all (s : ByteArray) (w : World) : Calls Tryz.prog 37 #[.string s] w fun e w' => e = .returned (.tuple #[.int .i64 (fndK s), .int .i64 (fndN s)]) ∧ Below w.heap.size w w' := by
  unfold fndK fndN
  cases hf : fndOp s with
  | none => exact rfind_none s (fndOp_none hf) w
  | some op =>
    obtain ⟨h1, rfl⟩ := fndOp_some hf
    exact rfind_hit _ op h1 rfl (fun j hj e => by have := nameN_inj j op (by omega) h1 e; omega) w

end Go.Proofs.YtoekcfbjdcibpaaGreatDoor
namespace Go.Proofs.YtoekcfbjdcibpaaGreatDoor
open Go.RowKit Go.Lib
set_option linter.unusedVariables false

/-- The rows that the second loop reads and makes. -/
structure Rows4 (ls : List Ln) (m : Labs) (lv nv pv : Value) (w : World) (acc : List Nat) (ov : Value) (W : World) : Prop where
  L : W.ownsRow w.heap.size 95 2 lv ls.length (lineCells ls)
  N : W.ownsRow w.heap.size 9 1 nv m.length (strC m)
  P : W.ownsRow w.heap.size 3 1 pv m.length (intC m)
  O : W.ownsRow w.heap.size 48 1 ov acc.length (wordCells acc)
  B : Below w.heap.size w W
variable {ls : List Ln} {m : Labs} {lv nv pv ov : Value} {w W : World} {acc : List Nat}
theorem Rows4.bl {W' : World} (h : Rows4 ls m lv nv pv w acc ov W) (hb : Below W.heap.size W W') : Rows4 ls m lv nv pv w acc ov W' :=
  ⟨own_keeps h.L hb, own_keeps h.N hb, own_keeps h.P hb, own_keeps h.O hb, h.B.trans (hb.mono h.B.size)⟩
theorem Rows4.dn (h : Rows4 ls m lv nv pv w acc ov W) (n : Nat) : Rows4 ls m lv nv pv w acc ov (W.drewN n) :=
  ⟨h.L, h.N, h.P, h.O, below_dw h.B n⟩
theorem Rows4.al (h : Rows4 ls m lv nv pv w acc ov W) (o : Obj) : Rows4 ls m lv nv pv w acc ov (W.alloc o) :=
  ⟨h.L.alloc _, h.N.alloc _, h.P.alloc _, h.O.alloc _, below_al h.B o⟩
theorem Rows4.app {W' : World} {v : Nat} {ov' : Value} (h : Rows4 ls m lv nv pv w acc ov W) (hown : W'.ownsRow w.heap.size 48 1 ov' (acc.length + 1) (wordCells acc ++ [.int .u32 (v : Int)])) (hg : W.grownBy W' ov.ownBlock) :
    Rows4 ls m lv nv pv w (acc ++ [v]) ov' W' :=
  ⟨kept_two h.L h.O (by decide) hg, kept_two h.N h.O (by decide) hg, kept_two h.P h.O (by decide) hg, by (unfold wordCells at hown ⊢; rw [List.length_append, List.map_append]; exact hown), below_grown h.B h.O hg⟩
/-- Find and Kind, whatever is handed in; and whether a line takes a label. -/
theorem find_kind (nm : ByteArray) (tx : Str) (h : nm.data.toList = (cut tx [32]).1) : ∃ (c fe : Int) (kd : Nat),
    (∀ w, Calls Tryz.prog 37 #[.string nm] w fun e w' => e = .returned (.tuple #[.int .i64 c, .int .i64 fe]) ∧ Below w.heap.size w w') ∧
    (∀ w, Calls Tryz.prog 29 #[.int .i64 c] w fun e w' => e = .returned (.int .u8 (kd : Nat)) ∧ w' = w) ∧
    takesD tx = (decide (fe = 0) && ((kd == 66 || kd == 74) && (!(operD tx).isEmpty && nameD ((operD tx).getLast?.getD [])))) := by
  rcases find_any nm with ⟨op, hf, h57, hc⟩ | ⟨hf, hc⟩
  · refine ⟨(op : Nat), 0, kindC (op : Nat), hc, fun w => rkind_all _ w, ?_⟩
    rw [h] at hf
    have e : kindC ((op : Nat) : Int) = kindN op := by unfold kindC; rw [if_pos (by omega)]; simp
    unfold takesD
    rw [hf, e]
    simp
  · refine ⟨0, 6, kindC 0, hc, fun w => rkind_all _ w, ?_⟩
    rw [h] at hf
    unfold takesD
    rw [hf]
    simp
theorem line_dot {t : Str} {k : Nat} {m : Labs} (h : 6 < t.length ∧ t.take 6 = dotWord) : lineD t k m = if parseE ⟨(t.drop 6).toArray⟩ = 0 then some (parseV ⟨(t.drop 6).toArray⟩) else none := by
  unfold lineD; rw [if_pos h]
theorem line_plain {t : Str} {k : Nat} {m : Labs} (h : ¬ (6 < t.length ∧ t.take 6 = dotWord)) (hn : takesD t = false) : lineD t k m = (dParse t).map encW := by
  unfold lineD repD; rw [if_neg h, hn]; rfl
theorem line_takes {t : Str} {k : Nat} {m : Labs} (h : ¬ (6 < t.length ∧ t.take 6 = dotWord)) (hn : takesD t = true) : lineD t k m = match lookL m ((operD t).getLast?.getD []) with | none => none | some p => (dParse (headD t ++ itoa ((p : Int) - (k : Int) * 4))).map encW := by
  unfold lineD repD
  rw [if_neg h, if_pos hn]
  cases lookL m ((operD t).getLast?.getD []) <;> rfl
theorem words_skip {m : Labs} {l : Ln} {r : List Ln} {acc : List Nat} (h : labD l.2 = true) : wordsD m (l :: r) acc = wordsD m r acc := by
  rw [wordsD, if_pos h]
theorem words_bad {m : Labs} {l : Ln} {r : List Ln} {acc : List Nat} (h : labD l.2 = false) (hl : lineD l.2 acc.length m = none) : wordsD m (l :: r) acc = (l.1, 3, []) := by
  rw [wordsD, if_neg (by rw [h]; simp), hl]
theorem words_one {m : Labs} {l : Ln} {r : List Ln} {acc : List Nat} {v : Nat} (h : labD l.2 = false) (hl : lineD l.2 acc.length m = some v) : wordsD m (l :: r) acc = wordsD m r (acc ++ [v]) := by
  rw [wordsD, if_neg (by rw [h]; simp), hl]
theorem ext_from (tx : Str) (n : Nat) : (ByteArray.mk tx.toArray).extract n tx.length = ⟨(tx.drop n).toArray⟩ := by
  rw [← ba_list ((ByteArray.mk tx.toArray).extract n tx.length), ext_list, ba_data, List.take_of_length_le (by simp)]
theorem ext_to (tx : Str) (n : Nat) : (ByteArray.mk tx.toArray).extract 0 n = ⟨(tx.take n).toArray⟩ := by
  rw [← ba_list ((ByteArray.mk tx.toArray).extract 0 n), ext_list, ba_data]; simp
/-- The last of a list of texts. -/
theorem last_txt {l : List ByteArray} (h : 0 < l.length) : ∃ y, l[l.length - 1]? = some y ∧ (l.map (·.data.toList)).getLast?.getD [] = y.data.toList ∧ (l.map (·.data.toList)).isEmpty = false := by
  refine ⟨l[l.length - 1]'(by omega), List.getElem?_eq_getElem _, ?_, ?_⟩
  · rw [List.getLast?_map, List.getLast?_eq_getElem?, List.getElem?_eq_getElem (by omega)]
    rfl
  · cases l with
    | nil => simp at h
    | cons _ _ => rfl
theorem strsOf_at {l : List ByteArray} {j : Nat} {y : ByteArray} (h : l[j]? = some y) : (strsOf l)[j]? = some (.string y) := by simp [strsOf, h]
theorem toD_take {m : Labs} {j : Nat} {q : Str × Nat} (h : m[j]? = some q) (y : Str) : toD (m.take (j + 1)) y = if q.1 = y then (q.2 : Int) else toD (m.take j) y := by
  rw [List.take_add_one, h]
  obtain ⟨k, p⟩ := q
  exact toD_snoc _ k p y
theorem itoa_len {z : Int} (h0 : -100000 ≤ z) (h1 : z ≤ 100000) : (itoa z).length ≤ 11 := by
  have h2 := decDigits_len10 z.natAbs (by omega)
  have h3 := decDigits_len10 z.toNat (by omega)
  unfold itoa
  split
  · simp; omega
  · omega
theorem joinD_mem_le : ∀ (l : List Str) (x : Str), x ∈ l → x.length ≤ (joinD l).length
  | [], x, h => by cases h
  | [y], x, h => by simp at h; rw [h]; exact Nat.le_refl _
  | y :: z :: r, x, h => by
    rw [joinD_cons y _ (by simp)]
    rcases List.mem_cons.1 h with h | h
    · rw [h]; simp
    · have := joinD_mem_le (z :: r) x h
      simp
      omega
theorem operD_mem_le {t x : Str} (h : x ∈ operD t) : x.length ≤ t.length := by
  have h1 := joinD_mem_le _ x h
  have h2 := congrArg List.length (operD_cons (s := t) (fun e => by rw [e] at h; cases h))
  simp at h2
  omega
theorem ba_app (a b : ByteArray) : (a ++ b).data.toList = a.data.toList ++ b.data.toList := by
  rw [ByteArray.data_append, Array.toList_append]
theorem ba_app_size (a b : ByteArray) : (a ++ b).size = a.size + b.size := ByteArray.size_append
/-- The text so far, when j operands are laid. -/
def soFar (t : Str) (j : Nat) : Str := (cut t [32]).1 ++ 32 :: (((operD t).take j).flatMap fun x => x ++ [44, 32])
theorem soFar_step {t : Str} {j : Nat} {x : Str} (h : (operD t)[j]? = some x) : soFar t (j + 1) = soFar t j ++ x ++ [44, 32] := by
  unfold soFar
  rw [List.take_add_one, h]
  simp
theorem soFar_end {t : Str} : soFar t ((operD t).length - 1) = headD t := by
  unfold soFar headD
  rw [List.dropLast_eq_take]
theorem soFar_le {t : Str} (hx : operD t ≠ []) : ∀ j, j ≤ (operD t).length - 1 → (soFar t j).length ≤ t.length := by
  intro j hj
  have h1 : (soFar t j).length ≤ (headD t).length := by
    unfold soFar headD
    rw [List.dropLast_eq_take]
    simp only [List.length_append, List.length_cons]
    have : ((operD t).take ((operD t).length - 1)) = (operD t).take j ++ ((operD t).take ((operD t).length - 1)).drop j := by
      have e := List.take_append_drop j ((operD t).take ((operD t).length - 1))
      rw [List.take_take, Nat.min_eq_left hj] at e
      exact e.symm
    rw [this, List.flatMap_append, List.length_append]
    omega
  have h2 := congrArg List.length (head_last hx)
  rw [List.length_append] at h2
  omega
end Go.Proofs.YtoekcfbjdcibpaaGreatDoor
