/-
  What the laws' sure answers.
-/
import Derived.Test.YtoekcfbjdcibpaaGreatDoorBase
import Derived.Lib.Bytealg
import Derived.Laws.BitsAllLaws
import Derived.Stop.Asserts
import Derived.Test.YtoekcfbjdcibpaaGreatDoorJF
import Derived.Test.YtoekcfbjdcibpaaGreatDoorAsParse
import Derived.Lib.TrimByte
import Derived.Lib.SplitLaws
import Derived.Shelf.Strings.FieldsFuncAny
namespace Go.Proofs.YtoekcfbjdcibpaaGreatDoor
open Go.RowKit Go.Extern.Stop Go.Stop Go.Extern
set_option linter.unusedVariables false

def digs : List UInt8 := [48, 49, 50, 51, 52, 53, 54, 55, 56, 57, 97, 98, 99, 100, 101, 102]
/-- What a digit counts; -1 of none. -/
def dig (c : UInt8) : Int := Lib.indexByte digs c
theorem dig_bd : ∀ n : Fin 256, -1 ≤ dig (UInt8.ofNat n.val) ∧ dig (UInt8.ofNat n.val) ≤ 15 := by decide +kernel
theorem dig_le (c : UInt8) : -1 ≤ dig c ∧ dig c ≤ 15 := by
  have := dig_bd ⟨c.toNat, c.toNat_lt⟩
  simpa using this

set_option maxHeartbeats 1000000 in
theorem idx_any (c : UInt8) (w : World) :
    Calls Tryz.prog 109 #[.string ⟨#[48, 49, 50, 51, 52, 53, 54, 55, 56, 57, 97, 98, 99, 100, 101, 102]⟩, .int .u8 (c.toNat : Int)] w fun e w' => e = .returned (.int .i64 (dig c)) ∧ w' = w := by
  have hx := @run_callFunc_extern Tryz.prog 140 _ Extern.BytealgIndexByte.indexByte Tryz.func140 (by kernel_rfl) (by kernel_rfl) (by kernel_rfl) (by kernel_rfl)
  have hi : ∀ W, (Extern.BytealgIndexByte.indexByte #[.string ⟨#[48, 49, 50, 51, 52, 53, 54, 55, 56, 57, 97, 98, 99, 100, 101, 102]⟩, .int .u8 (c.toNat : Int)]).run Tryz.prog W = .ok (.int .i64 (dig c)) W := fun W => by
    rw [Lib.run_indexByteString]
    simp [dig, digs]
  go_enter Tryz.func109, Tryz.ntmps109
  go_wp2
  go_ret
  exact ⟨rfl, rfl⟩

/-- The number of digits, and whether all are digits. -/
def valN (l : List UInt8) : Nat := l.foldl (fun s c => s * 16 + (dig c).toNat) 0
def okN (l : List UInt8) : Bool := l.all fun c => decide (0 ≤ dig c)
theorem valN_snoc (l : List UInt8) (c : UInt8) : valN (l ++ [c]) = valN l * 16 + (dig c).toNat := by simp [valN]
theorem okN_snoc (l : List UInt8) (c : UInt8) : okN (l ++ [c]) = (okN l && decide (0 ≤ dig c)) := by simp [okN]
theorem valN_lt : ∀ (n : Nat) (l : List UInt8), l.length = n → valN l < 16 ^ n := by
  intro n
  induction n with
  | zero => intro l h; have : l = [] := List.eq_nil_of_length_eq_zero h; subst this; decide
  | succ n ih =>
    intro l h
    rcases List.eq_nil_or_concat l with rfl | ⟨l', c, rfl⟩
    · simp at h
    · rw [List.concat_eq_append] at h ⊢
      rw [valN_snoc]
      have := ih l' (by simpa using h)
      have := dig_le c
      have hd : (dig c).toNat ≤ 15 := by omega
      rw [Nat.pow_succ]
      omega
theorem take_snoc (s : ByteArray) (k : Nat) (h : k < s.size) : s.data.toList.take (k + 1) = s.data.toList.take k ++ [s[k]] := by
  rw [List.take_succ_eq_append_getElem (by simpa using h)]; rfl
theorem or16 (y d : Nat) (hy : y < 268435456) (hd : d ≤ 15) : bits .or .u32 ((y : Int) * 16) (d : Int) = ((y * 16 + d : Nat) : Int) := by
  have e : ((y : Int) * 16) = ((y * 16 : Nat) : Int) := by simp
  rw [e, u32_or_nat _ _ (by omega) (by omega), nat_join 4 _ _ (by omega) (by omega)]

/-- What Parse answers: the number, or the error's number. -/
def parseV (s : ByteArray) : Nat := if 1 ≤ s.size ∧ s.size ≤ 8 ∧ okN s.data.toList = true then valN s.data.toList else 0
def parseE (s : ByteArray) : Int := if 1 ≤ s.size ∧ s.size ≤ 8 ∧ okN s.data.toList = true then 0 else 3
def errV (c : Int) : Value := if c = 0 then .nilIface else .iface 69 (.int .i64 c)

set_option maxHeartbeats 2000000 in
theorem parse_any (s : ByteArray) (hs : s.size ≤ 9223372036854775807) (w : World) :
    Calls Tryz.prog 77 #[.string s] w fun e w' => e = .returned (.tuple #[.int .u32 (parseV s : Nat), errV (parseE s)]) ∧ w' = w := by
  by_cases hsz : 1 ≤ s.size ∧ s.size ≤ 8
  · obtain ⟨h1, h8⟩ := hsz
    have HB := hide (fun (h : okN s.data.toList = false) => show parseV s = 0 ∧ parseE s = 3 by unfold parseV parseE; rw [if_neg (by simp [h]), if_neg (by simp [h])]; exact ⟨rfl, rfl⟩)
    have HO := hide (fun (h : okN s.data.toList = true) => show parseV s = valN s.data.toList ∧ parseE s = 0 by unfold parseV parseE; rw [if_pos ⟨h1, h8, h⟩, if_pos ⟨h1, h8, h⟩]; exact ⟨rfl, rfl⟩)
    generalize parseV s = pv at *
    generalize parseE s = pe at *
    go_enter Tryz.func77, Tryz.ntmps77
    go_wp2
    go_loop [4, 18] (fun x i => ∃ k : Nat, k ≤ s.size ∧ i = .int .i64 k ∧ x = .int .u32 (valN (s.data.toList.take k) : Nat) ∧ okN (s.data.toList.take k) = true) (fun _ i => s.size - (intOf i).toNat)
    case atStart => exact ⟨0, Nat.zero_le _, rfl, rfl, rfl⟩
    case round =>
      obtain ⟨k, hk, rfl, rfl, hok⟩ := hrel
      by_cases hlt : k < s.size
      · have hts := take_snoc s k hlt
        have hvs := valN_snoc (s.data.toList.take k) s[k]
        have hos := okN_snoc (s.data.toList.take k) s[k]
        rw [← hts] at hvs hos
        rw [hok] at hos
        have hl : (s.data.toList.take k).length = k := by simp; omega
        have hvl := valN_lt k _ hl
        have hpw : 16 ^ k ≤ 16 ^ 7 := Nat.pow_le_pow_right (by decide) (by omega)
        have hdl := dig_le s[k]
        have HI := hide (idx_any s[k])
        have HK := hide hok
        by_cases hd : dig s[k] < 0
        · have hbad : okN s.data.toList = false := by
            have hmem : s[k] ∈ s.data.toList := List.mem_of_mem_take (by rw [hts]; simp : s[k] ∈ s.data.toList.take (k + 1))
            unfold okN
            rw [List.all_eq_false]
            exact ⟨s[k], hmem, by simp; omega⟩
          obtain ⟨rfl, rfl⟩ := HB.out hbad
          clear hvs hos hts hok
          go_wp2_with (go_at_call 109; refine (HI.out _).mono ?_; rintro e w' ⟨rfl, rfl⟩)
          go_ret2
          exact ⟨rfl, rfl⟩
        · obtain ⟨d, hde⟩ := Int.eq_ofNat_of_zero_le (show 0 ≤ dig s[k] by omega)
          have HV := hide (show valN (s.data.toList.take (k + 1)) = valN (s.data.toList.take k) * 16 + d by rw [hvs, hde]; simp)
          have HOK := hide (show okN (s.data.toList.take (k + 1)) = true by rw [hos, hde]; simp)
          rw [hde] at HI hdl hd
          have hor := or16 (valN (s.data.toList.take k)) d (by omega) (by omega)
          clear hvs hos hts hok hde
          generalize valN (s.data.toList.take k) = y at *
          have hy : y < 268435456 := by omega
          clear hvl hpw
          go_wp2_with (go_at_call 109; refine (HI.out _).mono ?_; rintro e w' ⟨rfl, rfl⟩)
          go_round
          case rel => exact ⟨k + 1, by omega, by go_num, by rw [HV.out]; go_num, HOK.out⟩
          case measure => simp [intOf]; omega
      · obtain rfl : k = s.size := by omega
        go_wp2
        go_ret2
        have hall : s.data.toList.take s.size = s.data.toList := List.take_of_length_le (by simp)
        rw [hall] at hok ⊢
        obtain ⟨rfl, rfl⟩ := HO.out hok
        exact ⟨rfl, rfl⟩
  · have hp : parseV s = 0 ∧ parseE s = 3 := by unfold parseV parseE; rw [if_neg (by omega), if_neg (by omega)]; exact ⟨rfl, rfl⟩
    rw [hp.1, hp.2]
    clear hp
    by_cases h0 : s.size < 1
    · go_enter Tryz.func77, Tryz.ntmps77
      go_wp2
      go_ret2
      exact ⟨rfl, rfl⟩
    · have h9 : 8 < s.size := by omega
      clear hsz
      go_enter Tryz.func77, Tryz.ntmps77
      go_wp2
      go_ret2
      exact ⟨rfl, rfl⟩
end Go.Proofs.YtoekcfbjdcibpaaGreatDoor
namespace Go.Proofs.YtoekcfbjdcibpaaGreatDoor
open Go.RowKit
set_option linter.unusedVariables false

def dotWord : Str := [46, 119, 111, 114, 100, 32]
def wordV (t : Str) (at' : Int) (m : Labs) : Nat := if Lib.hasPrefix t dotWord = true then parseV ⟨(t.drop 6).toArray⟩ else (match parseL (numberedL t at' m) with | none => 0 | some i => encW i)
def wordE (t : Str) (at' : Int) (m : Labs) : Int := if Lib.hasPrefix t dotWord = true then parseE ⟨(t.drop 6).toArray⟩ else parseN (numberedL t at' m)
theorem wordV_lt (t : Str) (at' : Int) (m : Labs) : wordV t at' m < 4294967296 := by
  unfold wordV
  split
  · unfold parseV
    split
    · rename_i h
      have := valN_lt _ (ByteArray.mk (t.drop 6).toArray).data.toList rfl
      have hl : (ByteArray.mk (t.drop 6).toArray).data.toList.length ≤ 8 := by rw [← Lib.size_eq]; exact h.2.1
      have h2 : 16 ^ (ByteArray.mk (t.drop 6).toArray).data.toList.length ≤ 16 ^ 8 := Nat.pow_le_pow_right (by decide) hl
      have h3 : (16 : Nat) ^ 8 = 4294967296 := rfl
      omega
    · decide
  · split
    · decide
    · exact encW_lt _

theorem numbered_len (t : Str) (ht : t.length ≤ 70000) (at' : Nat) (hat : at' ≤ 1000000) (m : Labs) (hm : ∀ k p, lookL m k = some p → p ≤ 1000000) : (numberedL t at' m).length ≤ 100000 := by
  unfold numberedL
  split
  · omega
  · split
    · split
      · omega
      · rename_i p hp
        have := hm _ p hp
        have := Lib.itoa_length_le ((p : Int) - at') (by omega) (by omega)
        rw [List.length_append, List.length_take]
        omega
    · omega

set_option maxHeartbeats 2000000 in
set_option maxRecDepth 100000 in
theorem word_any (t : Str) (ht : t.length ≤ 70000) (at' : Nat) (hat : at' ≤ 1000000) (b : Nat) (m : Labs) (hm : ∀ k p, lookL m k = some p → p ≤ 1000000) (w : World) (hA : AsAt w) (hL : LabAt b m w) :
    Calls Tryz.prog 46 #[.string ⟨t.toArray⟩, .int .i64 at', .map (some b)] w fun e w' => e = .returned (.tuple #[.int .u32 (wordV t at' m : Nat), errno (wordE t at' m)]) ∧ Below w.heap.size w w' := by
  have HC := hide (fun w => Tryz.strings_CutPrefix ⟨t.toArray⟩ ⟨#[46, 119, 111, 114, 100, 32]⟩ w)
  have hd : (ByteArray.mk t.toArray).data.toList = t := rfl
  have hd2 : (ByteArray.mk #[46, 119, 111, 114, 100, 32]).data.toList = dotWord := rfl
  rw [hd, hd2] at HC
  clear hd hd2
  have HA := hide hA
  have HN := hide (numbered_any t ht at' hat b m hm)
  have HLb := hide hL
  have HP := hide (parse_all (numberedL t at' m) (numbered_len t ht at' hat m hm))
  clear hA hL
  unfold wordV wordE
  cases hp : Lib.hasPrefix t dotWord with
  | true =>
    rw [show Lib.trimPrefix t dotWord = t.drop 6 by unfold Lib.trimPrefix; rw [hp]; rfl, hp] at HC
    have HW := hide (fun w => parse_any ⟨(t.drop 6).toArray⟩ (by simp [ByteArray.size]; omega) w)
    simp only [if_true]
    have e : ∀ c, errV c = errno c := fun _ => rfl
    rw [e] at HW
    generalize errno (parseE ⟨(t.drop 6).toArray⟩) = er at *
    generalize parseV ⟨(t.drop 6).toArray⟩ = pv at *
    generalize t.drop 6 = dr at *
    clear HN HP HLb
    go_enter Tryz.func46, Tryz.ntmps46
    go_wp2_with (first | (go_at_call 76; refine (HC.out _).mono ?_; rintro e w2 ⟨rfl, rfl⟩) | (go_at_call 77; refine (HW.out _).mono ?_; rintro e w3 ⟨rfl, rfl⟩))
    go_ret2
    exact ⟨rfl, Below.refl _ _⟩
  | false =>
    rw [hp] at HC
    simp only [Bool.false_eq_true, if_false]
    unfold parseI parseN at HP
    unfold parseN
    generalize numberedL t at' m = nu at *
    generalize Lib.trimPrefix t dotWord = tp at *
    cases hpl : parseL nu with
    | none =>
      rw [hpl] at HP
      simp only [Option.getD_none, errno_pos 3 (by decide), I6.cells, noI] at HP ⊢
      go_enter Tryz.func46, Tryz.ntmps46
      go_wp2_with (first | (go_at_call 76; refine (HC.out _).mono ?_; rintro e w2 ⟨rfl, rfl⟩) | (go_at_call 78; refine (HN.out _ HA.out HLb.out).mono ?_; rintro e w3 ⟨rfl, hx3⟩; have HB3 := hide hx3; clear hx3) | (go_at_call 13; refine (HP.out _ (HA.out.below HB3.out)).mono ?_; rintro e w4 ⟨rfl, hx4⟩; have HB4 := hide hx4; clear hx4))
      go_ret2
      have hb := HB3.out.trans (HB4.out.mono HB3.out.size)
      exact ⟨rfl, hb.trans ((below_box w4 _).mono hb.size)⟩
    | some i =>
      have hok := (parse_some hpl).1
      rw [hpl] at HP
      simp only [Option.getD_some, errno_zero] at HP ⊢
      have HE := hide (encode_all i)
      rw [show encN i = 0 by unfold encN; rw [hok]; rfl, errno_zero] at HE
      generalize encW i = ew at *
      clear hpl hok
      obtain ⟨o, rd, rs1, rs2, imm, csr⟩ := i
      simp only [I6.cells] at HP HE
      go_enter Tryz.func46, Tryz.ntmps46
      go_wp2_with (first | (go_at_call 76; refine (HC.out _).mono ?_; rintro e w2 ⟨rfl, rfl⟩) | (go_at_call 78; refine (HN.out _ HA.out HLb.out).mono ?_; rintro e w3 ⟨rfl, hx3⟩; have HB3 := hide hx3; clear hx3) | (go_at_call 13; refine (HP.out _ (HA.out.below HB3.out)).mono ?_; rintro e w4 ⟨rfl, hx4⟩; have HB4 := hide (HB3.out.trans (hx4.mono HB3.out.size)); clear hx4) | (go_at_call 18; refine (HE.out _ (HA.out.below (HB4.out.trans ((below_box w4 _).mono HB4.out.size))).tabs).mono ?_; rintro e w5 ⟨rfl, hx5⟩; have HB5 := hide (HB4.out.trans ((below_new hx5).mono HB4.out.size)); clear hx5))
      go_ret2
      exact ⟨rfl, HB5.out⟩
end Go.Proofs.YtoekcfbjdcibpaaGreatDoor
namespace Go.Proofs.YtoekcfbjdcibpaaGreatDoor
open Go.RowKit
set_option linter.unusedVariables false

/-- The lines of a text, as they stand. -/
def piecesL (s : Str) : List Str := Lib.split s [10]
def shownL (t : Str) : Str := Lib.trimB (Lib.cut t [35]).1 32
def rawFrom : Nat → List Str → List Ln
  | _, [] => []
  | k, t :: r => (k + 1, shownL t) :: rawFrom (k + 1) r
def saidL (s : Str) : List Ln := dropL isVoid (rawFrom 0 (piecesL s))

theorem pieces_cells (s : Str) : (Lib.splitB ⟨#[10]⟩ 0 (Lib.countB ⟨s.toArray⟩ ⟨#[10]⟩) ⟨s.toArray⟩).map Value.string = (piecesL s).map fun t => Value.string ⟨t.toArray⟩ := by
  have h := Lib.splitB_data ⟨#[10]⟩ 0 (Lib.countB ⟨s.toArray⟩ ⟨#[10]⟩) ⟨s.toArray⟩
  have e : piecesL s = (Lib.splitB ⟨#[10]⟩ 0 (Lib.countB ⟨s.toArray⟩ ⟨#[10]⟩) ⟨s.toArray⟩).map (·.data.toList) := h.symm
  rw [e, List.map_map]
  rfl
theorem pieces_len (s : Str) : Lib.countB ⟨s.toArray⟩ ⟨#[10]⟩ + 1 = (piecesL s).length := by
  rw [← List.length_map (f := fun t => Value.string ⟨t.toArray⟩), ← pieces_cells, List.length_map]
  exact (Lib.splitB_all _ (by decide) 0 _ _ rfl).symm
theorem splitK_len (sep : Str) : ∀ (k : Nat) (s t : Str), t ∈ Lib.splitK sep 0 k s → t.length ≤ s.length
  | 0, s, t, h => by
    unfold Lib.splitK at h
    rw [List.mem_singleton.1 h]
    exact Nat.le_refl _
  | k + 1, s, t, h => by
    unfold Lib.splitK at h
    split at h
    · rw [List.mem_singleton.1 h]
      exact Nat.le_refl _
    · rcases List.mem_cons.1 h with h | h
      · rw [h, List.length_take]; omega
      · have := splitK_len sep k _ t h
        rw [List.length_drop] at this
        omega
theorem pieces_short (s : Str) (t : Str) (h : t ∈ piecesL s) : t.length ≤ s.length := splitK_len _ _ _ _ h
theorem pieces_few (s : Str) : (piecesL s).length ≤ s.length + 1 := by
  rw [← pieces_len]
  have := Lib.countB_le ⟨#[10]⟩ (by decide) _ ⟨s.toArray⟩ (Nat.le_refl _)
  simp [ByteArray.size] at this
  omega

/-- The pieces where they lie. -/
def PiecesAt (b : Nat) (ps : List Str) (W : World) : Prop := W.heap[b]? = some (.cells (ps.map fun t => Value.string ⟨t.toArray⟩).toArray 9 (0, 0))
theorem PiecesAt.cell {b : Nat} {ps : List Str} {W : World} (h : PiecesAt b ps W) (k : Nat) (t : Str) (hk : ps[k]? = some t) : W.cell? ⟨b, k, none⟩ = some (.string ⟨t.toArray⟩) := by
  rw [cell_of_row _ _ _ _ _ (0, 0) h]
  simp [hk]

theorem trim_below {w w' : World} (h : w' = w ∨ w' = w.drew) : Below w.heap.size w w' := by
  rcases h with rfl | rfl
  · exact Below.refl _ _
  · exact below_drewS w 1
theorem raw_snoc : ∀ (l : List Str) (k : Nat) (t : Str), rawFrom k (l ++ [t]) = rawFrom k l ++ [(k + l.length + 1, shownL t)]
  | [], k, t => rfl
  | x :: r, k, t => by
    show (k + 1, shownL x) :: rawFrom (k + 1) (r ++ [t]) = (k + 1, shownL x) :: (rawFrom (k + 1) r ++ [(k + (r.length + 1) + 1, shownL t)])
    rw [raw_snoc r (k + 1) t]
    congr 4
    omega
theorem raw_len : ∀ (l : List Str) (k : Nat), (rawFrom k l).length = l.length
  | [], _ => rfl
  | x :: r, k => by
    show (rawFrom (k + 1) r).length + 1 = _
    rw [raw_len r (k + 1)]
    rfl
theorem trim_le (s : Str) (c : UInt8) : (Lib.trimB s c).length ≤ s.length := by
  unfold Lib.trimB Lib.trimLeftB Lib.trimRightB
  have h1 := (List.dropWhile_sublist (· == c) (l := (s.reverse.dropWhile (· == c)).reverse)).length_le
  have h2 := (List.dropWhile_sublist (· == c) (l := s.reverse)).length_le
  rw [List.length_reverse] at h1 h2
  omega
theorem shown_le (t : Str) : (shownL t).length ≤ t.length := by
  have := trim_le (Lib.cut t [35]).1 32
  have := (cut_len t 35).1
  unfold shownL
  omega
theorem raw_mem : ∀ (l : List Str) (k : Nat) (p : Ln), p ∈ rawFrom k l → ∃ t ∈ l, p.2 = shownL t ∧ p.1 ≤ k + l.length
  | [], _, p, h => by simp [rawFrom] at h
  | x :: r, k, p, h => by
    rcases List.mem_cons.1 h with h | h
    · exact ⟨x, List.mem_cons_self, by rw [h], by rw [h]; simp⟩
    · obtain ⟨t, ht, h1, h2⟩ := raw_mem r (k + 1) p h
      exact ⟨t, List.mem_cons_of_mem _ ht, h1, by simp; omega⟩

theorem own_keeps {W W' : World} {B e sz n : Nat} {v : Value} {xs : List Value} (h : W.ownsRow B e sz v n xs) (hb : Below W.heap.size W W') : W'.ownsRow B e sz v n xs := by
  obtain ⟨h1, h2 | ⟨g, cap, cur, e1, e2, e3, e4⟩⟩ := h
  · exact ⟨h1, Or.inl h2⟩
  · exact ⟨h1, Or.inr ⟨g, cap, cur, e1, e2, block_keeps e3 hb, e4⟩⟩
theorem PiecesAt.keeps {b : Nat} {ps : List Str} {W W' : World} (h : PiecesAt b ps W) (hb : Below W.heap.size W W') : PiecesAt b ps W' := block_keeps h hb
theorem own_block_ge {W : World} {B e sz n : Nat} {v : Value} {xs : List Value} (h : W.ownsRow B e sz v n xs) (j : Nat) (hj : v.ownBlock = some j) : B ≤ j := by
  obtain ⟨h1, ⟨rfl, _⟩ | ⟨g, cap, cur, rfl, e2, _⟩⟩ := h
  · cases hj
  · cases hj; exact e2
theorem lines_of_own {W : World} {B n : Nat} {v : Value} {ls : List Ln} (h : W.ownsRow B 88 2 v n (lineCells ls)) (hn : ls.length = n) (hv : v ≠ .slice none 0 0) : ∃ g cap, v = .slice (some ⟨g, 0, none⟩) ls.length cap ∧ B ≤ g ∧ LinesAt g cap ls W := by
  obtain ⟨h1, ⟨h2, _⟩ | ⟨g, cap, cur, e1, e2, e3, e4, e5, e6, e7⟩⟩ := h
  · exact absurd h2 hv
  · subst hn
    exact ⟨g, cap, e1, e2, cur, e3, e4, e6, e7⟩

/-- Between two rounds. -/
def SdRel (ps : List Str) (w : World) (kv ov : Value) (wr : World) : Prop :=
  ∃ k : Nat, kv = .int .i64 (k : Int) ∧ k ≤ ps.length ∧ wr.ownsRow (w.heap.size + 1) 88 2 ov k (lineCells (rawFrom 0 (ps.take k))) ∧ PiecesAt w.heap.size ps wr ∧ Below w.heap.size w wr ∧ (ov = .slice none 0 0 → k = 0)
def sdLeft (ps : List Str) (kv : Value) : Nat := ps.length - (intOf kv).toNat

set_option maxHeartbeats 4000000 in
set_option maxRecDepth 100000 in
theorem said_any (s : Str) (hs : s.length ≤ 65536) (w : World) (hA : AsAt w) :
    Calls Tryz.prog 41 #[.string ⟨s.toArray⟩] w fun e w' => ∃ g cap, e = .returned (.slice (some ⟨g, 0, none⟩) (saidL s).length cap) ∧ w.heap.size ≤ g ∧ LinesAt g cap (saidL s) w' ∧ Below w.heap.size w w' := by
  rw [show saidL s = dropL isVoid (rawFrom 0 (piecesL s)) from rfl]
  obtain ⟨m, hm⟩ := hA.len
  have HS := hide (fun (w : World) (hm : w.cell? ⟨4, 0, none⟩ = some (.int .i64 m)) => Tryz.strings_Split ⟨s.toArray⟩ ⟨#[10]⟩ m w (by simp [ByteArray.size]; omega) hm (by decide))
  simp only [pieces_len, pieces_cells] at HS
  have HA := hide hA
  have HM := hide hm
  clear hA hm
  have HPS := hide (pieces_short s)
  have hlen : (piecesL s).length ≤ 65537 := by have := pieces_few s; omega
  have hpos : 1 ≤ (piecesL s).length := by have := pieces_len s; omega
  generalize hps : piecesL s = ps at *
  go_enter Tryz.func41, Tryz.ntmps41
  go_wp2_with (go_at_call 71; refine (HS.out _ HM.out).mono ?_; rintro e w2 ⟨rfl, rfl⟩)
  have hP0 : PiecesAt w.heap.size ps (w.alloc (.cells (ps.map fun t => Value.string ⟨t.toArray⟩).toArray 9)) := heap_alloc_new w _
  have hB0 := below_box w (.cells (ps.map fun t => Value.string ⟨t.toArray⟩).toArray 9)
  have hz0 : w.heap.size + 1 ≤ (w.alloc (.cells (ps.map fun t => Value.string ⟨t.toArray⟩).toArray 9)).heap.size := by simp
  have HP0 := hide hP0
  have HB0 := hide hB0
  have HZ0 := hide hz0
  generalize w.alloc (.cells (ps.map fun t => Value.string ⟨t.toArray⟩).toArray 9) = w1 at *
  clear hP0 hB0 hz0
  obtain ⟨i0, hi, hq0, hq1, hq2⟩ := info_parts (P := Tryz.prog) (e := 88) (z := .agg #[.int .i64 0, .string ⟨#[]⟩]) (size := 2) (bytes := 24) (by kernel_rfl)
  go_loopw [3, 9] (fun ov kv wr => SdRel ps w kv ov wr) (fun ov kv wr => sdLeft ps kv)
  case atStart => exact ⟨0, rfl, Nat.zero_le _, ⟨rfl, Or.inl ⟨rfl, rfl⟩⟩, HP0.out, HB0.out, fun _ => rfl⟩
  case round =>
    obtain ⟨k, rfl, hk, hO, hP, hB, hN⟩ := hrel
    have HO := hide hO
    have HP := hide hP
    have HB := hide hB
    have HN := hide hN
    have HZ1 := hide (show w.heap.size + 1 ≤ wr.heap.size from (Array.getElem?_eq_some_iff.1 hP).1)
    clear hO hP hB hN
    by_cases hlt : k < ps.length
    · obtain ⟨t, ht⟩ : ∃ t, ps[k]? = some t := ⟨_, List.getElem?_eq_getElem hlt⟩
      have hc := HP.out.cell k t ht
      have hts := HPS.out t (List.mem_of_getElem? ht)
      have HTk := hide (show rawFrom 0 (ps.take (k + 1)) = rawFrom 0 (ps.take k) ++ [(k + 1, Lib.trimB (Lib.cut t [35]).1 32)] from by
        rw [List.take_add_one, ht]
        show rawFrom 0 (ps.take k ++ [t]) = _
        rw [raw_snoc, List.length_take, Nat.min_eq_left (by omega)]
        simp [shownL])
      have HC := hide (cut_any t (by omega) 35)
      have hcl : (Lib.cut t [35]).1.length ≤ t.length := (cut_len t 35).1
      generalize (Lib.cut t [35]).1 = c1 at *
      generalize (Lib.cut t [35]).2.1 = c2 at *
      generalize (Lib.cut t [35]).2.2 = c3 at *
      have HT := hide (fun w => Tryz.strings_Trim_one ⟨c1.toArray⟩ 32 (by decide) w (by simp [ByteArray.size]; omega))
      clear ht
      simp only at HT
      replace HT := hide (fun w => (HT.out w).mono (fun e w' h => (⟨h.1, trim_below h.2⟩ : _ ∧ Below w.heap.size w w')))
      generalize Lib.trimB c1 32 = c4 at *
      go_wp2_with (first | (go_at_call 33; refine (HC.out _ ((HA.out.below HB.out).len)).mono ?_; rintro e w2 ⟨rfl, hx2⟩; have HB2 := hide hx2; clear hx2) | (go_at_call 72; refine (HT.out _).mono ?_; rintro e w3 ⟨rfl, hx3⟩; have HB3 := hide (HB2.out.trans (hx3.mono HB2.out.size)); clear hx3) | (at_builtin; refine wpList_append_own _ rfl (.tmp 20) (.tmp 26) 81 rfl (w.heap.size + 1) 88 i0 (.agg #[.int .i64 0, .string ⟨#[]⟩]) 2 24 Tryz.underlying81 hi hq0 hq1 hq2 rfl (by decide) _ _ _ rfl ((own_keeps HO.out HB3.out).alloc _) ⟨_, 0, none⟩ 1 1 [.int .i64 ((k + 1 : Nat) : Int), .string ⟨c4.toArray⟩] rfl rfl (cell_two_new' _ _ _ _) (by intro u hu; simp at hu; rcases hu with rfl | rfl <;> rfl) (by unfold maxLen; omega) (by omega) (by have := HZ1.out; have := HB3.out.size; simp; omega) ?_; intro v4 w4 hown4 hgrow4 hnil4))
      go_roundw
      case rel =>
        have hX := (own_keeps HO.out HB3.out).alloc (.cells #[.int .i64 ((k + 1 : Nat) : Int), .string ⟨c4.toArray⟩] 88)
        have hbz := HB.out.trans (HB3.out.mono (by have := HZ1.out; omega))
        have hz3 : w.heap.size + 1 ≤ w3.heap.size := Nat.le_trans HZ1.out HB3.out.size
        refine ⟨k + 1, by go_num, by omega, by rw [HTk.out, lineCells_snoc]; exact hown4, ?_, ?_, fun h => by have := (hnil4.1 h).2; omega⟩
        · exact (hgrow4.block w.heap.size (by simp; omega) (fun h => by have := own_block_ge hX _ h.symm; omega)).trans ((Below.heap_alloc _ _ _ (by omega)).trans (HP.out.keeps HB3.out))
        · exact (hbz.alloc (by omega) _).grown hgrow4 (by simp; omega) (fun j hj => by have := own_block_ge hX j hj; omega)
      case measure => unfold sdLeft; simp only [intOf]; omega
    · obtain rfl : k = ps.length := by omega
      have hO := HO.out
      rw [List.take_length] at hO
      obtain ⟨g, cap, rfl, hg, hL⟩ := lines_of_own hO (raw_len ps 0) (fun h => by have := HN.out h; omega)
      have HL := hide hL
      have hrl : (rawFrom 0 ps).length = ps.length := raw_len ps 0
      have HD := hide (del_any 73 isVoid tells_void (enters_of Tryz.func73 (by kernel_rfl) rfl) (rawFrom 0 ps) (by omega) (fun p hp => by
        obtain ⟨t, ht, h1, h2⟩ := raw_mem ps 0 p hp
        have h3 := HPS.out t ht
        have h4 := shown_le t
        rw [h1]
        constructor
        · omega
        · omega) g cap)
      clear hO hL
      rw [hrl] at HD ⊢
      go_wp2_with (go_at_call 43; refine (HD.out _ HL.out).mono ?_; rintro e w5 ⟨rfl, hx5, hx6⟩; have HL5 := hide hx5; have HG5 := hide hx6; clear hx5 hx6)
      go_ret
      exact ⟨g, cap, rfl, by omega, HL5.out, HB.out.grown HG5.out (by have := HZ1.out; omega) (fun j hj => by cases hj; omega)⟩
end Go.Proofs.YtoekcfbjdcibpaaGreatDoor
namespace Go.Proofs.YtoekcfbjdcibpaaGreatDoor
open Go.RowKit
set_option linter.unusedVariables false

abbrev Told := Nat × Int × List Nat
def wordsL (m : Labs) : List Ln → Nat → List Nat → Told
  | [], _, acc => (0, 0, acc)
  | l :: r, k, acc => if wordE l.2 ((k : Int) * 4) m = 0 then wordsL m r (k + 1) (acc ++ [wordV l.2 ((k : Int) * 4) m]) else (l.1, 3, [])
def placedL (s : Str) : Option Nat × Labs → Told
  | (some k, _) => (k, 6, [])
  | (none, m) => wordsL m (dropL isLab (saidL s)) 0 []
def progL (s : Str) : Told := if s.length ≤ 65536 then placedL s (placesFrom (saidL s) 0 []) else (0, 2, [])

def wordCells (l : List Nat) : List Value := l.map fun (x : Nat) => Value.int .u32 (x : Int)
def ProgPost (r : Told) (w : World) (e : Ending) (w' : World) : Prop :=
  ∃ v, e = .returned (.tuple #[v, .int .i64 (r.1 : Int), errno r.2.1]) ∧ w'.ownsRow w.heap.size 48 1 v r.2.2.length (wordCells r.2.2) ∧ Below w.heap.size w w' ∧ (r.2.2 = [] → v = .slice none 0 0)

theorem places_bound (ls : List Ln) : ∀ (a : Nat) (m m' : Labs), placesFrom ls a m = (none, m') → (∀ k p, lookL m k = some p → p ≤ a) → ∀ k p, lookL m' k = some p → p ≤ a + 4 * ls.length := by
  induction ls with
  | nil =>
    intro a m m' h hm k p hp
    rw [placesFrom] at h
    cases h
    have := hm k p hp
    simp; omega
  | cons l r ih =>
    intro a m m' h hm k p hp
    rw [placesFrom] at h
    by_cases h1 : labelL l.2 = []
    · rw [if_pos h1] at h
      have := ih (a + 4) m m' h (fun k p hq => by have := hm k p hq; omega) k p hp
      simp; omega
    · rw [if_neg h1] at h
      cases h2 : lookL m (labelL l.2) with
      | some q => rw [h2] at h; cases h
      | none =>
        rw [h2] at h
        have := ih a _ m' h (fun k' p' hq => by
          by_cases hk : k' = labelL l.2
          · rw [hk, look_snoc_same m _ a h2] at hq
            cases hq; exact Nat.le_refl _
          · rw [look_snoc_other m _ k' a hk] at hq
            exact hm k' p' hq) k p hp
        simp; omega
theorem places_some (ls : List Ln) : ∀ (a : Nat) (m m' : Labs) (k : Nat), placesFrom ls a m = (some k, m') → ∃ p ∈ ls, p.1 = k := by
  induction ls with
  | nil => intro a m m' k h; rw [placesFrom] at h; cases h
  | cons l r ih =>
    intro a m m' k h
    rw [placesFrom] at h
    by_cases h1 : labelL l.2 = []
    · rw [if_pos h1] at h
      obtain ⟨p, hp, e⟩ := ih _ _ _ _ h
      exact ⟨p, List.mem_cons_of_mem _ hp, e⟩
    · rw [if_neg h1] at h
      cases h2 : lookL m (labelL l.2) with
      | some q => rw [h2] at h; simp at h; exact ⟨l, List.mem_cons_self, h.1⟩
      | none =>
        rw [h2] at h
        obtain ⟨p, hp, e⟩ := ih _ _ _ _ h
        exact ⟨p, List.mem_cons_of_mem _ hp, e⟩
theorem raw_pos : ∀ (l : List Str) (k : Nat) (p : Ln), p ∈ rawFrom k l → 1 ≤ p.1
  | [], _, p, h => by simp [rawFrom] at h
  | x :: r, k, p, h => by
    rcases List.mem_cons.1 h with h | h
    · rw [h]; simp
    · exact raw_pos r (k + 1) p h
theorem said_mem (s : Str) (p : Ln) (h : p ∈ saidL s) : p.2.length ≤ s.length ∧ 1 ≤ p.1 ∧ p.1 ≤ s.length + 1 := by
  have h' : p ∈ rawFrom 0 (piecesL s) := by unfold saidL dropL at h; exact (List.mem_filter.1 h).1
  obtain ⟨t, ht, h1, h2⟩ := raw_mem _ _ _ h'
  have := pieces_few s
  have := pieces_short s t ht
  have := shown_le t
  rw [h1]
  exact ⟨by omega, raw_pos _ _ _ h', by omega⟩
theorem said_len (s : Str) : (saidL s).length ≤ s.length + 1 := by
  have h := List.length_filter_le (fun p => !isVoid p) (rawFrom 0 (piecesL s))
  rw [raw_len] at h
  have := pieces_few s
  unfold saidL dropL
  omega
theorem drop_len (P : Ln → Bool) (ls : List Ln) : (dropL P ls).length ≤ ls.length := List.length_filter_le _ _
theorem lines_not_map {b g cap : Nat} {m : Labs} {ls : List Ln} {W : World} (h1 : LabAt b m W) (h2 : LinesAt g cap ls W) : b ≠ g := by
  rintro rfl
  obtain ⟨D, ⟨es, clock, hb, _⟩, _⟩ := h1
  obtain ⟨cur, hc, _⟩ := h2
  rw [hb] at hc
  cases hc
theorem LabAt.grown {b g : Nat} {m : Labs} {W W' : World} (h : LabAt b m W) (hg : W.grownBy W' (some g)) (hne : b ≠ g) : LabAt b m W' := by
  obtain ⟨D, h1, h2⟩ := h
  exact ⟨D, h1.kept hg (by simpa using hne), h2⟩

theorem pl_twice {ls : List Ln} {k : Nat} {m : Labs} (hp : placesFrom ls 0 [] = (some k, m)) {w w' : World} {e : Ending} (h : PlPost ls w e w') : e = .returned (.tuple #[.map none, .int .i64 (k : Int)]) ∧ Below w.heap.size w w' := by
  rcases h with ⟨k', m', hq, he, hb⟩ | ⟨b, m', hq, _⟩
  · rw [hp] at hq
    cases hq
    exact ⟨he, hb⟩
  · rw [hp] at hq
    cases hq
theorem pl_once {ls : List Ln} {m : Labs} (hp : placesFrom ls 0 [] = (none, m)) {w w' : World} {e : Ending} (h : PlPost ls w e w') : ∃ b, e = .returned (.tuple #[.map (some b), .int .i64 0]) ∧ LabAt b m w' ∧ Below w.heap.size w w' := by
  rcases h with ⟨k', m', hq, _⟩ | ⟨b, m', hq, he, hl, hb⟩
  · rw [hp] at hq
    cases hq
  · rw [hp] at hq
    cases hq
    exact ⟨b, he, hl, hb⟩

set_option maxHeartbeats 2000000 in
set_option maxRecDepth 100000 in
theorem prog_long (s : Str) (hs : s.length ≤ 1000000000) (hl : ¬ s.length ≤ 65536) (w : World) :
    Calls Tryz.prog 15 #[.string ⟨s.toArray⟩] w fun e w' => ProgPost (progL s) w e w' := by
  unfold progL
  rw [if_neg hl]
  go_enter Tryz.func15, Tryz.ntmps15
  have hsz : (ByteArray.mk s.toArray).size = s.length := by simp [ByteArray.size]
  go_wp2
  go_ret3
  exact ⟨_, rfl, ⟨rfl, .inl ⟨rfl, rfl⟩⟩, Below.refl _ _, fun _ => rfl⟩

set_option maxHeartbeats 2000000 in
set_option maxRecDepth 100000 in
theorem prog_twice (s : Str) (hl : s.length ≤ 65536) (k : Nat) (m : Labs) (hp : placesFrom (saidL s) 0 [] = (some k, m)) (w : World) (hA : AsAt w) :
    Calls Tryz.prog 15 #[.string ⟨s.toArray⟩] w fun e w' => ProgPost (progL s) w e w' := by
  unfold progL
  rw [if_pos hl, hp, placedL]
  have HSd := hide (said_any s hl)
  have HPl := hide (labels_any (saidL s) (by have := said_len s; omega) (fun p hp => by have := said_mem s p hp; omega))
  replace HPl := hide (fun g cap w h => (HPl.out g cap w h).mono (fun e w' h' => pl_twice hp h'))
  have hk : (k : Int) ≠ 0 := by
    obtain ⟨p, hm, e⟩ := places_some _ _ _ _ _ hp
    have := said_mem s p hm
    omega
  have hsz : (ByteArray.mk s.toArray).size = s.length := by simp [ByteArray.size]
  have HA := hide hA
  generalize saidL s = ls at *
  clear hp hA
  go_enter Tryz.func15, Tryz.ntmps15
  go_wp2_with (first | (go_at_call 41; refine (HSd.out _ HA.out).mono ?_; rintro e w2 ⟨g, cap, rfl, hg2, hl2, hx2⟩; have HL2 := hide hl2; have HB2 := hide hx2; clear hx2 hl2) | (go_at_call 42; refine (HPl.out _ _ _ HL2.out).mono ?_; rintro e w3 ⟨rfl, hx3⟩; have HB3 := hide (HB2.out.trans (hx3.mono HB2.out.size)); clear hx3))
  go_ret3
  exact ⟨_, rfl, ⟨rfl, .inl ⟨rfl, rfl⟩⟩, HB3.out, fun _ => rfl⟩

theorem own_lower {W : World} {B B' e sz n : Nat} {v : Value} {xs : List Value} (h : W.ownsRow B e sz v n xs) (hb : B' ≤ B) : W.ownsRow B' e sz v n xs := by
  obtain ⟨h1, h2 | ⟨g, cap, cur, e1, e2, e3⟩⟩ := h
  · exact ⟨h1, Or.inl h2⟩
  · exact ⟨h1, Or.inr ⟨g, cap, cur, e1, Nat.le_trans hb e2, e3⟩⟩
theorem lines_lt {g cap : Nat} {ls : List Ln} {W : World} (h : LinesAt g cap ls W) : g < W.heap.size := by
  obtain ⟨cur, h1, _⟩ := h
  exact (Array.getElem?_eq_some_iff.1 h1).1
theorem lab_lt {b : Nat} {m : Labs} {W : World} (h : LabAt b m W) : b < W.heap.size := by
  obtain ⟨D, h1, _⟩ := h
  exact h1.lt
theorem LabAt.same {b : Nat} {m : Labs} {W W' : World} (h : LabAt b m W) (hb : W'.heap[b]? = W.heap[b]?) : LabAt b m W' := by
  obtain ⟨D, ⟨es, clock, h1, h2⟩, h3⟩ := h
  exact ⟨D, ⟨es, clock, hb.trans h1, h2⟩, h3⟩

/-- Between two rounds. -/
def PgRel (ls : List Ln) (g cap b : Nat) (m : Labs) (w w0 : World) (kv ov : Value) (wr : World) : Prop :=
  ∃ (k : Nat) (acc : List Nat), kv = .int .i64 (k : Int) ∧ k ≤ ls.length ∧ acc.length = k ∧ wordsL m ls 0 [] = wordsL m (ls.drop k) k acc ∧ wr.ownsRow w0.heap.size 48 1 ov k (wordCells acc) ∧ LinesAt g cap ls wr ∧ LabAt b m wr ∧ Below w.heap.size w wr ∧ w0.heap.size ≤ wr.heap.size ∧ (ov = .slice none 0 0 ↔ k = 0)
def pgLeft (ls : List Ln) (kv : Value) : Nat := ls.length - (intOf kv).toNat

set_option maxHeartbeats 4000000 in
set_option maxRecDepth 100000 in
theorem prog_words (s : Str) (hl : s.length ≤ 65536) (m : Labs) (hp : placesFrom (saidL s) 0 [] = (none, m)) (w : World) (hA : AsAt w) :
    Calls Tryz.prog 15 #[.string ⟨s.toArray⟩] w fun e w' => ProgPost (progL s) w e w' := by
  unfold progL
  rw [if_pos hl, hp, placedL]
  have hsl := said_len s
  have hsm := said_mem s
  have HSd := hide (said_any s hl)
  have HPl := hide (labels_any (saidL s) (by omega) (fun p hp => by have := hsm p hp; omega))
  replace HPl := hide (fun g cap w h => (HPl.out g cap w h).mono (fun e w' h' => pl_once hp h'))
  have HD := hide (del_any 44 isLab tells_lab (enters_of Tryz.func44 (by kernel_rfl) rfl) (saidL s) (by omega) (fun p hp => by have := hsm p hp; omega))
  have hmb : ∀ k p, lookL m k = some p → p ≤ 1000000 := fun k p h => by
    have := places_bound _ 0 [] m hp (fun k p h => by cases h) k p h
    omega
  have hdm : ∀ p ∈ dropL isLab (saidL s), p.2.length ≤ 70000 ∧ p.1 ≤ 100000 := fun p hp => by
    have := hsm p (List.mem_filter.1 hp).1
    omega
  have hdl : (dropL isLab (saidL s)).length ≤ 65537 := by have := drop_len isLab (saidL s); omega
  have HDM := hide hdm
  have HMB := hide hmb
  have hsz : (ByteArray.mk s.toArray).size = s.length := by simp [ByteArray.size]
  have HA := hide hA
  clear hp hA hsm hsl hdm hmb
  generalize hds : dropL isLab (saidL s) = ds at *
  generalize saidL s = ls at *
  obtain ⟨i0, hi, hq0, hq1, hq2⟩ := info_parts (P := Tryz.prog) (e := 48) (z := .int .u32 0) (size := 1) (bytes := 4) (by kernel_rfl)
  go_enter Tryz.func15, Tryz.ntmps15
  go_wp2_with (first | (go_at_call 41; refine (HSd.out _ HA.out).mono ?_; rintro e w2 ⟨g, cap, rfl, hg2, hl2, hx2⟩; have HL2 := hide hl2; have HB2 := hide hx2; clear hx2 hl2) | (go_at_call 42; refine (HPl.out _ _ _ HL2.out).mono ?_; rintro e w3 ⟨b, rfl, hb3, hx3⟩; have HB3 := hide (HB2.out.trans (hx3.mono HB2.out.size)); have HL3 := hide (HL2.out.keeps hx3); have HM3 := hide hb3; clear hx3 hb3) | (go_at_call 43; refine (HD.out _ _ _ HL3.out).mono ?_; rintro e w4 ⟨rfl, hx5, hx6⟩; have HL4 := hide hx5; have HM4 := hide (HM3.out.grown hx6 (lines_not_map HM3.out HL3.out)); have HB4 := hide (HB3.out.grown hx6 HB3.out.size (fun j hj => by cases hj; exact hg2)); clear hx5 hx6))
  go_loopw [8, 32] (fun ov kv wr => PgRel ds g cap b m w w4 kv ov wr) (fun ov kv wr => pgLeft ds kv)
  case atStart => exact ⟨0, [], rfl, Nat.zero_le _, rfl, rfl, ⟨rfl, .inl ⟨rfl, rfl⟩⟩, HL4.out, HM4.out, HB4.out, Nat.le_refl _, ⟨fun _ => rfl, fun _ => rfl⟩⟩
  case round =>
    obtain ⟨k, acc, rfl, hk, hacc, hW, hO, hLn, hLb, hB, hZ, hN⟩ := hrel
    have HW := hide hW
    have HO := hide hO
    have HLn := hide hLn
    have HLb := hide hLb
    have HB := hide hB
    have HZ := hide hZ
    have HN := hide hN
    have HK := hide hacc
    have HZ4 := hide (show w.heap.size ≤ w4.heap.size from HB4.out.size)
    have HGB := hide (show g < w4.heap.size ∧ b < w4.heap.size from ⟨lines_lt HL4.out, lab_lt HM4.out⟩)
    clear hW hO hLn hLb hB hZ hN
    by_cases hlt : k < ds.length
    · obtain ⟨⟨num, tx⟩, hp⟩ : ∃ p, ds[k]? = some p := ⟨_, List.getElem?_eq_getElem hlt⟩
      obtain ⟨hc1, hc2⟩ := HLn.out.cells k _ hp
      obtain ⟨htx, hnum⟩ := HDM.out _ (List.mem_of_getElem? hp)
      simp only at hc1 hc2 htx hnum
      have hk2 : (k : Int) * 2 = ((k * 2 : Nat) : Int) := by omega
      have HDr := hide (show ds.drop k = (num, tx) :: ds.drop (k + 1) from by rw [List.drop_eq_getElem_cons hlt]; congr 1; exact (List.getElem?_eq_some_iff.1 hp).2)
      have HW' := HW.out
      rw [HDr.out, wordsL] at HW'
      simp only at HW'
      have HWd := hide (word_any tx htx (k * 4) (by omega) b m HMB.out)
      rw [show (((k * 4 : Nat)) : Int) = (k : Int) * 4 by omega] at HWd
      have hvl := wordV_lt tx ((k : Int) * 4) m
      generalize wordV tx ((k : Int) * 4) m = wv at *
      generalize wordE tx ((k : Int) * 4) m = we at *
      clear hp HDr HW
      by_cases hwe : we = 0
      · subst hwe
        rw [if_pos rfl] at HW'
        have HG := hide HW'
        rw [errno_zero] at HWd
        clear HW'
        go_wp2_with (first | (go_at_call 46; refine (HWd.out _ ((HA.out.below HB.out).below (below_box wr _)) (HLb.out.keeps (below_box wr _))).mono ?_; rintro e w5 ⟨rfl, hx5⟩; have HB5 := hide (below_new hx5); clear hx5) | (at_builtin; refine wpList_append_own _ rfl _ _ 39 rfl w4.heap.size 48 i0 (.int .u32 0) 1 4 Tryz.underlying39 hi hq0 hq1 hq2 rfl (by decide) _ _ _ rfl ((own_keeps HO.out HB5.out).alloc _) ⟨_, 0, none⟩ 1 1 [.int .u32 (wv : Int)] rfl rfl (cell_one_new _ _ _) (by simp [Value.oneCell']) (by unfold maxLen; omega) (by omega) (by have := HZ.out; have := HB5.out.size; simp; omega) ?_; intro v6 w6 hown6 hgrow6 hnil6))
        go_roundw
        case rel =>
          have hX := (own_keeps HO.out HB5.out).alloc (.cells #[.int .u32 (wv : Int)] 48)
          have hz5 : w4.heap.size ≤ w5.heap.size := Nat.le_trans HZ.out HB5.out.size
          have hz6 := hgrow6.size
          have hbz := HB.out.trans (HB5.out.mono HB.out.size)
          have hLn5 := HLn.out.keeps HB5.out
          have hLb5 := HLb.out.keeps HB5.out
          simp at hz6
          have hstay : ∀ j, j < w4.heap.size → w6.heap[j]? = w5.heap[j]? := fun j hj => (hgrow6.block j (by simp; omega) (fun h => by have := own_block_ge hX _ h.symm; omega)).trans (Below.heap_alloc _ _ _ (by omega))
          refine ⟨k + 1, acc ++ [wv], by go_num, by omega, by simp [HK.out], HG.out, by unfold wordCells; rw [List.map_append]; exact hown6, hLn5.same (hstay g HGB.out.1), hLb5.same (hstay b HGB.out.2), ?_, by omega, ⟨fun h => by have := (hnil6.1 h).2; omega, fun h => by omega⟩⟩
          exact (hbz.alloc hbz.size _).grown hgrow6 (by have := hbz.size; simp; omega) (fun j hj => by have := own_block_ge hX j hj; have := HZ4.out; omega)
        case measure => unfold pgLeft; simp only [intOf]; omega
      · rw [if_neg hwe] at HW'
        have HG := hide HW'
        rw [errno_pos _ hwe] at HWd
        clear HW'
        go_wp2_with (first | (go_at_call 46; refine (HWd.out _ ((HA.out.below HB.out).below (below_box wr _)) (HLb.out.keeps (below_box wr _))).mono ?_; rintro e w5 ⟨rfl, hx5⟩; have HB5 := hide (below_new hx5); have hb1 : w5.cell? ⟨wr.heap.size, 0, none⟩ = some (.int .i64 (num : Int)) := (hx5.cell (p := ⟨wr.heap.size, 0, none⟩) (by simp)).trans ((cell_of_row _ _ _ _ _ (0, 0) (heap_alloc_new wr _)).trans rfl); clear hx5))
        go_quiet (fail)
        go_wp2
        go_ret3
        have hbz := HB.out.trans (HB5.out.mono HB.out.size)
        rw [HG.out]
        exact ⟨_, rfl, ⟨rfl, .inl ⟨rfl, rfl⟩⟩, hbz.trans ((below_drewS _ _).mono hbz.size), fun _ => rfl⟩
    · obtain rfl : k = ds.length := by omega
      have HG := HW.out
      rw [List.drop_length, wordsL] at HG
      have HG' := hide HG
      clear HG HW
      go_wp2
      go_ret3
      rw [HG'.out]
      refine ⟨_, rfl, ?_, HB.out, fun h => HN.out.2 (by have := HK.out; rw [show acc = [] from h] at this; exact this.symm)⟩
      have := own_lower HO.out HZ4.out
      rw [← HK.out] at this
      exact this

theorem prog_any (s : Str) (hs : s.length ≤ 1000000000) (w : World) (hA : AsAt w) :
    Calls Tryz.prog 15 #[.string ⟨s.toArray⟩] w fun e w' => ProgPost (progL s) w e w' := by
  by_cases hl : s.length ≤ 65536
  · rcases hp : placesFrom (saidL s) 0 [] with ⟨_ | k, m⟩
    · exact prog_words s hl m hp w hA
    · exact prog_twice s hl k m hp w hA
  · exact prog_long s hs hl w
end Go.Proofs.YtoekcfbjdcibpaaGreatDoor
namespace Go.Proofs.YtoekcfbjdcibpaaGreatDoor
open Go.RowKit
set_option linter.unusedVariables false

def loopS : Str := [108, 111, 111, 112, 58, 10, 97, 100, 100, 105, 32, 120, 49, 44, 32, 120, 49, 44, 32, 45, 49, 10, 98, 110, 101, 32, 120, 49, 44, 32, 120, 48, 44, 32, 108, 111, 111, 112, 10]
set_option maxRecDepth 100000 in
theorem prog_loop : progL loopS = (0, 0, [0xfff08093, 0xfe009ee3]) := by decide +kernel
theorem words_cell {W : World} {B n : Nat} {v : Value} {l : List Nat} (h : W.ownsRow B 48 1 v n (wordCells l)) (hn : l.length = n) (hv : l ≠ []) : ∃ g cap, v = .slice (some ⟨g, 0, none⟩) n cap ∧ B ≤ g ∧ n ≤ cap ∧ cap ≤ maxLen ∧ ∀ (k x : Nat), l[k]? = some x → W.cell? ⟨g, k, none⟩ = some (.int .u32 (x : Int)) := by
  have hc := fun (g cap : Nat) (hh : v = .slice (some ⟨g, 0, none⟩) n cap) (k x : Nat) (hk : l[k]? = some x) => (show W.cell? ⟨g, k, none⟩ = some (.int .u32 (x : Int)) from by
    subst hh
    have hkl : k < l.length := (List.getElem?_eq_some_iff.1 hk).1
    refine (h.cellAt k (by omega)).trans ?_
    unfold wordCells
    rw [List.getElem?_map, hk]
    rfl)
  obtain ⟨h1, ⟨h2, h3⟩ | ⟨g, cap, cur, e1, e2, e3, e4, e5, e6⟩⟩ := h
  · subst h3
    exact absurd (List.length_eq_zero_iff.1 hn) hv
  · exact ⟨g, cap, e1, e2, e4, e5, hc g cap e1⟩

set_option maxHeartbeats 1000000 in
set_option maxRecDepth 100000 in
theorem sure_any (w : World) (hA : AsAt w) :
    Calls Tryz.prog 12 #[] w fun e w' => e = .returned (.bool true) ∧ Below w.heap.size w w' := by
  have HP := hide (fun w h => (prog_any loopS (by decide) w h).mono (fun e w' h' => (by
    rw [prog_loop] at h'
    obtain ⟨v, he, ho, hb, _⟩ := h'
    obtain ⟨g, cap, rfl, hg, hcp, hcm, hc⟩ := words_cell ho rfl (by decide)
    exact ⟨g, cap, he, hc 1 0xfe009ee3 rfl, hcp, hb⟩ : ∃ g cap : Nat, e = .returned (.tuple #[.slice (some ⟨g, 0, none⟩) 2 cap, .int .i64 0, .nilIface]) ∧ w'.cell? ⟨g, 1, none⟩ = some (.int .u32 0xfe009ee3) ∧ 2 ≤ cap ∧ Below w.heap.size w w')))
  have HA := hide hA
  clear hA
  go_enter Tryz.func12, Tryz.ntmps12
  go_wp2_with (go_at_call 15; refine (HP.out _ HA.out).mono ?_; rintro e w2 ⟨g, cap, rfl, hc, hcp, hx2⟩; have HB2 := hide hx2; clear hx2)
  go_ret
  exact ⟨rfl, HB2.out⟩
end Go.Proofs.YtoekcfbjdcibpaaGreatDoor
