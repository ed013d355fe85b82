/-
  Rows of one's own, read and kept; for the document's Program.
-/
import Derived.Test.YtoekcfbjdcibpaaGreatDoorJM
import Derived.Test.YtoekcfbjdcibpaaGreatDoorJA
import Derived.Test.YtoekcfbjdcibpaaGreatDoorJK
namespace Go.Proofs.YtoekcfbjdcibpaaGreatDoor
open Go.RowKit Go.Lib
set_option linter.unusedVariables false

theorem all_take_succ (s : ByteArray) (k : Nat) (h : k < s.size) : (s.data.toList.take (k + 1)).all isLow = ((s.data.toList.take k).all isLow && isLow s[k]) := by
  have hl : k < s.data.toList.length := by simpa using h
  rw [List.take_succ_eq_append_getElem hl, List.all_append]
  simp
  rfl
theorem all_no {s : ByteArray} {k : Nat} (h : k < s.size) (hk : isLow s[k] = false) : s.data.toList.all isLow = false := by
  rw [List.all_eq_false]
  refine ⟨s[k], ?_, by simp [hk]⟩
  have hl : k < s.data.toList.length := by simpa using h
  exact List.mem_of_getElem (h := hl) (by simp; rfl)
set_option maxHeartbeats 1000000 in
theorem rname_any (s : ByteArray) (hs : s.size ≤ 4611686018427387904) (w : World) :
    Calls Tryz.prog 50 #[.string s] w fun e w' => e = .returned (.bool (nameD s.data.toList)) ∧ w' = w := by
  have hl : s.data.toList.length = s.size := by simp
  go_enter Tryz.func50, Tryz.ntmps50
  go_wp2
  go_loop [3] (fun iv => ∃ k : Nat, k ≤ s.size ∧ iv = .int .i64 k ∧ (s.data.toList.take k).all isLow = true) (fun iv => s.size - (intOf iv).toNat)
  case atStart => exact ⟨0, by omega, rfl, rfl⟩
  case round =>
    obtain ⟨k, hk, rfl, hno⟩ := hrel
    have HN := hide hno
    clear hno
    by_cases hlt : k < s.size
    · have hst := all_take_succ s k hlt
      rw [HN.out, Bool.true_and] at hst
      have HS := hide hst
      cases hlo : isLow s[k] with
      | false =>
        have HA := hide (all_no hlt hlo)
        have HV : Hid (nameD s.data.toList = false) := hide (by unfold nameD; rw [HA.out, Bool.and_false])
        by_cases h97 : s[k].toNat < 97
        · have t1 : ((s[k].toNat : Int) < 97) := by omega
          clear hst hlo
          go_wp2
          go_ret
          exact ⟨by rw [HV.out]; rfl, rfl⟩
        · have t1 : decide ((s[k].toNat : Int) < 97) = false := by simp; omega
          have t2 : (s[k].toNat : Int) > 122 := by
            unfold isLow at hlo
            simp at hlo
            omega
          clear hst hlo
          go_wp2
          go_ret
          exact ⟨by rw [HV.out]; rfl, rfl⟩
      | true =>
        have h1 : 97 ≤ s[k].toNat ∧ s[k].toNat ≤ 122 := by unfold isLow at hlo; simpa using hlo
        have t1 : decide ((s[k].toNat : Int) < 97) = false := by simp; omega
        have t2 : decide ((s[k].toNat : Int) > 122) = false := by simp; omega
        have t3 : decide ((122 : Int) < (s[k].toNat : Int)) = false := by simp; omega
        rw [hlo] at HS
        clear hst hlo h1
        go_wp2
        go_round
        case rel => exact ⟨k + 1, by omega, by go_num, HS.out⟩
        case measure => simp [intOf]; omega
    · obtain rfl : k = s.size := by omega
      have HA : Hid (s.data.toList.all isLow = true) := hide (by have := HN.out; rwa [List.take_of_length_le (by omega)] at this)
      by_cases h0 : 0 < s.size
      · have t0 : ((s.size : Int) > 0) := by omega
        by_cases h16 : s.size ≤ 16
        · have t1 : ((s.size : Int) ≤ 16) := by omega
          have HV : Hid (nameD s.data.toList = true) := hide (by unfold nameD; rw [HA.out, hl, decide_eq_true h0, decide_eq_true h16]; rfl)
          go_wp2
          go_ret
          exact ⟨by rw [HV.out]; rfl, rfl⟩
        · have t1 : decide ((s.size : Int) ≤ 16) = false := by simp; omega
          have t1n : decide (s.size ≤ 16) = false := by simp; omega
          have HV : Hid (nameD s.data.toList = false) := hide (by unfold nameD; rw [HA.out, hl, decide_eq_true h0, decide_eq_false h16]; rfl)
          go_wp2
          go_ret
          exact ⟨by rw [HV.out]; rfl, rfl⟩
      · have t0 : decide ((s.size : Int) > 0) = false := decide_eq_false (by omega)
        have t0' : decide ((0 : Int) < (s.size : Int)) = false := decide_eq_false (by omega)
        have HV : Hid (nameD s.data.toList = false) := hide (by unfold nameD; rw [HA.out, hl, decide_eq_false h0]; rfl)
        go_wp2
        go_ret
        exact ⟨by rw [HV.out]; rfl, rfl⟩
theorem last_byte (s : ByteArray) (h : 0 < s.size) : s.data.toList.getLast? = some (s[s.size - 1]'(by omega)) := by
  have hl : s.data.toList.length = s.size := by simp
  rw [List.getLast?_eq_getElem?, hl, List.getElem?_eq_getElem (by omega)]
  simp
  rfl
theorem drop_last (s : ByteArray) : (s.extract 0 (s.size - 1)).data.toList = s.data.toList.dropLast := by
  have hl : s.data.toList.length = s.size := by simp
  have : (s.extract 0 (s.size - 1)).data = s.data.extract 0 (s.size - 1) := ByteArray.data_extract
  rw [this, Array.toList_extract, List.extract_eq_take_drop, List.dropLast_eq_take, hl]
  simp
set_option maxHeartbeats 1000000 in
theorem rlabel_any (s : ByteArray) (hs : s.size ≤ 4611686018427387904) (w : World) :
    Calls Tryz.prog 48 #[.string s] w fun e w' => e = .returned (.bool (labD s.data.toList)) ∧ w' = w := by
  have hl : s.data.toList.length = s.size := by simp
  by_cases h1 : 1 < s.size
  · have t0 : ((s.size : Int) > 1) := by omega
    have hlast := last_byte s (by omega)
    have b0 : (0 : Int) ≤ (s.size : Int) - 1 := by omega
    have b1 : (s.size : Int) - 1 < (s.size : Int) := by omega
    have b2 : (s.size : Int) - 1 ≤ (s.size : Int) := by omega
    have en : ((s.size : Int) - 1).toNat = s.size - 1 := by omega
    have HNm := hide (fun w => rname_any (s.extract 0 (s.size - 1)) (by simp; omega) w)
    rw [drop_last] at HNm
    by_cases hc : (s[s.size - 1]'(by omega)) = 58
    · have HV : Hid (labD s.data.toList = nameD s.data.toList.dropLast) := hide (by unfold labD; rw [hl, decide_eq_true h1, hlast, hc]; rfl)
      have t1 : ((((s[s.size - 1]'(by omega)).toNat : Nat) : Int) == 58) = true := by rw [hc]; rfl
      clear hlast hc
      generalize nameD s.data.toList.dropLast = b at *
      go_enter Tryz.func48, Tryz.ntmps48
      go_wp2_with (go_at_call 50; refine (HNm.out _).mono ?_; rintro e w' ⟨rfl, rfl⟩)
      go_ret
      exact ⟨by rw [HV.out]; rfl, rfl⟩
    · have HV : Hid (labD s.data.toList = false) := hide (by
        unfold labD
        have : (s.data.toList.getLast? == some 58) = false := by
          rw [hlast]
          cases hb : (some (s[s.size - 1]'(by omega)) == some 58) with
          | false => rfl
          | true => exact absurd (Option.some.inj (beq_iff_eq.1 hb)) hc
        rw [this, Bool.and_false, Bool.false_and])
      have t1 : ((((s[s.size - 1]'(by omega)).toNat : Nat) : Int) == 58) = false := by
        rw [beq_eq_false_iff_ne]
        intro e
        exact hc (UInt8.toNat_inj.1 (by (show _ = 58); omega))
      clear hlast hc
      go_enter Tryz.func48, Tryz.ntmps48
      go_wp2
      go_ret
      exact ⟨by rw [HV.out]; rfl, rfl⟩
  · have t0 : decide ((s.size : Int) > 1) = false := decide_eq_false (by omega)
    have t0' : decide ((1 : Int) < (s.size : Int)) = false := decide_eq_false (by omega)
    have HV : Hid (labD s.data.toList = false) := hide (by unfold labD; rw [hl, decide_eq_false h1]; rfl)
    go_enter Tryz.func48, Tryz.ntmps48
    go_wp2
    go_ret
    exact ⟨by rw [HV.out]; rfl, rfl⟩
end Go.Proofs.YtoekcfbjdcibpaaGreatDoor
namespace Go.Proofs.YtoekcfbjdcibpaaGreatDoor
open Go.RowKit Go.Lib
set_option linter.unusedVariables false

theorem below_dw {B : Nat} {a w : World} (h : Below B a w) (n : Nat) : Below B a (w.drewN n) := h.trans ⟨rfl, rfl, rfl, Nat.le_refl _, fun _ _ => rfl⟩
theorem ba_list (x : ByteArray) : (⟨x.data.toList.toArray⟩ : ByteArray) = x := by simp
theorem ba_nil {x : ByteArray} (h : x.data.toList = []) : x = ⟨#[]⟩ := by rw [← ba_list x, h]
theorem head_ne {r : ByteArray} (h : 0 < r.size) (hc : r[0] ≠ 32) : trimLeftB r.data.toList 32 = r.data.toList := by
  have hh := head_at r h
  unfold trimLeftB
  cases hl : r.data.toList with
  | nil => rfl
  | cons c l =>
    rw [hl] at hh
    have e : c = r[0] := Option.some.inj hh
    rw [List.dropWhile_cons, if_neg (by rw [e]; simpa using hc)]
theorem head_eq {r : ByteArray} (h : 0 < r.size) (hc : r[0] = 32) : trimLeftB (r.extract 1 r.size).data.toList 32 = trimLeftB r.data.toList 32 := by
  have hh := head_at r h
  rw [tail_at]
  unfold trimLeftB
  cases hl : r.data.toList with
  | nil => rfl
  | cons c l =>
    rw [hl] at hh
    have e : c = r[0] := Option.some.inj hh
    rw [List.dropWhile_cons, if_pos (by rw [e, hc]; rfl)]
    rfl
theorem rtrim_ne {l : Str} {c : UInt8} (h : l.getLast? = some c) (hc : c ≠ 32) : trimRightB l 32 = l := by
  unfold trimRightB
  rw [dropWhile_same 32 l.reverse (by rw [List.head?_reverse, h]; intro e; exact hc (Option.some.inj e)), List.reverse_reverse]
theorem rtrim_eq {l : Str} (h : l.getLast? = some 32) : trimRightB l.dropLast 32 = trimRightB l 32 := by
  obtain ⟨p, rfl⟩ := List.getLast?_eq_some_iff.1 h
  rw [List.dropLast_concat]
  unfold trimRightB
  rw [List.reverse_append]
  rfl
/-- The lines that say something, as the document's values. -/
structure SaidIs (s : Str) (w w' : World) (v : Value) : Prop where
  own : w'.ownsRow w.heap.size 95 2 v (saidL s).length (lineCells (saidL s))
  bel : Below w.heap.size w w'
/-- Between two rounds. -/
def RlRel (s : ByteArray) (w : World) (ov nv fv iv : Value) (wr : World) : Prop :=
  ∃ (i fr n : Nat) (acc : List Ln), nv = .int .i64 ((n + 1 : Nat) : Int) ∧ fv = .int .i64 (fr : Int) ∧ iv = .int .i64 (i : Int) ∧ fr ≤ i ∧ i ≤ s.size + 1 ∧ n ≤ i ∧ acc.length ≤ i ∧
    (∀ x ∈ (s.data.toList.drop fr).take (i - fr), x ≠ 10) ∧ (fr ≤ s.size → saidL s.data.toList = acc ++ restS n (s.data.toList.drop fr)) ∧ (fr = s.size + 1 → saidL s.data.toList = acc) ∧ (i = s.size + 1 → fr = s.size + 1) ∧
    wr.ownsRow w.heap.size 95 2 ov acc.length (lineCells acc) ∧ Below w.heap.size w wr
def rlLeft (s : ByteArray) (iv : Value) : Nat := s.size + 2 - (intOf iv).toNat
theorem rl_step {s : ByteArray} {fr i : Nat} (hf : fr ≤ i) (hi : i < s.size) (h : ∀ x ∈ (s.data.toList.drop fr).take (i - fr), x ≠ 10) (hc : s[i] ≠ 10) : ∀ x ∈ (s.data.toList.drop fr).take (i + 1 - fr), x ≠ 10 := by
  have hl : s.data.toList.length = s.size := by simp
  rw [show i + 1 - fr = (i - fr) + 1 by omega, List.take_succ_eq_append_getElem (by simp; omega)]
  intro x hx
  rcases List.mem_append.1 hx with hx | hx
  · exact h x hx
  · simp at hx
    rw [hx]
    have e : fr + (i - fr) = i := by omega
    simp only [e]
    exact hc
theorem rl_cur {s : ByteArray} {fr i : Nat} (hf : fr ≤ i) (hi : i ≤ s.size) : (s.extract fr i).data.toList = (s.data.toList.drop fr).take (i - fr) := ext_list s fr i
theorem rl_line {s : ByteArray} {fr i : Nat} (hf : fr ≤ i) (hi : i < s.size) (hc : s[i] = 10) : s.data.toList.drop fr = (s.extract fr i).data.toList ++ 10 :: s.data.toList.drop (i + 1) := by
  have hl : s.data.toList.length = s.size := by simp
  rw [rl_cur hf (by omega)]
  conv => lhs; rw [← List.take_append_drop (i - fr) (s.data.toList.drop fr)]
  congr 1
  rw [List.drop_drop, show fr + (i - fr) = i by omega, List.drop_eq_getElem_cons (by omega)]
  rw [show s.data.toList[i]'(by omega) = s[i] from rfl, hc]
theorem rl_last {s : ByteArray} {fr : Nat} (hf : fr ≤ s.size) : s.data.toList.drop fr = (s.extract fr s.size).data.toList := by
  rw [rl_cur hf (by omega)]
  exact (List.take_of_length_le (by simp)).symm

set_option maxHeartbeats 4000000 in
set_option maxRecDepth 100000 in
theorem rlines_any (s : ByteArray) (hs : s.size ≤ 5000) (w : World) :
    Calls Tryz.prog 47 #[.string s] w fun e w' => ∃ v, e = .returned v ∧ SaidIs s.data.toList w w' v := by
  obtain ⟨i0, hi0, hq0, hq1, hq2⟩ := info_parts (P := Tryz.prog) (e := 95) (z := .agg #[.int .i64 0, .string ⟨#[]⟩]) (size := 2) (bytes := 24) (by kernel_rfl)
  have hsl : s.data.toList.length = s.size := by simp
  go_enter Tryz.func47, Tryz.ntmps47
  go_wp2
  go_loopw [3, 4, 5, 6] (fun ov nv fv iv wr => RlRel s w ov nv fv iv wr) (fun ov nv fv iv wr => rlLeft s iv)
  case atStart => exact ⟨0, 0, 0, [], rfl, rfl, rfl, by omega, by omega, by omega, by simp, by simp, fun _ => rfl, fun h => by omega, fun h => by omega, World.ownsRow_nil _ _ _ _, Below.refl _ w⟩
  case round =>
    obtain ⟨i, fr, n, acc, rfl, rfl, rfl, hfi, hi, hni, hac, hno, hrest, hend, hfin, hown, hB⟩ := hrel
    have HNo := hide hno
    have HRs := hide hrest
    have HEn := hide hend
    have HFi := hide hfin
    have HO := hide hown
    have HB := hide hB
    have HG := hide (own_from hown)
    clear hno hrest hend hfin hown hB
    by_cases hlt : i < s.size
    · have q0 : (i : Int) ≤ (s.size : Int) := by omega
      have q1 : (i : Int) < (s.size : Int) := by omega
      have q2 : (0 : Int) ≤ (i : Int) := by omega
      by_cases hc : s[i] = 10
      · have q3 : (((s[i].toNat : Nat) : Int) != 10) = false := by rw [hc]; rfl
        have HL := hide (rl_line hfi hlt hc)
        have HFr : Hid (saidL s.data.toList = (acc ++ (if shownL (s.extract fr i).data.toList = [] then [] else [(n + 1, shownL (s.extract fr i).data.toList)])) ++ restS (n + 1) (s.data.toList.drop (i + 1))) := hide (by
          rw [HRs.out (by omega), HL.out, rest_line n _ _ (by rw [rl_cur hfi (by omega)]; exact HNo.out), List.append_assoc])
        clear hc
        have b1 : (fr : Int) ≤ (i : Int) := by omega
        have b2 : (i : Int) ≤ (s.size : Int) := by omega
        have HC := hide (fun w => rcut_any (s.extract fr i) (ByteArray.mk #[35]) (by simp; omega) (by decide) (by decide) w)
        generalize hb35 : ByteArray.mk #[35] = b35 at *
        have HL35 : Hid (b35.data.toList = [35]) := hide (by rw [← hb35])
        clear hb35
        have hcsz : (s.extract fr i).size ≤ 5000 := by simp; omega
        go_wp2_with ((go_at_call 40; (with_reducible refine (HC.out _).mono ?_); rintro e w2 ⟨⟨v2, rfl, ⟨x, y, rfl, g1, g2⟩⟩, n2, rfl⟩; rw [HL35.out] at g1 g2; have HE1 := hide g1; clear g1 g2))
        generalize s.extract fr i = cur at *
        have HX : Hid (shownL cur.data.toList = trimRightB (trimLeftB x.data.toList 32) 32) := hide (by rw [trim_swap, HE1.out]; rfl)
        have hxs : x.size ≤ 5000 := by
          have h1 : x.data.toList.length = x.size := by simp
          have h2 : cur.data.toList.length = cur.size := by simp
          have h3 := (cut_len cur.data.toList 35).1
          rw [HE1.out] at h1
          omega
        clear HE1
        go_loop [7] (fun tv => ∃ r : ByteArray, tv = .string r ∧ r.size ≤ 5000 ∧ trimLeftB r.data.toList 32 = trimLeftB x.data.toList 32) (fun tv => match tv with | .string r => r.size | _ => 0)
        case atStart => exact ⟨x, rfl, hxs, rfl⟩
        case round =>
          obtain ⟨r, rfl, hrs, hre⟩ := hrel
          have HRe := hide hre
          clear hre
          have hrl : r.data.toList.length = r.size := by simp
          by_cases h0 : 0 < r.size
          · have e1 : (0 : Int) < (r.size : Int) := by omega
            have e2 : ((r.size : Int) > 0) := by omega
            by_cases hc0 : r[0] = 32
            · have e3 : (((r[0].toNat : Nat) : Int) == 32) = true := by rw [hc0]; rfl
              have HN2 := hide (head_eq h0 hc0)
              have e4 : (1 : Int) ≤ (r.size : Int) := by omega
              clear hc0
              go_wp2
              go_round
              case rel => exact ⟨r.extract 1 r.size, rfl, by simp; omega, HN2.out.trans HRe.out⟩
              case measure => simp; omega
            · have e3 : (((r[0].toNat : Nat) : Int) == 32) = false := by
                rw [beq_eq_false_iff_ne]; intro e
                exact hc0 (UInt8.toNat_inj.1 (by (show r[0].toNat = 32); omega))
              have HZ : Hid (r.data.toList = trimLeftB x.data.toList 32) := hide ((head_ne h0 hc0).symm.trans HRe.out)
              clear hc0
              go_wp2
              go_loop [7] (fun tv => ∃ r2 : ByteArray, tv = .string r2 ∧ r2.size ≤ 5000 ∧ trimRightB r2.data.toList 32 = trimRightB r.data.toList 32) (fun tv => match tv with | .string r2 => r2.size | _ => 0)
              case atStart => exact ⟨r, rfl, hrs, rfl⟩
              case round =>
                rename_i hrel2
                clear hrs hrl
                obtain ⟨r2, rfl, hrs, hre⟩ := hrel
                have HRe2 := hide hre
                clear hre
                have hrl : r2.data.toList.length = r2.size := by simp
                by_cases h02 : 0 < r2.size
                · have f1 : ((r2.size : Int) > 0) := by omega
                  have f2 : (0 : Int) ≤ (r2.size : Int) - 1 := by omega
                  have f3 : (r2.size : Int) - 1 < (r2.size : Int) := by omega
                  have f4 : (r2.size : Int) - 1 ≤ (r2.size : Int) := by omega
                  have f5 : ((r2.size : Int) - 1).toNat = r2.size - 1 := by omega
                  have hlb := last_byte r2 h02
                  by_cases hc0 : (r2[r2.size - 1]'(by omega)) = 32
                  · have f6 : ((((r2[r2.size - 1]'(by omega)).toNat : Nat) : Int) == 32) = true := by rw [hc0]; rfl
                    have HN2 : Hid (trimRightB (r2.extract 0 (r2.size - 1)).data.toList 32 = trimRightB r2.data.toList 32) := hide (by rw [drop_last]; exact rtrim_eq (by rw [hlb, hc0]))
                    clear hc0 hlb
                    go_wp2
                    go_round
                    case rel => exact ⟨r2.extract 0 (r2.size - 1), rfl, by simp; omega, HN2.out.trans HRe2.out⟩
                    case measure => simp; omega
                  · have f6 : ((((r2[r2.size - 1]'(by omega)).toNat : Nat) : Int) == 32) = false := by
                      rw [beq_eq_false_iff_ne]; intro e
                      exact hc0 (UInt8.toNat_inj.1 (by (show _ = 32); omega))
                    have HSh : Hid (shownL cur.data.toList = r2.data.toList) := hide (by rw [HX.out, ← HZ.out, ← HRe2.out]; exact rtrim_ne hlb hc0)
                    clear hc0 hlb
                    have hne : r2.data.toList ≠ [] := fun e => by rw [e] at hrl; simp at hrl; omega
                    have HF2 : Hid (saidL s.data.toList = (acc ++ [(n + 1, r2.data.toList)]) ++ restS (n + 1) (s.data.toList.drop (i + 1))) := hide (by rw [HFr.out, HSh.out, if_neg hne])
                    have HNE := hide hne
                    clear hne
                    have f7 : (r2.toList == ([] : List UInt8)) = false := by rw [ByteArray.toList_eq]; cases hq : r2.data.toList with | nil => exact absurd hq HNE.out | cons _ _ => rfl
                    go_wp2_with (at_builtin; refine wpList_append_own _ rfl _ _ 92 rfl w.heap.size 95 i0 (.agg #[.int .i64 0, .string ⟨#[]⟩]) 2 24 Tryz.underlying92 hi0 hq0 hq1 hq2 rfl (by decide) _ _ _ rfl ((own_dn HO.out n2).alloc _) ⟨_, 0, none⟩ 1 1 [.int .i64 ((n : Int) + 1), .string r2] rfl rfl (cell_two_new' _ _ _ _) (by intro u hu; simp at hu; rcases hu with rfl | rfl <;> rfl) (by unfold maxLen; omega) (by omega) (by (have := HB.out.size; simp; omega)) ?_; intro v4 w4 hown4 hgrow4 _)
                    go_roundw
                    case rel =>
                      have hX := (own_dn HO.out n2).alloc (.cells #[.int .i64 ((n : Int) + 1), .string r2] 95)
                      refine ⟨i + 1, i + 1, n + 1, acc ++ [(n + 1, r2.data.toList)], by go_num, by go_num, by go_num, by omega, by omega, by omega, by (simp; omega), by simp, fun _ => HF2.out, fun h => by omega, fun h => by omega, by rw [lineCells_snoc, List.length_append, ba_list]; exact hown4, ?_⟩
                      exact ((below_dw HB.out n2).alloc (by (have := HB.out.size; simp; omega)) _).grown hgrow4 (by (have := HB.out.size; simp; omega)) HG.out
                    case measure => unfold rlLeft; simp only [intOf]; omega
                · have f1 : decide ((r2.size : Int) > 0) = false := decide_eq_false (by omega)
                  have f1' : decide ((0 : Int) < (r2.size : Int)) = false := decide_eq_false (by omega)
                  have hn : r2.data.toList = [] := List.length_eq_zero_iff.1 (by omega)
                  have HSh : Hid (shownL cur.data.toList = []) := hide (by rw [HX.out, ← HZ.out, ← HRe2.out, hn]; rfl)
                  have HF2 : Hid (saidL s.data.toList = acc ++ restS (n + 1) (s.data.toList.drop (i + 1))) := hide (by rw [HFr.out, HSh.out, if_pos rfl, List.append_nil])
                  have hre := ba_nil hn
                  subst hre
                  clear hn hrl
                  go_wp2
                  go_roundw
                  case rel => exact ⟨i + 1, i + 1, n + 1, acc, by go_num, by go_num, by go_num, by omega, by omega, by omega, by omega, by simp, fun _ => HF2.out, fun h => by omega, fun h => by omega, own_dn HO.out n2, below_dw HB.out n2⟩
                  case measure => unfold rlLeft; simp only [intOf]; omega
          · have e2 : decide ((r.size : Int) > 0) = false := decide_eq_false (by omega)
            have e2' : decide ((0 : Int) < (r.size : Int)) = false := decide_eq_false (by omega)
            have HZ : Hid (r.data.toList = trimLeftB x.data.toList 32) := hide (by
              have hn : r.data.toList = [] := List.length_eq_zero_iff.1 (by omega)
              rw [← HRe.out, hn]; rfl)
            go_wp2
            go_loop [7] (fun tv => ∃ r2 : ByteArray, tv = .string r2 ∧ r2.size ≤ 5000 ∧ trimRightB r2.data.toList 32 = trimRightB r.data.toList 32) (fun tv => match tv with | .string r2 => r2.size | _ => 0)
            case atStart => exact ⟨r, rfl, hrs, rfl⟩
            case round =>
              rename_i hrel2
              clear hrs hrl
              obtain ⟨r2, rfl, hrs, hre⟩ := hrel
              have HRe2 := hide hre
              clear hre
              have hrl : r2.data.toList.length = r2.size := by simp
              by_cases h02 : 0 < r2.size
              · have f1 : ((r2.size : Int) > 0) := by omega
                have f2 : (0 : Int) ≤ (r2.size : Int) - 1 := by omega
                have f3 : (r2.size : Int) - 1 < (r2.size : Int) := by omega
                have f4 : (r2.size : Int) - 1 ≤ (r2.size : Int) := by omega
                have f5 : ((r2.size : Int) - 1).toNat = r2.size - 1 := by omega
                have hlb := last_byte r2 h02
                by_cases hc0 : (r2[r2.size - 1]'(by omega)) = 32
                · have f6 : ((((r2[r2.size - 1]'(by omega)).toNat : Nat) : Int) == 32) = true := by rw [hc0]; rfl
                  have HN2 : Hid (trimRightB (r2.extract 0 (r2.size - 1)).data.toList 32 = trimRightB r2.data.toList 32) := hide (by rw [drop_last]; exact rtrim_eq (by rw [hlb, hc0]))
                  clear hc0 hlb
                  go_wp2
                  go_round
                  case rel => exact ⟨r2.extract 0 (r2.size - 1), rfl, by simp; omega, HN2.out.trans HRe2.out⟩
                  case measure => simp; omega
                · have f6 : ((((r2[r2.size - 1]'(by omega)).toNat : Nat) : Int) == 32) = false := by
                    rw [beq_eq_false_iff_ne]; intro e
                    exact hc0 (UInt8.toNat_inj.1 (by (show _ = 32); omega))
                  have HSh : Hid (shownL cur.data.toList = r2.data.toList) := hide (by rw [HX.out, ← HZ.out, ← HRe2.out]; exact rtrim_ne hlb hc0)
                  clear hc0 hlb
                  have hne : r2.data.toList ≠ [] := fun e => by rw [e] at hrl; simp at hrl; omega
                  have HF2 : Hid (saidL s.data.toList = (acc ++ [(n + 1, r2.data.toList)]) ++ restS (n + 1) (s.data.toList.drop (i + 1))) := hide (by rw [HFr.out, HSh.out, if_neg hne])
                  have HNE := hide hne
                  clear hne
                  have f7 : (r2.toList == ([] : List UInt8)) = false := by rw [ByteArray.toList_eq]; cases hq : r2.data.toList with | nil => exact absurd hq HNE.out | cons _ _ => rfl
                  go_wp2_with (at_builtin; refine wpList_append_own _ rfl _ _ 92 rfl w.heap.size 95 i0 (.agg #[.int .i64 0, .string ⟨#[]⟩]) 2 24 Tryz.underlying92 hi0 hq0 hq1 hq2 rfl (by decide) _ _ _ rfl ((own_dn HO.out n2).alloc _) ⟨_, 0, none⟩ 1 1 [.int .i64 ((n : Int) + 1), .string r2] rfl rfl (cell_two_new' _ _ _ _) (by intro u hu; simp at hu; rcases hu with rfl | rfl <;> rfl) (by unfold maxLen; omega) (by omega) (by (have := HB.out.size; simp; omega)) ?_; intro v4 w4 hown4 hgrow4 _)
                  go_roundw
                  case rel =>
                    have hX := (own_dn HO.out n2).alloc (.cells #[.int .i64 ((n : Int) + 1), .string r2] 95)
                    refine ⟨i + 1, i + 1, n + 1, acc ++ [(n + 1, r2.data.toList)], by go_num, by go_num, by go_num, by omega, by omega, by omega, by (simp; omega), by simp, fun _ => HF2.out, fun h => by omega, fun h => by omega, by rw [lineCells_snoc, List.length_append, ba_list]; exact hown4, ?_⟩
                    exact ((below_dw HB.out n2).alloc (by (have := HB.out.size; simp; omega)) _).grown hgrow4 (by (have := HB.out.size; simp; omega)) HG.out
                  case measure => unfold rlLeft; simp only [intOf]; omega
              · have f1 : decide ((r2.size : Int) > 0) = false := decide_eq_false (by omega)
                have f1' : decide ((0 : Int) < (r2.size : Int)) = false := decide_eq_false (by omega)
                have hn : r2.data.toList = [] := List.length_eq_zero_iff.1 (by omega)
                have HSh : Hid (shownL cur.data.toList = []) := hide (by rw [HX.out, ← HZ.out, ← HRe2.out, hn]; rfl)
                have HF2 : Hid (saidL s.data.toList = acc ++ restS (n + 1) (s.data.toList.drop (i + 1))) := hide (by rw [HFr.out, HSh.out, if_pos rfl, List.append_nil])
                have hre := ba_nil hn
                subst hre
                clear hn hrl
                go_wp2
                go_roundw
                case rel => exact ⟨i + 1, i + 1, n + 1, acc, by go_num, by go_num, by go_num, by omega, by omega, by omega, by omega, by simp, fun _ => HF2.out, fun h => by omega, fun h => by omega, own_dn HO.out n2, below_dw HB.out n2⟩
                case measure => unfold rlLeft; simp only [intOf]; omega
      · have q3 : (((s[i].toNat : Nat) : Int) != 10) = true := by
          rw [bne_iff_ne]; intro e
          exact hc (UInt8.toNat_inj.1 (by (show s[i].toNat = 10); omega))
        have HS := hide (rl_step hfi hlt HNo.out hc)
        clear hc
        go_wp2
        go_roundw
        case rel => exact ⟨i + 1, fr, n, acc, rfl, rfl, by go_num, by omega, by omega, by omega, by omega, HS.out, HRs.out, HEn.out, fun h => by omega, HO.out, HB.out⟩
        case measure => unfold rlLeft; simp only [intOf]; omega
    · by_cases heq : i = s.size
      · subst heq
        have q0 : decide ((s.size : Int) < (s.size : Int)) = false := decide_eq_false (by omega)
        have HFr : Hid (saidL s.data.toList = (acc ++ (if shownL (s.extract fr s.size).data.toList = [] then [] else [(n + 1, shownL (s.extract fr s.size).data.toList)]))) := hide (by
          rw [HRs.out (by omega), rl_last hfi, rest_end n _ (by rw [rl_cur hfi (by omega)]; exact HNo.out)])
        have b1 : (fr : Int) ≤ (s.size : Int) := by omega
        have b2 : (s.size : Int) ≤ (s.size : Int) := by omega
        have HC := hide (fun w => rcut_any (s.extract fr s.size) (ByteArray.mk #[35]) (by simp; omega) (by decide) (by decide) w)
        generalize hb35 : ByteArray.mk #[35] = b35 at *
        have HL35 : Hid (b35.data.toList = [35]) := hide (by rw [← hb35])
        clear hb35
        have hcsz : (s.extract fr s.size).size ≤ 5000 := by simp; omega
        go_wp2_with ((go_at_call 40; (with_reducible refine (HC.out _).mono ?_); rintro e w2 ⟨⟨v2, rfl, ⟨x, y, rfl, g1, g2⟩⟩, n2, rfl⟩; rw [HL35.out] at g1 g2; have HE1 := hide g1; clear g1 g2))
        generalize s.extract fr s.size = cur at *
        have HX : Hid (shownL cur.data.toList = trimRightB (trimLeftB x.data.toList 32) 32) := hide (by rw [trim_swap, HE1.out]; rfl)
        have hxs : x.size ≤ 5000 := by
          have h1 : x.data.toList.length = x.size := by simp
          have h2 : cur.data.toList.length = cur.size := by simp
          have h3 := (cut_len cur.data.toList 35).1
          rw [HE1.out] at h1
          omega
        clear HE1
        go_loop [7] (fun tv => ∃ r : ByteArray, tv = .string r ∧ r.size ≤ 5000 ∧ trimLeftB r.data.toList 32 = trimLeftB x.data.toList 32) (fun tv => match tv with | .string r => r.size | _ => 0)
        case atStart => exact ⟨x, rfl, hxs, rfl⟩
        case round =>
          obtain ⟨r, rfl, hrs, hre⟩ := hrel
          have HRe := hide hre
          clear hre
          have hrl : r.data.toList.length = r.size := by simp
          by_cases h0 : 0 < r.size
          · have e1 : (0 : Int) < (r.size : Int) := by omega
            have e2 : ((r.size : Int) > 0) := by omega
            by_cases hc0 : r[0] = 32
            · have e3 : (((r[0].toNat : Nat) : Int) == 32) = true := by rw [hc0]; rfl
              have HN2 := hide (head_eq h0 hc0)
              have e4 : (1 : Int) ≤ (r.size : Int) := by omega
              clear hc0
              go_wp2
              go_round
              case rel => exact ⟨r.extract 1 r.size, rfl, by simp; omega, HN2.out.trans HRe.out⟩
              case measure => simp; omega
            · have e3 : (((r[0].toNat : Nat) : Int) == 32) = false := by
                rw [beq_eq_false_iff_ne]; intro e
                exact hc0 (UInt8.toNat_inj.1 (by (show r[0].toNat = 32); omega))
              have HZ : Hid (r.data.toList = trimLeftB x.data.toList 32) := hide ((head_ne h0 hc0).symm.trans HRe.out)
              clear hc0
              go_wp2
              go_loop [7] (fun tv => ∃ r2 : ByteArray, tv = .string r2 ∧ r2.size ≤ 5000 ∧ trimRightB r2.data.toList 32 = trimRightB r.data.toList 32) (fun tv => match tv with | .string r2 => r2.size | _ => 0)
              case atStart => exact ⟨r, rfl, hrs, rfl⟩
              case round =>
                rename_i hrel2
                clear hrs hrl
                obtain ⟨r2, rfl, hrs, hre⟩ := hrel
                have HRe2 := hide hre
                clear hre
                have hrl : r2.data.toList.length = r2.size := by simp
                by_cases h02 : 0 < r2.size
                · have f1 : ((r2.size : Int) > 0) := by omega
                  have f2 : (0 : Int) ≤ (r2.size : Int) - 1 := by omega
                  have f3 : (r2.size : Int) - 1 < (r2.size : Int) := by omega
                  have f4 : (r2.size : Int) - 1 ≤ (r2.size : Int) := by omega
                  have f5 : ((r2.size : Int) - 1).toNat = r2.size - 1 := by omega
                  have hlb := last_byte r2 h02
                  by_cases hc0 : (r2[r2.size - 1]'(by omega)) = 32
                  · have f6 : ((((r2[r2.size - 1]'(by omega)).toNat : Nat) : Int) == 32) = true := by rw [hc0]; rfl
                    have HN2 : Hid (trimRightB (r2.extract 0 (r2.size - 1)).data.toList 32 = trimRightB r2.data.toList 32) := hide (by rw [drop_last]; exact rtrim_eq (by rw [hlb, hc0]))
                    clear hc0 hlb
                    go_wp2
                    go_round
                    case rel => exact ⟨r2.extract 0 (r2.size - 1), rfl, by simp; omega, HN2.out.trans HRe2.out⟩
                    case measure => simp; omega
                  · have f6 : ((((r2[r2.size - 1]'(by omega)).toNat : Nat) : Int) == 32) = false := by
                      rw [beq_eq_false_iff_ne]; intro e
                      exact hc0 (UInt8.toNat_inj.1 (by (show _ = 32); omega))
                    have HSh : Hid (shownL cur.data.toList = r2.data.toList) := hide (by rw [HX.out, ← HZ.out, ← HRe2.out]; exact rtrim_ne hlb hc0)
                    clear hc0 hlb
                    have hne : r2.data.toList ≠ [] := fun e => by rw [e] at hrl; simp at hrl; omega
                    have HF2 : Hid (saidL s.data.toList = acc ++ [(n + 1, r2.data.toList)]) := hide (by rw [HFr.out, HSh.out, if_neg hne])
                    have HNE := hide hne
                    clear hne
                    have f7 : (r2.toList == ([] : List UInt8)) = false := by rw [ByteArray.toList_eq]; cases hq : r2.data.toList with | nil => exact absurd hq HNE.out | cons _ _ => rfl
                    go_wp2_with (at_builtin; refine wpList_append_own _ rfl _ _ 92 rfl w.heap.size 95 i0 (.agg #[.int .i64 0, .string ⟨#[]⟩]) 2 24 Tryz.underlying92 hi0 hq0 hq1 hq2 rfl (by decide) _ _ _ rfl ((own_dn HO.out n2).alloc _) ⟨_, 0, none⟩ 1 1 [.int .i64 ((n : Int) + 1), .string r2] rfl rfl (cell_two_new' _ _ _ _) (by intro u hu; simp at hu; rcases hu with rfl | rfl <;> rfl) (by unfold maxLen; omega) (by omega) (by (have := HB.out.size; simp; omega)) ?_; intro v4 w4 hown4 hgrow4 _)
                    go_roundw
                    case rel =>
                      have hX := (own_dn HO.out n2).alloc (.cells #[.int .i64 ((n : Int) + 1), .string r2] 95)
                      refine ⟨s.size + 1, s.size + 1, n + 1, acc ++ [(n + 1, r2.data.toList)], by go_num, by go_num, by go_num, by omega, by omega, by omega, by (simp; omega), by simp, fun h => by omega, fun _ => HF2.out, fun _ => rfl, by rw [lineCells_snoc, List.length_append, ba_list]; exact hown4, ?_⟩
                      exact ((below_dw HB.out n2).alloc (by (have := HB.out.size; simp; omega)) _).grown hgrow4 (by (have := HB.out.size; simp; omega)) HG.out
                    case measure => unfold rlLeft; simp only [intOf]; omega
                · have f1 : decide ((r2.size : Int) > 0) = false := decide_eq_false (by omega)
                  have f1' : decide ((0 : Int) < (r2.size : Int)) = false := decide_eq_false (by omega)
                  have hn : r2.data.toList = [] := List.length_eq_zero_iff.1 (by omega)
                  have HSh : Hid (shownL cur.data.toList = []) := hide (by rw [HX.out, ← HZ.out, ← HRe2.out, hn]; rfl)
                  have HF2 : Hid (saidL s.data.toList = acc) := hide (by rw [HFr.out, HSh.out, if_pos rfl, List.append_nil])
                  have hre := ba_nil hn
                  subst hre
                  clear hn hrl
                  go_wp2
                  go_roundw
                  case rel => exact ⟨s.size + 1, s.size + 1, n + 1, acc, by go_num, by go_num, by go_num, by omega, by omega, by omega, by omega, by simp, fun h => by omega, fun _ => HF2.out, fun _ => rfl, own_dn HO.out n2, below_dw HB.out n2⟩
                  case measure => unfold rlLeft; simp only [intOf]; omega
          · have e2 : decide ((r.size : Int) > 0) = false := decide_eq_false (by omega)
            have e2' : decide ((0 : Int) < (r.size : Int)) = false := decide_eq_false (by omega)
            have HZ : Hid (r.data.toList = trimLeftB x.data.toList 32) := hide (by
              have hn : r.data.toList = [] := List.length_eq_zero_iff.1 (by omega)
              rw [← HRe.out, hn]; rfl)
            go_wp2
            go_loop [7] (fun tv => ∃ r2 : ByteArray, tv = .string r2 ∧ r2.size ≤ 5000 ∧ trimRightB r2.data.toList 32 = trimRightB r.data.toList 32) (fun tv => match tv with | .string r2 => r2.size | _ => 0)
            case atStart => exact ⟨r, rfl, hrs, rfl⟩
            case round =>
              rename_i hrel2
              clear hrs hrl
              obtain ⟨r2, rfl, hrs, hre⟩ := hrel
              have HRe2 := hide hre
              clear hre
              have hrl : r2.data.toList.length = r2.size := by simp
              by_cases h02 : 0 < r2.size
              · have f1 : ((r2.size : Int) > 0) := by omega
                have f2 : (0 : Int) ≤ (r2.size : Int) - 1 := by omega
                have f3 : (r2.size : Int) - 1 < (r2.size : Int) := by omega
                have f4 : (r2.size : Int) - 1 ≤ (r2.size : Int) := by omega
                have f5 : ((r2.size : Int) - 1).toNat = r2.size - 1 := by omega
                have hlb := last_byte r2 h02
                by_cases hc0 : (r2[r2.size - 1]'(by omega)) = 32
                · have f6 : ((((r2[r2.size - 1]'(by omega)).toNat : Nat) : Int) == 32) = true := by rw [hc0]; rfl
                  have HN2 : Hid (trimRightB (r2.extract 0 (r2.size - 1)).data.toList 32 = trimRightB r2.data.toList 32) := hide (by rw [drop_last]; exact rtrim_eq (by rw [hlb, hc0]))
                  clear hc0 hlb
                  go_wp2
                  go_round
                  case rel => exact ⟨r2.extract 0 (r2.size - 1), rfl, by simp; omega, HN2.out.trans HRe2.out⟩
                  case measure => simp; omega
                · have f6 : ((((r2[r2.size - 1]'(by omega)).toNat : Nat) : Int) == 32) = false := by
                    rw [beq_eq_false_iff_ne]; intro e
                    exact hc0 (UInt8.toNat_inj.1 (by (show _ = 32); omega))
                  have HSh : Hid (shownL cur.data.toList = r2.data.toList) := hide (by rw [HX.out, ← HZ.out, ← HRe2.out]; exact rtrim_ne hlb hc0)
                  clear hc0 hlb
                  have hne : r2.data.toList ≠ [] := fun e => by rw [e] at hrl; simp at hrl; omega
                  have HF2 : Hid (saidL s.data.toList = acc ++ [(n + 1, r2.data.toList)]) := hide (by rw [HFr.out, HSh.out, if_neg hne])
                  have HNE := hide hne
                  clear hne
                  have f7 : (r2.toList == ([] : List UInt8)) = false := by rw [ByteArray.toList_eq]; cases hq : r2.data.toList with | nil => exact absurd hq HNE.out | cons _ _ => rfl
                  go_wp2_with (at_builtin; refine wpList_append_own _ rfl _ _ 92 rfl w.heap.size 95 i0 (.agg #[.int .i64 0, .string ⟨#[]⟩]) 2 24 Tryz.underlying92 hi0 hq0 hq1 hq2 rfl (by decide) _ _ _ rfl ((own_dn HO.out n2).alloc _) ⟨_, 0, none⟩ 1 1 [.int .i64 ((n : Int) + 1), .string r2] rfl rfl (cell_two_new' _ _ _ _) (by intro u hu; simp at hu; rcases hu with rfl | rfl <;> rfl) (by unfold maxLen; omega) (by omega) (by (have := HB.out.size; simp; omega)) ?_; intro v4 w4 hown4 hgrow4 _)
                  go_roundw
                  case rel =>
                    have hX := (own_dn HO.out n2).alloc (.cells #[.int .i64 ((n : Int) + 1), .string r2] 95)
                    refine ⟨s.size + 1, s.size + 1, n + 1, acc ++ [(n + 1, r2.data.toList)], by go_num, by go_num, by go_num, by omega, by omega, by omega, by (simp; omega), by simp, fun h => by omega, fun _ => HF2.out, fun _ => rfl, by rw [lineCells_snoc, List.length_append, ba_list]; exact hown4, ?_⟩
                    exact ((below_dw HB.out n2).alloc (by (have := HB.out.size; simp; omega)) _).grown hgrow4 (by (have := HB.out.size; simp; omega)) HG.out
                  case measure => unfold rlLeft; simp only [intOf]; omega
              · have f1 : decide ((r2.size : Int) > 0) = false := decide_eq_false (by omega)
                have f1' : decide ((0 : Int) < (r2.size : Int)) = false := decide_eq_false (by omega)
                have hn : r2.data.toList = [] := List.length_eq_zero_iff.1 (by omega)
                have HSh : Hid (shownL cur.data.toList = []) := hide (by rw [HX.out, ← HZ.out, ← HRe2.out, hn]; rfl)
                have HF2 : Hid (saidL s.data.toList = acc) := hide (by rw [HFr.out, HSh.out, if_pos rfl, List.append_nil])
                have hre := ba_nil hn
                subst hre
                clear hn hrl
                go_wp2
                go_roundw
                case rel => exact ⟨s.size + 1, s.size + 1, n + 1, acc, by go_num, by go_num, by go_num, by omega, by omega, by omega, by omega, by simp, fun h => by omega, fun _ => HF2.out, fun _ => rfl, own_dn HO.out n2, below_dw HB.out n2⟩
                case measure => unfold rlLeft; simp only [intOf]; omega
      · obtain rfl : i = s.size + 1 := by omega
        have q0 : decide (((s.size : Int) + 1) ≤ (s.size : Int)) = false := decide_eq_false (by omega)
        have HE := hide (HEn.out (HFi.out rfl))
        go_wp2
        go_ret
        exact ⟨_, rfl, ⟨by rw [HE.out]; exact HO.out, HB.out⟩⟩
end Go.Proofs.YtoekcfbjdcibpaaGreatDoor
namespace Go.Proofs.YtoekcfbjdcibpaaGreatDoor
open Go.RowKit Go.Lib
set_option linter.unusedVariables false

theorem own_apart {W : World} {B B' e e' sz sz' n n' : Nat} {v v' : Value} {xs xs' : List Value} (h : W.ownsRow B e sz v n xs) (h' : W.ownsRow B' e' sz' v' n' xs') (hne : e ≠ e') : v.ownBlock = none ∨ v.ownBlock ≠ v'.ownBlock := by
  rcases h.2 with ⟨rfl, _⟩ | ⟨g, cap, cur, rfl, _, hg, _⟩
  · exact .inl rfl
  · right
    rcases h'.2 with ⟨rfl, _⟩ | ⟨g', cap', cur', rfl, _, hg', _⟩
    · simp [Value.ownBlock]
    · intro hh
      simp [Value.ownBlock] at hh
      subst hh
      rw [hg] at hg'
      injection hg' with hg'
      injection hg' with _ h2
      exact hne h2
theorem kept_two {W W' : World} {B B' e e' sz sz' n n' : Nat} {v v' : Value} {xs xs' : List Value} (h : W.ownsRow B e sz v n xs) (h' : W.ownsRow B' e' sz' v' n' xs') (hne : e ≠ e') (hg : W.grownBy W' v'.ownBlock) : W'.ownsRow B e sz v n xs := h.kept hg (own_apart h h' hne)
theorem below_grown {w W W' : World} {e' sz' n' : Nat} {v' : Value} {xs' : List Value} (hb : Below w.heap.size w W) (h' : W.ownsRow w.heap.size e' sz' v' n' xs') (hg : W.grownBy W' v'.ownBlock) : Below w.heap.size w W' := hb.grown hg hb.size (own_from h')
theorem below_al {w W : World} (hb : Below w.heap.size w W) (o : Obj) : Below w.heap.size w (W.alloc o) := hb.alloc hb.size o
theorem own_form {W : World} {B e sz n : Nat} {v : Value} {xs : List Value} (h : W.ownsRow B e sz v n xs) : ∃ a cap, v = .slice a n cap := by
  rcases h.2 with ⟨rfl, rfl⟩ | ⟨g, cap, cur, rfl, _⟩
  · exact ⟨_, _, rfl⟩
  · exact ⟨_, _, rfl⟩
theorem own_some {W : World} {B e sz n cap : Nat} {a : Option Addr} {xs : List Value} (h : W.ownsRow B e sz (.slice a n cap) n xs) (hn : 0 < n) : ∃ g, a = some ⟨g, 0, none⟩ ∧ n ≤ cap := by
  rcases h.2 with ⟨e, h0⟩ | ⟨g, cap', cur, e, _, _, hc, _⟩
  · omega
  · injection e with e1 e2 e3
    exact ⟨g, e1, by omega⟩
theorem own_at {W : World} {B e sz n cap g : Nat} {xs : List Value} (h : W.ownsRow B e sz (.slice (some ⟨g, 0, none⟩) n cap) n xs) {j : Nat} {x : Value} (hx : xs[j]? = some x) : W.cell? ⟨g, j, none⟩ = some x := by
  rcases h.2 with ⟨e, h0⟩ | ⟨g', cap', cur, e, _, hg, _, _, _, ht⟩
  · cases e
  · injection e with e1 e2 e3
    injection e1 with e1
    injection e1 with e1
    subst e1
    rw [cell_of_row _ _ _ _ _ (0, 0) hg]
    rw [← ht, List.getElem?_take] at hx
    split at hx
    · rw [← hx]; simp
    · cases hx
def strC (m : Labs) : List Value := m.map fun p => Value.string ⟨p.1.toArray⟩
def intC (m : Labs) : List Value := m.map fun p => Value.int .i64 (p.2 : Int)
theorem strC_snoc (m : Labs) (k : Str) (p : Nat) : strC (m ++ [(k, p)]) = strC m ++ [.string ⟨k.toArray⟩] := by simp [strC]
theorem intC_snoc (m : Labs) (k : Str) (p : Nat) : intC (m ++ [(k, p)]) = intC m ++ [.int .i64 (p : Int)] := by simp [intC]
theorem strC_at {m : Labs} {j : Nat} {q : Str × Nat} (h : m[j]? = some q) : (strC m)[j]? = some (.string ⟨q.1.toArray⟩) := by simp [strC, h]
theorem intC_at {m : Labs} {j : Nat} {q : Str × Nat} (h : m[j]? = some q) : (intC m)[j]? = some (.int .i64 (q.2 : Int)) := by simp [intC, h]
theorem look_take_succ {m : Labs} {j : Nat} {q : Str × Nat} (h : m[j]? = some q) (x : Str) (hno : lookL (m.take j) x = none) : lookL (m.take (j + 1)) x = if q.1 = x then some q.2 else none := by
  rw [List.take_add_one, h]
  show lookL (m.take j ++ [q]) x = _
  obtain ⟨k, p⟩ := q
  by_cases e : k = x
  · subst e
    rw [look_snoc_same _ _ p hno, if_pos rfl]
  · rw [look_snoc_other _ k x p (fun e' => e e'.symm), hno, if_neg e]
theorem look_hit {m : Labs} {j : Nat} {x : Str} {p : Nat} (h : lookL (m.take j) x = some p) : (lookL m x).isSome = true := by
  have h1 := look_mem h
  have h2 : (x, p) ∈ m := List.mem_of_mem_take h1
  unfold lookL
  rw [Option.isSome_map, List.find?_isSome]
  exact ⟨(x, p), h2, by simp⟩
theorem str_eq (x y : ByteArray) : (x.toList == y.toList) = decide (x.data.toList = y.data.toList) := by
  rw [ByteArray.toList_eq, ByteArray.toList_eq, Bool.eq_iff_iff, beq_iff_eq, decide_eq_true_eq]
theorem ba_data (l : Str) : (ByteArray.mk l.toArray).data.toList = l := rfl
theorem ba_size (l : Str) : (ByteArray.mk l.toArray).size = l.length := by simp [ByteArray.size]
theorem pl_plain {l : Ln} {r : List Ln} {a : Nat} {m : Labs} (h : labD l.2 = false) : placesFrom (l :: r) a m = placesFrom r (a + 4) m := by
  rw [placesFrom, if_pos ((label_ne l.2).2 h)]
theorem pl_twice2 {l : Ln} {r : List Ln} {a : Nat} {m : Labs} (h : labD l.2 = true) (hl : (lookL m l.2.dropLast).isSome = true) : placesFrom (l :: r) a m = (some l.1, m) := by
  have e : labelL l.2 = l.2.dropLast := by rw [label_is, if_pos h]
  have hn : labelL l.2 ≠ [] := fun e' => by rw [label_ne, h] at e'; cases e'
  rw [placesFrom, if_neg hn, e, if_pos hl]
theorem pl_new {l : Ln} {r : List Ln} {a : Nat} {m : Labs} (h : labD l.2 = true) (hl : lookL m l.2.dropLast = none) : placesFrom (l :: r) a m = placesFrom r a (m ++ [(l.2.dropLast, a)]) := by
  have e : labelL l.2 = l.2.dropLast := by rw [label_is, if_pos h]
  have hn : labelL l.2 ≠ [] := fun e' => by rw [label_ne, h] at e'; cases e'
  rw [placesFrom, if_neg hn, e, hl, if_neg (by simp)]
theorem prog_first {s : Str} (hs : s.length ≤ 65536) {k : Nat} {m : Labs} (h : placesFrom (saidL s) 0 [] = (some k, m)) : progD s = (k, 6, []) := by
  unfold progD; rw [if_pos hs, h]
theorem prog_then {s : Str} (hs : s.length ≤ 65536) {m : Labs} (h : placesFrom (saidL s) 0 [] = (none, m)) : progD s = wordsD m (saidL s) [] := by
  unfold progD; rw [if_pos hs, h]
/-- What the document's Program answers. -/
structure RProg (r : Told) (w : World) (e : Ending) (w' : World) : Prop where
  ex : ∃ v, e = .returned (.tuple #[v, .int .i64 (r.1 : Int), .int .i64 r.2.1]) ∧ w'.ownsRow w.heap.size 48 1 v r.2.2.length (wordCells r.2.2) ∧ Below w.heap.size w w'
theorem rprog_nil {w w' : World} {k : Nat} {n : Int} (hb : Below w.heap.size w w') : RProg (k, n, []) w (.returned (.tuple #[.slice none 0 0, .int .i64 (k : Int), .int .i64 n])) w' :=
  ⟨⟨_, rfl, ⟨rfl, .inl ⟨rfl, rfl⟩⟩, hb⟩⟩
theorem drop_cons {ls : List Ln} {k : Nat} {p : Ln} (h : ls[k]? = some p) : ls.drop k = p :: ls.drop (k + 1) := by
  obtain ⟨hk, e⟩ := List.getElem?_eq_some_iff.1 h
  rw [List.drop_eq_getElem_cons hk, e]
end Go.Proofs.YtoekcfbjdcibpaaGreatDoor
