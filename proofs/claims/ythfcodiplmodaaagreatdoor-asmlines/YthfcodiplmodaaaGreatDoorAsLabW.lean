/-
  AsmLabels, walked.
-/
import Derived.Test.YthfcodiplmodaaaGreatDoorAsLab
import Derived.Test.YthfcodiplmodaaaGreatDoorAsSure
namespace Go.Proofs.YthfcodiplmodaaaGreatDoor
open Go.RowKit
set_option linter.unusedVariables false

theorem cat_mk (a b : Str) : (ByteArray.mk a.toArray) ++ (ByteArray.mk b.toArray) = ByteArray.mk (a ++ b).toArray := by
  apply ByteArray.ext
  simp [ByteArray.data_append]
theorem cat_lit (a : Str) (b : Array UInt8) (c : Str) (h : a ++ b.toList = c) : (ByteArray.mk a.toArray) ++ (ByteArray.mk b) = ByteArray.mk c.toArray := by
  rw [← h, ← cat_mk]
theorem mk_size (l : Str) : (ByteArray.mk l.toArray).size = l.length := by simp [ByteArray.size]
def LbRel (s0 : Str) (n : Nat) (w : World) (sv iv : Value) (wr : World) : Prop := ∃ k : Nat, k ≤ n ∧ iv = .int .i64 (k : Nat) ∧ sv = .string ⟨(s0 ++ wfis k).toArray⟩ ∧ wr = w

theorem lab_call (up : Bool) (n m : Nat) (hn : n < 200) (hm : m < 200) (w : World) (hA : AsAt w) :
    Calls Tryz.prog 15 #[.string ⟨(labS up n m).toArray⟩] w fun e w' => ∃ g cap : Nat, e = .returned (.tuple #[.slice (some ⟨g, 0, none⟩) (n + m + 1) cap, .int .i64 0, .nilIface]) ∧ w'.cell? ⟨g, n, none⟩ = some (.int .u32 (encW (jalI (farZ up n m)) : Nat)) ∧ n + m + 1 ≤ cap ∧ Below w.heap.size w w' := by
  refine (prog_any (labS up n m) (by have := lab_len up n m; omega) w hA).mono ?_
  intro e w' h'
  rw [lab_prog up n m hn hm] at h'
  obtain ⟨v, he, ho, hb, _⟩ := h'
  have hl : (List.replicate n wfiW ++ (encW (jalI (farZ up n m)) :: List.replicate m wfiW)).length = n + m + 1 := by simp; omega
  simp only at he ho
  rw [hl] at ho
  obtain ⟨g, cap, rfl, hg, hcp, hcm, hc⟩ := words_cell ho hl (by simp)
  exact ⟨g, cap, he, hc n _ (by rw [List.getElem?_append_right (by simp)]; simp), hcp, hb⟩
theorem lab_dec (z : Int) (h : -1048576 ≤ z ∧ z ≤ 1048574 ∧ z % 2 = 0) (w : World) (hT : TabsAt w) :
    Calls Tryz.prog 19 #[.int .u32 (encW (jalI z) : Nat)] w fun e w' => e = .returned (.tuple #[.agg #[.int .i64 2, .int .i64 1, .int .i64 0, .int .i64 0, .int .i64 z, .int .i64 0], .nilIface]) ∧ Below w.heap.size w w' := by
  have hd := decode_all (encW (jalI z)) (encW_lt _) w hT
  obtain ⟨h1, h2⟩ := dec_enc (jalI z) (by unfold encN; rw [if_pos (jal_ok z h)])
  rw [h1, h2] at hd
  exact hd

set_option maxHeartbeats 2000000 in
set_option maxRecDepth 100000 in
theorem labs_true (b c : Int) (n m : Nat) (hn : n < 200) (hm : m < 200) (rn : (IntKind.u64.wrap b).tmod 200 = (n : Nat)) (rm : (IntKind.u64.wrap c).tmod 200 = (m : Nat)) (w : World) (hA : AsAt w) :
    Calls Tryz.prog 8 #[.int .i64 b, .int .i64 c, .bool true] w fun e w' => e = .returned (.bool true) ∧ Below w.heap.size w w' := by
  have HA := hide hA
  have HP := hide (lab_call true n m hn hm w hA)
  have hz : -1048576 ≤ farZ true n m ∧ farZ true n m ≤ 1048574 ∧ farZ true n m % 2 = 0 := by unfold farZ; simp; omega
  have HD := hide (lab_dec (farZ true n m) hz)
  have hfar : farZ true n m = -4 * (n : Int) := by unfold farZ; simp
  have HS : Hid ((⟨(((thereS ++ [10]) ++ wfis n ++ (jalS ++ [10])) ++ wfis m).toArray⟩ : ByteArray) = ⟨(labS true n m).toArray⟩) := by
    refine hide ?_
    unfold labS
    simp
  have HC1 : Hid (∀ k, (⟨((thereS ++ [10]) ++ wfis k).toArray⟩ : ByteArray) ++ ⟨#[119, 102, 105, 10]⟩ = ⟨((thereS ++ [10]) ++ wfis (k + 1)).toArray⟩) := hide (fun k => cat_lit _ _ _ (by rw [wfis]; simp))
  have HC2 : Hid (∀ k, (⟨(((thereS ++ [10]) ++ wfis n ++ (jalS ++ [10])) ++ wfis k).toArray⟩ : ByteArray) ++ ⟨#[119, 102, 105, 10]⟩ = ⟨(((thereS ++ [10]) ++ wfis n ++ (jalS ++ [10])) ++ wfis (k + 1)).toArray⟩) := hide (fun k => cat_lit _ _ _ (by rw [wfis]; simp))
  have HC3 : Hid ((⟨((thereS ++ [10]) ++ wfis n).toArray⟩ : ByteArray) ++ ⟨#[106, 97, 108, 32, 120, 49, 44, 32, 116, 104, 101, 114, 101, 10]⟩ = ⟨(((thereS ++ [10]) ++ wfis n ++ (jalS ++ [10])) ++ wfis 0).toArray⟩) := hide (cat_lit _ _ _ (by rw [wfis]; simp [jalS]))
  have HC4 : Hid ((⟨(((thereS ++ [10]) ++ wfis n ++ (jalS ++ [10])) ++ wfis m).toArray⟩ : ByteArray) ++ ⟨#[116, 104, 101, 114, 101, 58, 10]⟩ = ⟨(((thereS ++ [10]) ++ wfis n ++ (jalS ++ [10])) ++ wfis m ++ (thereS ++ [10])).toArray⟩) := hide (cat_lit _ _ _ (by simp [thereS]))
  have hL1 : ((thereS ++ [10]) ++ wfis n ++ (jalS ++ [10])).length ≤ 1000 := by simp [wfis_len, thereS, jalS]; omega
  generalize hs1 : ((thereS ++ [10]) ++ wfis n ++ (jalS ++ [10])) = s1 at *
  generalize labS true n m = L at *
  generalize encW (jalI (farZ true n m)) = J at *
  rw [hfar] at HD
  clear hA hz hfar
  go_enter Tryz.func8, Tryz.ntmps8
  go_wp2
  clear rn rm
  go_loopw [9, 10] (LbRel (thereS ++ [10]) n w) (fun _ iv _ => n - (intOf iv).toNat)
  case atStart => exact ⟨0, by omega, rfl, rfl, rfl⟩
  case round =>
    obtain ⟨k, hk, rfl, rfl, rfl⟩ := hrel
    by_cases hlt : k < n
    · have HE := hide (HC1.out k)
      have hsz : (ByteArray.mk ((thereS ++ [10]) ++ wfis k).toArray).size ≤ 2000 := by rw [mk_size, List.length_append, wfis_len]; simp [thereS]; omega
      clear HC1 HC2 HC3 HC4 HS HP HD
      generalize ByteArray.mk ((thereS ++ [10]) ++ wfis k).toArray = st at *
      go_wp2
      go_roundw
      case rel => exact ⟨k + 1, by omega, by go_num, by rw [← HE.out], rfl⟩
      case measure => simp [intOf]; omega
    · obtain rfl : k = n := by omega
      have hsz : (ByteArray.mk ((thereS ++ [10]) ++ wfis k).toArray).size ≤ 2000 := by rw [mk_size, List.length_append, wfis_len]; simp [thereS]; omega
      generalize ByteArray.mk ((thereS ++ [10]) ++ wfis k).toArray = st at *
      go_wp2
      rw [HC3.out]
      clear HC1 HC3
      go_loopw [9, 11] (LbRel s1 m wr) (fun _ iv _ => m - (intOf iv).toNat)
      case atStart => exact ⟨0, by omega, rfl, rfl, rfl⟩
      case round =>
        obtain ⟨j, hj, rfl, rfl, rfl⟩ := hrel
        by_cases hlt2 : j < m
        · have HE := hide (HC2.out j)
          have hsz2 : (ByteArray.mk (s1 ++ wfis j).toArray).size ≤ 2000 := by rw [mk_size, List.length_append, wfis_len]; omega
          clear HC2 HC4 HS HP HD
          generalize ByteArray.mk (s1 ++ wfis j).toArray = st2 at *
          go_wp2
          go_roundw
          case rel => exact ⟨j + 1, by omega, by go_num, by rw [← HE.out], rfl⟩
          case measure => simp [intOf]; omega
        · obtain rfl : j = m := by omega
          have hsz2 : (ByteArray.mk (s1 ++ wfis j).toArray).size ≤ 2000 := by rw [mk_size, List.length_append, wfis_len]; omega
          clear HC2 hs1 hL1 hsz
          have q1 : ((k : Int) + (j : Int) + 1 != (k : Int) + (j : Int) + 1) = false := by simp
          rw [HS.out]
          clear HS HC4
          go_wp2_with (first | (go_at_call 15; refine HP.out.mono ?_; rintro e w2 ⟨g, cap, rfl, hc, hcp, hx2⟩; have HB2 := hide hx2; clear hx2) | (go_at_call 19; refine (HD.out _ ((HA.out.below HB2.out).tabs)).mono ?_; rintro e w3 ⟨rfl, hx3⟩; have HB3 := hide (below_step HB2.out.size HB2.out hx3); clear hx3) | (go_at_call 12; refine (sure_any _ (HA.out.below (HB3.out.alloc HB3.out.size _))).mono ?_; rintro e w5 ⟨rfl, hx5⟩; have HB5 := hide (below_step (by have := HB3.out.size; simp; omega) (HB3.out.alloc HB3.out.size _) hx5); clear hx5))
          go_ret
          exact ⟨rfl, HB5.out⟩

set_option maxHeartbeats 2000000 in
set_option maxRecDepth 100000 in
theorem labs_false (b c : Int) (n m : Nat) (hn : n < 200) (hm : m < 200) (rn : (IntKind.u64.wrap b).tmod 200 = (n : Nat)) (rm : (IntKind.u64.wrap c).tmod 200 = (m : Nat)) (w : World) (hA : AsAt w) :
    Calls Tryz.prog 8 #[.int .i64 b, .int .i64 c, .bool false] w fun e w' => e = .returned (.bool true) ∧ Below w.heap.size w w' := by
  have HA := hide hA
  have HP := hide (lab_call false n m hn hm w hA)
  have hz : -1048576 ≤ farZ false n m ∧ farZ false n m ≤ 1048574 ∧ farZ false n m % 2 = 0 := by unfold farZ; simp; omega
  have HD := hide (lab_dec (farZ false n m) hz)
  have hfar : farZ false n m = 4 + 4 * (m : Int) := by unfold farZ; simp
  have HS : Hid ((⟨((([] : Str) ++ wfis n ++ (jalS ++ [10])) ++ wfis m ++ (thereS ++ [10])).toArray⟩ : ByteArray) = ⟨(labS false n m).toArray⟩) := by
    refine hide ?_
    unfold labS
    simp
  have HC1 : Hid (∀ k, (⟨(([] : Str) ++ wfis k).toArray⟩ : ByteArray) ++ ⟨#[119, 102, 105, 10]⟩ = ⟨(([] : Str) ++ wfis (k + 1)).toArray⟩) := hide (fun k => cat_lit _ _ _ (by rw [wfis]; simp))
  have HC2 : Hid (∀ k, (⟨((([] : Str) ++ wfis n ++ (jalS ++ [10])) ++ wfis k).toArray⟩ : ByteArray) ++ ⟨#[119, 102, 105, 10]⟩ = ⟨((([] : Str) ++ wfis n ++ (jalS ++ [10])) ++ wfis (k + 1)).toArray⟩) := hide (fun k => cat_lit _ _ _ (by rw [wfis]; simp))
  have HC3 : Hid ((⟨(([] : Str) ++ wfis n).toArray⟩ : ByteArray) ++ ⟨#[106, 97, 108, 32, 120, 49, 44, 32, 116, 104, 101, 114, 101, 10]⟩ = ⟨((([] : Str) ++ wfis n ++ (jalS ++ [10])) ++ wfis 0).toArray⟩) := hide (cat_lit _ _ _ (by rw [wfis]; simp [jalS]))
  have HC4 : Hid ((⟨((([] : Str) ++ wfis n ++ (jalS ++ [10])) ++ wfis m).toArray⟩ : ByteArray) ++ ⟨#[116, 104, 101, 114, 101, 58, 10]⟩ = ⟨((([] : Str) ++ wfis n ++ (jalS ++ [10])) ++ wfis m ++ (thereS ++ [10])).toArray⟩) := hide (cat_lit _ _ _ (by simp [thereS]))
  have hL1 : (([] : Str) ++ wfis n ++ (jalS ++ [10])).length ≤ 1000 := by simp [wfis_len, jalS]; omega
  generalize hs1 : (([] : Str) ++ wfis n ++ (jalS ++ [10])) = s1 at *
  generalize labS false n m = L at *
  generalize encW (jalI (farZ false n m)) = J at *
  rw [hfar] at HD
  clear hA hz hfar
  go_enter Tryz.func8, Tryz.ntmps8
  go_wp2
  clear rn rm
  go_loopw [9, 10] (LbRel ([] : Str) n w) (fun _ iv _ => n - (intOf iv).toNat)
  case atStart => exact ⟨0, by omega, rfl, rfl, rfl⟩
  case round =>
    obtain ⟨k, hk, rfl, rfl, rfl⟩ := hrel
    by_cases hlt : k < n
    · have HE := hide (HC1.out k)
      have hsz : (ByteArray.mk (([] : Str) ++ wfis k).toArray).size ≤ 2000 := by rw [mk_size, List.length_append, wfis_len]; simp; omega
      clear HC1 HC2 HC3 HC4 HS HP HD
      generalize ByteArray.mk (([] : Str) ++ wfis k).toArray = st at *
      go_wp2
      go_roundw
      case rel => exact ⟨k + 1, by omega, by go_num, by rw [← HE.out], rfl⟩
      case measure => simp [intOf]; omega
    · obtain rfl : k = n := by omega
      have hsz : (ByteArray.mk (([] : Str) ++ wfis k).toArray).size ≤ 2000 := by rw [mk_size, List.length_append, wfis_len]; simp; omega
      generalize ByteArray.mk (([] : Str) ++ wfis k).toArray = st at *
      go_wp2
      rw [HC3.out]
      clear HC1 HC3
      go_loopw [9, 11] (LbRel s1 m wr) (fun _ iv _ => m - (intOf iv).toNat)
      case atStart => exact ⟨0, by omega, rfl, rfl, rfl⟩
      case round =>
        obtain ⟨j, hj, rfl, rfl, rfl⟩ := hrel
        by_cases hlt2 : j < m
        · have HE := hide (HC2.out j)
          have hsz2 : (ByteArray.mk (s1 ++ wfis j).toArray).size ≤ 2000 := by rw [mk_size, List.length_append, wfis_len]; omega
          clear HC2 HC4 HS HP HD
          generalize ByteArray.mk (s1 ++ wfis j).toArray = st2 at *
          go_wp2
          go_roundw
          case rel => exact ⟨j + 1, by omega, by go_num, by rw [← HE.out], rfl⟩
          case measure => simp [intOf]; omega
        · obtain rfl : j = m := by omega
          have hsz2 : (ByteArray.mk (s1 ++ wfis j).toArray).size ≤ 2000 := by rw [mk_size, List.length_append, wfis_len]; omega
          clear HC2 hs1 hL1 hsz
          have q1 : ((k : Int) + (j : Int) + 1 != (k : Int) + (j : Int) + 1) = false := by simp
          generalize ByteArray.mk (s1 ++ wfis j).toArray = st3 at *
          rw [HS.out] at HC4
          have HC5 := hide HC4.out
          clear HS HC4
          go_wp2_with (fail)
          rw [HC5.out]
          clear HC5
          go_wp2_with (first | (go_at_call 15; refine HP.out.mono ?_; rintro e w2 ⟨g, cap, rfl, hc, hcp, hx2⟩; have HB2 := hide hx2; clear hx2) | (go_at_call 19; refine (HD.out _ ((HA.out.below HB2.out).tabs)).mono ?_; rintro e w3 ⟨rfl, hx3⟩; have HB3 := hide (below_step HB2.out.size HB2.out hx3); clear hx3) | (go_at_call 12; refine (sure_any _ (HA.out.below (HB3.out.alloc HB3.out.size _))).mono ?_; rintro e w5 ⟨rfl, hx5⟩; have HB5 := hide (below_step (by have := HB3.out.size; simp; omega) (HB3.out.alloc HB3.out.size _) hx5); clear hx5))
          go_ret
          exact ⟨rfl, HB5.out⟩

end Go.Proofs.YthfcodiplmodaaaGreatDoor
