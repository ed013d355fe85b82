/-
  mem's Read, Page and Digest, and where the page of noughts lies behind them.
-/
import Derived.Test.YtficoenanfnijaaGreatDoorJMeStep0
namespace Go.Proofs.YtficoenanfnijaaGreatDoor
open Go.RowKit
set_option linter.unusedVariables false
attribute [local go_sem ↓] Go.wp_at_zero Go.wp_at_succ

set_option maxHeartbeats 1000000 in
theorem read_z {w : World} {B b P D : Nat} {m : Mem} (h : RamAt w B b P D m) (hB : B ≤ w.heap.size) (a : Nat) (ha : a < 4294967296) (N : Nat) (hl0 : 0 < N) (hin : a + N ≤ m.n * 4096) :
    Calls Tryz.prog 19 #[.pointer (some ⟨b, 0, none⟩), .int .u32 a, .int .i64 N] w fun e w' => e = .returned (.tuple #[.slice (some ⟨w.heap.size, 0, none⟩) N N, .nilIface]) ∧ HoldsAt w' w.heap.size N 5 (readV m a N) ∧
      (∃ m', Looked m m' ∧ RamAt w' B b P D m' ∧ (m'.z = m.z ∨ ∃ x, m'.z = some x ∧ w.heap.size ≤ x)) ∧ Kept B w w' (m.owns b P D) := by
  have HHas := hide (has_some b P m.n a ha h.few (N : Int) (by omega) (by have := h.few; omega) w h.pagesAt)
  rw [decide_eq_true (show ((a : Int) + (N : Int) ≤ (m.n : Int) * 4096) by omega)] at HHas
  have hfew := h.few
  have hmk := run_make_row' (P := Tryz.prog) 28 5 (.int .u8 0) 1 Tryz.underlying28 (by kernel_rfl) rfl .i64 .i64 N (by omega) (by omega)
  have HR := hide h
  have i8 : (0 : Int) ≤ (N : Int) := by omega
  have i9 : N ≤ 67108864 := by omega
  have HZ : Hid (HoldsAt (w.alloc (.cells (madeCells #[.int .u8 0] N) 5)) w.heap.size N 5 (readV m a 0)) :=
    hide ((HoldsAt.made (RowAt.new w _ _ _ rfl)).congr (fun j _ => by rw [readV, if_neg (by omega)]))
  have HOw : Hid (∀ x, m.owns b P D x → x < w.heap.size) := hide (fun x hx => h.owned hx)
  have HZl : Hid (∀ x, m.z = some x → x ≠ w.heap.size) := hide (fun x hx => by have := h.z_lt hx; omega)
  clear h
  have HSp : Hid (∀ d p o : Nat, d ≤ N → p = (a + d) / 4096 → o = (a + d) % 4096 → ∀ w : World, Calls Tryz.prog 43 #[.int .u32 ((a : Int) + (d : Int))] w fun e w' => e = .returned (.tuple #[.int .i64 p, .int .i64 o]) ∧ w' = w) := by
    refine hide (fun d p o hd hp ho w => ?_)
    rw [hp, ho]
    exact split_any (a + d) (by omega) w
  go_enter Tryz.func19, Tryz.ntmps19
  go_wp2_with (first | (go_at_call 42; refine HHas.out.mono ?_; rintro e w1 ⟨rfl, rfl⟩))
  go_loopw [9] (fun dv wr => ∃ d m', d ≤ N ∧ dv = .int .i64 (d : Nat) ∧ HoldsAt wr w1.heap.size N 5 (readV m a d) ∧ Looked m m' ∧ RamAt wr B b P D m' ∧ Kept B w1 wr (m.owns b P D) ∧ (∀ x, m'.z = some x → x ≠ w1.heap.size) ∧ (m'.z = m.z ∨ ∃ x, m'.z = some x ∧ w1.heap.size ≤ x)) (fun dv _ => N - (intOf dv).toNat)
  case atStart => exact ⟨0, m, Nat.zero_le _, rfl, HZ.out, Looked.refl m, HR.out.bl (below_one _ _), Kept.of (below_one _ _) hB, HZl.out, .inl rfl⟩
  case round =>
    obtain ⟨d, m', hd, rfl, hH, hLk, hM, hK, hz, hzz⟩ := hrel
    have HZZ := hide hzz
    clear hzz
    have HH := hide hH
    have HLk := hide hLk
    have HM := hide hM
    have HK := hide hK
    have HZ' := hide hz
    clear hH hLk hM hK hz HHas
    by_cases hlt : d < N
    · obtain ⟨p, hp⟩ : ∃ p, p = (a + d) / 4096 := ⟨_, rfl⟩
      obtain ⟨o, ho⟩ : ∃ o, o = (a + d) % 4096 := ⟨_, rfl⟩
      have HSd := hide (HSp.out d p o hd hp ho)
      have hpk : p < m.n := by omega
      have hpl : p < 16384 := by omega
      have ho9 : o < 4096 := by omega
      have HP := hide hp
      have HO := hide ho
      clear hp ho
      have HT := hide (look_any (p := p) HM.out.dr (Nat.le_trans hB HK.out.size) (by rw [HLk.out.n]; exact hpk))
      have hcp0 := (HR.out.caps p hpk).1
      have hcp9 := (HR.out.caps p hpk).2.1
      unfold maxLen at hcp9
      rw [HLk.out.cap] at HT
      generalize m.cap p = cp at HT hcp0 hcp9
      have hsz := HH.out.lt
      go_wp2_with (first | (go_at_call 43; refine (HSd.out _).mono ?_; rintro e w2 ⟨rfl, rfl⟩))
      obtain ⟨c, hc⟩ : ∃ c, c = Nat.min (N - d) (4096 - o) := ⟨_, rfl⟩
      have hc1 : 0 < c := by rw [hc]; exact Nat.lt_min.2 ⟨by omega, by omega⟩
      have hc2 : d + c ≤ N := by have : Nat.min (N - d) (4096 - o) ≤ N - d := Nat.min_le_left _ _; omega
      have hc3 : o + c ≤ 4096 := by have : Nat.min (N - d) (4096 - o) ≤ 4096 - o := Nat.min_le_right _ _; omega
      have HC : MinIs c N d o := hc
      have HC1 := hide hc1
      have HC2 := hide hc2
      have HC3 := hide hc3
      clear hc hc1 hc2 hc3
      go_region_with (first | (go_at_call 38; refine HT.out.mono ?_; rintro e w3 ⟨g, m2, rfl, hx1, hx2, hx3, hx4, hx5, hx6⟩; have HL3 := hide hx1; have HM3 := hide hx2; have HG3 := hide hx3; have HK3 := hide hx4; have HZ3 := hide hx6; have HO3 := hide (hx4.holds HH.out.dr (fun ho => Nat.lt_irrefl _ (HOw.out _ (HLk.out.owns.1 ho)))); clear hx1 hx2 hx3 hx4 hx5 hx6) | (have hcp := copy_seen (cp := cp) HG3.out HO3.out HC (pageB m p o c) (by (unfold pageB; rw [HLk.out.dat])) (fun j => rfl); with_reducible rw [TakeOk.eq hcp]; clear hcp))
      all_goals
        go_simp
        go_wp2
        have hdc := HC2.out
        have hw : IntKind.i64.wrap ((d : Int) + (c : Int)) = ((d + c : Nat) : Int) := by rw [IntKind.wrap_i64]; omega
        rw [hw]
        go_roundw
        case rel =>
          have hz2 : ∀ x, m2.z = some x → x ≠ w1.heap.size := fun x hx => by
            rcases HZ3.out with e | ⟨y, e1, e2⟩
            · exact HZ'.out x (e ▸ hx)
            · have : x = y := Option.some.inj (hx.symm.trans e1)
              have h9 : w2.drew.heap.size = w2.heap.size := rfl
              omega
          refine ⟨d + c, m2, HC2.out, rfl, read_step HO3.out HP.out HO.out HC2.out HC3.out, HLk.out.trans HL3.out, ?_, ?_, hz2, ?_⟩
          · exact HM3.out.same (fun x hx => heap_setCells _ _ _ _ _ (fun e => by
              rcases hx with hx | hx
              · have := HOw.out x (HLk.out.owns.1 (HL3.out.owns.1 hx)); omega
              · exact hz2 x hx e))
          · have k1 := HK.out.dr.then HK3.out (fun x _ hx => HLk.out.owns.1 hx)
            exact ⟨k1.below.trans (Kept.sets (B := B) (own := fun x => x = w1.heap.size) rfl hB _ _).below, by (rw [size_setCells]; exact k1.size), fun x hx hn => (heap_setCells _ _ _ _ _ (by omega)).trans (k1.other x hx hn)⟩
          · rcases HZ3.out with e | ⟨y, e1, e2⟩
            · rcases HZZ.out with e3 | ⟨y, e3, e4⟩
              · exact .inl (e.trans e3)
              · exact .inr ⟨y, e.trans e3, e4⟩
            · exact .inr ⟨y, e1, Nat.le_trans HK.out.size e2⟩
        case measure => have := HC1.out; show N - (((d + c : Nat) : Int)).toNat < N - ((d : Int)).toNat; omega
    · obtain rfl : d = N := by omega
      go_wp2
      go_ret2
      exact ⟨rfl, HH.out, ⟨m', HLk.out, HM.out, HZZ.out⟩, HK.out⟩
set_option maxRecDepth 100000 in
set_option maxHeartbeats 1000000 in
theorem page_z {w : World} {B b P D : Nat} {m : Mem} (h : RamAt w B b P D m) (hB : B ≤ w.heap.size) (p : Nat) (hp : p < m.n) :
    Calls Tryz.prog 13 #[.pointer (some ⟨b, 0, none⟩), .int .i64 p] w fun e w' => e = .returned (.tuple #[.slice (some ⟨w.heap.size, 0, none⟩) 4096 4096, .nilIface]) ∧ HoldsAt w' w.heap.size 4096 5 (fun o => .int .u8 (m.dat p o : Nat)) ∧
      (∃ m', Looked m m' ∧ RamAt w' B b P D m' ∧ (m'.z = m.z ∨ ∃ x, m'.z = some x ∧ w.heap.size ≤ x)) ∧ Kept B w w' (m.owns b P D) := by
  have HCk := hide (page_ok b P m.n p hp h.few w h.pagesAt)
  have hmk : ∀ w : World, (Instr.makeSlice 28 (.int .i64 4096) (.int .i64 4096)).run Tryz.prog w = .ok (.slice (some ⟨w.heap.size, 0, none⟩) 4096 4096) (w.alloc newPage) :=
    run_make_row' (P := Tryz.prog) 28 5 (.int .u8 0) 1 Tryz.underlying28 (by kernel_rfl) rfl .i64 .i64 4096 (by omega) (by omega)
  have HLk := hide (look_any (h.bl (below_one w newPage)) (by simp; omega) hp)
  have HOw : Hid (∀ x, m.owns b P D x → x < w.heap.size) := hide (fun x hx => h.owned hx)
  have HZl : Hid (∀ x, m.z = some x → x < w.heap.size) := hide (fun x hx => h.z_lt hx)
  have HNew : Hid (HoldsAt (w.alloc newPage) w.heap.size 4096 5 (fun _ => .int .u8 0)) := hide (HoldsAt.made (RowAt.new w _ _ _ rfl))
  generalize newPage = O at *
  clear h
  go_enter Tryz.func13, Tryz.ntmps13
  go_wp2_with (first | (go_at_call 39; refine HCk.out.mono ?_; rintro e w1 ⟨rfl, rfl⟩) | (go_at_call 38; refine HLk.out.mono ?_; rintro e w3 ⟨g, m2, rfl, hx1, hx2, hx3, hx4, hx5, hx6⟩; have HL3 := hide hx1; have HM3 := hide hx2; have HG3 := hide hx3; have HK3 := hide hx4; have HZ3 := hide hx6; have HO3 := hide (hx4.holds HNew.out (fun ho => Nat.lt_irrefl _ (HOw.out _ ho))); clear hx1 hx2 hx3 hx4 hx5 hx6))
  have hcp := copy_whole (sc := m.cap p) (oc := 4096) (wholeB m p) (wholeB_len m p) (fun j v hj => (by
    have hj4 : j < 4096 := by have := (List.getElem?_eq_some_iff.1 hj).1; rwa [wholeB_len] at this
    rw [Nat.zero_add, HG3.out.cell (j := j) hj4, ← hj, wholeB_at hj4])) HO3.out wholeB_one
  rw [WholeOk.eq hcp]
  clear hcp
  go_simp
  go_wp2
  go_ret2
  have hz2 : ∀ x, m2.z = some x → x ≠ w1.heap.size := fun x hx => by
    rcases HZ3.out with e | ⟨y, e1, e2⟩
    · have := HZl.out x (e ▸ hx); omega
    · have : x = y := Option.some.inj (hx.symm.trans e1)
      simp at e2
      omega
  refine ⟨rfl, ?_, ⟨m2, HL3.out, ?_, HZ3.out.imp id (fun ⟨y, e1, e2⟩ => ⟨y, e1, by simp at e2; omega⟩)⟩, ?_⟩
  · refine (HO3.out.puts _ 0 (by rw [wholeB_len]; exact Nat.le_refl _)).congr (fun j hj => ?_)
    rw [if_pos (Nat.zero_le _), Nat.sub_zero, wholeB_at hj]
    rfl
  · exact HM3.out.same (fun x hx => heap_setCells _ _ _ _ _ (fun e => by
      rcases hx with hx | hx
      · have := HOw.out x (HL3.out.owns.1 hx); omega
      · exact hz2 x hx e))
  · have k1 : Kept B w1 w3 (m.owns b P D) := (Kept.al hB O).trans HK3.out
    exact ⟨k1.below.trans (Kept.sets (B := B) (own := fun x => x = w1.heap.size) rfl hB _ _).below, by (rw [size_setCells]; exact k1.size), fun x hx hn => (heap_setCells _ _ _ _ _ (by omega)).trans (k1.other x hx hn)⟩
set_option maxRecDepth 100000 in
set_option maxHeartbeats 1000000 in
theorem digest_z {w : World} {B b P D : Nat} {m : Mem} (h : RamAt w B b P D m) (hB : B ≤ w.heap.size) (p : Nat) (hp : p < m.n) :
    Calls Tryz.prog 28 #[.pointer (some ⟨b, 0, none⟩), .int .i64 p] w fun e w' => (∃ x : Int, e = .returned (.tuple #[.int .u32 x, .nilIface])) ∧ (∃ m', Looked m m' ∧ RamAt w' B b P D m' ∧ (m'.z = m.z ∨ ∃ x, m'.z = some x ∧ w.heap.size ≤ x)) ∧ Kept B w w' (m.owns b P D) := by
  have HCk := hide (page_ok b P m.n p hp h.few w h.pagesAt)
  have HLk := hide (look_any h hB hp)
  clear h
  go_enter Tryz.func28, Tryz.ntmps28
  go_wp2_with (first | (go_at_call 39; refine HCk.out.mono ?_; rintro e w1 ⟨rfl, rfl⟩) | (go_at_call 38; refine HLk.out.mono ?_; rintro e w3 ⟨g, m2, rfl, hx1, hx2, hx3, hx4, hx5, hx6⟩; have HL3 := hide hx1; have HM3 := hide hx2; have HG3 := hide hx3; have HK3 := hide hx4; have HZ3 := hide hx6; clear hx1 hx2 hx3 hx4 hx5 hx6))
  go_loop [7, 20] (fun sv iv => ∃ (i : Nat) (x : Int), i ≤ 4096 ∧ iv = .int .i64 (i : Nat) ∧ sv = .int .u32 x) (fun _ iv => 4096 - (intOf iv).toNat)
  case atStart => exact ⟨0, _, by omega, rfl, rfl⟩
  case round =>
    obtain ⟨i, x, hi, rfl, rfl⟩ := hrel
    by_cases hlt : i < 4096
    · have c := HG3.out.cell hlt
      go_wp2
      go_round
      case rel => exact ⟨i + 1, _, by omega, by go_num, rfl⟩
      case measure => simp [intOf]; omega
    · obtain rfl : i = 4096 := by omega
      go_wp2
      go_ret2
      exact ⟨⟨_, rfl⟩, ⟨m2, HL3.out, HM3.out, HZ3.out⟩, HK3.out⟩
end Go.Proofs.YtficoenanfnijaaGreatDoor
