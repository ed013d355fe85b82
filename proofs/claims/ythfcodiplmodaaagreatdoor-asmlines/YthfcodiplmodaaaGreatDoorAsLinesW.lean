/-
  AsmLines, walked.
-/
import Derived.Test.YthfcodiplmodaaaGreatDoorAsWords
namespace Go.Proofs.YthfcodiplmodaaaGreatDoor
open Go.Lib Go.RowKit
set_option linter.unusedVariables false

/-- Instructions that came in; numbers that came in. -/
def InstsAt (a : Option Addr) (N : Nat) (f : Nat → I6) (w : World) : Prop := ∀ j, j < N → ∃ b o, a = some ⟨b, o, none⟩ ∧ ∀ t u, (f j).cells[t]? = some u → w.cell? ⟨b, o + j * 6 + t, none⟩ = some u
def NumsAt (a : Option Addr) (N : Nat) (f : Nat → Int) (w : World) : Prop := ∀ j, j < N → ∃ b o, a = some ⟨b, o, none⟩ ∧ w.cell? ⟨b, o + j, none⟩ = some (.int .i64 (f j))
theorem InstsAt.below {a : Option Addr} {N : Nat} {f : Nat → I6} {w w' : World} (h : InstsAt a N f w) (hb : Below w.heap.size w w') : InstsAt a N f w' := fun j hj => by
  obtain ⟨b, o, e, hc⟩ := h j hj
  exact ⟨b, o, e, fun t u hu => cells_keep hb (hc t u hu)⟩
theorem NumsAt.below {a : Option Addr} {N : Nat} {f : Nat → Int} {w w' : World} (h : NumsAt a N f w) (hb : Below w.heap.size w w') : NumsAt a N f w' := fun j hj => by
  obtain ⟨b, o, e, hc⟩ := h j hj
  exact ⟨b, o, e, cells_keep hb hc⟩

theorem cat3 (a b : Str) (c : Array UInt8) : (ByteArray.mk a.toArray) ++ (ByteArray.mk b.toArray) ++ (ByteArray.mk c) ++ (ByteArray.mk #[10]) = ByteArray.mk (a ++ b ++ c.toList ++ [10]).toArray := by
  apply ByteArray.ext
  simp [ByteArray.data_append]
/-- Between two rounds. -/
structure LnIs (js : List I6) (S : Str) (k : Nat) : Prop where
  ok : ∀ i ∈ js, encOk i = true
  shows : ∀ r, showsL (S ++ r) = js.map textL ++ showsL r
  len : S.length ≤ 1100 * k
  few : js.length ≤ k
theorem LnIs.skip {js : List I6} {S : Str} {k : Nat} (h : LnIs js S k) : LnIs js S (k + 1) := ⟨h.ok, h.shows, by have := h.len; omega, by have := h.few; omega⟩
theorem LnIs.line {js : List I6} {S : Str} {k : Nat} (h : LnIs js S k) (i : I6) (hi : encOk i = true) (r : Nat) (hr : r < 4) : LnIs (js ++ [i]) (S ++ textL i ++ noteL r ++ [10]) (k + 1) := by
  refine ⟨fun x hx => ?_, fun x => ?_, ?_, ?_⟩
  · rcases List.mem_append.1 hx with hx | hx
    · exact h.ok x hx
    · rw [List.mem_singleton.1 hx]; exact hi
  · have e : S ++ textL i ++ noteL r ++ [10] ++ x = S ++ (textL i ++ (noteL r ++ 10 :: x)) := by simp
    rw [e, h.shows, line_note (tidy_text i hi) r hr, List.map_append]
    simp
  · have := h.len
    have := text_len i hi
    have := note_len r
    simp only [List.length_append, List.length_singleton]
    omega
  · have := h.few
    simp
    omega
def LnRel (w : World) (sv ov iv : Value) (wr : World) : Prop :=
  ∃ (k : Nat) (js : List I6) (S : Str), k ≤ 30 ∧ LnIs js S k ∧ iv = .int .i64 (k : Nat) ∧ sv = .string ⟨S.toArray⟩ ∧ wr.ownsRow w.heap.size 48 1 ov js.length (wordCells (js.map encW)) ∧ Below w.heap.size w wr
theorem own_ge {W : World} {B e sz n : Nat} {v : Value} {xs : List Value} (h : W.ownsRow B e sz v n xs) (j : Nat) (hj : v.ownBlock = some j) : B ≤ j := by
  obtain ⟨h1, ⟨rfl, _⟩ | ⟨g, cap, cur, rfl, e2, _⟩⟩ := h
  · cases hj
  · cases hj; exact e2
theorem own_bl {A B : World} {b e sz n : Nat} {v : Value} {xs : List Value} (h : A.ownsRow b e sz v n xs) (hb : Below A.heap.size A B) : B.ownsRow b e sz v n xs := own_keeps h hb

theorem prog_lines (js : List I6) (S : Str) (h : LnIs js S 30) (w : World) (hA : AsAt w) :
    Calls Tryz.prog 15 #[.string ⟨S.toArray⟩] w fun e w' => ∃ v, e = .returned (.tuple #[v, .int .i64 0, .nilIface]) ∧ w'.ownsRow w.heap.size 48 1 v js.length (wordCells (js.map encW)) ∧ Below w.heap.size w w' := by
  have hl := h.len
  have hp := prog_texts S js (by omega) h.ok (by have := h.shows []; simpa [shows_nil] using this)
  refine (prog_any S (by omega) w hA).mono ?_
  intro e w' h'
  rw [hp] at h'
  obtain ⟨v, he, ho, hb, _⟩ := h'
  exact ⟨v, he, by simpa using ho, hb⟩

set_option maxHeartbeats 4000000 in
set_option maxRecDepth 100000 in
theorem lines_walk (a0 a1 : Option Addr) (N c0' M c1' : Nat) (hN : N ≤ 9223372036854775807) (hM : M ≤ 9223372036854775807) (f : Nat → I6) (z : Nat → Int) (w : World) (hI : InstsAt a0 N f w) (hZ : NumsAt a1 M z w) (hA : AsAt w) :
    Calls Tryz.prog 7 #[.slice a0 N c0', .slice a1 M c1'] w fun e w' => e = .returned (.bool true) ∧ Below w.heap.size w w' := by
  have HI := hide hI
  have HZ := hide hZ
  have HA := hide hA
  obtain ⟨i0, hi, hq0, hq1, hq2⟩ := info_parts (P := Tryz.prog) (e := 48) (z := .int .u32 0) (size := 1) (bytes := 4) (by kernel_rfl)
  clear hI hZ hA
  go_enter Tryz.func7, Tryz.ntmps7
  go_wp2
  go_loopw [5, 6, 7] (LnRel w) (fun _ _ iv _ => 30 - (intOf iv).toNat)
  case atStart => exact ⟨0, [], [], by omega, ⟨by simp, by simp, by simp, by simp⟩, rfl, rfl, ⟨rfl, .inl ⟨rfl, rfl⟩⟩, Below.refl _ _⟩
  case round =>
    obtain ⟨k, js, S, hk, hLn, rfl, rfl, hO, hB⟩ := hrel
    have HO := hide hO
    have HB := hide hB
    have HLn := hide hLn
    have hfew := hLn.few
    have hszS : (ByteArray.mk S.toArray).size ≤ 40000 := by rw [mk_size]; have := hLn.len; omega
    clear hO hB hLn
    by_cases hlt : k < N ∧ k < 30
    · have t1 : (k : Int) < (N : Nat) := by omega
      have t2 : (k : Int) < 30 := by omega
      obtain ⟨b, o, rfl, hc⟩ := (HI.out.below HB.out) k hlt.1
      have c0 : wr.cell? ⟨b, o + k * 6, none⟩ = some (.int .i64 (f k).op) := hc 0 _ rfl
      have c1 : wr.cell? ⟨b, o + k * 6 + 1, none⟩ = some (.int .i64 (f k).rd) := hc 1 _ rfl
      have c2 : wr.cell? ⟨b, o + k * 6 + 2, none⟩ = some (.int .i64 (f k).rs1) := hc 2 _ rfl
      have c3 : wr.cell? ⟨b, o + k * 6 + 3, none⟩ = some (.int .i64 (f k).rs2) := hc 3 _ rfl
      have c4 : wr.cell? ⟨b, o + k * 6 + 4, none⟩ = some (.int .i64 (f k).imm) := hc 4 _ rfl
      have c5 : wr.cell? ⟨b, o + k * 6 + 5, none⟩ = some (.int .i64 (f k).csr) := hc 5 _ rfl
      have HTx : Hid (∀ w', AsAt w' → Calls Tryz.prog 9 #[.agg #[.int .i64 (f k).op, .int .i64 (f k).rd, .int .i64 (f k).rs1, .int .i64 (f k).rs2, .int .i64 (f k).imm, .int .i64 (f k).csr]] w' fun e w'' => e = .returned (.tuple #[.string ⟨(if encOk (f k) = true then textL (f k) else []).toArray⟩, errno (encN (f k))]) ∧ Below w'.heap.size w' w'') := hide (fun w' h => text_all (f k) w' h)
      have HEn : Hid (∀ w', TabsAt w' → Calls Tryz.prog 18 #[.agg #[.int .i64 (f k).op, .int .i64 (f k).rd, .int .i64 (f k).rs1, .int .i64 (f k).rs2, .int .i64 (f k).imm, .int .i64 (f k).csr]] w' fun e w'' => e = .returned (.tuple #[.int .u32 (encW (f k) : Nat), errno (encN (f k))]) ∧ Below w'.heap.size w' w'') := hide (fun w' h => encode_all (f k) w' h)
      clear hc
      by_cases hok : encOk (f k) = true
      · have HL0 := hide (fun r hr => HLn.out.line (f k) hok r hr)
        have hwl := encW_lt (f k)
        have e0 : encN (f k) = 0 := by unfold encN; rw [if_pos hok]
        rw [e0, errno_zero] at HTx HEn
        rw [if_pos hok] at HTx
        have htl : (ByteArray.mk (textL (f k)).toArray).size ≤ 1000 := by rw [mk_size]; exact text_len _ hok
        clear e0 hok HLn HI
        by_cases hm : k < M
        · have t3 : (k : Int) < (M : Nat) := by omega
          obtain ⟨b', o', rfl, hz⟩ := HZ.out k hm
          have HZk := hide hz
          clear hz
          obtain ⟨r, hr, hr4⟩ : ∃ r : Nat, (IntKind.u64.wrap (z k)).tmod 4 = (r : Nat) ∧ r < 4 := by
            have h0 : 0 ≤ IntKind.u64.wrap (z k) := by simp only [IntKind.wrap_u64]; omega
            generalize IntKind.u64.wrap (z k) = y at *
            rw [Int.tmod_eq_emod_of_nonneg h0]
            exact ⟨(y % 4).toNat, by omega, by omega⟩
          have HLr := hide (HL0.out r hr4)
          have HJ : Hid (wordCells ((js ++ [f k]).map encW) = wordCells (js.map encW) ++ [.int .u32 (encW (f k) : Nat)]) := hide (by simp [wordCells])
          clear HL0 HZ hm
          obtain rfl | rfl | rfl | rfl : r = 0 ∨ r = 1 ∨ r = 2 ∨ r = 3 := by omega
          · have HCat : Hid ((⟨S.toArray⟩ : ByteArray) ++ ⟨(textL (f k)).toArray⟩ ++ ⟨#[]⟩ ++ ⟨#[10]⟩ = ⟨(S ++ textL (f k) ++ noteL 0 ++ [10]).toArray⟩) := hide (cat3 S (textL (f k)) #[])
            generalize ByteArray.mk S.toArray = st at *
            generalize ByteArray.mk (textL (f k)).toArray = tx at *
            generalize encW (f k) = W at *
            go_wp2_with (first | (go_at_call 9; refine (HTx.out _ (HA.out.below HB.out)).mono ?_; rintro e w1 ⟨rfl, hx1⟩; have HB1 := hide (below_step HB.out.size HB.out hx1); have d0 := cells_keep hx1 c0; have d1 := cells_keep hx1 c1; have d2 := cells_keep hx1 c2; have d3 := cells_keep hx1 c3; have d4 := cells_keep hx1 c4; have d5 := cells_keep hx1 c5; have HO1 := hide (own_bl HO.out hx1); clear hx1) | (go_at_call 18; refine (HEn.out _ ((HA.out.below HB1.out).tabs)).mono ?_; rintro e w2 ⟨rfl, hx2⟩; have HB2 := hide (below_step HB1.out.size HB1.out hx2); have HO2 := hide (own_bl HO1.out hx2); clear hx2 d0 d1 d2 d3 d4 d5) | (at_builtin; refine wpList_append_own _ rfl _ _ 39 rfl w.heap.size 48 i0 (.int .u32 0) 1 4 Tryz.underlying39 hi hq0 hq1 hq2 rfl (by decide) _ _ _ rfl ((HO2.out).alloc _) ⟨_, 0, none⟩ 1 1 [.int .u32 (W : Nat)] rfl rfl (cell_one_new _ _ _) (by simp [Value.oneCell']) (by unfold maxLen; omega) (by omega) (by have := HB2.out.size; simp; omega) ?_; intro v6 w6 hown6 hgrow6 hnil6; have HO6 := hide hown6; have hX := HO2.out.alloc (.cells #[.int .u32 (W : Nat)] 48); have HB6 := hide ((HB2.out.alloc HB2.out.size (.cells #[.int .u32 (W : Nat)] 48)).grown hgrow6 (by have := HB2.out.size; simp; omega) (fun j hj => own_ge hX j hj)); clear hX; clear hown6 hgrow6 hnil6; have hz5 := cells_keep HB6.out HZk.out; have hz6 : ∀ o, (w6.alloc o).cell? ⟨b', o' + k, none⟩ = some (.int .i64 (z k)) := fun o => (World.cell?_alloc_lt _ _ ⟨b', o' + k, none⟩ (block_lt_of_cell hz5)).trans hz5; clear hz5))
            go_roundw
            case rel => exact ⟨k + 1, js ++ [f k], _, by omega, HLr.out, by go_num, by rw [← HCat.out], by rw [HJ.out, List.length_append]; exact HO6.out.alloc _, HB6.out.alloc HB6.out.size _⟩
            case measure => simp [intOf]; omega
          · have HCat : Hid ((⟨S.toArray⟩ : ByteArray) ++ ⟨(textL (f k)).toArray⟩ ++ ⟨#[32, 35, 32, 97, 32, 110, 111, 116, 101]⟩ ++ ⟨#[10]⟩ = ⟨(S ++ textL (f k) ++ noteL 1 ++ [10]).toArray⟩) := hide (cat3 S (textL (f k)) #[32, 35, 32, 97, 32, 110, 111, 116, 101])
            generalize ByteArray.mk S.toArray = st at *
            generalize ByteArray.mk (textL (f k)).toArray = tx at *
            generalize encW (f k) = W at *
            go_wp2_with (first | (go_at_call 9; refine (HTx.out _ (HA.out.below HB.out)).mono ?_; rintro e w1 ⟨rfl, hx1⟩; have HB1 := hide (below_step HB.out.size HB.out hx1); have d0 := cells_keep hx1 c0; have d1 := cells_keep hx1 c1; have d2 := cells_keep hx1 c2; have d3 := cells_keep hx1 c3; have d4 := cells_keep hx1 c4; have d5 := cells_keep hx1 c5; have HO1 := hide (own_bl HO.out hx1); clear hx1) | (go_at_call 18; refine (HEn.out _ ((HA.out.below HB1.out).tabs)).mono ?_; rintro e w2 ⟨rfl, hx2⟩; have HB2 := hide (below_step HB1.out.size HB1.out hx2); have HO2 := hide (own_bl HO1.out hx2); clear hx2 d0 d1 d2 d3 d4 d5) | (at_builtin; refine wpList_append_own _ rfl _ _ 39 rfl w.heap.size 48 i0 (.int .u32 0) 1 4 Tryz.underlying39 hi hq0 hq1 hq2 rfl (by decide) _ _ _ rfl ((HO2.out).alloc _) ⟨_, 0, none⟩ 1 1 [.int .u32 (W : Nat)] rfl rfl (cell_one_new _ _ _) (by simp [Value.oneCell']) (by unfold maxLen; omega) (by omega) (by have := HB2.out.size; simp; omega) ?_; intro v6 w6 hown6 hgrow6 hnil6; have HO6 := hide hown6; have hX := HO2.out.alloc (.cells #[.int .u32 (W : Nat)] 48); have HB6 := hide ((HB2.out.alloc HB2.out.size (.cells #[.int .u32 (W : Nat)] 48)).grown hgrow6 (by have := HB2.out.size; simp; omega) (fun j hj => own_ge hX j hj)); clear hX; clear hown6 hgrow6 hnil6; have hz5 := cells_keep HB6.out HZk.out; have hz6 : ∀ o, (w6.alloc o).cell? ⟨b', o' + k, none⟩ = some (.int .i64 (z k)) := fun o => (World.cell?_alloc_lt _ _ ⟨b', o' + k, none⟩ (block_lt_of_cell hz5)).trans hz5; clear hz5))
            go_roundw
            case rel => exact ⟨k + 1, js ++ [f k], _, by omega, HLr.out, by go_num, by rw [← HCat.out], by rw [HJ.out, List.length_append]; exact HO6.out.alloc _, HB6.out.alloc HB6.out.size _⟩
            case measure => simp [intOf]; omega
          · have HCat : Hid ((⟨S.toArray⟩ : ByteArray) ++ ⟨(textL (f k)).toArray⟩ ++ ⟨#[10, 10]⟩ ++ ⟨#[10]⟩ = ⟨(S ++ textL (f k) ++ noteL 2 ++ [10]).toArray⟩) := hide (cat3 S (textL (f k)) #[10, 10])
            generalize ByteArray.mk S.toArray = st at *
            generalize ByteArray.mk (textL (f k)).toArray = tx at *
            generalize encW (f k) = W at *
            go_wp2_with (first | (go_at_call 9; refine (HTx.out _ (HA.out.below HB.out)).mono ?_; rintro e w1 ⟨rfl, hx1⟩; have HB1 := hide (below_step HB.out.size HB.out hx1); have d0 := cells_keep hx1 c0; have d1 := cells_keep hx1 c1; have d2 := cells_keep hx1 c2; have d3 := cells_keep hx1 c3; have d4 := cells_keep hx1 c4; have d5 := cells_keep hx1 c5; have HO1 := hide (own_bl HO.out hx1); clear hx1) | (go_at_call 18; refine (HEn.out _ ((HA.out.below HB1.out).tabs)).mono ?_; rintro e w2 ⟨rfl, hx2⟩; have HB2 := hide (below_step HB1.out.size HB1.out hx2); have HO2 := hide (own_bl HO1.out hx2); clear hx2 d0 d1 d2 d3 d4 d5) | (at_builtin; refine wpList_append_own _ rfl _ _ 39 rfl w.heap.size 48 i0 (.int .u32 0) 1 4 Tryz.underlying39 hi hq0 hq1 hq2 rfl (by decide) _ _ _ rfl ((HO2.out).alloc _) ⟨_, 0, none⟩ 1 1 [.int .u32 (W : Nat)] rfl rfl (cell_one_new _ _ _) (by simp [Value.oneCell']) (by unfold maxLen; omega) (by omega) (by have := HB2.out.size; simp; omega) ?_; intro v6 w6 hown6 hgrow6 hnil6; have HO6 := hide hown6; have hX := HO2.out.alloc (.cells #[.int .u32 (W : Nat)] 48); have HB6 := hide ((HB2.out.alloc HB2.out.size (.cells #[.int .u32 (W : Nat)] 48)).grown hgrow6 (by have := HB2.out.size; simp; omega) (fun j hj => own_ge hX j hj)); clear hX; clear hown6 hgrow6 hnil6; have hz5 := cells_keep HB6.out HZk.out; have hz6 : ∀ o, (w6.alloc o).cell? ⟨b', o' + k, none⟩ = some (.int .i64 (z k)) := fun o => (World.cell?_alloc_lt _ _ ⟨b', o' + k, none⟩ (block_lt_of_cell hz5)).trans hz5; clear hz5))
            go_roundw
            case rel => exact ⟨k + 1, js ++ [f k], _, by omega, HLr.out, by go_num, by rw [← HCat.out], by rw [HJ.out, List.length_append]; exact HO6.out.alloc _, HB6.out.alloc HB6.out.size _⟩
            case measure => simp [intOf]; omega
          · have HCat : Hid ((⟨S.toArray⟩ : ByteArray) ++ ⟨(textL (f k)).toArray⟩ ++ ⟨#[32, 32]⟩ ++ ⟨#[10]⟩ = ⟨(S ++ textL (f k) ++ noteL 3 ++ [10]).toArray⟩) := hide (cat3 S (textL (f k)) #[32, 32])
            generalize ByteArray.mk S.toArray = st at *
            generalize ByteArray.mk (textL (f k)).toArray = tx at *
            generalize encW (f k) = W at *
            go_wp2_with (first | (go_at_call 9; refine (HTx.out _ (HA.out.below HB.out)).mono ?_; rintro e w1 ⟨rfl, hx1⟩; have HB1 := hide (below_step HB.out.size HB.out hx1); have d0 := cells_keep hx1 c0; have d1 := cells_keep hx1 c1; have d2 := cells_keep hx1 c2; have d3 := cells_keep hx1 c3; have d4 := cells_keep hx1 c4; have d5 := cells_keep hx1 c5; have HO1 := hide (own_bl HO.out hx1); clear hx1) | (go_at_call 18; refine (HEn.out _ ((HA.out.below HB1.out).tabs)).mono ?_; rintro e w2 ⟨rfl, hx2⟩; have HB2 := hide (below_step HB1.out.size HB1.out hx2); have HO2 := hide (own_bl HO1.out hx2); clear hx2 d0 d1 d2 d3 d4 d5) | (at_builtin; refine wpList_append_own _ rfl _ _ 39 rfl w.heap.size 48 i0 (.int .u32 0) 1 4 Tryz.underlying39 hi hq0 hq1 hq2 rfl (by decide) _ _ _ rfl ((HO2.out).alloc _) ⟨_, 0, none⟩ 1 1 [.int .u32 (W : Nat)] rfl rfl (cell_one_new _ _ _) (by simp [Value.oneCell']) (by unfold maxLen; omega) (by omega) (by have := HB2.out.size; simp; omega) ?_; intro v6 w6 hown6 hgrow6 hnil6; have HO6 := hide hown6; have hX := HO2.out.alloc (.cells #[.int .u32 (W : Nat)] 48); have HB6 := hide ((HB2.out.alloc HB2.out.size (.cells #[.int .u32 (W : Nat)] 48)).grown hgrow6 (by have := HB2.out.size; simp; omega) (fun j hj => own_ge hX j hj)); clear hX; clear hown6 hgrow6 hnil6; have hz5 := cells_keep HB6.out HZk.out; have hz6 : ∀ o, (w6.alloc o).cell? ⟨b', o' + k, none⟩ = some (.int .i64 (z k)) := fun o => (World.cell?_alloc_lt _ _ ⟨b', o' + k, none⟩ (block_lt_of_cell hz5)).trans hz5; clear hz5))
            go_roundw
            case rel => exact ⟨k + 1, js ++ [f k], _, by omega, HLr.out, by go_num, by rw [← HCat.out], by rw [HJ.out, List.length_append]; exact HO6.out.alloc _, HB6.out.alloc HB6.out.size _⟩
            case measure => simp [intOf]; omega
        · have t3 : ¬ (k : Int) < (M : Nat) := by omega
          have HLr := hide (HL0.out 0 (by omega))
          clear HL0 HZ hm
          have HCat : Hid ((⟨S.toArray⟩ : ByteArray) ++ ⟨(textL (f k)).toArray⟩ ++ ⟨#[10]⟩ = ⟨(S ++ textL (f k) ++ noteL 0 ++ [10]).toArray⟩) := hide (by rw [cat_mk]; exact cat_lit _ _ _ (by simp [noteL]))
          generalize ByteArray.mk S.toArray = st at *
          generalize ByteArray.mk (textL (f k)).toArray = tx at *
          have HJ : Hid (wordCells ((js ++ [f k]).map encW) = wordCells (js.map encW) ++ [.int .u32 (encW (f k) : Nat)]) := hide (by simp [wordCells])
          generalize encW (f k) = W at *
          go_wp2_with (first | (go_at_call 9; refine (HTx.out _ (HA.out.below HB.out)).mono ?_; rintro e w1 ⟨rfl, hx1⟩; have HB1 := hide (below_step HB.out.size HB.out hx1); have d0 := cells_keep hx1 c0; have d1 := cells_keep hx1 c1; have d2 := cells_keep hx1 c2; have d3 := cells_keep hx1 c3; have d4 := cells_keep hx1 c4; have d5 := cells_keep hx1 c5; have HO1 := hide (own_bl HO.out hx1); clear hx1) | (go_at_call 18; refine (HEn.out _ ((HA.out.below HB1.out).tabs)).mono ?_; rintro e w2 ⟨rfl, hx2⟩; have HB2 := hide (below_step HB1.out.size HB1.out hx2); have HO2 := hide (own_bl HO1.out hx2); clear hx2 d0 d1 d2 d3 d4 d5) | (at_builtin; refine wpList_append_own _ rfl _ _ 39 rfl w.heap.size 48 i0 (.int .u32 0) 1 4 Tryz.underlying39 hi hq0 hq1 hq2 rfl (by decide) _ _ _ rfl ((HO2.out).alloc _) ⟨_, 0, none⟩ 1 1 [.int .u32 (W : Nat)] rfl rfl (cell_one_new _ _ _) (by simp [Value.oneCell']) (by unfold maxLen; omega) (by omega) (by have := HB2.out.size; simp; omega) ?_; intro v6 w6 hown6 hgrow6 hnil6; have HO6 := hide hown6; have hX := HO2.out.alloc (.cells #[.int .u32 (W : Nat)] 48); have HB6 := hide ((HB2.out.alloc HB2.out.size (.cells #[.int .u32 (W : Nat)] 48)).grown hgrow6 (by have := HB2.out.size; simp; omega) (fun j hj => own_ge hX j hj)); clear hX; clear hown6 hgrow6 hnil6))
          go_roundw
          case rel => exact ⟨k + 1, js ++ [f k], _, by omega, HLr.out, by go_num, by rw [HCat.out], by rw [HJ.out, List.length_append]; exact HO6.out, HB6.out⟩
          case measure => simp [intOf]; omega
      · have e0 : encN (f k) = 1 := by unfold encN; rw [if_neg hok]
        rw [e0, errno_pos 1 (by decide)] at HTx HEn
        rw [if_neg hok] at HTx
        have HSk := hide HLn.out.skip
        clear e0 hok HLn HI HZ
        obtain ⟨st, hst⟩ : ∃ st, ByteArray.mk S.toArray = st := ⟨_, rfl⟩
        rw [hst] at hszS ⊢
        have HSt := hide hst
        clear hst
        go_wp2_with (first | (go_at_call 9; refine (HTx.out _ (HA.out.below HB.out)).mono ?_; rintro e w1 ⟨rfl, hx1⟩; have HB1 := hide (below_step HB.out.size HB.out hx1); have d0 := cells_keep hx1 c0; have d1 := cells_keep hx1 c1; have d2 := cells_keep hx1 c2; have d3 := cells_keep hx1 c3; have d4 := cells_keep hx1 c4; have d5 := cells_keep hx1 c5; have HO1 := hide (own_bl HO.out hx1); clear hx1) | (go_at_call 18; refine (HEn.out _ ((HA.out.below HB1.out).tabs)).mono ?_; rintro e w2 ⟨rfl, hx2⟩; have HB2 := hide (below_step HB1.out.size HB1.out hx2); have HO2 := hide (own_bl HO1.out hx2); clear hx2 d0 d1 d2 d3 d4 d5))
        go_roundw
        case rel => exact ⟨k + 1, js, S, by omega, HSk.out, by go_num, by rw [HSt.out], HO2.out, HB2.out⟩
        case measure => simp [intOf]; omega
    · have HLx : Hid (LnIs js S 30) := hide ⟨HLn.out.ok, HLn.out.shows, by have := HLn.out.len; omega, by omega⟩
      have HP := hide (prog_lines js S HLx.out)
      have HWd : Hid (∀ {W : World} {B1 B2 : Nat} {v1 v2 : Value}, W.ownsRow B1 48 1 v1 js.length (wordCells (js.map encW)) → W.ownsRow B2 48 1 v2 js.length (wordCells (js.map encW)) → Calls Tryz.prog 17 #[v1, v2] W fun e w' => e = .returned (.bool true) ∧ Below W.heap.size W w') := hide (fun h1 h2 => words_own (l := js.map encW) (by simp; omega) (by simpa using h1) (by simpa using h2))
      generalize ByteArray.mk S.toArray = st at *
      have hcase : ¬ (k : Int) < (N : Nat) ∨ ((k : Int) < (N : Nat) ∧ ¬ (k : Int) < 30) := by omega
      rcases hcase with t1 | ⟨t1, t2⟩
      all_goals
        go_wp2_with (first | (go_at_call 15; refine (HP.out _ (HA.out.below HB.out)).mono ?_; rintro e w1 ⟨v1, rfl, hx1, hx2⟩; have HB1 := hide (below_step HB.out.size HB.out hx2); have HO1 := hide hx1; have HO3 := hide (own_bl HO.out hx2); clear hx1 hx2) | (go_at_call 17; refine (HWd.out HO1.out HO3.out).mono ?_; rintro e w2 ⟨rfl, hx2⟩; have HB2 := hide (below_step HB1.out.size HB1.out hx2); clear hx2) | (go_at_call 12; refine (sure_any _ (HA.out.below HB2.out)).mono ?_; rintro e w3 ⟨rfl, hx3⟩; have HB3 := hide (below_step HB2.out.size HB2.out hx3); clear hx3))
        go_ret
        exact ⟨rfl, HB3.out⟩
end Go.Proofs.YthfcodiplmodaaaGreatDoor
