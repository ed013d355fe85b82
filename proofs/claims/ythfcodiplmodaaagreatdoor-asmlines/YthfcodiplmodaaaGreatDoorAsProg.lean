/-
  What asm.Program answers.
-/
import Derived.Test.YthfcodiplmodaaaGreatDoorAsSaid
import Derived.Test.YthfcodiplmodaaaGreatDoorAsWord
namespace Go.Proofs.YthfcodiplmodaaaGreatDoor
open Go.RowKit
set_option linter.unusedVariables false

abbrev Told := Nat × Int × List Nat
def wordsL (m : Labs) : List Ln → Nat → List Nat → Told
  | [], _, acc => (0, 0, acc)
  | l :: r, k, acc => if wordE l.2 ((k : Int) * 4) m = 0 then wordsL m r (k + 1) (acc ++ [wordV l.2 ((k : Int) * 4) m]) else (l.1, 3, [])
def placedL (s : Str) : Option Nat × Labs → Told
  | (some k, _) => (k, 6, [])
  | (none, m) => wordsL m (dropL isLab (saidL s)) 0 []
def progL (s : Str) : Told := if s.length ≤ 65536 then placedL s (placesFrom (saidL s) 0 []) else (0, 2, [])

def wordCells (l : List Nat) : List Value := l.map fun (x : Nat) => Value.int .u32 (x : Int)
def ProgPost (r : Told) (w : World) (e : Ending) (w' : World) : Prop :=
  ∃ v, e = .returned (.tuple #[v, .int .i64 (r.1 : Int), errno r.2.1]) ∧ w'.ownsRow w.heap.size 48 1 v r.2.2.length (wordCells r.2.2) ∧ Below w.heap.size w w' ∧ (r.2.2 = [] → v = .slice none 0 0)

theorem places_bound (ls : List Ln) : ∀ (a : Nat) (m m' : Labs), placesFrom ls a m = (none, m') → (∀ k p, lookL m k = some p → p ≤ a) → ∀ k p, lookL m' k = some p → p ≤ a + 4 * ls.length := by
  induction ls with
  | nil =>
    intro a m m' h hm k p hp
    rw [placesFrom] at h
    cases h
    have := hm k p hp
    simp; omega
  | cons l r ih =>
    intro a m m' h hm k p hp
    rw [placesFrom] at h
    by_cases h1 : labelL l.2 = []
    · rw [if_pos h1] at h
      have := ih (a + 4) m m' h (fun k p hq => by have := hm k p hq; omega) k p hp
      simp; omega
    · rw [if_neg h1] at h
      cases h2 : lookL m (labelL l.2) with
      | some q => rw [h2] at h; cases h
      | none =>
        rw [h2] at h
        have := ih a _ m' h (fun k' p' hq => by
          by_cases hk : k' = labelL l.2
          · rw [hk, look_snoc_same m _ a h2] at hq
            cases hq; exact Nat.le_refl _
          · rw [look_snoc_other m _ k' a hk] at hq
            exact hm k' p' hq) k p hp
        simp; omega
theorem places_some (ls : List Ln) : ∀ (a : Nat) (m m' : Labs) (k : Nat), placesFrom ls a m = (some k, m') → ∃ p ∈ ls, p.1 = k := by
  induction ls with
  | nil => intro a m m' k h; rw [placesFrom] at h; cases h
  | cons l r ih =>
    intro a m m' k h
    rw [placesFrom] at h
    by_cases h1 : labelL l.2 = []
    · rw [if_pos h1] at h
      obtain ⟨p, hp, e⟩ := ih _ _ _ _ h
      exact ⟨p, List.mem_cons_of_mem _ hp, e⟩
    · rw [if_neg h1] at h
      cases h2 : lookL m (labelL l.2) with
      | some q => rw [h2] at h; simp at h; exact ⟨l, List.mem_cons_self, h.1⟩
      | none =>
        rw [h2] at h
        obtain ⟨p, hp, e⟩ := ih _ _ _ _ h
        exact ⟨p, List.mem_cons_of_mem _ hp, e⟩
theorem raw_pos : ∀ (l : List Str) (k : Nat) (p : Ln), p ∈ rawFrom k l → 1 ≤ p.1
  | [], _, p, h => by simp [rawFrom] at h
  | x :: r, k, p, h => by
    rcases List.mem_cons.1 h with h | h
    · rw [h]; simp
    · exact raw_pos r (k + 1) p h
theorem said_mem (s : Str) (p : Ln) (h : p ∈ saidL s) : p.2.length ≤ s.length ∧ 1 ≤ p.1 ∧ p.1 ≤ s.length + 1 := by
  have h' : p ∈ rawFrom 0 (piecesL s) := by unfold saidL dropL at h; exact (List.mem_filter.1 h).1
  obtain ⟨t, ht, h1, h2⟩ := raw_mem _ _ _ h'
  have := pieces_few s
  have := pieces_short s t ht
  have := shown_le t
  rw [h1]
  exact ⟨by omega, raw_pos _ _ _ h', by omega⟩
theorem said_len (s : Str) : (saidL s).length ≤ s.length + 1 := by
  have h := List.length_filter_le (fun p => !isVoid p) (rawFrom 0 (piecesL s))
  rw [raw_len] at h
  have := pieces_few s
  unfold saidL dropL
  omega
theorem drop_len (P : Ln → Bool) (ls : List Ln) : (dropL P ls).length ≤ ls.length := List.length_filter_le _ _
theorem lines_not_map {b g cap : Nat} {m : Labs} {ls : List Ln} {W : World} (h1 : LabAt b m W) (h2 : LinesAt g cap ls W) : b ≠ g := by
  rintro rfl
  obtain ⟨D, ⟨es, clock, hb, _⟩, _⟩ := h1
  obtain ⟨cur, hc, _⟩ := h2
  rw [hb] at hc
  cases hc
theorem LabAt.grown {b g : Nat} {m : Labs} {W W' : World} (h : LabAt b m W) (hg : W.grownBy W' (some g)) (hne : b ≠ g) : LabAt b m W' := by
  obtain ⟨D, h1, h2⟩ := h
  exact ⟨D, h1.kept hg (by simpa using hne), h2⟩

theorem pl_twice {ls : List Ln} {k : Nat} {m : Labs} (hp : placesFrom ls 0 [] = (some k, m)) {w w' : World} {e : Ending} (h : PlPost ls w e w') : e = .returned (.tuple #[.map none, .int .i64 (k : Int)]) ∧ Below w.heap.size w w' := by
  rcases h with ⟨k', m', hq, he, hb⟩ | ⟨b, m', hq, _⟩
  · rw [hp] at hq
    cases hq
    exact ⟨he, hb⟩
  · rw [hp] at hq
    cases hq
theorem pl_once {ls : List Ln} {m : Labs} (hp : placesFrom ls 0 [] = (none, m)) {w w' : World} {e : Ending} (h : PlPost ls w e w') : ∃ b, e = .returned (.tuple #[.map (some b), .int .i64 0]) ∧ LabAt b m w' ∧ Below w.heap.size w w' := by
  rcases h with ⟨k', m', hq, _⟩ | ⟨b, m', hq, he, hl, hb⟩
  · rw [hp] at hq
    cases hq
  · rw [hp] at hq
    cases hq
    exact ⟨b, he, hl, hb⟩

set_option maxHeartbeats 2000000 in
set_option maxRecDepth 100000 in
theorem prog_long (s : Str) (hs : s.length ≤ 1000000000) (hl : ¬ s.length ≤ 65536) (w : World) :
    Calls Tryz.prog 15 #[.string ⟨s.toArray⟩] w fun e w' => ProgPost (progL s) w e w' := by
  unfold progL
  rw [if_neg hl]
  go_enter Tryz.func15, Tryz.ntmps15
  have hsz : (ByteArray.mk s.toArray).size = s.length := by simp [ByteArray.size]
  go_wp2
  go_ret3
  exact ⟨_, rfl, ⟨rfl, .inl ⟨rfl, rfl⟩⟩, Below.refl _ _, fun _ => rfl⟩

set_option maxHeartbeats 2000000 in
set_option maxRecDepth 100000 in
theorem prog_twice (s : Str) (hl : s.length ≤ 65536) (k : Nat) (m : Labs) (hp : placesFrom (saidL s) 0 [] = (some k, m)) (w : World) (hA : AsAt w) :
    Calls Tryz.prog 15 #[.string ⟨s.toArray⟩] w fun e w' => ProgPost (progL s) w e w' := by
  unfold progL
  rw [if_pos hl, hp, placedL]
  have HSd := hide (said_any s hl)
  have HPl := hide (labels_any (saidL s) (by have := said_len s; omega) (fun p hp => by have := said_mem s p hp; omega))
  replace HPl := hide (fun g cap w h => (HPl.out g cap w h).mono (fun e w' h' => pl_twice hp h'))
  have hk : (k : Int) ≠ 0 := by
    obtain ⟨p, hm, e⟩ := places_some _ _ _ _ _ hp
    have := said_mem s p hm
    omega
  have hsz : (ByteArray.mk s.toArray).size = s.length := by simp [ByteArray.size]
  have HA := hide hA
  generalize saidL s = ls at *
  clear hp hA
  go_enter Tryz.func15, Tryz.ntmps15
  go_wp2_with (first | (go_at_call 41; refine (HSd.out _ HA.out).mono ?_; rintro e w2 ⟨g, cap, rfl, hg2, hl2, hx2⟩; have HL2 := hide hl2; have HB2 := hide hx2; clear hx2 hl2) | (go_at_call 42; refine (HPl.out _ _ _ HL2.out).mono ?_; rintro e w3 ⟨rfl, hx3⟩; have HB3 := hide (HB2.out.trans (hx3.mono HB2.out.size)); clear hx3))
  go_ret3
  exact ⟨_, rfl, ⟨rfl, .inl ⟨rfl, rfl⟩⟩, HB3.out, fun _ => rfl⟩

theorem own_lower {W : World} {B B' e sz n : Nat} {v : Value} {xs : List Value} (h : W.ownsRow B e sz v n xs) (hb : B' ≤ B) : W.ownsRow B' e sz v n xs := by
  obtain ⟨h1, h2 | ⟨g, cap, cur, e1, e2, e3⟩⟩ := h
  · exact ⟨h1, Or.inl h2⟩
  · exact ⟨h1, Or.inr ⟨g, cap, cur, e1, Nat.le_trans hb e2, e3⟩⟩
theorem lines_lt {g cap : Nat} {ls : List Ln} {W : World} (h : LinesAt g cap ls W) : g < W.heap.size := by
  obtain ⟨cur, h1, _⟩ := h
  exact (Array.getElem?_eq_some_iff.1 h1).1
theorem lab_lt {b : Nat} {m : Labs} {W : World} (h : LabAt b m W) : b < W.heap.size := by
  obtain ⟨D, h1, _⟩ := h
  exact h1.lt
theorem LabAt.same {b : Nat} {m : Labs} {W W' : World} (h : LabAt b m W) (hb : W'.heap[b]? = W.heap[b]?) : LabAt b m W' := by
  obtain ⟨D, ⟨es, clock, h1, h2⟩, h3⟩ := h
  exact ⟨D, ⟨es, clock, hb.trans h1, h2⟩, h3⟩

/-- Between two rounds. -/
def PgRel (ls : List Ln) (g cap b : Nat) (m : Labs) (w w0 : World) (kv ov : Value) (wr : World) : Prop :=
  ∃ (k : Nat) (acc : List Nat), kv = .int .i64 (k : Int) ∧ k ≤ ls.length ∧ acc.length = k ∧ wordsL m ls 0 [] = wordsL m (ls.drop k) k acc ∧ wr.ownsRow w0.heap.size 48 1 ov k (wordCells acc) ∧ LinesAt g cap ls wr ∧ LabAt b m wr ∧ Below w.heap.size w wr ∧ w0.heap.size ≤ wr.heap.size ∧ (ov = .slice none 0 0 ↔ k = 0)
def pgLeft (ls : List Ln) (kv : Value) : Nat := ls.length - (intOf kv).toNat

set_option maxHeartbeats 4000000 in
set_option maxRecDepth 100000 in
theorem prog_words (s : Str) (hl : s.length ≤ 65536) (m : Labs) (hp : placesFrom (saidL s) 0 [] = (none, m)) (w : World) (hA : AsAt w) :
    Calls Tryz.prog 15 #[.string ⟨s.toArray⟩] w fun e w' => ProgPost (progL s) w e w' := by
  unfold progL
  rw [if_pos hl, hp, placedL]
  have hsl := said_len s
  have hsm := said_mem s
  have HSd := hide (said_any s hl)
  have HPl := hide (labels_any (saidL s) (by omega) (fun p hp => by have := hsm p hp; omega))
  replace HPl := hide (fun g cap w h => (HPl.out g cap w h).mono (fun e w' h' => pl_once hp h'))
  have HD := hide (del_any 44 isLab tells_lab (enters_of Tryz.func44 (by kernel_rfl) rfl) (saidL s) (by omega) (fun p hp => by have := hsm p hp; omega))
  have hmb : ∀ k p, lookL m k = some p → p ≤ 1000000 := fun k p h => by
    have := places_bound _ 0 [] m hp (fun k p h => by cases h) k p h
    omega
  have hdm : ∀ p ∈ dropL isLab (saidL s), p.2.length ≤ 70000 ∧ p.1 ≤ 100000 := fun p hp => by
    have := hsm p (List.mem_filter.1 hp).1
    omega
  have hdl : (dropL isLab (saidL s)).length ≤ 65537 := by have := drop_len isLab (saidL s); omega
  have HDM := hide hdm
  have HMB := hide hmb
  have hsz : (ByteArray.mk s.toArray).size = s.length := by simp [ByteArray.size]
  have HA := hide hA
  clear hp hA hsm hsl hdm hmb
  generalize hds : dropL isLab (saidL s) = ds at *
  generalize saidL s = ls at *
  obtain ⟨i0, hi, hq0, hq1, hq2⟩ := info_parts (P := Tryz.prog) (e := 48) (z := .int .u32 0) (size := 1) (bytes := 4) (by kernel_rfl)
  go_enter Tryz.func15, Tryz.ntmps15
  go_wp2_with (first | (go_at_call 41; refine (HSd.out _ HA.out).mono ?_; rintro e w2 ⟨g, cap, rfl, hg2, hl2, hx2⟩; have HL2 := hide hl2; have HB2 := hide hx2; clear hx2 hl2) | (go_at_call 42; refine (HPl.out _ _ _ HL2.out).mono ?_; rintro e w3 ⟨b, rfl, hb3, hx3⟩; have HB3 := hide (HB2.out.trans (hx3.mono HB2.out.size)); have HL3 := hide (HL2.out.keeps hx3); have HM3 := hide hb3; clear hx3 hb3) | (go_at_call 43; refine (HD.out _ _ _ HL3.out).mono ?_; rintro e w4 ⟨rfl, hx5, hx6⟩; have HL4 := hide hx5; have HM4 := hide (HM3.out.grown hx6 (lines_not_map HM3.out HL3.out)); have HB4 := hide (HB3.out.grown hx6 HB3.out.size (fun j hj => by cases hj; exact hg2)); clear hx5 hx6))
  go_loopw [8, 32] (fun ov kv wr => PgRel ds g cap b m w w4 kv ov wr) (fun ov kv wr => pgLeft ds kv)
  case atStart => exact ⟨0, [], rfl, Nat.zero_le _, rfl, rfl, ⟨rfl, .inl ⟨rfl, rfl⟩⟩, HL4.out, HM4.out, HB4.out, Nat.le_refl _, ⟨fun _ => rfl, fun _ => rfl⟩⟩
  case round =>
    obtain ⟨k, acc, rfl, hk, hacc, hW, hO, hLn, hLb, hB, hZ, hN⟩ := hrel
    have HW := hide hW
    have HO := hide hO
    have HLn := hide hLn
    have HLb := hide hLb
    have HB := hide hB
    have HZ := hide hZ
    have HN := hide hN
    have HK := hide hacc
    have HZ4 := hide (show w.heap.size ≤ w4.heap.size from HB4.out.size)
    have HGB := hide (show g < w4.heap.size ∧ b < w4.heap.size from ⟨lines_lt HL4.out, lab_lt HM4.out⟩)
    clear hW hO hLn hLb hB hZ hN
    by_cases hlt : k < ds.length
    · obtain ⟨⟨num, tx⟩, hp⟩ : ∃ p, ds[k]? = some p := ⟨_, List.getElem?_eq_getElem hlt⟩
      obtain ⟨hc1, hc2⟩ := HLn.out.cells k _ hp
      obtain ⟨htx, hnum⟩ := HDM.out _ (List.mem_of_getElem? hp)
      simp only at hc1 hc2 htx hnum
      have hk2 : (k : Int) * 2 = ((k * 2 : Nat) : Int) := by omega
      have HDr := hide (show ds.drop k = (num, tx) :: ds.drop (k + 1) from by rw [List.drop_eq_getElem_cons hlt]; congr 1; exact (List.getElem?_eq_some_iff.1 hp).2)
      have HW' := HW.out
      rw [HDr.out, wordsL] at HW'
      simp only at HW'
      have HWd := hide (word_any tx htx (k * 4) (by omega) b m HMB.out)
      rw [show (((k * 4 : Nat)) : Int) = (k : Int) * 4 by omega] at HWd
      have hvl := wordV_lt tx ((k : Int) * 4) m
      generalize wordV tx ((k : Int) * 4) m = wv at *
      generalize wordE tx ((k : Int) * 4) m = we at *
      clear hp HDr HW
      by_cases hwe : we = 0
      · subst hwe
        rw [if_pos rfl] at HW'
        have HG := hide HW'
        rw [errno_zero] at HWd
        clear HW'
        go_wp2_with (first | (go_at_call 46; refine (HWd.out _ ((HA.out.below HB.out).below (below_box wr _)) (HLb.out.keeps (below_box wr _))).mono ?_; rintro e w5 ⟨rfl, hx5⟩; have HB5 := hide (below_new hx5); clear hx5) | (at_builtin; refine wpList_append_own _ rfl _ _ 39 rfl w4.heap.size 48 i0 (.int .u32 0) 1 4 Tryz.underlying39 hi hq0 hq1 hq2 rfl (by decide) _ _ _ rfl ((own_keeps HO.out HB5.out).alloc _) ⟨_, 0, none⟩ 1 1 [.int .u32 (wv : Int)] rfl rfl (cell_one_new _ _ _) (by simp [Value.oneCell']) (by unfold maxLen; omega) (by omega) (by have := HZ.out; have := HB5.out.size; simp; omega) ?_; intro v6 w6 hown6 hgrow6 hnil6))
        go_roundw
        case rel =>
          have hX := (own_keeps HO.out HB5.out).alloc (.cells #[.int .u32 (wv : Int)] 48)
          have hz5 : w4.heap.size ≤ w5.heap.size := Nat.le_trans HZ.out HB5.out.size
          have hz6 := hgrow6.size
          have hbz := HB.out.trans (HB5.out.mono HB.out.size)
          have hLn5 := HLn.out.keeps HB5.out
          have hLb5 := HLb.out.keeps HB5.out
          simp at hz6
          have hstay : ∀ j, j < w4.heap.size → w6.heap[j]? = w5.heap[j]? := fun j hj => (hgrow6.block j (by simp; omega) (fun h => by have := own_block_ge hX _ h.symm; omega)).trans (Below.heap_alloc _ _ _ (by omega))
          refine ⟨k + 1, acc ++ [wv], by go_num, by omega, by simp [HK.out], HG.out, by unfold wordCells; rw [List.map_append]; exact hown6, hLn5.same (hstay g HGB.out.1), hLb5.same (hstay b HGB.out.2), ?_, by omega, ⟨fun h => by have := (hnil6.1 h).2; omega, fun h => by omega⟩⟩
          exact (hbz.alloc hbz.size _).grown hgrow6 (by have := hbz.size; simp; omega) (fun j hj => by have := own_block_ge hX j hj; have := HZ4.out; omega)
        case measure => unfold pgLeft; simp only [intOf]; omega
      · rw [if_neg hwe] at HW'
        have HG := hide HW'
        rw [errno_pos _ hwe] at HWd
        clear HW'
        go_wp2_with (first | (go_at_call 46; refine (HWd.out _ ((HA.out.below HB.out).below (below_box wr _)) (HLb.out.keeps (below_box wr _))).mono ?_; rintro e w5 ⟨rfl, hx5⟩; have HB5 := hide (below_new hx5); have hb1 : w5.cell? ⟨wr.heap.size, 0, none⟩ = some (.int .i64 (num : Int)) := (hx5.cell (p := ⟨wr.heap.size, 0, none⟩) (by simp)).trans ((cell_of_row _ _ _ _ _ (0, 0) (heap_alloc_new wr _)).trans rfl); clear hx5))
        go_quiet (fail)
        go_wp2
        go_ret3
        have hbz := HB.out.trans (HB5.out.mono HB.out.size)
        rw [HG.out]
        exact ⟨_, rfl, ⟨rfl, .inl ⟨rfl, rfl⟩⟩, hbz.trans ((below_drewS _ _).mono hbz.size), fun _ => rfl⟩
    · obtain rfl : k = ds.length := by omega
      have HG := HW.out
      rw [List.drop_length, wordsL] at HG
      have HG' := hide HG
      clear HG HW
      go_wp2
      go_ret3
      rw [HG'.out]
      refine ⟨_, rfl, ?_, HB.out, fun h => HN.out.2 (by have := HK.out; rw [show acc = [] from h] at this; exact this.symm)⟩
      have := own_lower HO.out HZ4.out
      rw [← HK.out] at this
      exact this

theorem prog_any (s : Str) (hs : s.length ≤ 1000000000) (w : World) (hA : AsAt w) :
    Calls Tryz.prog 15 #[.string ⟨s.toArray⟩] w fun e w' => ProgPost (progL s) w e w' := by
  by_cases hl : s.length ≤ 65536
  · rcases hp : placesFrom (saidL s) 0 [] with ⟨_ | k, m⟩
    · exact prog_words s hl m hp w hA
    · exact prog_twice s hl k m hp w hA
  · exact prog_long s hs hl w
end Go.Proofs.YthfcodiplmodaaaGreatDoor
