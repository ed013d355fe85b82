/-
  What asm.places answers.
-/
import Derived.Test.YthfcodiplmodaaaGreatDoorAsNumbered
import Derived.Maps.OwnSet
import Derived.Deep.QuietTactic
import Derived.BigQuiet
namespace Go.Proofs.YthfcodiplmodaaaGreatDoor
open Go.RowKit
set_option linter.unusedVariables false

/-- A line's number, and what it says. -/
abbrev Ln := Nat × Str
def lineCells (ls : List Ln) : List Value := ls.flatMap fun p => [.int .i64 (p.1 : Int), .string ⟨p.2.toArray⟩]
theorem lineCells_length (ls : List Ln) : (lineCells ls).length = ls.length * 2 := by
  induction ls with
  | nil => rfl
  | cons x t ih => simp [lineCells, List.flatMap_cons] at ih ⊢; omega
theorem lineCells_snoc (ls : List Ln) (p : Ln) : lineCells (ls ++ [p]) = lineCells ls ++ [.int .i64 (p.1 : Int), .string ⟨p.2.toArray⟩] := by simp [lineCells]
theorem lineCells_at : ∀ (ls : List Ln) (i : Nat) (p : Ln), ls[i]? = some p → (lineCells ls)[i * 2]? = some (.int .i64 (p.1 : Int)) ∧ (lineCells ls)[i * 2 + 1]? = some (.string ⟨p.2.toArray⟩)
  | [], i, x, h => by simp at h
  | y :: t, 0, x, h => by
    simp at h
    subst h
    simp [lineCells]
  | y :: t, i + 1, x, h => by
    have ih := lineCells_at t i x (by simpa using h)
    have e : lineCells (y :: t) = .int .i64 (y.1 : Int) :: .string ⟨y.2.toArray⟩ :: lineCells t := by simp [lineCells]
    rw [e, show (i + 1) * 2 = i * 2 + 1 + 1 by omega, show i * 2 + 1 + 1 + 1 = (i * 2 + 1) + 1 + 1 by omega]
    simpa using ih

/-- Lines that lie in a row. -/
def LinesAt (g cap : Nat) (ls : List Ln) (W : World) : Prop := ∃ cur, W.heap[g]? = some (.cells cur 88 (0, 0)) ∧ ls.length ≤ cap ∧ cur.size = cap * 2 ∧ cur.toList.take (ls.length * 2) = lineCells ls
theorem LinesAt.keeps {g cap : Nat} {ls : List Ln} {W W' : World} (h : LinesAt g cap ls W) (hb : Below W.heap.size W W') : LinesAt g cap ls W' := by
  obtain ⟨cur, h1, h2⟩ := h
  exact ⟨cur, block_keeps h1 hb, h2⟩
theorem LinesAt.same {g cap : Nat} {ls : List Ln} {W W' : World} (h : LinesAt g cap ls W) (hb : W'.heap[g]? = W.heap[g]?) : LinesAt g cap ls W' := by
  obtain ⟨cur, h1, h2⟩ := h
  exact ⟨cur, hb.trans h1, h2⟩
theorem LinesAt.cells {g cap : Nat} {ls : List Ln} {W : World} (h : LinesAt g cap ls W) (i : Nat) (p : Ln) (hi : ls[i]? = some p) :
    W.cell? ⟨g, i * 2, none⟩ = some (.int .i64 (p.1 : Int)) ∧ W.cell? ⟨g, i * 2 + 1, none⟩ = some (.string ⟨p.2.toArray⟩) := by
  obtain ⟨cur, h1, h2, h3, h4⟩ := h
  obtain ⟨e1, e2⟩ := lineCells_at ls i p hi
  have hl : i < ls.length := (List.getElem?_eq_some_iff.1 hi).1
  rw [← h4] at e1 e2
  rw [List.getElem?_take_of_lt (by omega)] at e1 e2
  rw [cell_of_row _ _ _ _ _ (0, 0) h1, cell_of_row _ _ _ _ _ (0, 0) h1, ← Array.getElem?_toList, ← Array.getElem?_toList]
  exact ⟨e1, e2⟩

def placesFrom : List Ln → Nat → Labs → Option Nat × Labs
  | [], _, m => (none, m)
  | l :: r, at', m => if labelL l.2 = [] then placesFrom r (at' + 4) m else if (lookL m (labelL l.2)).isSome = true then (some l.1, m) else placesFrom r at' (m ++ [(labelL l.2, at')])

theorem look_snoc_same (m : Labs) (k : Str) (p : Nat) (h : lookL m k = none) : lookL (m ++ [(k, p)]) k = some p := by
  unfold lookL at h ⊢
  rw [Option.map_eq_none_iff] at h
  rw [List.find?_append, h]
  simp
theorem look_snoc_other (m : Labs) (k k' : Str) (p : Nat) (h : k' ≠ k) : lookL (m ++ [(k, p)]) k' = lookL m k' := by
  unfold lookL
  rw [List.find?_append]
  cases hf : m.find? (fun q => q.1 == k') with
  | some q => simp
  | none => simp [Ne.symm h]

theorem label_len (t : Str) : (labelL t).length ≤ t.length := by
  unfold labelL
  split
  · unfold Lib.trimSuffix
    split
    · rw [List.length_take]; omega
    · exact Nat.le_refl _
  · simp
theorem int_wf (a : Nat) (h : a ≤ 4294967296) : (Lit.int .i64 (a : Int)).wf = true := by
  have h1 : IntKind.i64.min = -9223372036854775808 := by decide +kernel
  have h2 : IntKind.i64.max = 9223372036854775807 := by decide +kernel
  simp only [Lit.wf, h1, h2, Bool.and_eq_true, decide_eq_true_eq]
  omega

/-- Between two rounds. -/
def PlRel (ls : List Ln) (g cap : Nat) (w : World) (iv av : Value) (wr : World) : Prop :=
  ∃ (k a : Nat) (m : Labs), iv = .int .i64 (k : Int) ∧ av = .int .i64 (a : Int) ∧ k ≤ ls.length ∧ a ≤ 4 * k ∧ m.length ≤ k ∧ placesFrom ls 0 [] = placesFrom (ls.drop k) a m ∧ LabAt w.heap.size m wr ∧ LinesAt g cap ls wr ∧ Below w.heap.size w wr
def plLeft (ls : List Ln) (iv : Value) : Nat := ls.length - (intOf iv).toNat

def PlPost (ls : List Ln) (w : World) (e : Ending) (w' : World) : Prop :=
  (∃ k m, placesFrom ls 0 [] = (some k, m) ∧ e = .returned (.tuple #[.map none, .int .i64 (k : Int)]) ∧ Below w.heap.size w w') ∨
  (∃ b m, placesFrom ls 0 [] = (none, m) ∧ e = .returned (.tuple #[.map (some b), .int .i64 0]) ∧ LabAt b m w' ∧ Below w.heap.size w w')

theorem labAt_put {b : Nat} {m : Labs} {D : DataW Unit} {w' : World} {k : Str} {p : Nat} (h : w'.ownsMap Tryz.prog 9 (plainElem Tryz.prog 3) b (m.length + 1) (D.put (.string k) (.lit (.int .i64 (p : Int))))) (him : Maps.IsMap D)
    (hD : ∀ k : Str, Maps.has D (.string k) = (lookL m k).isSome ∧ ∀ p, lookL m k = some p → D.atKey (.string k) (.lit (.int .i64 0)) = .lit (.int .i64 (p : Int))) (hno : lookL m k = none) : LabAt b (m ++ [(k, p)]) w' := by
  refine ⟨_, by rw [List.length_append]; exact h, him.put _ _, fun k' => ?_⟩
  by_cases hk : k' = k
  · subst hk
    rw [look_snoc_same m k' p hno, Maps.has_put_same him (show WideAt.IsKeyLit (.string k') from trivial)]
    refine ⟨rfl, fun q hq => ?_⟩
    injection hq with hq
    rw [Maps.atKey_put_same him (show WideAt.IsKeyLit (.string k') from trivial), hq]
  · rw [look_snoc_other m k k' p hk, Maps.has_put_other (by simpa using hk)]
    refine ⟨(hD k').1, fun q hq => ?_⟩
    rw [Maps.atKey_put_other (by simpa using hk)]
    exact (hD k').2 q hq

set_option maxHeartbeats 4000000 in
set_option maxRecDepth 100000 in
theorem labels_any (ls : List Ln) (hls : ls.length ≤ 70000) (hln : ∀ p ∈ ls, p.2.length ≤ 70000 ∧ p.1 ≤ 100000) (g cap : Nat) (w : World) (hL : LinesAt g cap ls w) :
    Calls Tryz.prog 42 #[.slice (some ⟨g, 0, none⟩) ls.length cap] w fun e w' => PlPost ls w e w' := by
  have hmm := @run_makeMap Tryz.prog
  go_enter Tryz.func42, Tryz.ntmps42
  go_wp2
  go_loopw [14, 5] (fun iv av wr => PlRel ls g cap w iv av wr) (fun iv av wr => plLeft ls iv)
  case atStart =>
    refine ⟨0, 0, [], rfl, rfl, Nat.zero_le _, Nat.zero_le _, Nat.zero_le _, rfl, ⟨.map [], World.ownsMap_made w _ _ _, Maps.isMap_empty, fun k => ⟨rfl, fun p h => by cases h⟩⟩, hL.keeps (below_box w _), below_box w _⟩
  case round =>
    obtain ⟨k, a, m, rfl, rfl, hk, ha, hm, hP, hLab, hLn, hB⟩ := hrel
    have HP := hide hP
    have HLab := hide hLab
    have HLn := hide hLn
    have HB := hide hB
    have hgne : g < w.heap.size := by obtain ⟨cur, h1, _⟩ := hL; exact (Array.getElem?_eq_some_iff.1 h1).1
    clear hP hLab hLn hB
    by_cases hlt : k < ls.length
    · obtain ⟨⟨num, tx⟩, hp⟩ : ∃ p, ls[k]? = some p := ⟨_, List.getElem?_eq_getElem hlt⟩
      obtain ⟨hc1, hc2⟩ := HLn.out.cells k _ hp
      obtain ⟨htx, hnum⟩ := hln _ (List.mem_of_getElem? hp)
      simp only at hc1 hc2 htx hnum
      have HLb := hide (fun w => label_any tx (by omega) w)
      have HDr := hide (show ls.drop k = (num, tx) :: ls.drop (k + 1) from by rw [List.drop_eq_getElem_cons hlt]; congr 1; exact (List.getElem?_eq_some_iff.1 hp).2)
      have HP' := HP.out
      rw [HDr.out, placesFrom] at HP'
      simp only at HP'
      obtain ⟨lb, hlb⟩ : ∃ lb, labelL tx = lb := ⟨_, rfl⟩
      rw [hlb] at HLb HP'
      have HLbe := hide hlb
      have hk2 : (k : Int) * 2 = ((k * 2 : Nat) : Int) := by omega
      clear hp hlb HDr HP
      by_cases hemp : lb = []
      · subst hemp
        rw [if_pos rfl] at HP'
        have HG := hide HP'
        clear HP'
        go_wp2_with (go_at_call 45; refine (HLb.out _).mono ?_; rintro e w2 ⟨rfl, rfl⟩)
        go_roundw
        case rel => exact ⟨k + 1, a + 4, m, by go_num, by go_num, by omega, by omega, by omega, HG.out, HLab.out.keeps (below_box wr _), HLn.out.keeps (below_box wr _), HB.out.trans ((below_box wr _).mono HB.out.size)⟩
        case measure => unfold plLeft; simp only [intOf]; omega
      · rw [if_neg hemp] at HP'
        have hem : List.isEmpty lb = false := by cases lb with | nil => exact absurd rfl hemp | cons _ _ => rfl
        obtain ⟨D, hown, him, hD⟩ := HLab.out
        have HOwn := hide (fun o => hown.kept (row := none) (w' := wr.alloc o) ⟨rfl, rfl, rfl, (below_box wr o).size, fun k hk _ => (below_box wr o).block k hk⟩ (by simp))
        have hlbl : lb.length ≤ 100000 := by have := label_len tx; rw [HLbe.out] at this; omega
        have HKey := hide (show keyOf Tryz.prog 9 (.string ⟨lb.toArray⟩) = some (.string lb) from Go.WideMaps.keyOf_string_mk Tryz.underlying9 (by unfold maxLen; simp [ByteArray.size]; omega))
        cases hlk : lookL m lb with
        | some q =>
          have hhas : Maps.has D (.string lb) = true := by rw [(hD lb).1, hlk]; rfl
          rw [hlk] at HP'
          have HG := hide HP'
          clear HP' hlk hown him hD
          go_wp2_with (first | (go_at_call 45; refine (HLb.out _).mono ?_; rintro e w2 ⟨rfl, rfl⟩) | (at_lookup; refine wpList_lookup_own_ok_int _ rfl _ _ 83 rfl 9 3 .i64 (Maps.string_keyed Tryz.underlying9) Tryz.underlying83 Tryz.underlying3 (Tryz.zeroValue3 _) w.heap.size m.length D rfl (HOwn.out _) _ _ rfl HKey.out ?_; intro c hatc hwc; clear hatc))
          go_quiet (fail)
          go_wp2
          go_ret2
          have hb := HB.out.trans ((below_box wr (.cells #[.int .i64 (num : Int), .string ⟨tx.toArray⟩] 88)).mono HB.out.size)
          exact .inl ⟨_, _, HG.out, rfl, hb.trans ((below_drewS _ _).mono hb.size)⟩
        | none =>
          have hhas : Maps.has D (.string lb) = false := by rw [(hD lb).1, hlk]; rfl
          rw [hlk] at HP'
          have HG := hide HP'
          have HDD := hide (And.intro him (And.intro hD hlk))
          clear HP' hlk hown him hD
          go_wp2_with (first | (go_at_call 45; refine (HLb.out _).mono ?_; rintro e w2 ⟨rfl, rfl⟩) | (at_lookup; refine wpList_lookup_own_ok_int _ rfl _ _ 83 rfl 9 3 .i64 (Maps.string_keyed Tryz.underlying9) Tryz.underlying83 Tryz.underlying3 (Tryz.zeroValue3 _) w.heap.size m.length D rfl (HOwn.out _) _ _ rfl HKey.out ?_; intro c hatc hwc; clear hatc) | (at_mapUpdate; refine wpList_mapUpdate_own _ rfl _ _ _ 83 rfl 9 3 (Maps.string_keyed Tryz.underlying9) Tryz.underlying83 (plainElem Tryz.prog 3) w.heap.size m.length D rfl (HOwn.out _) (by unfold maxLen; omega) _ _ _ rfl rfl HKey.out _ [] (plainElem_int Tryz.underlying3 (int_wf a (by omega))) ?_; intro w3 hown3 hgrow3; have HO3 := hide hown3; have HG3 := hide hgrow3; clear hown3 hgrow3))
          go_roundw
          case rel =>
            have hb := HB.out.trans ((below_box wr (.cells #[.int .i64 (num : Int), .string ⟨tx.toArray⟩] 88)).mono HB.out.size)
            refine ⟨k + 1, a, m ++ [(lb, a)], by go_num, rfl, by omega, by omega, by simp; omega, HG.out, labAt_put HO3.out HDD.out.1 HDD.out.2.1 HDD.out.2.2, (HLn.out.keeps (below_box wr _)).same (HG3.out.block g (by have := HB.out.size; simp; omega) (fun e => by injection e with e; omega)), hb.grown HG3.out hb.size (fun j e => by injection e with e; omega)⟩
          case measure => unfold plLeft; simp only [intOf]; omega
    · obtain rfl : k = ls.length := by omega
      have HG := HP.out
      rw [List.drop_length, placesFrom] at HG
      have HG' := hide HG
      clear HG HP
      go_wp2
      go_ret2
      exact .inr ⟨_, _, HG'.out, rfl, HLab.out, HB.out⟩
end Go.Proofs.YthfcodiplmodaaaGreatDoor
