/-
  AsmLabels: what Program answers of the law's texts: plain mathematics.
-/
import Derived.Test.YthfcodiplmodaaaGreatDoorAsLn
namespace Go.Proofs.YthfcodiplmodaaaGreatDoor
open Go.Lib Go.RowKit
set_option linter.unusedVariables false

def wfiS : Str := [119, 102, 105]
def jalS : Str := [106, 97, 108, 32, 120, 49, 44, 32, 116, 104, 101, 114, 101]
def thereN : Str := [116, 104, 101, 114, 101]
def thereS : Str := [116, 104, 101, 114, 101, 58]
def wfis : Nat → Str
  | 0 => []
  | n + 1 => wfis n ++ [119, 102, 105, 10]
theorem wfis_len : ∀ n, (wfis n).length = 4 * n
  | 0 => rfl
  | n + 1 => by rw [wfis, List.length_append, wfis_len n]; simp; omega

theorem tidy_wfi : Tidy wfiS := ⟨by decide, by decide, by decide, by decide⟩
theorem tidy_jal : Tidy jalS := ⟨by decide, by decide, by decide, by decide⟩
theorem tidy_there : Tidy thereS := ⟨by decide, by decide, by decide, by decide⟩
theorem shows_tidy {t : Str} (h : Tidy t) (r : Str) : showsL (t ++ 10 :: r) = t :: showsL r := by
  rw [shows_line t r (fun x hx => (h.plain x hx).2) (by rw [shown_tidy h]; exact h.ne), shown_tidy h]
theorem shows_wfis : ∀ (n : Nat) (r : Str), showsL (wfis n ++ r) = List.replicate n wfiS ++ showsL r
  | 0, r => rfl
  | n + 1, r => by
    rw [wfis, List.append_assoc, shows_wfis n, show ([119, 102, 105, 10] : Str) ++ r = wfiS ++ 10 :: r from rfl, shows_tidy tidy_wfi, List.replicate_succ', List.append_assoc]
    rfl

/-- Places and words, by what the lines say alone. -/
def plT : List Str → Nat → Labs → Option Labs
  | [], _, m => some m
  | t :: r, a, m => if labelL t = [] then plT r (a + 4) m else if (lookL m (labelL t)).isSome = true then none else plT r a (m ++ [(labelL t, a)])
theorem pl_of : ∀ (ls : List Ln) (a : Nat) (m m' : Labs), plT (ls.map (·.2)) a m = some m' → placesFrom ls a m = (none, m')
  | [], a, m, m', h => by
    rw [List.map_nil, plT] at h
    rw [placesFrom, Option.some.inj h]
  | l :: r, a, m, m', h => by
    rw [List.map_cons, plT] at h
    rw [placesFrom]
    split at h
    · rename_i hl
      rw [if_pos hl]
      exact pl_of r _ _ _ h
    · rename_i hl
      rw [if_neg hl]
      split at h
      · cases h
      · rename_i hk
        rw [if_neg hk]
        exact pl_of r _ _ _ h
theorem lab_wfi : labelL wfiS = [] := by decide
theorem lab_jal : labelL jalS = [] := by decide
theorem lab_there : labelL thereS = thereN := by decide
theorem plT_wfis (r : List Str) : ∀ (n a : Nat) (m : Labs), plT (List.replicate n wfiS ++ r) a m = plT r (a + 4 * n) m
  | 0, a, m => rfl
  | n + 1, a, m => by
    rw [List.replicate_succ, List.cons_append, plT, if_pos lab_wfi, plT_wfis r n (a + 4) m]
    congr 1
    omega

def wdT (m : Labs) : List Str → Nat → List Nat → Option (List Nat)
  | [], _, acc => some acc
  | t :: r, k, acc => if wordE t ((k : Int) * 4) m = 0 then wdT m r (k + 1) (acc ++ [wordV t ((k : Int) * 4) m]) else none
theorem wd_of (m : Labs) : ∀ (ls : List Ln) (k : Nat) (acc res : List Nat), wdT m (ls.map (·.2)) k acc = some res → wordsL m ls k acc = (0, 0, res)
  | [], k, acc, res, h => by
    rw [List.map_nil, wdT] at h
    rw [wordsL, Option.some.inj h]
  | l :: r, k, acc, res, h => by
    rw [List.map_cons, wdT] at h
    rw [wordsL]
    split at h
    · rename_i he
      rw [if_pos he]
      exact wd_of m r _ _ _ h
    · cases h
theorem wfi_text : encOk ⟨(findS wfiS).getD 0, 0, 0, 0, 0, 0⟩ = true ∧ textL ⟨(findS wfiS).getD 0, 0, 0, 0, 0, 0⟩ = wfiS := by decide +kernel
def wfiW : Nat := encW ⟨(findS wfiS).getD 0, 0, 0, 0, 0, 0⟩
theorem numbered_wfi (a : Int) (m : Labs) : numberedL wfiS a m = wfiS := by
  have h1 : (cut wfiS [32]).1 = wfiS := by decide
  have h2 : findS wfiS = some ((findS wfiS).getD 0) := by decide +kernel
  have h3 : (kindN ((findS wfiS).getD 0) == 66 || kindN ((findS wfiS).getD 0) == 74) = false := by decide +kernel
  unfold numberedL
  rw [h1, h2]
  simp only [h3]
  rfl
theorem word_wfi (a : Int) (m : Labs) : wordE wfiS a m = 0 ∧ wordV wfiS a m = wfiW := by
  have hp : hasPrefix wfiS dotWord = false := by decide
  have hq : parseL wfiS = some ⟨(findS wfiS).getD 0, 0, 0, 0, 0, 0⟩ := (parse_iff _ _).2 wfi_text
  unfold wordE wordV
  rw [if_neg (by rw [hp]; simp), if_neg (by rw [hp]; simp), numbered_wfi, parseN, hq]
  exact ⟨rfl, rfl⟩
theorem wdT_wfis (m : Labs) (r : List Str) : ∀ (n k : Nat) (acc : List Nat), wdT m (List.replicate n wfiS ++ r) k acc = wdT m r (k + n) (acc ++ List.replicate n wfiW)
  | 0, k, acc => by simp
  | n + 1, k, acc => by
    rw [List.replicate_succ, List.cons_append, wdT, if_pos (word_wfi _ _).1, (word_wfi _ _).2, wdT_wfis m r n (k + 1), List.replicate_succ]
    simp
    congr 1
    omega

/-- The jump. -/
def jalI (z : Int) : I6 := ⟨2, 1, 0, 0, z, 0⟩
theorem jal_ok (z : Int) (h : -1048576 ≤ z ∧ z ≤ 1048574 ∧ z % 2 = 0) : encOk (jalI z) = true := by
  refine valid_encOk ⟨by show (0 : Int) ≤ 2; decide, by show (2 : Int) < 57; decide⟩ ?_
  have hk : kindN (jalI z).op.toNat = 74 := by show kindN 2 = 74; decide
  rw [hk]
  simp [ValidK, jalI]
  omega
theorem jal_text (z : Int) : textL (jalI z) = [106, 97, 108, 32, 120, 49, 44, 32] ++ itoa z := by
  have hk : kindN (jalI z).op.toNat = 74 := by show kindN 2 = 74; decide
  have hn : nameS (jalI z).op.toNat = [106, 97, 108] := by show nameS 2 = _; decide
  unfold textL textK
  rw [hk, hn, rest_J]
  have ho : operK 74 (jalI z).op.toNat = [100, 44, 32, 110] := rfl
  rw [ho, if_neg (by simp)]
  have hr : regL (jalI z).rd = [120, 49] := by show regL 1 = _; decide +kernel
  rw [hr]
  rfl
theorem word_jal (a : Int) (m : Labs) (p : Nat) (hp : lookL m thereN = some p) (hz : -1048576 ≤ (p : Int) - a ∧ (p : Int) - a ≤ 1048574 ∧ ((p : Int) - a) % 2 = 0) : wordE jalS a m = 0 ∧ wordV jalS a m = encW (jalI ((p : Int) - a)) := by
  have hd : hasPrefix jalS dotWord = false := by decide
  have h1 : findS (cut jalS [32]).1 = some 2 := by decide +kernel
  have h3 : (kindN 2 == 66 || kindN 2 == 74) = true := by decide
  have h4 : lastL jalS = 8 := by decide +kernel
  have h5 : jalS.drop 8 = thereN := rfl
  have h6 : jalS.take 8 = [106, 97, 108, 32, 120, 49, 44, 32] := rfl
  have hn : numberedL jalS a m = textL (jalI ((p : Int) - a)) := by
    unfold numberedL
    rw [h1]
    simp only [h3, if_true]
    rw [h4, h5, hp, h6, jal_text]
  unfold wordE wordV
  rw [if_neg (by rw [hd]; simp), if_neg (by rw [hd]; simp), hn, parseN, parse_text _ (jal_ok _ hz)]
  exact ⟨rfl, rfl⟩

theorem drop_labs (ls : List Ln) : (dropL isLab ls).map (·.2) = (ls.map (·.2)).filter (fun t => (labelL t).isEmpty) := by
  unfold dropL
  rw [List.filter_map]
  congr 1
  congr 1
  funext p
  simp [isLab]

/-- The program of the law. -/
def labS (up : Bool) (n m : Nat) : Str := (if up = true then thereS ++ [10] else []) ++ wfis n ++ (jalS ++ [10]) ++ wfis m ++ (if up = true then [] else thereS ++ [10])
def farZ (up : Bool) (n m : Nat) : Int := if up = true then -4 * (n : Int) else 4 + 4 * (m : Int)
theorem lab_shows (up : Bool) (n m : Nat) : showsL (labS up n m) = (if up = true then [thereS] else []) ++ (List.replicate n wfiS ++ (jalS :: (List.replicate m wfiS ++ (if up = true then [] else [thereS])))) := by
  unfold labS
  cases up with
  | true =>
    simp only [if_true, List.append_assoc, List.append_nil]
    rw [show thereS ++ ([10] ++ (wfis n ++ (jalS ++ ([10] ++ wfis m)))) = thereS ++ 10 :: (wfis n ++ (jalS ++ 10 :: wfis m)) by simp, shows_tidy tidy_there, shows_wfis, shows_tidy tidy_jal]
    have := shows_wfis m []
    rw [List.append_nil, shows_nil, List.append_nil] at this
    rw [this]
    rfl
  | false =>
    simp only [Bool.false_eq_true, if_false, List.append_assoc, List.nil_append]
    rw [show wfis n ++ (jalS ++ ([10] ++ (wfis m ++ (thereS ++ [10])))) = wfis n ++ (jalS ++ 10 :: (wfis m ++ (thereS ++ 10 :: []))) by simp, shows_wfis, shows_tidy tidy_jal, shows_wfis, shows_tidy tidy_there, shows_nil]
theorem lab_len (up : Bool) (n m : Nat) : (labS up n m).length ≤ 100 + 4 * n + 4 * m := by
  unfold labS
  cases up <;> simp [wfis_len, thereS, jalS] <;> omega

theorem lab_prog (up : Bool) (n m : Nat) (hn : n < 200) (hm : m < 200) : progL (labS up n m) = (0, 0, List.replicate n wfiW ++ (encW (jalI (farZ up n m)) :: List.replicate m wfiW)) := by
  have hl := lab_len up n m
  have hs := said_shows (labS up n m)
  rw [lab_shows] at hs
  have fw : ∀ k, (List.replicate k wfiS).filter (fun t => (labelL t).isEmpty) = List.replicate k wfiS := fun k => by
    rw [List.filter_eq_self]
    intro t ht
    rw [(List.mem_replicate.1 ht).2, lab_wfi]; rfl
  have hd := drop_labs (saidL (labS up n m))
  rw [hs] at hd
  obtain ⟨M, p, hM, hp, hz⟩ : ∃ M p, plT ((saidL (labS up n m)).map (·.2)) 0 [] = some M ∧ lookL M thereN = some p ∧ (p : Int) - (n : Int) * 4 = farZ up n m := by
    rw [hs]
    cases up with
    | true =>
      refine ⟨[(thereN, 0)], 0, ?_, by decide, by unfold farZ; simp; omega⟩
      simp only [if_true, List.append_nil]
      rw [List.singleton_append, plT, if_neg (by rw [lab_there]; decide), lab_there, if_neg (by decide), plT_wfis, plT, if_pos lab_jal]
      have := plT_wfis [] m (0 + 4 * n + 4) ([] ++ [(thereN, 0)])
      rw [List.append_nil] at this
      rw [this]
      rfl
    | false =>
      refine ⟨[(thereN, 0 + 4 * n + 4 + 4 * m)], 0 + 4 * n + 4 + 4 * m, ?_, by simp [lookL], by unfold farZ; simp; omega⟩
      simp only [Bool.false_eq_true, if_false, List.nil_append]
      rw [plT_wfis, plT, if_pos lab_jal, plT_wfis, plT, if_neg (by rw [lab_there]; decide), lab_there, if_neg (by decide), plT]
      rfl
  have hr : -1048576 ≤ (p : Int) - (n : Int) * 4 ∧ (p : Int) - (n : Int) * 4 ≤ 1048574 ∧ ((p : Int) - (n : Int) * 4) % 2 = 0 := by
    rw [hz]; unfold farZ; split <;> omega
  obtain ⟨j1, j2⟩ := word_jal ((n : Int) * 4) M p hp hr
  have hw : wdT M ((dropL isLab (saidL (labS up n m))).map (·.2)) 0 [] = some (List.replicate n wfiW ++ (encW (jalI (farZ up n m)) :: List.replicate m wfiW)) := by
    have hf : ((if up = true then [thereS] else []) ++ (List.replicate n wfiS ++ (jalS :: (List.replicate m wfiS ++ (if up = true then [] else [thereS]))))).filter (fun t => (labelL t).isEmpty) = List.replicate n wfiS ++ (jalS :: (List.replicate m wfiS ++ [])) := by
      have ft : ([thereS] : List Str).filter (fun t => (labelL t).isEmpty) = [] := by decide
      have fj : ∀ r : List Str, (jalS :: r).filter (fun t => (labelL t).isEmpty) = jalS :: r.filter (fun t => (labelL t).isEmpty) := fun r => by rw [List.filter_cons, if_pos (by rw [lab_jal]; rfl)]
      cases up <;> simp only [if_true, Bool.false_eq_true, if_false, List.filter_append, fw, ft, fj, List.nil_append, List.append_nil]
    rw [hd, hf, wdT_wfis, wdT, Nat.zero_add, if_pos j1, j2, hz, wdT_wfis, wdT]
    simp
  unfold progL
  rw [if_pos (by omega), pl_of _ _ _ _ hM, placedL, wd_of _ _ _ _ _ hw]
end Go.Proofs.YthfcodiplmodaaaGreatDoor
