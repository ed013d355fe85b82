/-
  Numbers by their lowest byte first; files of sections, plain; what is read of them.
-/
import Derived.Test.YtkahkkcbigifiaaDoorSmBits
namespace Go.Proofs.YtkahkkcbigifiaaDoor
set_option linter.unusedVariables false

/-- A number's n lowest bytes. -/
def leN : Nat → Nat → List Nat
  | 0, _ => []
  | n + 1, v => v % 256 :: leN n (v / 256)
/-- The number of bytes. -/
def numL : List Nat → Nat
  | [] => 0
  | c :: l => c + 256 * numL l
theorem leN_len : ∀ n v, (leN n v).length = n
  | 0, _ => rfl
  | n + 1, v => by simp [leN, leN_len n]
theorem leN_lt : ∀ n v, ∀ c ∈ leN n v, c < 256
  | 0, _, c, h => by cases h
  | n + 1, v, c, h => by
    rcases List.mem_cons.1 h with rfl | h
    · exact Nat.mod_lt _ (by decide)
    · exact leN_lt n _ c h
theorem num_leN : ∀ n v, numL (leN n v) = v % 256 ^ n
  | 0, v => by simp [leN, numL, Nat.mod_one]
  | n + 1, v => by
    rw [leN, numL, num_leN n, Nat.pow_succ, Nat.mul_comm (256 ^ n) 256, Nat.mod_mul]
theorem numL_lt : ∀ l : List Nat, (∀ c ∈ l, c < 256) → numL l < 256 ^ l.length
  | [], _ => by decide
  | c :: l, h => by
    have h1 := h c (by simp)
    have h2 := numL_lt l fun d hd => h d (by simp [hd])
    rw [numL, List.length_cons, Nat.pow_succ]
    omega
theorem leN_num : ∀ l : List Nat, (∀ c ∈ l, c < 256) → leN l.length (numL l) = l
  | [], _ => rfl
  | c :: l, h => by
    have h1 := h c (by simp)
    have h2 := leN_num l fun d hd => h d (by simp [hd])
    rw [List.length_cons, leN, numL, Nat.add_mul_mod_self_left, Nat.mod_eq_of_lt h1, Nat.add_mul_div_left _ _ (by decide), Nat.div_eq_of_lt h1, Nat.zero_add, h2]
theorem num_small {n v : Nat} (h : v < 256 ^ n) : numL (leN n v) = v := by rw [num_leN, Nat.mod_eq_of_lt h]

/-- A section. -/
structure Sct where
  tag : Nat
  b : List Nat
def Sct.Ok (s : Sct) : Prop := s.tag < 4294967296 ∧ s.b.length < 4294967296 ∧ ∀ c ∈ s.b, c < 256
def withSum (l : List Nat) : List Nat := l ++ tail4 (sumL l)
def headL (s : Sct) : List Nat := leN 4 s.tag ++ leN 4 s.b.length ++ s.b
def secL (s : Sct) : List Nat := withSum (headL s)
def secsL : List Sct → List Nat
  | [] => []
  | s :: l => secL s ++ secsL l
def openL (ver n : Nat) : List Nat := [80, 78, 67, 69] ++ leN 4 ver ++ leN 4 n
def fileL (ver : Nat) (l : List Sct) : List Nat := withSum (openL ver l.length ++ secsL l)
theorem withSum_len (l : List Nat) : (withSum l).length = l.length + 4 := by rw [withSum, List.length_append]; rfl
theorem withSum_lt {l : List Nat} (h : ∀ c ∈ l, c < 256) : ∀ c ∈ withSum l, c < 256 := fun c hc => by
  rcases List.mem_append.1 hc with h1 | h1
  · exact h c h1
  · exact tail4_lt (sumL_lt l) c h1
theorem withSum_ok (l : List Nat) : okL (withSum l) = true := by
  unfold okL
  rw [withSum_len, Nat.add_sub_cancel, withSum, List.take_left, List.drop_left]
  simp
/-- What is whole is its beginning with its sum. -/
theorem ok_withSum {l : List Nat} (h : okL l = true) : withSum (l.take (l.length - 4)) = l := by
  unfold okL at h
  simp only [Bool.and_eq_true, decide_eq_true_eq] at h
  rw [withSum, ← h.2, List.take_append_drop]
theorem head_len (s : Sct) : (headL s).length = 8 + s.b.length := by simp [headL, leN_len]; omega
theorem sec_len (s : Sct) : (secL s).length = 12 + s.b.length := by rw [secL, withSum_len, head_len]; omega
theorem open_len (v n : Nat) : (openL v n).length = 12 := by simp [openL, leN_len]
theorem head_lt {s : Sct} (h : s.Ok) : ∀ c ∈ headL s, c < 256 := fun c hc => by
  simp only [headL, List.mem_append] at hc
  rcases hc with (hc | hc) | hc
  · exact leN_lt _ _ _ hc
  · exact leN_lt _ _ _ hc
  · exact h.2.2 c hc
def sizeL : List Sct → Nat
  | [] => 16
  | s :: l => 12 + s.b.length + sizeL l
theorem secs_len : ∀ l, (secsL l).length + 16 = sizeL l
  | [] => rfl
  | s :: l => by
    have := secs_len l
    rw [secsL, List.length_append, sec_len, sizeL]
    omega
theorem file_len (ver : Nat) (l : List Sct) : (fileL ver l).length = sizeL l := by
  have := secs_len l
  rw [fileL, withSum_len, List.length_append, open_len]
  omega
def upF (p : Option Nat) (tag : Nat) : Bool := match p with
  | none => true
  | some q => decide (q < tag)
/-- Tags ascend, each once: from a last one on. -/
def ascF : Option Nat → List Sct → Bool
  | _, [] => true
  | p, s :: l => upF p s.tag && ascF (some s.tag) l
def encE (l : List Sct) : Nat := if ascF none l = false then 31 else if 4096 < l.length ∨ 134217728 < sizeL l then 2 else 0

/-- What is read, section by section, of the bytes ahead of the last sum. -/
def decS : Nat → Option Nat → List Nat → Nat ⊕ (List Sct × List Nat)
  | 0, _, r => .inr ([], r)
  | k + 1, p, r =>
    if r.length < 12 then .inl 12
    else if r.length - 12 < numL ((r.drop 4).take 4) then .inl 12
    else
      let n := numL ((r.drop 4).take 4)
      if okL (r.take (12 + n)) = false then .inl 11
      else
        let tag := numL (r.take 4)
        if upF p tag = false then .inl 31
        else match decS k (some tag) (r.drop (12 + n)) with
          | .inl e => .inl e
          | .inr (l, r') => .inr (⟨tag, (r.drop 8).take n⟩ :: l, r')
def endD (v : Nat) : Nat ⊕ (List Sct × List Nat) → Nat ⊕ (Nat × List Sct)
  | .inl e => .inl e
  | .inr (l, r) => if r = [] then .inr (v, l) else .inl 3
def decL (b : List Nat) : Nat ⊕ (Nat × List Sct) :=
  if 134217728 < b.length then .inl 2
  else if b.length < 16 then .inl 12
  else if b.take 4 ≠ [80, 78, 67, 69] then .inl 3
  else if okL b = false then .inl 11
  else if 4096 < numL ((b.drop 8).take 4) then .inl 2
  else endD (numL ((b.drop 4).take 4)) (decS (numL ((b.drop 8).take 4)) none ((b.take (b.length - 4)).drop 12))
theorem pow4 : (256 : Nat) ^ 4 = 4294967296 := by decide
theorem head_parts (s : Sct) (r : List Nat) (h : s.Ok) :
    (secL s ++ r).take 4 = leN 4 s.tag ∧ ((secL s ++ r).drop 4).take 4 = leN 4 s.b.length ∧ ((secL s ++ r).drop 8).take s.b.length = s.b ∧ (secL s ++ r).take (12 + s.b.length) = secL s ∧ (secL s ++ r).drop (12 + s.b.length) = r := by
  have e : secL s ++ r = leN 4 s.tag ++ (leN 4 s.b.length ++ (s.b ++ (tail4 (sumL (headL s)) ++ r))) := by simp [secL, withSum, headL]
  refine ⟨?_, ?_, ?_, ?_, ?_⟩
  · rw [e, List.take_left' (leN_len 4 _)]
  · rw [e, List.drop_left' (leN_len 4 _), List.take_left' (leN_len 4 _)]
  · rw [e, show (8 : Nat) = 4 + 4 from rfl, ← List.drop_drop, List.drop_left' (leN_len 4 _), List.drop_left' (leN_len 4 _), List.take_left' rfl]
  · rw [List.take_left' (sec_len s)]
  · rw [List.drop_left' (sec_len s)]
theorem dec_secs : ∀ (l : List Sct) (p : Option Nat) (r : List Nat), (∀ s ∈ l, s.Ok) → ascF p l = true → decS l.length p (secsL l ++ r) = .inr (l, r)
  | [], _, _, _, _ => rfl
  | s :: l, p, r, ho, ha => by
    have hs := ho s (by simp)
    have ih := fun q => dec_secs l q r (fun t ht => ho t (by simp [ht]))
    obtain ⟨h1, h2, h3, h4, h5⟩ := head_parts s (secsL l ++ r) hs
    have hl : (secL s ++ (secsL l ++ r)).length = 12 + s.b.length + (secsL l ++ r).length := by rw [List.length_append, sec_len]
    rw [List.length_cons, secsL, List.append_assoc, decS, h2, h1, num_small (by rw [pow4]; exact hs.2.1), num_small (by rw [pow4]; exact hs.1), if_neg (by omega), if_neg (by omega)]
    simp only [ascF, Bool.and_eq_true] at ha
    simp only [h3, h4, h5]
    rw [if_neg (by rw [show okL (secL s) = true from withSum_ok _]; decide), if_neg (by rw [ha.1]; decide), ih _ ha.2]
theorem open_parts (v n : Nat) (r : List Nat) : (openL v n ++ r).take 4 = [80, 78, 67, 69] ∧ ((openL v n ++ r).drop 4).take 4 = leN 4 v ∧ ((openL v n ++ r).drop 8).take 4 = leN 4 n ∧ (openL v n ++ r).drop 12 = r := by
  have e : openL v n ++ r = [80, 78, 67, 69] ++ (leN 4 v ++ (leN 4 n ++ r)) := by simp [openL]
  have h4 : ([80, 78, 67, 69] : List Nat).length = 4 := rfl
  refine ⟨?_, ?_, ?_, ?_⟩
  · rw [e, List.take_left' h4]
  · rw [e, List.drop_left' h4, List.take_left' (leN_len 4 _)]
  · rw [e, show (8 : Nat) = 4 + 4 from rfl, ← List.drop_drop, List.drop_left' h4, List.drop_left' (leN_len 4 _), List.take_left' (leN_len 4 _)]
  · rw [List.drop_left' (open_len v n)]
/-- The sections of a file are those it was made of. -/
theorem dec_file (ver : Nat) (l : List Sct) (hv : ver < 4294967296) (ho : ∀ s ∈ l, s.Ok) (he : encE l = 0) : decL (fileL ver l) = .inr (ver, l) := by
  unfold encE at he
  split at he
  · cases he
  rename_i ha
  split at he
  · cases he
  rename_i hs
  have hs1 : l.length ≤ 4096 := by omega
  have hs2 : sizeL l ≤ 134217728 := by omega
  have h16 := secs_len l
  have hA : ascF none l = true := by simpa using ha
  have e : fileL ver l = openL ver l.length ++ (secsL l ++ tail4 (sumL (openL ver l.length ++ secsL l))) := by rw [fileL, withSum, List.append_assoc]
  obtain ⟨h1, h2, h3, h4⟩ := open_parts ver l.length (secsL l ++ tail4 (sumL (openL ver l.length ++ secsL l)))
  rw [← e] at h1 h2 h3 h4
  have hlen := file_len ver l
  have ht : (fileL ver l).take ((fileL ver l).length - 4) = openL ver l.length ++ secsL l := by
    rw [fileL, withSum_len, Nat.add_sub_cancel, withSum, List.take_left]
  have h5 := dec_secs l none [] ho hA
  rw [List.append_nil] at h5
  unfold decL
  rw [if_neg (by omega), if_neg (by omega), if_neg (by rw [h1]; simp), if_neg (by rw [show okL (fileL ver l) = true from withSum_ok _]; decide), h3, num_small (by rw [pow4]; omega), if_neg (by omega), ht, List.drop_left' (open_len _ _), h5, h2, num_small (by rw [pow4]; exact hv)]
  rfl

theorem take_lt {l : List Nat} (h : ∀ c ∈ l, c < 256) (n : Nat) : ∀ c ∈ l.take n, c < 256 := fun c hc => h c (List.mem_of_mem_take hc)
theorem drop_lt {l : List Nat} (h : ∀ c ∈ l, c < 256) (n : Nat) : ∀ c ∈ l.drop n, c < 256 := fun c hc => h c (List.mem_of_mem_drop hc)
theorem le4 {l : List Nat} (h : ∀ c ∈ l, c < 256) (hl : l.length = 4) : leN 4 (numL l) = l ∧ numL l < 4294967296 := by
  refine ⟨?_, ?_⟩
  · have := leN_num l h
    rwa [hl] at this
  · have := numL_lt l h
    rwa [hl, pow4] at this
theorem split3 (r : List Nat) (n : Nat) : r.take 4 ++ ((r.drop 4).take 4 ++ (r.drop 8).take n) = r.take (8 + n) := by
  have e1 : (r.drop 8) = (r.drop 4).drop 4 := by rw [List.drop_drop]
  rw [e1, ← List.take_add, ← List.take_add]
  congr 1
  omega
theorem sec_read {r : List Nat} (hr : ∀ c ∈ r, c < 256) {n : Nat} (hn : numL ((r.drop 4).take 4) = n) (h12 : 12 + n ≤ r.length) (hok : okL (r.take (12 + n)) = true) :
    Sct.Ok ⟨numL (r.take 4), (r.drop 8).take n⟩ ∧ secL ⟨numL (r.take 4), (r.drop 8).take n⟩ = r.take (12 + n) := by
  have l1 : (r.take 4).length = 4 := by rw [List.length_take]; omega
  have l2 : ((r.drop 4).take 4).length = 4 := by rw [List.length_take, List.length_drop]; omega
  have l3 : ((r.drop 8).take n).length = n := by rw [List.length_take, List.length_drop]; omega
  have t1 := le4 (take_lt hr 4) l1
  have t2 := le4 (take_lt (drop_lt hr 4) 4) l2
  rw [hn] at t2
  refine ⟨⟨t1.2, ?_, take_lt (drop_lt hr 8) n⟩, ?_⟩
  · show ((r.drop 8).take n).length < _
    rw [l3]; exact t2.2
  have hh : headL ⟨numL (r.take 4), (r.drop 8).take n⟩ = r.take (8 + n) := by
    unfold headL
    rw [t1.1, l3, t2.1, List.append_assoc, split3]
  have h2 := ok_withSum hok
  have l4 : (r.take (12 + n)).length = 12 + n := by rw [List.length_take]; omega
  rw [l4, List.take_take, show min (12 + n - 4) (12 + n) = 8 + n by omega] at h2
  rw [secL, hh, h2]
theorem secs_dec : ∀ (k : Nat) (p : Option Nat) (r : List Nat) (l : List Sct) (r' : List Nat), (∀ c ∈ r, c < 256) → decS k p r = .inr (l, r') → secsL l ++ r' = r ∧ l.length = k ∧ ascF p l = true ∧ ∀ s ∈ l, s.Ok
  | 0, p, r, l, r', hr, h => by
    simp only [decS, Sum.inr.injEq, Prod.mk.injEq] at h
    obtain ⟨rfl, rfl⟩ := h
    exact ⟨rfl, rfl, rfl, fun s hs => by cases hs⟩
  | k + 1, p, r, l, r', hr, h => by
    simp only [decS] at h
    split at h
    · cases h
    rename_i h12
    split at h
    · cases h
    rename_i hn
    split at h
    · cases h
    rename_i hok
    split at h
    · cases h
    rename_i hp
    generalize hnn : numL ((r.drop 4).take 4) = n at *
    have hs := sec_read hr hnn (by omega) (by simpa using hok)
    cases hd : decS k (some (numL (r.take 4))) (r.drop (12 + n)) with
    | inl e => rw [hd] at h; cases h
    | inr q =>
      obtain ⟨l2, r2⟩ := q
      rw [hd] at h
      simp only [Sum.inr.injEq, Prod.mk.injEq] at h
      obtain ⟨rfl, rfl⟩ := h
      obtain ⟨i1, i2, i3, i4⟩ := secs_dec k _ _ l2 r2 (drop_lt hr _) hd
      refine ⟨?_, by rw [List.length_cons, i2], ?_, fun s hs' => ?_⟩
      · rw [secsL, hs.2, List.append_assoc, i1, List.take_append_drop]
      · simp only [ascF, Bool.and_eq_true]
        exact ⟨by simpa using hp, i3⟩
      · rcases List.mem_cons.1 hs' with rfl | h'
        · exact hs.1
        · exact i4 s h'
/-- What a file tells makes that file again. -/
theorem file_dec (b : List Nat) (hb : ∀ c ∈ b, c < 256) (v : Nat) (l : List Sct) (h : decL b = .inr (v, l)) : encE l = 0 ∧ fileL v l = b ∧ v < 4294967296 ∧ ∀ s ∈ l, s.Ok := by
  unfold decL at h
  split at h
  · cases h
  rename_i h27
  split at h
  · cases h
  rename_i h16
  split at h
  · cases h
  rename_i hp
  split at h
  · cases h
  rename_i hok
  split at h
  · cases h
  rename_i hm
  have hp' : b.take 4 = [80, 78, 67, 69] := by simpa using hp
  cases hd : decS (numL ((b.drop 8).take 4)) none ((b.take (b.length - 4)).drop 12) with
  | inl e => rw [hd] at h; cases h
  | inr q =>
    obtain ⟨l2, r2⟩ := q
    rw [hd] at h
    simp only [endD] at h
    split at h
    · rename_i hr2
      subst hr2
      simp only [Sum.inr.injEq, Prod.mk.injEq] at h
      obtain ⟨rfl, rfl⟩ := h
      obtain ⟨i1, i2, i3, i4⟩ := secs_dec _ _ _ _ _ (drop_lt (take_lt hb _) 12) hd
      rw [List.append_nil] at i1
      have l1 : ((b.drop 4).take 4).length = 4 := by rw [List.length_take, List.length_drop]; omega
      have l2' : ((b.drop 8).take 4).length = 4 := by rw [List.length_take, List.length_drop]; omega
      have t1 := le4 (take_lt (drop_lt hb 4) 4) l1
      have t2 := le4 (take_lt (drop_lt hb 8) 4) l2'
      have hf : fileL (numL ((b.drop 4).take 4)) l2 = b := by
        have hw := ok_withSum (l := b) (by simpa using hok)
        have ho : openL (numL ((b.drop 4).take 4)) l2.length = b.take 12 := by
          unfold openL
          rw [i2, t1.1, t2.1, ← hp', List.append_assoc, split3]
        have hc : b.take 12 ++ (b.take (b.length - 4)).drop 12 = b.take (b.length - 4) := by
          have : b.take 12 = (b.take (b.length - 4)).take 12 := by rw [List.take_take]; congr 1; omega
          rw [this, List.take_append_drop]
        unfold fileL
        rw [ho, i1, hc, hw]
      refine ⟨?_, hf, t1.2, i4⟩
      have hs := file_len (numL ((b.drop 4).take 4)) l2
      rw [hf] at hs
      unfold encE
      rw [if_neg (by rw [i3]; decide), if_neg (by omega)]
    · cases h
theorem decS_pos : ∀ (k : Nat) (p : Option Nat) (r : List Nat) (e : Nat), decS k p r = .inl e → 0 < e
  | 0, _, _, _, h => by cases h
  | k + 1, p, r, e, h => by
    simp only [decS] at h
    split at h
    · cases h; decide
    split at h
    · cases h; decide
    split at h
    · cases h; decide
    split at h
    · cases h; decide
    generalize numL ((r.drop 4).take 4) = n at *
    cases hd : decS k (some (numL (r.take 4))) (r.drop (12 + n)) with
    | inl e' =>
      rw [hd] at h
      cases h
      exact decS_pos k _ _ _ hd
    | inr q => rw [hd] at h; cases h
theorem dec_pos {b : List Nat} {e : Nat} (h : decL b = .inl e) : 0 < e := by
  unfold decL at h
  split at h
  · cases h; decide
  split at h
  · cases h; decide
  split at h
  · cases h; decide
  split at h
  · cases h; decide
  split at h
  · cases h; decide
  cases hd : decS (numL ((b.drop 8).take 4)) none ((b.take (b.length - 4)).drop 12) with
  | inl e' =>
    rw [hd] at h
    cases h
    exact decS_pos _ _ _ _ hd
  | inr q =>
    rw [hd] at h
    simp only [endD] at h
    split at h
    · cases h
    · cases h; decide
/-- What is read is whole. -/
theorem dec_whole {b : List Nat} {q : Nat × List Sct} (h : decL b = .inr q) : okL b = true := by
  unfold decL at h
  split at h
  · cases h
  split at h
  · cases h
  split at h
  · cases h
  split at h
  · cases h
  rename_i hok
  simpa using hok
/-- A file of which something is another one within 32 bits is refused. -/
theorem dec_spoilt (ver : Nat) (l : List Sct) (hx : ∀ c ∈ fileL ver l, c < 256) (y : List Nat) (hy : ∀ c ∈ y, c < 256) (hl : y.length = (fileL ver l).length) (i : Nat) (h : ∀ j, j < i ∨ i + 4 ≤ j → y[j]? = (fileL ver l)[j]?) {q : Nat × List Sct} (hd : decL y = .inr q) : y = fileL ver l := by
  have h4 : 4 ≤ y.length := by rw [hl, fileL, withSum_len]; omega
  have h0 := (ok_iff y hy h4).1 (dec_whole hd)
  refine (near_seen (fileL ver l) y hl hx hy (8 * i) (fun k _ hk => ?_) ?_).1 h0
  · by_cases hj : k / 8 < i ∨ i + 4 ≤ k / 8
    · refine absurd ?_ hk
      unfold bitL
      rw [List.getD_eq_getElem?_getD, List.getD_eq_getElem?_getD, h _ hj]
    · omega
  · rw [fileL, withSum]
    exact (sum_ends _ (sumL_lt _)).2 rfl
end Go.Proofs.YtkahkkcbigifiaaDoor
