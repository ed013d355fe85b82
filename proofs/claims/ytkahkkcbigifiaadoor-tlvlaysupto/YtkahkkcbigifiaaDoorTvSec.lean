/-
  Lists of sections in memory; tags that ascend, by their places.
-/
import Derived.Test.YtkahkkcbigifiaaDoorTvMath
import Derived.Test.YtkahkkcbigifiaaDoorSmE
namespace Go.Proofs.YtkahkkcbigifiaaDoor
open Go.RowKit
set_option linter.unusedVariables false
set_option linter.unusedSimpArgs false

/-- Sections that can be read, in a block below B. -/
structure Secs (B : Nat) (w : World) (v : Value) (L : List Sct) : Prop where
  tags : ∀ s ∈ L, s.tag < 4294967296
  at' : ∃ a cap, v = .slice a L.length cap ∧ L.length ≤ cap ∧ cap ≤ 9223372036854775807 ∧
    (0 < L.length → ∃ b off, a = some ⟨b, off, none⟩ ∧ b < B ∧ ∀ j (hj : j < L.length), w.cell? ⟨b, off + j * 2, none⟩ = some (.int .u32 (L[j].tag : Nat)) ∧ ∃ u, w.cell? ⟨b, off + j * 2 + 1, none⟩ = some u ∧ Rd B w u L[j].b)
theorem Secs.bel {B : Nat} {w W : World} {v : Value} {L : List Sct} (h : Secs B w v L) (hb : Below B w W) : Secs B W v L := by
  obtain ⟨h1, a, cap, h2, h3, h4, h5⟩ := h
  refine ⟨h1, a, cap, h2, h3, h4, fun h0 => ?_⟩
  obtain ⟨b, off, e1, e2, e3⟩ := h5 h0
  refine ⟨b, off, e1, e2, fun j hj => ?_⟩
  obtain ⟨c1, u, c2, c3⟩ := e3 j hj
  exact ⟨(hb.cell (p := ⟨b, off + j * 2, none⟩) e2).trans c1, u, (hb.cell (p := ⟨b, off + j * 2 + 1, none⟩) e2).trans c2, c3.bel hb⟩
theorem Secs.mono {B B' : Nat} {w : World} {v : Value} {L : List Sct} (h : Secs B w v L) (hB : B ≤ B') : Secs B' w v L := by
  obtain ⟨h1, a, cap, h2, h3, h4, h5⟩ := h
  refine ⟨h1, a, cap, h2, h3, h4, fun h0 => ?_⟩
  obtain ⟨b, off, e1, e2, e3⟩ := h5 h0
  refine ⟨b, off, e1, Nat.lt_of_lt_of_le e2 hB, fun j hj => ?_⟩
  obtain ⟨c1, u, c2, c3⟩ := e3 j hj
  exact ⟨c1, u, c2, c3.mono hB⟩
theorem Secs.form {B : Nat} {w : World} {v : Value} {L : List Sct} (h : Secs B w v L) : ∃ a cap, v = .slice a L.length cap ∧ L.length ≤ cap ∧ cap ≤ 9223372036854775807 := by
  obtain ⟨h1, a, cap, h2, h3, h4, h5⟩ := h
  exact ⟨a, cap, h2, h3, h4⟩
theorem Secs.all {B : Nat} {w : World} {v : Value} {L : List Sct} (h : Secs B w v L) (h0 : 0 < L.length) : ∃ b off cap, v = .slice (some ⟨b, off, none⟩) L.length cap ∧ L.length ≤ cap ∧ cap ≤ 9223372036854775807 ∧ b < B ∧
    Hid (∀ j (hj : j < L.length), w.cell? ⟨b, off + j * 2, none⟩ = some (.int .u32 (L[j].tag : Nat)) ∧ ∃ u, w.cell? ⟨b, off + j * 2 + 1, none⟩ = some u ∧ Rd B w u L[j].b) := by
  obtain ⟨h1, a, cap, rfl, h3, h4, h5⟩ := h
  obtain ⟨b, off, rfl, e2, e3⟩ := h5 h0
  exact ⟨b, off, cap, rfl, h3, h4, e2, hide e3⟩
theorem Secs.none {B : Nat} {w : World} {v : Value} {L : List Sct} (h : Secs B w v L) (h0 : ¬ 0 < L.length) : L = [] ∧ ∃ a cap, v = .slice a 0 cap ∧ cap ≤ 9223372036854775807 := by
  have hl : L = [] := List.length_eq_zero_iff.1 (by omega)
  subst hl
  obtain ⟨h1, a, cap, rfl, h3, h4, h5⟩ := h
  exact ⟨rfl, a, cap, rfl, h4⟩
theorem Secs.nil (B : Nat) (w : World) : Secs B w (.slice Option.none 0 0) [] := ⟨(fun _ h => nomatch h), Option.none, 0, rfl, Nat.le_refl _, by decide, fun h => absurd h (by decide)⟩
/-- Each of them is one that may be. -/
theorem Secs.ok {B : Nat} {w : World} {v : Value} {L : List Sct} (h : Secs B w v L) (hl : ∀ s ∈ L, s.b.length < 4294967296) : ∀ s ∈ L, s.Ok := fun s hs => by
  obtain ⟨j, hj, rfl⟩ := List.getElem_of_mem hs
  refine ⟨h.tags _ hs, hl _ hs, ?_⟩
  obtain ⟨b, off, cap, _, _, _, _, HC⟩ := h.all (by omega)
  obtain ⟨_, u, _, c3⟩ := HC.out j hj
  exact c3.lt

/-- Tags that ascend, by their places. -/
theorem asc_from : ∀ (L : List Sct) (p : Option Nat), ascF p L = true ↔ (∀ q, p = some q → ∀ h : 0 < L.length, q < L[0].tag) ∧ ∀ j (h : j + 1 < L.length), L[j].tag < L[j + 1].tag
  | [], p => by simp [ascF]
  | s :: L, p => by
    rw [show ascF p (s :: L) = (upF p s.tag && ascF (some s.tag) L) from rfl, Bool.and_eq_true, asc_from L (some s.tag)]
    constructor
    · rintro ⟨h1, h2, h3⟩
      refine ⟨fun q hq _ => ?_, fun j hj => ?_⟩
      · subst hq
        simpa [upF] using h1
      · rcases j with _ | j
        · simpa using h2 s.tag rfl (by simpa using hj)
        · simpa using h3 j (by simpa using hj)
    · rintro ⟨h1, h2⟩
      refine ⟨?_, fun q hq hl => ?_, fun j hj => ?_⟩
      · cases p with
        | none => rfl
        | some q => exact decide_eq_true (h1 q rfl (by simp))
      · obtain rfl := Option.some.inj hq
        simpa using h2 0 (by simpa using hl)
      · exact h2 (j + 1) (by simpa using hj)
theorem asc_iff (L : List Sct) : ascF none L = true ↔ ∀ j (h : j + 1 < L.length), L[j].tag < L[j + 1].tag := by
  rw [asc_from]
  exact ⟨fun h => h.2, fun h => ⟨(fun q hq => by cases hq), h⟩⟩
def findF (tag : Nat) : List Sct → Option (List Nat)
  | [] => none
  | s :: l => if s.tag = tag then some s.b else findF tag l
def findE (tag : Nat) (L : List Sct) : Nat := match findF tag L with
  | none => 8
  | some _ => 0
def findB (tag : Nat) (L : List Sct) : List Nat := (findF tag L).getD []
theorem find_drop (tag : Nat) (L : List Sct) (k : Nat) (hk : k < L.length) : findF tag (L.drop k) = if L[k].tag = tag then some L[k].b else findF tag (L.drop (k + 1)) := by
  rw [List.drop_eq_getElem_cons hk]; rfl
theorem size_le : ∀ (L : List Sct) (k : Nat), sizeL (L.take k) ≤ sizeL L
  | [], k => by simp [sizeL]
  | s :: L, 0 => by
    have : ∀ L, 16 ≤ sizeL L := fun L => by induction L with
      | nil => exact Nat.le_refl _
      | cons s L ih => simp only [sizeL]; omega
    exact this _
  | s :: L, k + 1 => by
    have := size_le L k
    simp only [List.take_succ_cons, sizeL]
    omega
theorem size_succ : ∀ (L : List Sct) (k : Nat) (hk : k < L.length), sizeL (L.take (k + 1)) = sizeL (L.take k) + 12 + L[k].b.length
  | [], k, hk => by simp at hk
  | s :: L, 0, _ => by simp [sizeL]; omega
  | s :: L, k + 1, hk => by
    have := size_succ L k (by simpa using hk)
    simp only [List.take_succ_cons, sizeL, List.getElem_cons_succ]
    omega
theorem secs_succ : ∀ (L : List Sct) (k : Nat) (hk : k < L.length), secsL (L.take (k + 1)) = secsL (L.take k) ++ secL L[k]
  | [], k, hk => by simp at hk
  | s :: L, 0, _ => by simp [secsL]
  | s :: L, k + 1, hk => by
    have := secs_succ L k (by simpa using hk)
    simp only [List.take_succ_cons, secsL, List.getElem_cons_succ, this, List.append_assoc]
theorem b_le : ∀ (L : List Sct) (s : Sct), s ∈ L → s.b.length + 16 ≤ sizeL L
  | [], s, h => by cases h
  | t :: L, s, h => by
    have h16 : 16 ≤ sizeL L := by have := secs_len L; omega
    rcases List.mem_cons.1 h with rfl | h
    · simp only [sizeL]; omega
    · have := b_le L s h
      simp only [sizeL]; omega
def encB (ver : Nat) (L : List Sct) : List Nat := if encE L = 0 then fileL ver L else []
variable {P : Program} {ops : Array Oper} {rest : List Oper} {dst : Option Tmp} {ty t t2 : TypeId} {pos : String} {after : Array Edge} {a : Act} {w : World} {Q : Exit → Act → World → Prop} {K : Act → World → Prop} {x y z : Operand} {gd : Option (Nat × Bool)}
theorem y_any {S : World → Prop} (b j : Nat) (v : Value) (hS : ∀ V, S V → V.cell? ⟨b, j, none⟩ = some v) (d : TypeDesc) (hu : P.underlying t = some d) (hd : d.isRow = false) (hx : a.eval x = .pointer (some ⟨b, j, none⟩)) (hw : Region.wanted ⟨dst, .load t x, ty, pos, after, gd⟩ (yielded ops a.tmps) = true) :
    YieldsIf P ops S ⟨dst, .load t x, ty, pos, after, gd⟩ v a :=
  .inl ⟨hw, fun V hV => by
    have hcell := hS V hV
    have hrun : (loadVar t ⟨b, j, none⟩).run P V = .ok v V := by
      have hagg : (isAgg t).run P V = .ok false V := by
        unfold isAgg
        rw [Sem.run_bind, run_underlying hu V]
        cases d <;> simp_all
      simp [loadVar, Sem.run_bind, hagg, hcell]
    unfold execOp
    simp only [hx, Instr.loadAt, Instr.sureAddr, Sem.run_bind, Sem.run_pure, Result.andThen_ok, hrun]⟩
def EnRel (L : List Sct) (ver n N : Nat) (w0 : World) (bv iv : Value) (wr : World) : Prop := ∃ k : Nat, k ≤ n ∧ iv = .int .i64 (k : Nat) ∧ Own N 5 wr bv (openL ver n ++ secsL (L.take k)) ∧ Below N w0 wr
theorem pn_row : #[Value.int .u8 80, .int .u8 78, .int .u8 67, .int .u8 69] = (byV [80, 78, 67, 69]).toArray := rfl
theorem pn_lt : ∀ c ∈ [80, 78, 67, 69], c < 256 := by decide
theorem und_ts : Tryd.prog.underlying 31 = some (.slice 82) := Tryd.underlying31
theorem siz_ts : ∀ w : World, (sizeOf 82).run Tryd.prog w = .ok 2 w := fun w => by kernel_rfl
theorem size_ts : (Tryd.prog.info? 82).map (·.size) = some 2 := by kernel_rfl
theorem ex_idxT (b off len cap k : Nat) (hk : k < len) (hx : a.eval x = .slice (some ⟨b, off, none⟩) len cap) (hy : a.eval y = .int .i64 (k : Nat)) (w : World) :
    (execOp a.eval ⟨dst, .indexAddr 31 x y, ty, pos, after, gd⟩).run Tryd.prog w = .ok (.value (.pointer (some ⟨b, off + k * 2, none⟩))) w := by
  have hk1 : (0 : Int) ≤ (k : Int) ∧ (k : Int) < (len : Int) := by omega
  have hk2 : ¬ len ≤ k := by omega
  unfold execOp
  simp [hx, hy, Instr.indexAt, asIntOf, run_underlying und_ts, hk1, hk2, siz_ts, Addr.add_lit]
/-- A section is read, of cells that are known. -/
theorem op_ldt (b o tag : Nat) (u : Value) (c0 : w.cell? ⟨b, o, none⟩ = some (.int .u32 (tag : Nat))) (c1 : w.cell? ⟨b, o + 1, none⟩ = some u) (hx : a.eval x = .pointer (some ⟨b, o, none⟩))
    (k : wpList Tryd.prog ops Q rest (a.put dst (.agg #[.int .u32 (tag : Nat), u])) w) : wpList Tryd.prog ops Q (⟨dst, .load 82 x, ty, pos, after, none⟩ :: rest) a w :=
  wpList_load_mid rfl 82 x rfl b o hx [.int .u32 (tag : Nat), u] _ (fun j v hj => by
    rcases j with _ | _ | j
    · simp at hj; subst hj; exact c0
    · simp at hj; subst hj; exact c1
    · simp at hj) Tryd.underlying82 rfl size_ts k
theorem i64_u (m : Nat) (h : m < 9223372036854775808) : IntKind.u64.wrap ((m : Nat) : Int) = (m : Nat) := by rw [IntKind.wrap_u64]; omega
/-- What the law lays of the first k tags. -/
def ordL (tags : List Nat) : Nat → List Sct
  | 0 => []
  | k + 1 => ordL tags k ++ [⟨tags.getD k 0, [k % 256]⟩]
theorem ord_len (tags : List Nat) : ∀ k, (ordL tags k).length = k
  | 0 => rfl
  | k + 1 => by rw [ordL, List.length_append, ord_len tags k]; rfl
theorem ord_at (tags : List Nat) : ∀ (k j : Nat) (h : j < k), (ordL tags k)[j]? = some ⟨tags.getD j 0, [j % 256]⟩
  | 0, j, h => absurd h (by omega)
  | k + 1, j, h => by
    rw [ordL]
    by_cases hj : j < k
    · rw [List.getElem?_append_left (by rw [ord_len]; exact hj)]
      exact ord_at tags k j hj
    · have : j = k := by omega
      subst this
      rw [List.getElem?_append_right (by rw [ord_len]; exact Nat.le_refl _), ord_len, Nat.sub_self]
      rfl
theorem ord_get (tags : List Nat) (k j : Nat) (h : j < (ordL tags k).length) : (ordL tags k)[j] = ⟨tags.getD j 0, [j % 256]⟩ := by
  have := ord_at tags k j (by rw [ord_len] at h; exact h)
  rw [List.getElem?_eq_getElem h] at this
  exact Option.some.inj this
/-- Do the first k ascend? -/
def riseB (tags : List Nat) : Nat → Bool
  | 0 => true
  | k + 1 => riseB tags k && (decide (k = 0) || decide (tags.getD (k - 1) 0 < tags.getD k 0))
theorem rise_iff (tags : List Nat) : ∀ k, riseB tags k = true ↔ ∀ j, j + 1 < k → tags.getD j 0 < tags.getD (j + 1) 0
  | 0 => by simp [riseB]
  | k + 1 => by
    rw [riseB, Bool.and_eq_true, rise_iff tags k, Bool.or_eq_true, decide_eq_true_eq, decide_eq_true_eq]
    constructor
    · rintro ⟨h1, h2⟩ j hj
      by_cases hj2 : j + 1 < k
      · exact h1 j hj2
      · have : k = j + 1 := by omega
        subst this
        rcases h2 with h2 | h2
        · omega
        · exact h2
    · intro h
      refine ⟨fun j hj => h j (by omega), ?_⟩
      rcases k with _ | k
      · exact Or.inl rfl
      · exact Or.inr (h k (by omega))
theorem size_ord (tags : List Nat) : ∀ k, sizeL (ordL tags k) = 16 + 13 * k := by
  have app : ∀ (L : List Sct) (s : Sct), sizeL (L ++ [s]) = sizeL L + 12 + s.b.length := fun L s => by
    induction L with
    | nil => simp [sizeL]; omega
    | cons t L ih => simp only [List.cons_append, sizeL, ih]; omega
  intro k
  induction k with
  | zero => rfl
  | succ k ih =>
    rw [ordL, app, ih]
    simp only [List.length_singleton]
    omega
theorem asc_ord (tags : List Nat) (k : Nat) : ascF none (ordL tags k) = riseB tags k := by
  have h : ascF none (ordL tags k) = true ↔ riseB tags k = true := by
    rw [asc_iff, rise_iff]
    constructor
    · intro h j hj
      have := h j (by rw [ord_len]; exact hj)
      rw [ord_get, ord_get] at this
      exact this
    · intro h j hj
      rw [ord_get, ord_get]
      rw [ord_len] at hj
      exact h j hj
  cases h1 : ascF none (ordL tags k) <;> cases h2 : riseB tags k <;> simp_all
theorem enc_ord (tags : List Nat) (k : Nat) (hk : k ≤ 50) : encE (ordL tags k) = if riseB tags k = true then 0 else 31 := by
  unfold encE
  rw [asc_ord, ord_len, size_ord]
  cases riseB tags k
  · rfl
  · rw [if_neg (by decide), if_neg (by omega), if_pos rfl]
theorem find_from (tag : Nat) (L : List Sct) : ∀ i, i ≤ L.length → (∀ j (h : j < L.length), j < i → L[j].tag ≠ tag) → findF tag L = findF tag (L.drop i)
  | 0, _, _ => by rw [List.drop_zero]
  | i + 1, hi, h => by
    rw [find_from tag L i (by omega) (fun j hj hji => h j hj (by omega)), find_drop tag L i (by omega), if_neg (h i (by omega) (by omega))]
theorem find_at (tag : Nat) (L : List Sct) (i : Nat) (hi : i < L.length) (h : ∀ j (hj : j < L.length), j < i → L[j].tag ≠ tag) (ht : L[i].tag = tag) : findE tag L = 0 ∧ findB tag L = L[i].b := by
  have : findF tag L = some L[i].b := by rw [find_from tag L i (by omega) h, find_drop tag L i hi, if_pos ht]
  unfold findE findB
  rw [this]
  exact ⟨rfl, rfl⟩
theorem find_not (tag : Nat) (L : List Sct) (h : ∀ j (hj : j < L.length), L[j].tag ≠ tag) : findE tag L = 8 := by
  have : findF tag L = none := by
    rw [find_from tag L L.length (Nat.le_refl _) (fun j hj _ => h j hj), List.drop_length]
    rfl
  unfold findE
  rw [this]
end Go.Proofs.YtkahkkcbigifiaaDoor
