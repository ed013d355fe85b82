/-
  Lists of sections of one's own whose bytes lie in any other block; what make and append make of them; bytes of one's own with room.
-/
import Derived.Test.YtkahkkcbigifiaaDoorTvOwn
import Derived.Test.YtkahkkcbigifiaaDoorSmTl
import Derived.Maps.AppendAt
namespace Go.Proofs.YtkahkkcbigifiaaDoor
open Go.RowKit
set_option linter.unusedVariables false
set_option linter.unusedSimpArgs false

/-- Bytes that can be read, not in v's block. -/
def OwnX (w : World) (v u : Value) (l : List Nat) : Prop :=
  (∀ c ∈ l, c < 256) ∧ ∃ a cap, u = .slice a l.length cap ∧ l.length ≤ cap ∧ cap ≤ 9223372036854775807 ∧
    (0 < l.length → ∃ b off, a = some ⟨b, off, none⟩ ∧ v.ownBlock ≠ some b ∧ ∀ j (hj : j < l.length), w.cell? ⟨b, off + j, none⟩ = some (.int .u8 (l[j] : Nat)))
theorem OwnX.rd {w : World} {v u : Value} {l : List Nat} (h : OwnX w v u l) : Rd w.heap.size w u l := by
  obtain ⟨h1, a, cap, h2, h3, h4, h5⟩ := h
  refine ⟨h1, a, cap, h2, h3, h4, fun h0 => ?_⟩
  obtain ⟨b, off, e1, e2, e3⟩ := h5 h0
  exact ⟨b, off, e1, lt_of_cell (e3 0 h0), e3⟩
theorem Rd.ownX {B : Nat} {w : World} {v u : Value} {l : List Nat} (h : Rd B w u l) (hv : ∀ k, v.ownBlock = some k → B ≤ k) : OwnX w v u l := by
  obtain ⟨h1, a, cap, h2, h3, h4, h5⟩ := h
  refine ⟨h1, a, cap, h2, h3, h4, fun h0 => ?_⟩
  obtain ⟨b, off, e1, e2, e3⟩ := h5 h0
  exact ⟨b, off, e1, fun hh => by have := hv b hh; omega, e3⟩
/-- Bytes read in new blocks. -/
theorem OwnX.new {N : Nat} {w : World} {v u : Value} {l : List Nat} (h : OwnX w v u l) {W : World} (hb : Below w.heap.size w W) : OwnX W v u l := by
  obtain ⟨h1, a, cap, h2, h3, h4, h5⟩ := h
  refine ⟨h1, a, cap, h2, h3, h4, fun h0 => ?_⟩
  obtain ⟨b, off, e1, e2, e3⟩ := h5 h0
  exact ⟨b, off, e1, e2, fun j hj => (hb.cell (p := ⟨b, off + j, none⟩) (lt_of_cell (e3 j hj))).trans (e3 j hj)⟩
/-- Sections of one's own, from N on, of type e. -/
def OwnU (N : Nat) (e : TypeId) (w : World) (v : Value) (L : List Sct) : Prop :=
  (∀ s ∈ L, s.tag < 4294967296) ∧ ∃ us : List Value, us.length = L.length ∧ (∀ j (h : j < us.length) (h' : j < L.length), OwnX w v us[j] L[j].b) ∧ w.ownsRow N e 2 v L.length (secCells L us)
theorem OwnU.nil (N : Nat) (e : TypeId) (w : World) : OwnU N e w (.slice none 0 0) [] := ⟨(fun _ h => nomatch h), [], rfl, (fun j h => absurd h (by simp)), World.ownsRow_nil w N e 2⟩
theorem OwnU.bl {N : Nat} {e : TypeId} {w W : World} {v : Value} {L : List Sct} (h : OwnU N e w v L) (hb : Below w.heap.size w W) : OwnU N e W v L := by
  obtain ⟨h0, us, h1, h2, h3⟩ := h
  refine ⟨h0, us, h1, fun j hj hj' => (h2 j hj hj').new (N := 0) hb, h3.1, ?_⟩
  rcases h3.2 with hn | ⟨g, cap, cur, rfl, h4, h5, hrest⟩
  · exact .inl hn
  · exact .inr ⟨g, cap, cur, rfl, h4, (hb.block g (Array.getElem?_eq_some_iff.1 h5).1).trans h5, hrest⟩
theorem OwnU.secs {N : Nat} {e : TypeId} {w : World} {v : Value} {L : List Sct} (h : OwnU N e w v L) : Secs w.heap.size w v L := by
  obtain ⟨h0, us, h1, h2, h3⟩ := h
  have ho : OwnSecs N w.heap.size e w v L := ⟨h0, us, h1, fun j hj hj' => (h2 j hj hj').rd, h3⟩
  exact ho.secs (Nat.le_refl _)
theorem OwnU.form {N : Nat} {e : TypeId} {w : World} {v : Value} {L : List Sct} (h : OwnU N e w v L) : ∃ ad cap, v = .slice ad L.length cap ∧ L.length ≤ cap ∧ cap ≤ 9223372036854775807 := h.secs.form
theorem OwnU.lt {N : Nat} {e : TypeId} {w : World} {v : Value} {L : List Sct} (h : OwnU N e w v L) : ∀ k, v.ownBlock = some k → N ≤ k ∧ k < w.heap.size := fun k hk => by
  obtain ⟨h0, us, h1, h2, h3⟩ := h
  exact h3.lt k hk
variable {P : Program} {ops : Array Oper} {rest : List Oper} {dst : Option Tmp} {ty t t2 : TypeId} {pos : String} {after : Array Edge} {a : Act} {w : World} {Q : Exit → Act → World → Prop} {K : Act → World → Prop} {x y : Operand} {gd : Option (Nat × Bool)}
theorem wp_app2u {N : Nat} {e : TypeId} (i : TypeInfo) (z : Value) (ht : P.underlying t = some (.slice e)) (hi : P.info? e = some i) (hz : i.zero = some z) (hs : i.size = 2) (hb : i.bytes ≤ 64) (hzs : z.cells.size = 2) {v : Value} {L : List Sct} (s : Sct) {u : Value} (b sc : Nat) (ho : OwnU N e w v L) (hst : s.tag < 4294967296) (hru : OwnX w v u s.b) (hn : L.length ≤ 100000) (hN : N ≤ w.heap.size)
    (hc0 : w.cell? ⟨b, 0, none⟩ = some (.int .u32 (s.tag : Nat))) (hc1 : w.cell? ⟨b, 1, none⟩ = some u) (hx : a.eval x = v) (hy : a.eval y = .slice (some ⟨b, 0, none⟩) 1 sc)
    (k : ∀ W v', OwnU N e W v' (L ++ [s]) → w.grownBy W v.ownBlock → K (a.put dst v') W) :
    Oper.wp P ⟨dst, .call { callee := .builtin .append, args := #[x, y], argTypes := #[t, t] }, t, pos, after, none⟩ a w K Q := by
  have hol := ho.lt
  obtain ⟨h0, us, h1, h2, h3⟩ := ho
  obtain ⟨v', W, a1, a2, a3, _, a5⟩ := run_append_own_at (P := P) (w := w) N t t e i z 2 i.bytes ht hi hz hs rfl hzs (by decide) v L.length (secCells L us) h3 ⟨b, 0, none⟩ 1 sc [.int .u32 (s.tag : Nat), u] rfl (fun j q hj => by
    rcases j with _ | _ | j
    · simp at hj; subst hj; rw [Addr.add_lit]; exact hc0
    · simp at hj; subst hj; rw [Addr.add_lit]; exact hc1
    · simp at hj) (fun q hq => by
    simp at hq
    rcases hq with rfl | rfl
    · rfl
    · exact oneC_slice hru.rd) (by simp only [maxLen]; omega) (Nat.le_trans (Nat.mul_le_mul (show L.length + 1 ≤ 100001 by omega) hb) (by decide)) hN
  unfold Oper.wp
  have : (execOp a.eval ⟨dst, .call { callee := .builtin .append, args := #[x, y], argTypes := #[t, t] }, t, pos, after, none⟩).run P w = .ok (.value v') W := by
    simp [execOp, resolve, invoke, builtin, hx, hy, a1, Result.andThen]
  rw [this, Oper.upon_value]
  have keep : ∀ u' l, OwnX w v u' l → OwnX W v' u' l := fun u' l hc => by
    obtain ⟨q1, qa, qc, q2, q3, q4, q5⟩ := hc
    refine ⟨q1, qa, qc, q2, q3, q4, fun h0 => ?_⟩
    obtain ⟨b', off, r1, r2, r3⟩ := q5 h0
    have hlt : b' < w.heap.size := lt_of_cell (r3 0 h0)
    refine ⟨b', off, r1, fun hv => ?_, fun j hj => (World.cell?_of_block (a := ⟨b', off + j, none⟩) (a3.block b' hlt (fun hh => r2 hh.symm))).trans (r3 j hj)⟩
    rcases a5 with a5 | a5
    · exact r2 (a5.symm.trans hv)
    · have := Option.some.inj (a5.symm.trans hv)
      omega
  refine k W v' ⟨fun q hq => ?_, us ++ [u], by simp [h1], fun j hj hj' => ?_, by rw [List.length_append, List.length_singleton, secCells_app L us s u h1]; exact a2⟩ a3
  · rcases List.mem_append.1 hq with hq | hq
    · exact h0 q hq
    · rw [List.mem_singleton.1 hq]; exact hst
  · by_cases hj2 : j < us.length
    · have := keep _ _ (h2 j hj2 (by omega))
      rw [List.getElem_append_left hj2, List.getElem_append_left (by omega)]
      exact this
    · have hj3 : j = us.length := by simp at hj; omega
      subst hj3
      have := keep _ _ hru
      simp only [List.getElem_append_right (Nat.le_refl _), Nat.sub_self, List.getElem_singleton]
      simp only [h1, List.getElem_append_right (Nat.le_refl _), Nat.sub_self, List.getElem_singleton]
      exact this
theorem op_app2u {N : Nat} {e : TypeId} (i : TypeInfo) (z : Value) (ht : P.underlying t = some (.slice e)) (hi : P.info? e = some i) (hz : i.zero = some z) (hs : i.size = 2) (hb : i.bytes ≤ 64) (hzs : z.cells.size = 2) {v : Value} {L : List Sct} (s : Sct) {u : Value} (b sc : Nat) (ho : OwnU N e w v L) (hst : s.tag < 4294967296) (hru : OwnX w v u s.b) (hn : L.length ≤ 100000) (hN : N ≤ w.heap.size)
    (hc0 : w.cell? ⟨b, 0, none⟩ = some (.int .u32 (s.tag : Nat))) (hc1 : w.cell? ⟨b, 1, none⟩ = some u) (hx : a.eval x = v) (hy : a.eval y = .slice (some ⟨b, 0, none⟩) 1 sc)
    (k : ∀ W v', OwnU N e W v' (L ++ [s]) → w.grownBy W v.ownBlock → wpList P ops Q rest (a.put dst v') W) :
    wpList P ops Q (⟨dst, .call { callee := .builtin .append, args := #[x, y], argTypes := #[t, t] }, t, pos, after, none⟩ :: rest) a w :=
  wpList_plain rfl fun K hK => wp_app2u i z ht hi hz hs hb hzs s b sc ho hst hru hn hN hc0 hc1 hx hy fun W v' h1 h2 => hK _ _ (k W v' h1 h2)
/-- make of no section, with room. -/
theorem op_mk2 {n : Nat} {k2 : IntKind} (N : Nat) {e : TypeId} (i : TypeInfo) (z : Value) (ht : P.underlying t = some (.slice e)) (hi : P.info? e = some i) (hz : i.zero = some z) (hs : i.size = 2) (hb : i.bytes ≤ 64) (hn : n ≤ 1000000) (hN : N ≤ w.heap.size) (hx : a.eval x = .int .i64 0) (hy : a.eval y = .int k2 (n : Nat))
    (k : ∀ W v', OwnU N e W v' [] → Below w.heap.size w W → wpList P ops Q rest (a.put dst v') W) :
    wpList P ops Q (⟨dst, .makeSlice t x y, ty, pos, after, none⟩ :: rest) a w := by
  obtain ⟨W, hr, ho, hg⟩ := run_make_own (P := P) w N t e i z 2 ht hi hz hs .i64 k2 n (Nat.le_trans (Nat.mul_le_mul hb hn) (by decide)) (by simp only [maxLen]; omega) hN
  refine wpList_plain rfl fun K hK => ?_
  unfold Oper.wp execOp
  simp only [hx, hy, Sem.run_bind, Sem.run_pure, hr, Result.andThen_ok]
  exact hK _ _ (k _ _ ⟨(fun _ h => nomatch h), [], rfl, (fun j h => absurd h (by simp)), ho⟩ ((Below.refl _ w).grown hg (Nat.le_refl _) (fun k hk => by cases hk)))
/-- make of no byte, with room. -/
theorem op_mk1 {n : Nat} {k2 : IntKind} (N : Nat) {e : TypeId} (i : TypeInfo) (ht : P.underlying t = some (.slice e)) (hi : P.info? e = some i) (hz : i.zero = some (.int .u8 0)) (hs : i.size = 1) (hb : i.bytes = 1) (hn : n ≤ 281474976710656) (hN : N ≤ w.heap.size) (hx : a.eval x = .int .i64 0) (hy : a.eval y = .int k2 (n : Nat))
    (k : ∀ W, Own N e W (.slice (some ⟨w.heap.size, 0, none⟩) 0 n) [] → Below w.heap.size w W → wpList P ops Q rest (a.put dst (.slice (some ⟨w.heap.size, 0, none⟩) 0 n)) W) :
    wpList P ops Q (⟨dst, .makeSlice t x y, ty, pos, after, none⟩ :: rest) a w := by
  obtain ⟨W, hr, ho, hg⟩ := run_make_own (P := P) w N t e i _ 1 ht hi hz hs .i64 k2 n (by rw [hb]; omega) (by simp only [maxLen]; omega) hN
  refine wpList_plain rfl fun K hK => ?_
  unfold Oper.wp execOp
  simp only [hx, hy, Sem.run_bind, Sem.run_pure, hr, Result.andThen_ok]
  exact hK _ _ (k _ ⟨(fun _ h => nomatch h), ho⟩ ((Below.refl _ w).grown hg (Nat.le_refl _) (fun k hk => by cases hk)))
/-- A string's bytes put behind bytes of one's own that have room for them. -/
theorem op_appS {N g n c : Nat} {e t1 : TypeId} {l : List Nat} (i : TypeInfo) (ht : P.underlying t = some (.slice e)) (hts : P.underlying t1 = some .string) (hi : P.info? e = some i) (hs : i.size = 1) (ho : Own N e w (.slice (some ⟨g, 0, none⟩) n c) l) (s : ByteArray) (m : List Nat) (hm : byteCells s = byV m) (hml : ∀ x ∈ m, x < 256) (hsz : s.size = m.length) (hroom : n + m.length ≤ c) (hx : a.eval x = .slice (some ⟨g, 0, none⟩) n c) (hy : a.eval y = .string s)
    (k : ∀ W, Own N e W (.slice (some ⟨g, 0, none⟩) (n + m.length) c) (l ++ m) → w.grownBy W (some g) → wpList P ops Q rest (a.put dst (.slice (some ⟨g, 0, none⟩) (n + m.length) c)) W) :
    wpList P ops Q (⟨dst, .call { callee := .builtin .append, args := #[x, y], argTypes := #[t, t1] }, t, pos, after, none⟩ :: rest) a w := by
  obtain ⟨h0, h1, h2⟩ := ho
  rcases h2 with ⟨he, _⟩ | ⟨g', cap, cur, he, h3, h4, h5, h6, h7, h8⟩
  · cases he
  injection he with e1 e2 e3
  injection e1 with e1
  injection e1 with e1
  subst e1 e3
  have hr : RowAt w g cur e := h4
  have hbl : (byteCells s).length = m.length := by rw [hm, byV_len]
  have hth := hr.thereAt (n * 1) m.length (by omega)
  have hrun := run_append_room_src (P := P) w t t1 t e i ht hi g 0 n c (.string s) s.size (byteCells s) (by rw [hs]; exact Src.ofString w hts s) (by rw [hsz]; exact hroom) (fun j hj => by
    rw [hs, Nat.zero_add]; exact (hth j (by omega)).1) (fun j hj => by
    rw [hs, Nat.zero_add]; exact (hth j (by omega)).2)
  rw [hs, hsz, hm, Nat.zero_add, Nat.mul_one] at hrun
  have hput : putAll cur n (byV m) = (cur.toList.take n ++ byV m ++ cur.toList.drop (n + (byV m).length)).toArray := by
    have := putAll_list (byV m) cur.toList n (by have hcl : cur.toList.length = cur.size := Array.length_toList; rw [byV_len]; omega)
    simpa using this
  have hr2 : RowAt (w.setCells g n (byV m)) g (putAll cur n (byV m)) e := RowAt.puts (byV m) n hr
  have hon : Only g w (w.setCells g n (byV m)) := only_setCells g n (byV m) w
  have hbl0 : Below 0 w (w.setCells g n (byV m)) := hon.bel 0 w (Nat.zero_le _) (Below.refl _ w)
  refine wpList_plain rfl fun K hK => ?_
  have hex : (execOp a.eval ⟨dst, .call { callee := .builtin .append, args := #[x, y], argTypes := #[t, t1] }, t, pos, after, none⟩).run P w = .ok (.value (.slice (some ⟨g, 0, none⟩) (n + m.length) c)) (w.setCells g n (byV m)) := by
    simp [execOp, resolve, invoke, builtin, hx, hy, hrun, Result.andThen]
  unfold Oper.wp
  rw [hex, Oper.upon_value]
  refine hK _ _ (k _ ⟨fun z hz => ?_, ?_, .inr ⟨g, c, _, ?_, h3, hr2, ?_, h6, ?_, ?_⟩⟩ ⟨hbl0.os, hbl0.tape, hbl0.output, by rw [hon.size]; exact Nat.le_refl _, fun k hk hne => hon.row k (fun hh => hne (by rw [hh]))⟩)
  · rcases List.mem_append.1 hz with hz | hz
    · exact h0 z hz
    · exact hml z hz
  · rw [byV_len, Nat.mul_one]
  · rw [List.length_append, ← e2]
  · rw [List.length_append, ← e2]; exact hroom
  · rw [hput]
    simp only [List.size_toArray, List.length_append, List.length_take, List.length_drop, byV_len, Array.length_toList]
    omega
  · rw [hput, Nat.mul_one, List.length_append, byV_app]
    have e9 : cur.toList.take n = byV l := by rw [e2, ← h8, Nat.mul_one]
    rw [e9]
    have e10 : (byV l ++ byV m).length = l.length + m.length := by rw [List.length_append, byV_len, byV_len]
    show List.take (l.length + m.length) (byV l ++ byV m ++ _) = _
    rw [← e10, List.take_left]
end Go.Proofs.YtkahkkcbigifiaaDoor
