/-
  Bytes in memory: those that can be read, those of one's own; what cutting, copying, appending and telling them as a string make.
-/
import Derived.Test.YtkahkkcbigifiaaDoorSmOps
import Derived.Laws.BytesArg
import Derived.Laws.AppendOwn
import Derived.Deep.AppendSrc
import Derived.Laws.MakeOwn
import Derived.Laws.IdiomCopy
import Derived.Deep.RegionHeldLaw
namespace Go.Proofs.YtkahkkcbigifiaaDoor
open Go.RowKit
set_option linter.unusedVariables false
set_option linter.unusedSimpArgs false
variable {P : Program} {ops : Array Oper} {rest : List Oper} {dst : Option Tmp} {ty t : TypeId} {pos : String} {after : Array Edge} {a : Act} {w : World} {Q : Exit → Act → World → Prop} {K : Act → World → Prop} {x y : Operand} {gd : Option (Nat × Bool)}

def byV (l : List Nat) : List Value := l.map fun n => .int .u8 (n : Nat)
theorem byV_len (l : List Nat) : (byV l).length = l.length := by simp [byV]
theorem byV_app (l m : List Nat) : byV (l ++ m) = byV l ++ byV m := by simp [byV]
theorem byV_one (l : List Nat) : ∀ u ∈ byV l, u.oneCell' = true := by
  intro u hu
  obtain ⟨_, _, rfl⟩ := List.mem_map.1 hu
  rfl
theorem byV_at {l : List Nat} {j : Nat} {u : Value} (h : (byV l)[j]? = some u) : ∃ hj : j < l.length, u = .int .u8 (l[j] : Nat) := by
  have hj : j < l.length := by have := (List.getElem?_eq_some_iff.1 h).1; rwa [byV_len] at this
  refine ⟨hj, ?_⟩
  rw [byV, List.getElem?_map, List.getElem?_eq_getElem hj] at h
  exact (Option.some.inj h).symm
theorem byV_get {l : List Nat} {j : Nat} (hj : j < l.length) : (byV l)[j]? = some (.int .u8 (l[j] : Nat)) := by
  rw [byV, List.getElem?_map, List.getElem?_eq_getElem hj]; rfl

/-- Bytes that can be read, in a block below B. -/
structure Rd (B : Nat) (w : World) (v : Value) (l : List Nat) : Prop where
  lt : ∀ x ∈ l, x < 256
  at' : ∃ a cap, v = .slice a l.length cap ∧ l.length ≤ cap ∧ cap ≤ 9223372036854775807 ∧
    (0 < l.length → ∃ b off, a = some ⟨b, off, none⟩ ∧ b < B ∧ ∀ j (hj : j < l.length), w.cell? ⟨b, off + j, none⟩ = some (.int .u8 (l[j] : Nat)))
theorem Rd.bel {B : Nat} {w W : World} {v : Value} {l : List Nat} (h : Rd B w v l) (hb : Below B w W) : Rd B W v l := by
  obtain ⟨h1, a, cap, h2, h3, h4, h5⟩ := h
  refine ⟨h1, a, cap, h2, h3, h4, fun h0 => ?_⟩
  obtain ⟨b, off, e1, e2, e3⟩ := h5 h0
  exact ⟨b, off, e1, e2, fun j hj => (hb.cell (p := ⟨b, off + j, none⟩) e2).trans (e3 j hj)⟩
theorem Rd.mono {B B' : Nat} {w : World} {v : Value} {l : List Nat} (h : Rd B w v l) (hB : B ≤ B') : Rd B' w v l := by
  obtain ⟨h1, a, cap, h2, h3, h4, h5⟩ := h
  refine ⟨h1, a, cap, h2, h3, h4, fun h0 => ?_⟩
  obtain ⟨b, off, e1, e2, e3⟩ := h5 h0
  exact ⟨b, off, e1, Nat.lt_of_lt_of_le e2 hB, e3⟩
theorem Rd.only {B g : Nat} {w W : World} {v : Value} {l : List Nat} (h : Rd B w v l) (ho : Only g w W) (hg : B ≤ g) : Rd B W v l := by
  obtain ⟨h1, a, cap, h2, h3, h4, h5⟩ := h
  refine ⟨h1, a, cap, h2, h3, h4, fun h0 => ?_⟩
  obtain ⟨b, off, e1, e2, e3⟩ := h5 h0
  exact ⟨b, off, e1, e2, fun j hj => (World.cell?_of_block (a := ⟨b, off + j, none⟩) (ho.row b (by omega))).trans (e3 j hj)⟩
theorem Rd.dr {B : Nat} {w : World} {v : Value} {l : List Nat} (h : Rd B w v l) : Rd B w.drew v l := ⟨h.lt, h.at'⟩
theorem Rd.top {B : Nat} {w : World} {v : Value} {l : List Nat} (h : Rd B w v l) : Rd w.heap.size w v l := by
  obtain ⟨h1, a, cap, h2, h3, h4, h5⟩ := h
  refine ⟨h1, a, cap, h2, h3, h4, fun h0 => ?_⟩
  obtain ⟨b, off, e1, e2, e3⟩ := h5 h0
  exact ⟨b, off, e1, lt_of_cell (e3 0 h0), e3⟩
/-- The first n, and those from n on. -/
def sTo (v : Value) (n : Nat) : Value := match v with
  | .slice a _ cap => .slice a n cap
  | v => v
def sFrom (v : Value) (n : Nat) : Value := match v with
  | .slice a len cap => .slice (if cap = n then a else a.map (·.add n)) (len - n) (cap - n)
  | v => v
theorem Rd.to {B : Nat} {w : World} {v : Value} {l : List Nat} (h : Rd B w v l) {n : Nat} (hn : n ≤ l.length) : Rd B w (sTo v n) (l.take n) := by
  obtain ⟨h1, a, cap, rfl, h3, h4, h5⟩ := h
  have e : (l.take n).length = n := by rw [List.length_take]; omega
  refine ⟨fun x hx => h1 x (List.mem_of_mem_take hx), a, cap, by rw [e]; rfl, by omega, h4, fun h0 => ?_⟩
  obtain ⟨b, off, e1, e2, e3⟩ := h5 (by omega)
  refine ⟨b, off, e1, e2, fun j hj => ?_⟩
  rw [List.getElem_take]
  exact e3 j (by omega)
theorem Rd.frm {B : Nat} {w : World} {v : Value} {l : List Nat} (h : Rd B w v l) {n : Nat} (hn : n ≤ l.length) : Rd B w (sFrom v n) (l.drop n) := by
  obtain ⟨h1, a, cap, rfl, h3, h4, h5⟩ := h
  have e : (l.drop n).length = l.length - n := by rw [List.length_drop]
  refine ⟨fun x hx => h1 x (List.mem_of_mem_drop hx), (if cap = n then a else a.map (·.add n)), cap - n, by rw [e]; rfl, by omega, by omega, fun h0 => ?_⟩
  obtain ⟨b, off, e1, e2, e3⟩ := h5 (by omega)
  subst e1
  refine ⟨b, off + n, ?_, e2, fun j hj => ?_⟩
  · rw [if_neg (by omega), Option.map_some, Addr.add_lit]
  · rw [List.getElem_drop, Nat.add_assoc]
    exact e3 (n + j) (by omega)
theorem Rd.form {B : Nat} {w : World} {v : Value} {l : List Nat} (h : Rd B w v l) : ∃ a cap, v = .slice a l.length cap ∧ l.length ≤ cap ∧ cap ≤ 9223372036854775807 := by
  obtain ⟨h1, a, cap, h2, h3, h4, h5⟩ := h
  exact ⟨a, cap, h2, h3, h4⟩
/-- One of them. -/
theorem Rd.some1 {B : Nat} {w : World} {v : Value} {l : List Nat} (h : Rd B w v l) (h0 : 0 < l.length) : ∃ b off cap, v = .slice (some ⟨b, off, none⟩) l.length cap ∧ b < B ∧ ∀ j (hj : j < l.length), w.cell? ⟨b, off + j, none⟩ = some (.int .u8 (l[j] : Nat)) := by
  obtain ⟨h1, a, cap, rfl, h3, h4, h5⟩ := h
  obtain ⟨b, off, rfl, e2, e3⟩ := h5 h0
  exact ⟨b, off, cap, rfl, e2, e3⟩
theorem Rd.all {B : Nat} {w : World} {v : Value} {l : List Nat} (h : Rd B w v l) (h0 : 0 < l.length) : ∃ b off cap, v = .slice (some ⟨b, off, none⟩) l.length cap ∧ l.length ≤ cap ∧ cap ≤ 9223372036854775807 ∧ b < B ∧ Hid (∀ j (hj : j < l.length), w.cell? ⟨b, off + j, none⟩ = some (.int .u8 (l[j] : Nat))) ∧ Hid (∀ x ∈ l, x < 256) := by
  obtain ⟨h1, a, cap, rfl, h3, h4, h5⟩ := h
  obtain ⟨b, off, rfl, e2, e3⟩ := h5 h0
  exact ⟨b, off, cap, rfl, h3, h4, e2, hide e3, hide h1⟩
theorem Rd.none {B : Nat} {w : World} {v : Value} {l : List Nat} (h : Rd B w v l) (h0 : ¬ 0 < l.length) : l = [] ∧ ∃ a cap, v = .slice a 0 cap ∧ cap ≤ 9223372036854775807 := by
  have hl : l = [] := List.length_eq_zero_iff.1 (by omega)
  subst hl
  obtain ⟨h1, a, cap, rfl, h3, h4, h5⟩ := h
  exact ⟨rfl, a, cap, rfl, h4⟩
theorem ex_to {B : Nat} {w0 : World} {v : Value} {l : List Nat} (h : Rd B w0 v l) {n : Nat} (hn : n ≤ l.length) (ht : P.underlying t = some (.slice (P.elem t))) (hs : ∀ w, (sizeOf (P.elem t)).run P w = .ok 1 w) (hx : a.eval x = v) (hy : a.eval y = .int .i64 (n : Nat)) (w : World) :
    (execOp a.eval ⟨dst, .slice t x none (some y) none, ty, pos, after, gd⟩).run P w = .ok (.value (sTo v n)) w := by
  obtain ⟨ad, cap, rfl, h3, h4⟩ := h.form
  unfold execOp
  simp only [hx, hy, Option.map_some, Option.map_none, Sem.run_bind, Sem.run_pure, run_sliceAt_slice w t _ _ _ _ ht, run_slice_h w t ad l.length cap ht .i64 (n : Nat) (by omega) (by omega), hs, Result.andThen_ok, sliced]
  cases ad <;> simp [sTo, Addr.add_zero']
theorem ex_frm {B : Nat} {w0 : World} {v : Value} {l : List Nat} (h : Rd B w0 v l) {n : Nat} (hn : n ≤ l.length) (ht : P.underlying t = some (.slice (P.elem t))) (hs : ∀ w, (sizeOf (P.elem t)).run P w = .ok 1 w) (hx : a.eval x = v) (hy : a.eval y = .int .i64 (n : Nat)) (w : World) :
    (execOp a.eval ⟨dst, .slice t x (some y) none none, ty, pos, after, gd⟩).run P w = .ok (.value (sFrom v n)) w := by
  obtain ⟨ad, cap, rfl, h3, h4⟩ := h.form
  unfold execOp
  simp only [hx, hy, Option.map_some, Option.map_none, Sem.run_bind, Sem.run_pure, run_sliceAt_slice w t _ _ _ _ ht, run_slice_l w t ad l.length cap ht .i64 (n : Nat) (by omega) (by omega), hs, Result.andThen_ok, sliced]
  simp [sFrom]
/-- The bytes as a string. -/
def strB (l : List Nat) : ByteArray := strOfNums (l.map fun n : Nat => (n : Int))
theorem strB_inj {l m : List Nat} (hl : ∀ x ∈ l, x < 256) (hm : ∀ x ∈ m, x < 256) : ((strB l).toList == (strB m).toList) = decide (l = m) := by
  have key : ∀ (l m : List Nat), (∀ x ∈ l, x < 256) → (∀ x ∈ m, x < 256) → l.map (fun n => UInt8.ofNat n) = m.map (fun n => UInt8.ofNat n) → l = m := by
    intro l
    induction l with
    | nil => intro m _ _ h; cases m with
      | nil => rfl
      | cons _ _ => simp at h
    | cons a l ih => intro m hl hm h; cases m with
      | nil => simp at h
      | cons b m =>
        simp only [List.map_cons, List.cons.injEq] at h
        have ha := hl a (by simp)
        have hb := hm b (by simp)
        have h1 := congrArg UInt8.toNat h.1
        rw [UInt8.toNat_ofNat', UInt8.toNat_ofNat'] at h1
        rw [ih m (fun x hx => hl x (by simp [hx])) (fun x hx => hm x (by simp [hx])) h.2, show a = b by omega]
  have e : ∀ l : List Nat, (strB l).data.toList = l.map (fun n => UInt8.ofNat n) := by
    intro l
    unfold strB
    rw [strOfNums_data, List.map_map]
    rfl
  by_cases h : l = m
  · subst h; simp
  · rw [decide_eq_false h]
    refine Bool.eq_false_iff.2 fun hb => h (key l m hl hm ?_)
    have h2 : (strB l).toList = (strB m).toList := by simpa using hb
    rw [ByteArray.toList_eq, ByteArray.toList_eq] at h2
    rw [← e l, ← e m, h2]
theorem ex_str {B : Nat} {w : World} {v : Value} {l : List Nat} (h : Rd B w v l) {ts : TypeId} (e : TypeId) (ht : P.underlying t = some (.slice e)) (he : P.underlying e = some (.int .u8)) (hd : P.underlying ts = some .string) (hx : a.eval x = v) :
    (execOp a.eval ⟨dst, .convert t ts x, ty, pos, after, gd⟩).run P w = .ok (.value (.string (strB l))) w := by
  have hrun : (convert t ts v).run P w = .ok (.string (strB l)) w := by
    by_cases h0 : 0 < l.length
    · obtain ⟨b, off, cap, rfl, _, hc⟩ := h.some1 h0
      exact run_convert_bytes_arg w t e ht he b off l.length cap (l.map fun n : Nat => (n : Int)) (by simp) (fun j hj => by
        have hj' : j < l.length := by simpa using hj
        rw [hc j hj']; simp [List.getD_eq_getElem?_getD, List.getElem?_eq_getElem hj']) ts hd
    · have hl : l = [] := List.length_eq_zero_iff.1 (by omega)
      subst hl
      obtain ⟨ad, cap, rfl, h3, h4⟩ := h.form
      cases ad with
      | none => exact run_convert_bytes_nil w t e ht he 0 cap ts hd
      | some ad =>
        obtain ⟨b, off, sp⟩ := ad
        have hl : (loadCells ⟨b, off, sp⟩ 0).run P w = .ok #[] w := by simpa using run_loadCells_list (P := P) w ⟨b, off, sp⟩ [] (by simp)
        rw [run_convert_bytes_string w t ts e _ ([] : List Nat).length cap ht he hd, run_bytesToString w _ ([] : List Nat).length cap [] (by simpa using hl)]
        rfl
  unfold execOp
  simp only [hx, Sem.run_bind, Sem.run_pure, hrun, Result.andThen_ok]

/-- What is written over cells, one behind the other. -/
theorem putAll_list : ∀ (vs cs : List Value) (o : Nat), o + vs.length ≤ cs.length → putAll cs.toArray o vs = (cs.take o ++ vs ++ cs.drop (o + vs.length)).toArray
  | [], cs, o, h => by simp [putAll]
  | v :: vs, cs, o, h => by
    simp only [List.length_cons] at h
    rw [putAll, List.setIfInBounds_toArray, putAll_list vs (cs.set o v) (o + 1) (by rw [List.length_set]; omega)]
    congr 1
    have h1 : (cs.set o v).take (o + 1) = cs.take o ++ [v] := by
      rw [List.take_add_one, List.take_set, List.set_eq_of_length_le (by simp; omega), List.getElem?_set_self (by omega)]
      rfl
    have h2 : (cs.set o v).drop (o + 1 + vs.length) = cs.drop (o + (v :: vs).length) := by
      rw [List.drop_set, if_pos (by omega), List.length_cons]
      congr 1; omega
    rw [h1, h2]
    simp
/-- copy onto a block of one's own: what it does. -/
theorem run_copy_by {B g o dLen dCap : Nat} {w : World} {v : Value} {l : List Nat} {cur : Array Value} {e : TypeId} (h : Rd B w v l) (ht : P.underlying t = some (.slice e)) (hs : (P.info? e).map (·.size) = some 1) (hr : RowAt w g cur e) (ho : o + l.length ≤ cur.size) (hd : l.length ≤ dLen) :
    (Builtin.copy_ #[t, t] ty #[.slice (some ⟨g, o, none⟩) dLen dCap, v]).run P w = .ok (goInt l.length) (w.setCells g o (byV l)) := by
  by_cases h0 : 0 < l.length
  · obtain ⟨b, off, cap, rfl, _, hc⟩ := h.some1 h0
    have hth := hr.thereAt o l.length ho
    have := run_copy_cells (P := P) w t t ty e g o dLen dCap ⟨b, off, none⟩ l.length cap (byV l) ht hs (by rw [byV_len]; exact (Nat.min_eq_left hd).symm) (fun j u hj => by
      obtain ⟨hj', rfl⟩ := byV_at hj
      rw [Addr.add_lit]; exact hc j hj') (fun j hj => (hth j (by rwa [byV_len] at hj)).1) (fun j hj => (hth j (by rwa [byV_len] at hj)).2) (byV_one l)
    rwa [byV_len] at this
  · have hl : l = [] := List.length_eq_zero_iff.1 (by omega)
    subst hl
    obtain ⟨ad, cap, rfl, h3, h4⟩ := h.form
    exact run_copy_none w t t ty e (some ⟨g, o, none⟩) ad dLen dCap 0 cap ht hs (Nat.zero_min _)
theorem ex_copy {B g o dLen dCap : Nat} {w : World} {v : Value} {l : List Nat} {cur : Array Value} {e : TypeId} (h : Rd B w v l) (ht : P.underlying t = some (.slice e)) (hs : (P.info? e).map (·.size) = some 1) (hr : RowAt w g cur e) (ho : o + l.length ≤ cur.size) (hd : l.length ≤ dLen)
    (hx : a.eval x = .slice (some ⟨g, o, none⟩) dLen dCap) (hy : a.eval y = v) :
    (execOp a.eval ⟨dst, .call { callee := .builtin .copy, args := #[x, y], argTypes := #[t, t] }, ty, pos, after, gd⟩).run P w = .ok (.value (.int .i64 (l.length : Nat))) (w.setCells g o (byV l)) := by
  have := run_copy_by (P := P) (ty := ty) (dCap := dCap) h ht hs hr ho hd
  simp [execOp, resolve, invoke, builtin, hx, hy, this, Result.andThen, goInt]
theorem op_copy {B g o dLen dCap : Nat} {v : Value} {l : List Nat} {cur : Array Value} {e : TypeId} (h : Rd B w v l) (ht : P.underlying t = some (.slice e)) (hs : (P.info? e).map (·.size) = some 1) (hr : RowAt w g cur e) (ho : o + l.length ≤ cur.size) (hd : l.length ≤ dLen)
    (hx : a.eval x = .slice (some ⟨g, o, none⟩) dLen dCap) (hy : a.eval y = v)
    (k : ∀ W, RowAt W g (putAll cur o (byV l)) e → Only g w W → wpList P ops Q rest (a.put dst (.int .i64 (l.length : Nat))) W) :
    wpList P ops Q (⟨dst, .call { callee := .builtin .copy, args := #[x, y], argTypes := #[t, t] }, ty, pos, after, none⟩ :: rest) a w := by
  refine wpList_plain rfl fun K hK => ?_
  unfold Oper.wp
  rw [ex_copy h ht hs hr ho hd hx hy, Oper.upon_value]
  exact hK _ _ (k _ (RowAt.puts (byV l) o hr) (only_setCells g o (byV l) w))
theorem s_copy {B g o dLen dCap : Nat} {v : Value} {l : List Nat} {cur : Array Value} {e : TypeId} (h : Rd B w v l) (ht : P.underlying t = some (.slice e)) (hs : (P.info? e).map (·.size) = some 1) (hr : RowAt w g cur e) (ho : o + l.length ≤ cur.size) (hd : l.length ≤ dLen)
    (hx : a.eval x = .slice (some ⟨g, o, none⟩) dLen dCap) (hy : a.eval y = v)
    (k : ∀ W, RowAt W g (putAll cur o (byV l)) e → Only g w W → K (a.put dst (.int .i64 (l.length : Nat))) W) :
    Oper.wp P ⟨dst, .call { callee := .builtin .copy, args := #[x, y], argTypes := #[t, t] }, ty, pos, after, none⟩ a w K Q := by
  unfold Oper.wp
  rw [ex_copy h ht hs hr ho hd hx hy, Oper.upon_value]
  exact k _ (RowAt.puts (byV l) o hr) (only_setCells g o (byV l) w)
/-- copy of so many as there is room for. -/
theorem op_copyC {B g d dCap : Nat} {v : Value} {l : List Nat} {cur : Array Value} {e : TypeId} (h : Rd B w v l) (ht : P.underlying t = some (.slice e)) (hs : (P.info? e).map (·.size) = some 1) (hr : RowAt w g cur e) (ho : d ≤ cur.size) (hd : d ≤ l.length)
    (hx : a.eval x = .slice (some ⟨g, 0, none⟩) d dCap) (hy : a.eval y = v)
    (k : ∀ W, RowAt W g (putAll cur 0 (byV (l.take d))) e → Only g w W → wpList P ops Q rest (a.put dst (.int .i64 (d : Nat))) W) :
    wpList P ops Q (⟨dst, .call { callee := .builtin .copy, args := #[x, y], argTypes := #[t, t] }, ty, pos, after, none⟩ :: rest) a w := by
  have hl : (l.take d).length = d := by rw [List.length_take]; omega
  have hrun : (Builtin.copy_ #[t, t] ty #[.slice (some ⟨g, 0, none⟩) d dCap, v]).run P w = .ok (goInt d) (w.setCells g 0 (byV (l.take d))) := by
    by_cases h0 : 0 < l.length
    · obtain ⟨b, off, cap, rfl, _, hc⟩ := h.some1 h0
      have hth := hr.thereAt 0 d (by omega)
      have := run_copy_cells (P := P) w t t ty e g 0 d dCap ⟨b, off, none⟩ l.length cap (byV (l.take d)) ht hs (by rw [byV_len, hl]; exact (Nat.min_eq_right hd).symm) (fun j u hj => by
        obtain ⟨hj', rfl⟩ := byV_at hj
        rw [List.getElem_take, Addr.add_lit]; exact hc j (by omega)) (fun j hj => (hth j (by rwa [byV_len, hl] at hj)).1) (fun j hj => (hth j (by rwa [byV_len, hl] at hj)).2) (byV_one _)
      rwa [byV_len, hl] at this
    · have hl0 : l = [] := List.length_eq_zero_iff.1 (by omega)
      subst hl0
      obtain ⟨ad, cap, rfl, h3, h4⟩ := h.form
      obtain rfl : d = 0 := by simpa using hd
      exact run_copy_none w t t ty e (some ⟨g, 0, none⟩) ad 0 dCap 0 cap ht hs rfl
  refine wpList_plain rfl fun K hK => ?_
  have hex : (execOp a.eval ⟨dst, .call { callee := .builtin .copy, args := #[x, y], argTypes := #[t, t] }, ty, pos, after, none⟩).run P w = .ok (.value (.int .i64 (d : Nat))) (w.setCells g 0 (byV (l.take d))) := by
    simp [execOp, resolve, invoke, builtin, hx, hy, hrun, Result.andThen, goInt]
  unfold Oper.wp
  rw [hex, Oper.upon_value]
  exact hK _ _ (k _ (RowAt.puts _ 0 hr) (only_setCells g 0 _ w))
/-- make of n bytes. -/
def zeros (n : Nat) : List Value := byV (List.replicate n 0)
theorem zeros_len (n : Nat) : (zeros n).length = n := by simp [zeros, byV]
theorem made_zeros (n : Nat) : madeCells #[Value.int .u8 0] n = (zeros n).toArray := by
  apply Array.ext
  · simp [madeCells, zeros, byV]
  · intro i h1 h2
    simp [madeCells, zeros, byV, Nat.mod_one]
theorem op_make {n : Nat} (N : Nat) (hN : w.heap.size = N) {e : TypeId} (i : TypeInfo) (ht : P.underlying t = some (.slice e)) (hi : P.info? e = some i) (hz : i.zero = some (.int .u8 0)) (hs : i.size = 1) (hb : i.bytes = 1) (hn : n ≤ 281474976710656) (hx : a.eval x = .int .i64 (n : Nat)) (hy : a.eval y = .int .i64 (n : Nat))
    (k : ∀ W, RowAt W N (zeros n).toArray e → Below N w W → Hid (W.heap.size = N + 1) → wpList P ops Q rest (a.put dst (.slice (some ⟨N, 0, none⟩) n n)) W) :
    wpList P ops Q (⟨dst, .makeSlice t x y, ty, pos, after, none⟩ :: rest) a w := by
  subst hN
  have hr := run_make (P := P) w t e i _ ht hi hz .i64 .i64 (n : Int) (n : Int) (by omega) (Int.le_refl _) (by rw [hb]; omega) (by omega)
  simp only [Int.toNat_natCast, hs, Nat.mul_one, Value.cells, made_zeros] at hr
  refine wpList_plain rfl fun K hK => ?_
  unfold Oper.wp execOp
  simp only [hx, hy, Sem.run_bind, Sem.run_pure, hr, Result.andThen_ok]
  exact hK _ _ (k _ (RowAt.new w _ _ e rfl) (below_one w _) (hide (by simp)))

/-- Bytes in a block of one's own, from B on. -/
structure Own (B : Nat) (e : TypeId) (w : World) (v : Value) (l : List Nat) : Prop where
  lt : ∀ x ∈ l, x < 256
  row : w.ownsRow B e 1 v l.length (byV l)
theorem Own.bl {B : Nat} {e : TypeId} {w W : World} {v : Value} {l : List Nat} (h : Own B e w v l) (hb : Below w.heap.size w W) : Own B e W v l := by
  refine ⟨h.lt, h.row.1, ?_⟩
  rcases h.row.2 with hn | ⟨g, cap, cur, rfl, h1, h2, hrest⟩
  · exact .inl hn
  · exact .inr ⟨g, cap, cur, rfl, h1, (hb.block g (Array.getElem?_eq_some_iff.1 h2).1).trans h2, hrest⟩
theorem Own.rd {B : Nat} {e : TypeId} {w : World} {v : Value} {l : List Nat} (h : Own B e w v l) : Rd w.heap.size w v l := by
  obtain ⟨h0, h1, h2⟩ := h
  refine ⟨h0, ?_⟩
  rcases h2 with ⟨rfl, hn⟩ | ⟨g, cap, cur, rfl, h3, h4, h5, h6, h7, h8⟩
  · exact ⟨none, 0, by rw [hn], by omega, by omega, fun h => by omega⟩
  · refine ⟨_, cap, rfl, h5, by simpa [maxLen] using h6, fun _ => ⟨g, 0, rfl, (Array.getElem?_eq_some_iff.1 h4).1, fun j hj => ?_⟩⟩
    have hr : RowAt w g cur e := h4
    have := byV_get hj
    rw [← h8, List.getElem?_take, if_pos (by omega)] at this
    rw [hr.cell, Nat.zero_add]
    simpa using this
theorem Own.mono {B B' : Nat} {e : TypeId} {w : World} {v : Value} {l : List Nat} (h : Own B e w v l) (hB : B' ≤ B) : Own B' e w v l := by
  refine ⟨h.lt, h.row.1, ?_⟩
  rcases h.row.2 with hn | ⟨g, cap, cur, rfl, h1, hrest⟩
  · exact .inl hn
  · exact .inr ⟨g, cap, cur, rfl, Nat.le_trans hB h1, hrest⟩
/-- A block that was made and filled. -/
theorem Own.of {B N : Nat} {e : TypeId} {w : World} {l : List Nat} (hl : ∀ x ∈ l, x < 256) (hm : l.length ≤ 9223372036854775807) (hr : RowAt w N (byV l).toArray e) (hB : B ≤ N) : Own B e w (.slice (some ⟨N, 0, none⟩) l.length l.length) l :=
  ⟨hl, by rw [byV_len, Nat.mul_one], .inr ⟨N, l.length, _, rfl, hB, hr, Nat.le_refl _, by simpa [maxLen] using hm, by simp [byV], by rw [Nat.mul_one]; exact List.take_of_length_le (by rw [byV_len]; exact Nat.le_refl _)⟩⟩
theorem Own.nil (B : Nat) (e : TypeId) (w : World) : Own B e w (.slice none 0 0) [] := ⟨(fun _ h => nomatch h), World.ownsRow_nil w B e 1⟩
/-- append of bytes that can be read. -/
theorem ex_app {B C : Nat} {e : TypeId} (i : TypeInfo) (ht : P.underlying t = some (.slice e)) (hi : P.info? e = some i) (hz : i.zero = some (.int .u8 0)) (hs : i.size = 1) (hb : i.bytes = 1) {v u : Value} {l m : List Nat} (ho : Own B e w v l) (h : Rd C w u m) (hn : l.length + m.length ≤ 140737488355328) (hB : B ≤ w.heap.size) (hx : a.eval x = v) (hy : a.eval y = u) :
    ∃ v' W, (execOp a.eval ⟨dst, .call { callee := .builtin .append, args := #[x, y], argTypes := #[t, t] }, t, pos, after, gd⟩).run P w = .ok (.value v') W ∧ Own B e W v' (l ++ m) ∧ w.grownBy W v.ownBlock := by
  have hlt : ∀ z ∈ l ++ m, z < 256 := fun z hz => by
    rcases List.mem_append.1 hz with hz | hz
    · exact ho.lt z hz
    · exact h.lt z hz
  by_cases h0 : 0 < m.length
  · obtain ⟨b, off, cap, rfl, _, hc⟩ := h.some1 h0
    obtain ⟨v', W, a1, a2, a3, a4⟩ := run_append_own (P := P) w B t t e i _ 1 1 ht hi hz hs hb rfl (by decide) v l.length (byV l) ho.row ⟨b, off, none⟩ m.length cap (byV m) (by rw [byV_len, Nat.mul_one]) (fun j u hj => by
      obtain ⟨hj', rfl⟩ := byV_at hj
      rw [Addr.add_lit]; exact hc j hj') (byV_one m) (by simp only [maxLen]; omega) (by omega) hB
    refine ⟨v', W, ?_, ⟨hlt, by rw [List.length_append, byV_app]; exact a2⟩, a3⟩
    simp [execOp, resolve, invoke, builtin, hx, hy, a1, Result.andThen]
  · have hl : m = [] := List.length_eq_zero_iff.1 (by omega)
    subst hl
    obtain ⟨ad, cap, rfl, h3, h4⟩ := h.form
    have hS : Src P i.size t (.slice ad 0 cap) 0 [] w := by
      cases ad with
      | none => exact Src.ofNil w ht cap
      | some ad => exact Src.ofSlice w ht ad 0 cap [] (by simp) (fun j u hj => by simp at hj) (fun u hu => by cases hu)
    have hf : ∀ (w' : World), (Builtin.firstCells 1 0 (.slice ad 0 cap)).run P w' = .ok #[] w' := fun w' => by
      cases ad with
      | none => exact run_firstCells_none w' 1 0 0 cap
      | some ad => exact run_firstCells_some w' 1 0 ad 0 cap [] (by simp) (fun j u hj => by simp at hj)
    rcases ho.row.2 with ⟨rfl, hn0⟩ | ⟨g, c2, cur, rfl, h5, h6, h7, h8, h9, h10⟩
    · refine ⟨.slice none 0 0, w, ?_, by rw [List.append_nil]; exact ho, ⟨rfl, rfl, rfl, Nat.le_refl _, fun _ _ _ => rfl⟩⟩
      have : (Builtin.append_ #[t, t] t #[.slice none 0 0, .slice ad 0 cap]).run P w = .ok (.slice none 0 0) w := by
        simp [Builtin.append_, run_underlying ht, Builtin.lenOf, sizeOf, typeInfo, hi, hs, hf]
      simp [execOp, resolve, invoke, builtin, hx, hy, this, Result.andThen]
    · have hr := run_append_room_src (P := P) w t t t e i ht hi g 0 l.length c2 (.slice ad 0 cap) 0 [] hS h7 (fun j hj => by simp at hj) (fun j hj => by simp at hj)
      refine ⟨_, _, ?_, by rw [List.append_nil]; exact ho, ⟨rfl, rfl, rfl, Nat.le_refl _, fun _ _ _ => rfl⟩⟩
      have e0 : w.setCells g (0 + l.length * i.size) [] = w := rfl
      rw [e0] at hr
      simp [execOp, resolve, invoke, builtin, hx, hy, hr, Result.andThen]
variable {t2 : TypeId} {z : Operand}
/-- From one place to another one. -/
theorem ex_mid {B : Nat} {w0 : World} {v : Value} {l : List Nat} (h : Rd B w0 v l) {lo hi : Nat} (hlo : lo ≤ hi) (hn : hi ≤ l.length) (ht : P.underlying t = some (.slice (P.elem t))) (hs : ∀ w, (sizeOf (P.elem t)).run P w = .ok 1 w) (hx : a.eval x = v) (hy : a.eval y = .int .i64 (lo : Nat)) (hz : a.eval z = .int .i64 (hi : Nat)) (w : World) :
    (execOp a.eval ⟨dst, .slice t x (some y) (some z) none, ty, pos, after, gd⟩).run P w = .ok (.value (sFrom (sTo v hi) lo)) w := by
  obtain ⟨ad, cap, rfl, h3, h4⟩ := h.form
  unfold execOp
  simp only [hx, hy, hz, Option.map_some, Option.map_none, Sem.run_bind, Sem.run_pure, run_sliceAt_slice w t _ _ _ _ ht, run_slice_lh w t ad l.length cap ht .i64 .i64 (lo : Nat) (hi : Nat) (by omega) (by omega) (by omega), hs, Result.andThen_ok, sliced]
  simp [sFrom, sTo]
theorem Rd.mid {B : Nat} {w : World} {v : Value} {l : List Nat} (h : Rd B w v l) {lo hi : Nat} (hlo : lo ≤ hi) (hn : hi ≤ l.length) : Rd B w (sFrom (sTo v hi) lo) ((l.drop lo).take (hi - lo)) := by
  have := (h.to hn).frm (n := lo) (by rw [List.length_take]; omega)
  rwa [List.drop_take] at this
end Go.Proofs.YtkahkkcbigifiaaDoor
