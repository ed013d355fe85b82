/-
  bytes.Clone; what lays numbers, bytes and sums behind bytes of one's own.
-/
import Derived.Test.YtkahkkcbigifiaaDoorTvOwnU
import Derived.Test.YtkahkkcbigifiaaDoorTvDecM
import Derived.Maps.AppendAt
namespace Go.Proofs.YtkahkkcbigifiaaDoor
open Go.RowKit
set_option linter.unusedVariables false
set_option linter.unusedSimpArgs false

theorem numL_snoc : ∀ (l : List Nat) (c : Nat), numL (l ++ [c]) = numL l + c * 256 ^ l.length
  | [], c => by simp [numL]
  | d :: l, c => by
    rw [List.cons_append, numL, numL_snoc l c, numL, List.length_cons, Nat.pow_succ, Nat.mul_add, Nat.add_assoc, Nat.mul_left_comm 256 c, Nat.mul_comm 256 (256 ^ l.length)]
theorem num_take (l : List Nat) (k : Nat) (hk : k < l.length) : numL (l.take (k + 1)) = numL (l.take k) + l[k] * 256 ^ k := by
  have h := numL_snoc (l.take k) l[k]
  rw [List.length_take, Nat.min_eq_left (by omega)] at h
  rw [← h, List.take_add_one, List.getElem?_eq_getElem hk]
  rfl
theorem num_64' {l : List Nat} (h : ∀ c ∈ l, c < 256) (h8 : l.length ≤ 8) : numL l < 18446744073709551616 := by
  have := numL_lt l h
  have hp : (256 : Nat) ^ l.length ≤ 256 ^ 8 := Nat.pow_le_pow_right (by decide) h8
  have h88 : (256 : Nat) ^ 8 = 18446744073709551616 := by decide
  omega
/-- What is put beside by or. -/
theorem or_byte (x c k : Nat) (hx : x < 256 ^ k) (hk : k < 8) (hc : c < 256) : x ||| (c * 2 ^ (8 * k)) % 18446744073709551616 = x + c * 256 ^ k := by
  have e : (256 : Nat) ^ k = 2 ^ (8 * k) := by rw [show (256 : Nat) = 2 ^ 8 from rfl, ← Nat.pow_mul]
  have hp : (256 : Nat) ^ (k + 1) ≤ 256 ^ 8 := Nat.pow_le_pow_right (by decide) hk
  have h88 : (256 : Nat) ^ 8 = 18446744073709551616 := by decide
  have hlt : c * 2 ^ (8 * k) < 18446744073709551616 := by
    rw [← e, ← h88]
    refine Nat.lt_of_lt_of_le ?_ hp
    rw [Nat.pow_succ, Nat.mul_comm]
    exact Nat.mul_lt_mul_of_pos_left hc (Nat.pow_pos (by decide))
  rw [Nat.mod_eq_of_lt hlt, e, Nat.or_comm, Nat.mul_comm c]
  rw [e] at hx
  rw [← Nat.two_pow_add_eq_or_of_lt hx c, Nat.add_comm]
theorem or_u64 (a b : Nat) (ha : a < 18446744073709551616) (hb : b < 18446744073709551616) : bits .or .u64 (a : Nat) (b : Nat) = ((a ||| b : Nat) : Int) := by
  have ha' : a % 2 ^ 64 = a := Nat.mod_eq_of_lt ha
  have hb' : b % 2 ^ 64 = b := Nat.mod_eq_of_lt hb
  have : a ||| b < 2 ^ 64 := Nat.or_lt_two_pow ha hb
  simp only [bits, show IntKind.u64.bits = 64 from rfl, BitVec.ofInt_natCast, BitVec.toNat_or, BitVec.toNat_ofNat, ha', hb', IntKind.wrap_u64]
  omega
theorem or_int (x c k : Nat) (hx : x < 256 ^ k) (hx64 : x < 18446744073709551616) (hk : k < 8) (hc : c < 256) : bits .or .u64 (x : Nat) (IntKind.u64.wrap ((c : Int) * 2 ^ (8 * k))) = ((x + c * 256 ^ k : Nat) : Int) := by
  have e : (c : Int) * 2 ^ (8 * k) = ((c * 2 ^ (8 * k) : Nat) : Int) := by push_cast; rfl
  have h := or_byte x c k hx hk hc
  rw [e, IntKind.wrap_u64]
  generalize c * 2 ^ (8 * k) = y at *
  have e2 : ((y : Nat) : Int) % 18446744073709551616 = ((y % 18446744073709551616 : Nat) : Int) := by omega
  rw [e2, or_u64 x _ hx64 (Nat.mod_lt _ (by decide)), h]
set_option maxRecDepth 100000 in
set_option maxHeartbeats 1000000 in
theorem number_any {B : Nat} {v : Value} {l : List Nat} (w : World) (h : Rd B w v l) (h8 : l.length ≤ 8) :
    Calls Tryd.prog 44 #[v] w fun e w' => e = .returned (.int .u64 (numL l : Nat)) ∧ w' = w := by
  by_cases h0 : 0 < l.length
  · obtain ⟨b, off, cap, rfl, hcap, hmax, _, HC, HL⟩ := h.all h0
    obtain ⟨n, hn⟩ : ∃ n, l.length = n := ⟨_, rfl⟩
    have HN := hide hn
    clear h
    rw [hn] at hcap h0 h8 ⊢
    clear hn
    go_enter Tryd.func44, Tryd.ntmps44
    go_wp2
    go_loop [3, 8] (fun x i => ∃ k : Nat, k ≤ n ∧ i = .int .i64 (k : Nat) ∧ x = .int .u64 (numL (l.take k) : Nat)) (fun _ i => n - (intOf i).toNat)
    case atStart => exact ⟨0, Nat.zero_le _, rfl, rfl⟩
    case round =>
      obtain ⟨k, hk, rfl, rfl⟩ := hrel
      by_cases hlt : k < n
      · have hj : k < l.length := by rw [HN.out]; exact hlt
        have hc := HC.out k hj
        have hcb := HL.out l[k] (List.getElem_mem hj)
        have HS := hide (num_take l k hj)
        have hx := numL_lt (l.take k) (fun c hc => HL.out c (List.mem_of_mem_take hc))
        rw [List.length_take, Nat.min_eq_left (by omega)] at hx
        have hx64 : numL (l.take k) < 18446744073709551616 := num_64' (fun c hc => HL.out c (List.mem_of_mem_take hc)) (by rw [List.length_take]; omega)
        have HO := hide (or_int (numL (l.take k)) l[k] k hx hx64 (by omega) hcb)
        clear hx
        generalize numL (l.take k) = x at *
        generalize l[k] = c at *
        have hk8 : k < 8 := by omega
        go_wp2
        go_round
        case rel => exact ⟨k + 1, by omega, by go_num, by rw [HS.out]; exact congrArg (Value.int .u64) HO.out⟩
        case measure => simp [intOf]; omega
      · obtain rfl : k = n := by omega
        have htk : l.take k = l := List.take_of_length_le (by have := HN.out; omega)
        rw [htk]
        go_wp2
        go_ret
        exact ⟨rfl, rfl⟩
  · obtain ⟨rfl, ad, cap, rfl, hmax⟩ := h.none h0
    go_enter Tryd.func44, Tryd.ntmps44
    go_wp2
    go_loop [3, 8] (fun x i => i = .int .i64 0 ∧ x = .int .u64 0) (fun _ i => 0)
    case atStart => exact ⟨rfl, rfl⟩
    case round =>
      obtain ⟨rfl, rfl⟩ := hrel
      go_wp2
      go_ret
      exact ⟨rfl, rfl⟩
variable {P : Program} {ops : Array Oper} {rest : List Oper} {dst : Option Tmp} {ty t t2 : TypeId} {pos : String} {after : Array Edge} {a : Act} {w : World} {Q : Exit → Act → World → Prop} {K : Act → World → Prop} {x y z : Operand} {gd : Option (Nat × Bool)}
set_option maxRecDepth 100000 in
set_option maxHeartbeats 1000000 in
theorem clone_any {B : Nat} {v : Value} {l : List Nat} (w : World) (h : Rd B w v l) (hB : B ≤ w.heap.size) (hn : l.length ≤ 140737488355328) :
    Calls Tryd.prog 41 #[v] w fun e w' => ∃ v', e = .returned v' ∧ Own w.heap.size 5 w' v' l ∧ Below w.heap.size w w' := by
  obtain ⟨i0, hi0, hz0, hs0, hb0⟩ := info_u8
  have HI := hide hi0
  have HZ := hide hz0
  have HS := hide hs0
  have HB := hide hb0
  clear hi0 hz0 hs0 hb0
  have HR := hide h
  have HN := hide hn
  obtain ⟨ad, cap, rfl, hcap, hmax⟩ := h.form
  have hb : Below w.heap.size w w := Below.refl _ w
  have hq := fun w a n c => Lib.run_eql_slice_nil (P := Tryd.prog) w 26 5 a n c 0 0 Tryd.underlying26
  rcases ad with _ | ad
  · have h0 : l = [] := by
      obtain ⟨_, a', cap', he, _, _, h5⟩ := h
      rcases Nat.eq_zero_or_pos l.length with hz | hz
      · exact List.length_eq_zero_iff.1 hz
      · obtain ⟨b, off, e1, _⟩ := h5 hz
        injection he with he _ _
        rw [e1] at he
        cases he
    subst h0
    clear h HR
    go_enter Tryd.func41, Tryd.ntmps41
    go_wp2
    go_ret
    exact ⟨_, rfl, Own.nil _ _ _, hb⟩
  · clear h
    go_enter Tryd.func41, Tryd.ntmps41
    have hb : Below w.heap.size w (w.alloc (.cells #[] 5)) := below_one w _
    have HO : Hid (Own w.heap.size 5 (w.alloc (.cells #[] 5)) (.slice (some ⟨w.heap.size, 0, none⟩) 0 0) []) := hide ⟨(fun _ h => nomatch h), World.ownsRow_made w #[] 0 (Nat.le_refl _) (by decide) rfl⟩
    go_wp2_with ((with_reducible refine op_app i0 Tryd.underlying26 HI.out HZ.out HS.out HB.out HO.out (HR.out.bel (hb.mono hB)) ?_ ?_ ?_ ?_ ?_); (have := HN.out; simpa using this); exact hb.size; exact rfl; exact rfl; intro W3 vr hown hgr; replace hb := HO.out.grown hgr hb hb.size (Nat.le_refl _); rw [List.nil_append] at hown)
    go_ret
    exact ⟨_, rfl, hown, hb⟩
/-- What is changed is the first one's own block, and new ones are there. -/
def Grw (w w' : World) (v v' : Value) : Prop := w.grownBy w' v.ownBlock ∧ (v'.ownBlock = none ∨ v'.ownBlock = v.ownBlock ∨ ∃ k, v'.ownBlock = some k ∧ w.heap.size ≤ k)
theorem Grw.refl (w : World) (v : Value) : Grw w w v v := ⟨⟨rfl, rfl, rfl, Nat.le_refl _, fun _ _ _ => rfl⟩, .inr (.inl rfl)⟩
theorem Grw.alloc {w w1 : World} {v v1 : Value} (h : Grw w w1 v v1) (o : Obj) : Grw w (w1.alloc o) v v1 :=
  ⟨⟨h.1.os, h.1.tape, h.1.output, Nat.le_trans h.1.size (by simp), fun k hk hne => (heap_alloc_old w1 o (Nat.lt_of_lt_of_le hk h.1.size)).trans (h.1.block k hk hne)⟩, h.2⟩
theorem Grw.trans {w w1 w2 : World} {v v1 v2 : Value} (h : Grw w w1 v v1) (k : Grw w1 w2 v1 v2) : Grw w w2 v v2 := by
  refine ⟨⟨k.1.os.trans h.1.os, k.1.tape.trans h.1.tape, k.1.output.trans h.1.output, Nat.le_trans h.1.size k.1.size, fun j hj hne => (k.1.block j (Nat.lt_of_lt_of_le hj h.1.size) (fun e => ?_)).trans (h.1.block j hj hne)⟩, ?_⟩
  · rcases h.2 with h2 | h2 | ⟨q, h2, h3⟩
    · rw [h2] at e; cases e
    · exact hne (e.trans h2)
    · have := Option.some.inj (e.trans h2); omega
  · rcases k.2 with k2 | k2 | ⟨q, k2, k3⟩
    · exact .inl k2
    · rw [k2]; exact h.2
    · exact .inr (.inr ⟨q, k2, Nat.le_trans h.1.size k3⟩)
theorem Grw.row {w w1 : World} {v v1 : Value} {b : Nat} {cs : Array Value} {t : TypeId} (h : Grw w w1 v v1) (hr : RowAt w b cs t) (hne : v.ownBlock ≠ some b) : RowAt w1 b cs t := (h.1.block b hr.lt (fun e => hne e.symm)).trans hr
theorem ex_appG {B C : Nat} {e : TypeId} (i : TypeInfo) (ht : P.underlying t = some (.slice e)) (hi : P.info? e = some i) (hz : i.zero = some (.int .u8 0)) (hs : i.size = 1) (hb : i.bytes = 1) {v u : Value} {l m : List Nat} (ho : Own B e w v l) (h : Rd C w u m) (hn : l.length + m.length ≤ 140737488355328) (hB : B ≤ w.heap.size) (hx : a.eval x = v) (hy : a.eval y = u) :
    ∃ v' W, (execOp a.eval ⟨dst, .call { callee := .builtin .append, args := #[x, y], argTypes := #[t, t] }, t, pos, after, gd⟩).run P w = .ok (.value v') W ∧ Own B e W v' (l ++ m) ∧ Grw w W v v' := by
  have hlt : ∀ z ∈ l ++ m, z < 256 := fun z hz => by
    rcases List.mem_append.1 hz with hz | hz
    · exact ho.lt z hz
    · exact h.lt z hz
  by_cases h0 : 0 < m.length
  · obtain ⟨b, off, cap, rfl, _, hc⟩ := h.some1 h0
    obtain ⟨v', W, a1, a2, a3, a4, a5⟩ := run_append_own_at (P := P) (w := w) B t t e i _ 1 1 ht hi hz hs hb rfl (by decide) v l.length (byV l) ho.row ⟨b, off, none⟩ m.length cap (byV m) (by rw [byV_len, Nat.mul_one]) (fun j u hj => by
      obtain ⟨hj', rfl⟩ := byV_at hj
      rw [Addr.add_lit]; exact hc j hj') (byV_one m) (by simp only [maxLen]; omega) (by omega) hB
    refine ⟨v', W, ?_, ⟨hlt, by rw [List.length_append, byV_app]; exact a2⟩, a3, by
      rcases a5 with a5 | a5
      · exact .inr (.inl a5)
      · exact .inr (.inr ⟨_, a5, Nat.le_refl _⟩)⟩
    simp [execOp, resolve, invoke, builtin, hx, hy, a1, Result.andThen]
  · have hl : m = [] := List.length_eq_zero_iff.1 (by omega)
    subst hl
    obtain ⟨ad, cap, rfl, h3, h4⟩ := h.form
    have hS : Src P i.size t (.slice ad 0 cap) 0 [] w := by
      cases ad with
      | none => exact Src.ofNil w ht cap
      | some ad => exact Src.ofSlice w ht ad 0 cap [] (by simp) (fun j u hj => by simp at hj) (fun u hu => by cases hu)
    have hf : ∀ (w' : World), (Builtin.firstCells 1 0 (.slice ad 0 cap)).run P w' = .ok #[] w' := fun w' => by
      cases ad with
      | none => exact run_firstCells_none w' 1 0 0 cap
      | some ad => exact run_firstCells_some w' 1 0 ad 0 cap [] (by simp) (fun j u hj => by simp at hj)
    rcases ho.row.2 with ⟨rfl, hn0⟩ | ⟨g, c2, cur, rfl, h5, h6, h7, h8, h9, h10⟩
    · refine ⟨.slice none 0 0, w, ?_, by rw [List.append_nil]; exact ho, Grw.refl _ _⟩
      have : (Builtin.append_ #[t, t] t #[.slice none 0 0, .slice ad 0 cap]).run P w = .ok (.slice none 0 0) w := by
        simp [Builtin.append_, run_underlying ht, Builtin.lenOf, sizeOf, typeInfo, hi, hs, hf]
      simp [execOp, resolve, invoke, builtin, hx, hy, this, Result.andThen]
    · have hr := run_append_room_src (P := P) w t t t e i ht hi g 0 l.length c2 (.slice ad 0 cap) 0 [] hS h7 (fun j hj => by simp at hj) (fun j hj => by simp at hj)
      refine ⟨_, _, ?_, by rw [List.append_nil]; exact ho, Grw.refl _ _⟩
      have e0 : w.setCells g (0 + l.length * i.size) [] = w := rfl
      rw [e0] at hr
      simp [execOp, resolve, invoke, builtin, hx, hy, hr, Result.andThen]
theorem op_appG {B C : Nat} {e : TypeId} (i : TypeInfo) (ht : P.underlying t = some (.slice e)) (hi : P.info? e = some i) (hz : i.zero = some (.int .u8 0)) (hs : i.size = 1) (hb : i.bytes = 1) {v u : Value} {l m : List Nat} (ho : Own B e w v l) (h : Rd C w u m) (hn : l.length + m.length ≤ 140737488355328) (hB : B ≤ w.heap.size) (hx : a.eval x = v) (hy : a.eval y = u)
    (k : ∀ W v', Own B e W v' (l ++ m) → Grw w W v v' → wpList P ops Q rest (a.put dst v') W) :
    wpList P ops Q (⟨dst, .call { callee := .builtin .append, args := #[x, y], argTypes := #[t, t] }, t, pos, after, none⟩ :: rest) a w :=
  wpList_plain rfl fun K hK => by
    obtain ⟨v', W, h1, h2, h3⟩ := ex_appG (P := P) (dst := dst) (pos := pos) (after := after) (gd := none) i ht hi hz hs hb ho h hn hB hx hy
    unfold Oper.wp
    rw [h1, Oper.upon_value]
    exact hK _ _ (k W v' h2 h3)
theorem leN_snoc' : ∀ (k v : Nat), leN (k + 1) v = leN k v ++ [v / 256 ^ k % 256]
  | 0, v => by simp [leN]
  | k + 1, v => by
    rw [leN, leN_snoc' k (v / 256), leN, List.cons_append, Nat.div_div_eq_div_mul, Nat.pow_succ, Nat.mul_comm 256]
def LyRel (l : List Nat) (V n N : Nat) (w0 : World) (v0 ov vv iv : Value) (wr : World) : Prop := ∃ k : Nat, k ≤ n ∧ iv = .int .i64 (k : Nat) ∧ vv = .int .u64 (V / 256 ^ k : Nat) ∧ Own N 5 wr ov (l ++ leN k V) ∧ Grw w0 wr v0 ov
set_option maxRecDepth 100000 in
set_option maxHeartbeats 2000000 in
theorem lay_any {N : Nat} {v : Value} {l : List Nat} (w : World) (h : Own N 5 w v l) (hN : N ≤ w.heap.size) (hn : l.length ≤ 100000000) (V : Nat) (hV : V < 18446744073709551616) (m : Nat) (hm8 : m ≤ 8) :
    Calls Tryd.prog 35 #[v, .int .u64 (V : Nat), .int .i64 (m : Nat)] w fun e w' => ∃ v', e = .returned v' ∧ Own N 5 w' v' (l ++ leN m V) ∧ Below N w w' ∧ Grw w w' v v' := by
  obtain ⟨i0, hi0, hz0, hs0, hb0⟩ := info_u8
  have HI := hide hi0
  have HZ := hide hz0
  have HS := hide hs0
  have HB := hide hb0
  clear hi0 hz0 hs0 hb0
  have HN := hide hn
  have hb : Grw w w v v := Grw.refl _ _
  have HOW := hide h
  clear hn
  go_enter Tryd.func35, Tryd.ntmps35
  go_wp2
  go_loopw [0, 1, 8] (LyRel l V m N w v) (fun _ _ iv _ => m - (intOf iv).toNat)
  case atStart => exact ⟨0, Nat.zero_le _, rfl, by simp, by rw [leN, List.append_nil]; exact h, hb⟩
  case round =>
    clear h hb
    obtain ⟨k, hk, rfl, rfl, hown, hb⟩ := hrel
    have HO := hide hown
    clear hown
    by_cases hlt : k < m
    · have HSN := hide (leN_snoc' k V)
      have HDV := hide (show V / 256 ^ k / 256 = V / 256 ^ (k + 1) by rw [Nat.div_div_eq_div_mul, ← Nat.pow_succ])
      have hx : V / 256 ^ k < 18446744073709551616 := Nat.lt_of_le_of_lt (Nat.div_le_self _ _) hV
      have HLN := hide (show (l ++ leN k V).length ≤ 100000010 by have := HN.out; rw [List.length_append, leN_len]; omega)
      generalize V / 256 ^ k = x at *
      have HTE := hide (show #[Value.int .u8 ((x : Int) % 256)] = (byV [x % 256]).toArray from rfl)
      have HXL := hide (show ∀ c ∈ [x % 256], c < 256 from fun c hc => by rw [List.mem_singleton.1 hc]; exact Nat.mod_lt _ (by decide))
      go_wp2_with ((with_reducible refine op_appG i0 Tryd.underlying26 HI.out HZ.out HS.out HB.out (HO.out.bl (below_one _ _)) (rd_new _ _ _ HTE.out HXL.out 1 rfl (by decide)) ?_ ?_ ?_ ?_ ?_); (have := HLN.out; simp only [List.length_singleton]; omega); (have := hb.1.size; simp; omega); exact rfl; exact rfl; intro W3 vr hown hgr; replace hb := (hb.alloc _).trans hgr)
      go_roundw
      case rel => exact ⟨k + 1, hlt, by go_num, by rw [← HDV.out]; go_num, by rw [HSN.out, ← List.append_assoc]; exact hown, hb⟩
      case measure => simp [intOf]; omega
    · obtain rfl : k = m := by omega
      go_wp2
      go_ret
      exact ⟨_, rfl, HO.out, (Below.refl N w).grown hb.1 hN fun k hk => (HOW.out.row.lt k hk).1, hb⟩
set_option maxRecDepth 100000 in
set_option maxHeartbeats 2000000 in
theorem layRun_any {N : Nat} {v u : Value} {l x : List Nat} (w : World) (h : Own N 5 w v l) (hN : N ≤ w.heap.size) (hx : Rd N w u x) (hn : l.length ≤ 100000000) (hxn : x.length ≤ 100000000) :
    Calls Tryd.prog 36 #[v, u] w fun e w' => ∃ v', e = .returned v' ∧ Own N 5 w' v' (l ++ leN 4 x.length ++ x) ∧ Below N w w' := by
  obtain ⟨i0, hi0, hz0, hs0, hb0⟩ := info_u8
  have HI := hide hi0
  have HZ := hide hz0
  have HS := hide hs0
  have HB := hide hb0
  clear hi0 hz0 hs0 hb0
  have H1 := hide (lay_any w h hN hn x.length (by omega) 4 (by decide))
  have HX := hide hx
  obtain ⟨ad, cap, hu, hcap, hmax⟩ := hx.form
  subst hu
  have HLN := hide (show (l ++ leN 4 x.length).length + x.length ≤ 300000000 by rw [List.length_append, leN_len]; omega)
  generalize hq : l ++ leN 4 x.length = q at *
  clear hq h hx
  go_enter Tryd.func36, Tryd.ntmps36
  go_wp2_with (first | (go_at_call 35; refine (H1.out).mono ?_; rintro e W ⟨vq, rfl, hown, hb, _⟩; have HO := hide hown; have HX2 := hide (HX.out.bel hb); clear hown) | ((with_reducible refine op_app i0 Tryd.underlying26 HI.out HZ.out HS.out HB.out HO.out HX2.out ?_ ?_ ?_ ?_ ?_); (have := HLN.out; omega); exact Nat.le_trans hN hb.size; exact rfl; exact rfl; intro W3 vr hown hgr; replace hb := HO.out.grown hgr hb (Nat.le_trans hN hb.size) (Nat.le_refl _)))
  go_ret
  exact ⟨_, rfl, hown, hb⟩
set_option maxRecDepth 100000 in
set_option maxHeartbeats 2000000 in
theorem laySum_any {N : Nat} {v : Value} {l : List Nat} (w : World) (h : Own N 5 w v l) (hN : N ≤ w.heap.size) (hn : l.length ≤ 100000000) (m : Nat) (hm : m ≤ l.length) (hT : TabAt w) :
    Calls Tryd.prog 37 #[v, .int .i64 (m : Nat)] w fun e w' => ∃ v', e = .returned v' ∧ Own N 5 w' v' (l ++ tail4 (sumL (l.drop m))) ∧ Below N w w' := by
  obtain ⟨i0, hi0, hz0, hs0, hb0⟩ := info_u8
  have HI := hide hi0
  have HZ := hide hz0
  have HS := hide hs0
  have HB := hide hb0
  clear hi0 hz0 hs0 hb0
  have hsum := sumL_lt (l.drop m)
  have HF := hide (h.rd.frm hm)
  have HO := hide (of_any w HF.out hT)
  have HM := hide hm
  have HRD := hide h.rd
  have HT4 := hide (tail4_lt hsum)
  have HN := hide hn
  have HOW := hide h
  generalize hs : sumL (l.drop m) = s at *
  have HTE := hide (show #[Value.int .u8 ((s : Int) / 16777216), .int .u8 ((s : Int) / 65536 % 256), .int .u8 ((s : Int) / 256 % 256), .int .u8 ((s : Int) % 256)] = (byV (tail4 s)).toArray by simp [byV, tail4])
  have HTL := hide (show (tail4 s).length = 4 from rfl)
  obtain ⟨ad, cap, rfl, _, _⟩ := h.rd.form
  clear h hs hn hm HF
  have hb : Below N w w := Below.refl _ w
  obtain ⟨NX, hNX0⟩ : ∃ n, w.heap.size = n := ⟨_, rfl⟩
  have hNX := hide hNX0
  have hx0 : N ≤ NX := hNX0 ▸ hN
  clear hNX0
  go_enter Tryd.func37, Tryd.ntmps37
  go_wp2_with (first | ((with_reducible refine g_frm HRD.out m HM.out und_sl siz_sl ?_ ?_ ?_ ?_); exact rfl; exact rfl; exact rfl) | (go_at_call 50; (with_reducible refine (HO.out).mono ?_); rintro e w1 ⟨rfl, rfl⟩) | ((with_reducible refine op_app i0 Tryd.underlying26 HI.out HZ.out HS.out HB.out (HOW.out.bl (below_one _ _)) (rd_new _ _ _ HTE.out HT4.out 4 HTL.out (by decide)) ?_ ?_ ?_ ?_ ?_); (have := HN.out; rw [HTL.out]; omega); (simp; omega); exact rfl; exact rfl; intro W3 vr hown hgr; replace hb := (HOW.out.bl (below_one _ _)).grown hgr (hb.trans ((below_one _ _).mono hN)) (by simp; omega) (Nat.le_refl _)))
  go_ret
  exact ⟨_, rfl, hown, hb⟩
end Go.Proofs.YtkahkkcbigifiaaDoor
