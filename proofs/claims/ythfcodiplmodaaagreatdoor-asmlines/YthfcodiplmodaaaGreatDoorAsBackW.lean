/-
  AsmBack's walk.
-/
import Derived.Test.YthfcodiplmodaaaGreatDoorAsSure
namespace Go.Proofs.YthfcodiplmodaaaGreatDoor
open Go.RowKit
set_option linter.unusedVariables false

theorem text_len (i : I6) (h : encOk i = true) : (textL i).length ≤ 1000 := by
  have h1 := rest_len i (valid_bounds h) (operK (kindN i.op.toNat) i.op.toNat)
  have h2 := oper_len (kindN i.op.toNat) i.op.toNat
  have h3 : (nameS i.op.toNat).length ≤ 8 := by
    unfold nameS
    rw [List.getD_eq_getElem?_getD]
    cases hx : nameL[i.op.toNat]? with
    | none => simp
    | some x => exact (name_len x (List.mem_of_getElem? hx)).1
  have h4 : (if operK (kindN i.op.toNat) i.op.toNat = [] then ([] : Str) else [32]).length ≤ 1 := by split <;> simp
  unfold textL textK restL
  rw [List.length_append, List.length_append]
  omega
theorem text_back (i : I6) (h : encOk i = true) (w : World) (hA : AsAt w) :
    Calls Tryz.prog 9 #[.agg i.cells] w fun e w' => e = .returned (.tuple #[.string ⟨(textL i).toArray⟩, .nilIface]) ∧ Below w.heap.size w w' := by
  have := text_all i w hA
  rw [if_pos h, show encN i = 0 by unfold encN; rw [if_pos h], errno_zero] at this
  exact this
theorem parse_hit (s : Str) (hs : s.length ≤ 100000) (i : I6) (h : parseL s = some i) (w : World) (hA : AsAt w) :
    Calls Tryz.prog 13 #[.string ⟨s.toArray⟩] w fun e w' => e = .returned (.tuple #[.agg i.cells, .nilIface]) ∧ Below w.heap.size w w' := by
  have := parse_all s hs w hA
  unfold parseI parseN at this
  rw [h] at this
  exact this
theorem parse_miss (s : Str) (hs : s.length ≤ 100000) (h : parseL s = none) (w : World) (hA : AsAt w) :
    Calls Tryz.prog 13 #[.string ⟨s.toArray⟩] w fun e w' => e = .returned (.tuple #[.agg noI.cells, .iface 69 (.int .i64 3)]) ∧ Below w.heap.size w w' := by
  have := parse_all s hs w hA
  unfold parseI parseN at this
  rw [h] at this
  exact this

/-- An instruction that lies there, whatever new block is made. -/
def SixOn (w : World) (b : Nat) (i : I6) : Prop :=
  (∀ o, (w.alloc o).cell? ⟨b, 0, none⟩ = some (.int .i64 i.op)) ∧ (∀ o, (w.alloc o).cell? ⟨b, 1, none⟩ = some (.int .i64 i.rd)) ∧ (∀ o, (w.alloc o).cell? ⟨b, 2, none⟩ = some (.int .i64 i.rs1)) ∧ (∀ o, (w.alloc o).cell? ⟨b, 3, none⟩ = some (.int .i64 i.rs2)) ∧ (∀ o, (w.alloc o).cell? ⟨b, 4, none⟩ = some (.int .i64 i.imm)) ∧ (∀ o, (w.alloc o).cell? ⟨b, 5, none⟩ = some (.int .i64 i.csr))
theorem SixAt.on {w : World} {b : Nat} {i : I6} (h : SixAt w b i) : SixOn w b i := by
  have hb : ∀ o, Below w.heap.size w (w.alloc o) := fun o => (Below.refl _ w).alloc (Nat.le_refl _) _
  have hl := block_lt_of_cell h.1
  exact ⟨fun o => (h.below (hb o) hl).1, fun o => (h.below (hb o) hl).2.1, fun o => (h.below (hb o) hl).2.2.1, fun o => (h.below (hb o) hl).2.2.2.1, fun o => (h.below (hb o) hl).2.2.2.2.1, fun o => (h.below (hb o) hl).2.2.2.2.2⟩
theorem six_new (w w2 : World) (i : I6) (t : TypeId) (h : Below (w.alloc (.cells i.cells t)).heap.size (w.alloc (.cells i.cells t)) w2) : SixAt w2 w.heap.size i ∧ Below w.heap.size w w2 :=
  ⟨(SixAt.new w i t).below h (by simp), below_new h⟩
theorem SixAt.then {w w2 : World} {b : Nat} {i : I6} (h : SixAt w b i) (hb : Below w.heap.size w w2) : SixAt w2 b i := h.below hb (block_lt_of_cell h.1)

/-- The first half: the world behind it, and what lies there. -/
def Half (i : I6) (w w2 : World) : Prop := SixAt w2 w.heap.size i ∧ Below w.heap.size w w2
theorem Half.step {i : I6} {w a b : World} (h : Half i w a) (k : Below a.heap.size a b) : Half i w b := ⟨h.1.then k, h.2.trans (k.mono h.2.size)⟩
theorem Half.box {i : I6} {w a b : World} {o : Obj} (h : Half i w a) (k : Below (a.alloc o).heap.size (a.alloc o) b) : Half i w b := h.step (below_new k)

set_option maxHeartbeats 4000000 in
set_option maxRecDepth 100000 in
theorem aback_xl (i : I6) (hi : encOk i = false) (s : Str) (hs : s.length ≤ 9223372036854775807) (hl : ¬ s.length ≤ 1000) (w : World) (hA : AsAt w) :
    Calls Tryz.prog 6 #[.agg i.cells, .string ⟨s.toArray⟩] w fun e w' => e = .returned (.bool true) ∧ Below w.heap.size w w' := by
  have HS := hide sure_any
  have HA := hide hA
  have HT := hide (text_all i)
  rw [errno_pos (encN i) (by unfold encN; rw [hi]; decide), hi] at HT
  have hsz : (ByteArray.mk s.toArray).size = s.length := by simp [ByteArray.size]
  have HH := hide (fun w2 => six_new w w2 i 23)
  clear hA
  clear hi
  simp only [I6.cells] at HT HH ⊢
  go_enter Tryz.func6, Tryz.ntmps6
  go_wp2_with (fail)
  refine (HT.out _ (HA.out.below (below_box w _))).mono ?_
  rintro e w2 ⟨rfl, hx⟩
  have HF : Hid (Half i w w2) := HH.out _ hx
  clear hx HT HH
  go_wp2_with (fail)
  refine (HS.out _ (HA.out.below HF.out.2)).mono ?_
  rintro e w9 ⟨rfl, hx⟩
  replace HF := hide (HF.out.step hx)
  clear hx
  go_wp2_with (fail)
  go_ret
  exact ⟨rfl, HF.out.2⟩

set_option maxHeartbeats 4000000 in
set_option maxRecDepth 100000 in
theorem aback_xn (i : I6) (hi : encOk i = false) (s : Str) (hs : s.length ≤ 9223372036854775807) (hl : s.length ≤ 1000) (hq : parseL s = none) (w : World) (hA : AsAt w) :
    Calls Tryz.prog 6 #[.agg i.cells, .string ⟨s.toArray⟩] w fun e w' => e = .returned (.bool true) ∧ Below w.heap.size w w' := by
  have HS := hide sure_any
  have HA := hide hA
  have HT := hide (text_all i)
  rw [errno_pos (encN i) (by unfold encN; rw [hi]; decide), hi] at HT
  have HQ := hide (parse_miss s (by omega) hq)
  have hsz : (ByteArray.mk s.toArray).size = s.length := by simp [ByteArray.size]
  have HH := hide (fun w2 => six_new w w2 i 23)
  clear hA
  clear hq
  clear hi
  simp only [I6.cells, noI] at HT HH HQ ⊢
  go_enter Tryz.func6, Tryz.ntmps6
  go_wp2_with (fail)
  refine (HT.out _ (HA.out.below (below_box w _))).mono ?_
  rintro e w2 ⟨rfl, hx⟩
  have HF : Hid (Half i w w2) := HH.out _ hx
  clear hx HT HH
  go_wp2_with (fail)
  refine (HQ.out _ (HA.out.below HF.out.2)).mono ?_
  rintro e w5 ⟨rfl, hx⟩
  replace HF := hide (HF.out.step hx)
  clear hx
  go_wp2_with (fail)
  refine (HS.out _ (HA.out.below (HF.out.2.trans ((below_box _ _).mono HF.out.2.size)))).mono ?_
  rintro e w9 ⟨rfl, hx⟩
  replace HF := hide (HF.out.box hx)
  clear hx
  go_wp2_with (fail)
  go_ret
  exact ⟨rfl, HF.out.2⟩

set_option maxHeartbeats 4000000 in
set_option maxRecDepth 100000 in
theorem aback_xs (i : I6) (hi : encOk i = false) (s : Str) (hs : s.length ≤ 9223372036854775807) (hl : s.length ≤ 1000) (j : I6) (hq : parseL s = some j) (w : World) (hA : AsAt w) :
    Calls Tryz.prog 6 #[.agg i.cells, .string ⟨s.toArray⟩] w fun e w' => e = .returned (.bool true) ∧ Below w.heap.size w w' := by
  have HS := hide sure_any
  have HA := hide hA
  have HT := hide (text_all i)
  rw [errno_pos (encN i) (by unfold encN; rw [hi]; decide), hi] at HT
  have HQ := hide (parse_hit s (by omega) j hq)
  have HU := hide (text_back j (parse_some hq).1)
  rw [(parse_some hq).2] at HU
  have hsz : (ByteArray.mk s.toArray).size = s.length := by simp [ByteArray.size]
  have HH := hide (fun w2 => six_new w w2 i 23)
  clear hA
  clear hq
  clear hi
  simp only [I6.cells] at HT HH HQ HU ⊢
  go_enter Tryz.func6, Tryz.ntmps6
  go_wp2_with (fail)
  refine (HT.out _ (HA.out.below (below_box w _))).mono ?_
  rintro e w2 ⟨rfl, hx⟩
  have HF : Hid (Half i w w2) := HH.out _ hx
  clear hx HT HH
  go_wp2_with (fail)
  refine (HQ.out _ (HA.out.below HF.out.2)).mono ?_
  rintro e w5 ⟨rfl, hx⟩
  replace HF := hide (HF.out.step hx)
  clear hx
  go_wp2_with (fail)
  refine (HU.out _ (HA.out.below (HF.out.2.trans ((below_box _ _).mono HF.out.2.size)))).mono ?_
  rintro e w6 ⟨rfl, hx⟩
  replace HF := hide (HF.out.box hx)
  clear hx
  go_wp2_with (fail)
  refine (HS.out _ (HA.out.below HF.out.2)).mono ?_
  rintro e w9 ⟨rfl, hx⟩
  replace HF := hide (HF.out.step hx)
  clear hx
  go_wp2_with (fail)
  go_ret
  exact ⟨rfl, HF.out.2⟩

set_option maxHeartbeats 4000000 in
set_option maxRecDepth 100000 in
theorem aback_ol (i : I6) (hi : encOk i = true) (s : Str) (hs : s.length ≤ 9223372036854775807) (hl : ¬ s.length ≤ 1000) (w : World) (hA : AsAt w) :
    Calls Tryz.prog 6 #[.agg i.cells, .string ⟨s.toArray⟩] w fun e w' => e = .returned (.bool true) ∧ Below w.heap.size w w' := by
  have HS := hide sure_any
  have HA := hide hA
  have HT := hide (text_back i hi)
  have HP := hide (parse_hit (textL i) (by have := text_len i hi; omega) i (parse_text i hi))
  have heq := eql_inst i i
  rw [I6.same_self] at heq
  have hsz : (ByteArray.mk s.toArray).size = s.length := by simp [ByteArray.size]
  have HH := hide (fun w2 => six_new w w2 i 23)
  clear hA
  generalize textL i = ti at *
  clear hi
  simp only [I6.cells] at HT HH HP heq ⊢
  go_enter Tryz.func6, Tryz.ntmps6
  go_wp2_with (fail)
  refine (HT.out _ (HA.out.below (below_box w _))).mono ?_
  rintro e w2 ⟨rfl, hx⟩
  have HF : Hid (Half i w w2) := HH.out _ hx
  clear hx HT HH
  go_wp2_with (fail)
  refine (HP.out _ (HA.out.below HF.out.2)).mono ?_
  rintro e w3 ⟨rfl, hx⟩
  replace HF := hide (HF.out.step hx)
  clear hx HP
  obtain ⟨a0, a1, a2, a3, a4, a5⟩ := HF.out.1.on
  go_wp2_with (fail)
  clear a0 a1 a2 a3 a4 a5
  refine (HS.out _ (HA.out.below (HF.out.2.trans ((below_box _ _).mono HF.out.2.size)))).mono ?_
  rintro e w9 ⟨rfl, hx⟩
  replace HF := hide (HF.out.box hx)
  clear hx
  go_wp2_with (fail)
  go_ret
  exact ⟨rfl, HF.out.2⟩

set_option maxHeartbeats 4000000 in
set_option maxRecDepth 100000 in
theorem aback_on (i : I6) (hi : encOk i = true) (s : Str) (hs : s.length ≤ 9223372036854775807) (hl : s.length ≤ 1000) (hq : parseL s = none) (w : World) (hA : AsAt w) :
    Calls Tryz.prog 6 #[.agg i.cells, .string ⟨s.toArray⟩] w fun e w' => e = .returned (.bool true) ∧ Below w.heap.size w w' := by
  have HS := hide sure_any
  have HA := hide hA
  have HT := hide (text_back i hi)
  have HP := hide (parse_hit (textL i) (by have := text_len i hi; omega) i (parse_text i hi))
  have heq := eql_inst i i
  rw [I6.same_self] at heq
  have HQ := hide (parse_miss s (by omega) hq)
  have hsz : (ByteArray.mk s.toArray).size = s.length := by simp [ByteArray.size]
  have HH := hide (fun w2 => six_new w w2 i 23)
  clear hA
  generalize textL i = ti at *
  clear hq
  clear hi
  simp only [I6.cells, noI] at HT HH HP heq HQ ⊢
  go_enter Tryz.func6, Tryz.ntmps6
  go_wp2_with (fail)
  refine (HT.out _ (HA.out.below (below_box w _))).mono ?_
  rintro e w2 ⟨rfl, hx⟩
  have HF : Hid (Half i w w2) := HH.out _ hx
  clear hx HT HH
  go_wp2_with (fail)
  refine (HP.out _ (HA.out.below HF.out.2)).mono ?_
  rintro e w3 ⟨rfl, hx⟩
  replace HF := hide (HF.out.step hx)
  clear hx HP
  obtain ⟨a0, a1, a2, a3, a4, a5⟩ := HF.out.1.on
  go_wp2_with (fail)
  clear a0 a1 a2 a3 a4 a5
  refine (HQ.out _ (HA.out.below (HF.out.2.trans ((below_box _ _).mono HF.out.2.size)))).mono ?_
  rintro e w5 ⟨rfl, hx⟩
  replace HF := hide (HF.out.box hx)
  clear hx
  go_wp2_with (fail)
  refine (HS.out _ (HA.out.below (HF.out.2.trans ((below_box _ _).mono HF.out.2.size)))).mono ?_
  rintro e w9 ⟨rfl, hx⟩
  replace HF := hide (HF.out.box hx)
  clear hx
  go_wp2_with (fail)
  go_ret
  exact ⟨rfl, HF.out.2⟩

set_option maxHeartbeats 4000000 in
set_option maxRecDepth 100000 in
theorem aback_os (i : I6) (hi : encOk i = true) (s : Str) (hs : s.length ≤ 9223372036854775807) (hl : s.length ≤ 1000) (j : I6) (hq : parseL s = some j) (w : World) (hA : AsAt w) :
    Calls Tryz.prog 6 #[.agg i.cells, .string ⟨s.toArray⟩] w fun e w' => e = .returned (.bool true) ∧ Below w.heap.size w w' := by
  have HS := hide sure_any
  have HA := hide hA
  have HT := hide (text_back i hi)
  have HP := hide (parse_hit (textL i) (by have := text_len i hi; omega) i (parse_text i hi))
  have heq := eql_inst i i
  rw [I6.same_self] at heq
  have HQ := hide (parse_hit s (by omega) j hq)
  have HU := hide (text_back j (parse_some hq).1)
  rw [(parse_some hq).2] at HU
  have hsz : (ByteArray.mk s.toArray).size = s.length := by simp [ByteArray.size]
  have HH := hide (fun w2 => six_new w w2 i 23)
  clear hA
  generalize textL i = ti at *
  clear hq
  clear hi
  simp only [I6.cells] at HT HH HP heq HQ HU ⊢
  go_enter Tryz.func6, Tryz.ntmps6
  go_wp2_with (fail)
  refine (HT.out _ (HA.out.below (below_box w _))).mono ?_
  rintro e w2 ⟨rfl, hx⟩
  have HF : Hid (Half i w w2) := HH.out _ hx
  clear hx HT HH
  go_wp2_with (fail)
  refine (HP.out _ (HA.out.below HF.out.2)).mono ?_
  rintro e w3 ⟨rfl, hx⟩
  replace HF := hide (HF.out.step hx)
  clear hx HP
  obtain ⟨a0, a1, a2, a3, a4, a5⟩ := HF.out.1.on
  go_wp2_with (fail)
  clear a0 a1 a2 a3 a4 a5
  refine (HQ.out _ (HA.out.below (HF.out.2.trans ((below_box _ _).mono HF.out.2.size)))).mono ?_
  rintro e w5 ⟨rfl, hx⟩
  replace HF := hide (HF.out.box hx)
  clear hx
  go_wp2_with (fail)
  refine (HU.out _ (HA.out.below (HF.out.2.trans ((below_box _ _).mono HF.out.2.size)))).mono ?_
  rintro e w6 ⟨rfl, hx⟩
  replace HF := hide (HF.out.box hx)
  clear hx
  go_wp2_with (fail)
  refine (HS.out _ (HA.out.below HF.out.2)).mono ?_
  rintro e w9 ⟨rfl, hx⟩
  replace HF := hide (HF.out.step hx)
  clear hx
  go_wp2_with (fail)
  go_ret
  exact ⟨rfl, HF.out.2⟩

theorem aback_any (i : I6) (s : Str) (hs : s.length ≤ 9223372036854775807) (w : World) (hA : AsAt w) :
    Calls Tryz.prog 6 #[.agg i.cells, .string ⟨s.toArray⟩] w fun e w' => e = .returned (.bool true) ∧ Below w.heap.size w w' := by
  by_cases hl : s.length ≤ 1000
  · cases hi : encOk i <;> cases hq : parseL s
    · exact aback_xn i hi s hs hl hq w hA
    · exact aback_xs i hi s hs hl _ hq w hA
    · exact aback_on i hi s hs hl hq w hA
    · exact aback_os i hi s hs hl _ hq w hA
  · cases hi : encOk i
    · exact aback_xl i hi s hs hl w hA
    · exact aback_ol i hi s hs hl w hA
end Go.Proofs.YthfcodiplmodaaaGreatDoor
