/-
  What asm.Text answers, whatever is handed in.
-/
import Derived.Test.YtoekcfbjdcibpaaGreatDoorAsText
import Derived.Test.YtoekcfbjdcibpaaGreatDoorShelfB
import Derived.LoopN
namespace Go.Proofs.YtoekcfbjdcibpaaGreatDoor
open Go.RowKit
set_option linter.unusedVariables false

/-- A Builder of one's own that holds the bytes acc. -/
def Bld (B : Nat) (acc : Str) (W : World) : Prop := Lib.IsBuilderF 60 5 B B (Lib.byteCells acc) W ∧ B < W.heap.size

theorem builderAt_keeps {T e : TypeId} {B b : Nat} {p : Value} {bs : List Value} {W W' : World} (h : Lib.BuilderAtF T e B b p bs W) (hb : Below W.heap.size W W') : Lib.BuilderAtF T e B b p bs W' := by
  have hlt := h.lt
  obtain ⟨hB, v, hv, hown, hne⟩ := h
  exact ⟨hB, v, (hb.block b hlt).trans hv, hown.kept (row := none) ⟨hb.os, hb.tape, hb.output, hb.size, fun k hk _ => hb.block k hk⟩ (Classical.em _), hne⟩
theorem Bld.keeps {B : Nat} {acc : Str} {W W' : World} (h : Bld B acc W) (hb : Below W.heap.size W W') : Bld B acc W' :=
  ⟨h.1.elim (fun x => .inl (builderAt_keeps x hb)) (fun x => .inr (builderAt_keeps x hb)), Nat.lt_of_lt_of_le h.2 hb.size⟩
theorem Bld.new (w : World) : Bld w.heap.size [] (w.alloc (.cells #[.pointer none, .slice none 0 0] 60)) :=
  ⟨Lib.IsBuilderF.of (Lib.fresh_isBuilder _ _ w), by simp⟩

theorem writeS (B : Nat) (acc s : Str) (W : World) (h : Bld B acc W) (hl : acc.length + s.length ≤ 100000) :
    Calls Tryz.prog 21 #[.pointer (some ⟨B, 0, none⟩), .string ⟨s.toArray⟩] W fun e w' => e = .returned (.tuple #[.int .i64 s.length, .nilIface]) ∧ Bld B (acc ++ s) w' ∧ Below B W w' := by
  refine (Tryz.Builder_WriteString_k B B _ ⟨s.toArray⟩ W h.1 ?_ (Nat.le_of_lt h.2)).mono ?_
  · rw [Lib.byteCells_length]
    have : (ByteArray.mk s.toArray).size = s.length := by simp [ByteArray.size]
    omega
  · rintro e w' ⟨rfl, h1, hb, _⟩
    refine ⟨by simp [ByteArray.size], ⟨?_, Nat.lt_of_lt_of_le h.2 hb.size⟩, hb⟩
    rw [Lib.byteCells_append]
    exact Or.inr h1
theorem writeB (B : Nat) (acc : Str) (c : UInt8) (W : World) (h : Bld B acc W) (hl : acc.length ≤ 100000) :
    Calls Tryz.prog 24 #[.pointer (some ⟨B, 0, none⟩), .int .u8 c.toNat] W fun e w' => e = .returned .nilIface ∧ Bld B (acc ++ [c]) w' ∧ Below B W w' := by
  refine (Tryz.Builder_WriteByte_k B B _ c.toNat W h.1 ?_ (Nat.le_of_lt h.2)).mono ?_
  · rw [Lib.byteCells_length]
    omega
  · rintro e w' ⟨rfl, h1, hb, _⟩
    refine ⟨rfl, ⟨?_, Nat.lt_of_lt_of_le h.2 hb.size⟩, hb⟩
    rw [Lib.byteCells_append]
    exact Or.inr h1
theorem stringB (B : Nat) (acc : Str) (W : World) (h : Bld B acc W) (h0 : acc ≠ []) :
    Calls Tryz.prog 26 #[.pointer (some ⟨B, 0, none⟩)] W fun e w' => e = .returned (.string ⟨acc.toArray⟩) ∧ Below B W w' := by
  refine (Tryz.Builder_String_k B B acc W h.1 h0).mono ?_
  rintro e w' ⟨rfl, _, hb, _⟩
  exact ⟨rfl, hb⟩

theorem valid_bounds {i : I6} (h : encOk i = true) : In64 i := by
  obtain ⟨h1, h2⟩ := encOk_valid h
  have hk := kindN_is _ (op_nat h1).1
  obtain ⟨o, rd, rs1, rs2, imm, csr⟩ := i
  unfold In64 I64
  simp only at h2 ⊢
  generalize kindN (I6.op ⟨o, rd, rs1, rs2, imm, csr⟩).toNat = k at *
  rcases hk with rfl | rfl | rfl | rfl | rfl | rfl | rfl | rfl | rfl | rfl | rfl <;> (simp [ValidK] at h2; omega)

set_option maxHeartbeats 1000000 in
set_option maxRecDepth 100000 in
theorem text_bad (i : I6) (h : encOk i = false) (w : World) (hA : AsAt w) :
    Calls Tryz.prog 9 #[.agg i.cells] w fun e w' => e = .returned (.tuple #[.string ⟨#[]⟩, .iface 69 (.int .i64 1)]) ∧ Below w.heap.size w w' := by
  have HC := hide (check_all i)
  have e : encN i = 1 := by unfold encN; rw [h]; rfl
  rw [e, errno_pos 1 (by decide)] at HC
  have HT := hide hA.tabs
  clear hA e h
  obtain ⟨op, rd, rs1, rs2, imm, csr⟩ := i
  simp only [I6.cells] at HC ⊢
  go_enter Tryz.func9, Tryz.ntmps9
  go_wp2_with (go_at_call 20; refine (HC.out _ (HT.out.below (below_box w _))).mono ?_; rintro e w2 ⟨rfl, hb2⟩)
  go_ret2
  exact ⟨rfl, below_new hb2⟩

theorem parts_all (k op : Nat) (hk : IsKind k) : ∀ c ∈ operK k op, Part c := by
  rcases hk with rfl | rfl | rfl | rfl | rfl | rfl | rfl | rfl | rfl | rfl | rfl
  case inr.inr.inr.inr.inr.inl =>
    by_cases h : 54 ≤ op <;> simp [operK, h, Part]
  all_goals simp [operK, Part]
theorem oper_len (k op : Nat) : (operK k op).length ≤ 7 := by
  unfold operK
  repeat' split
  all_goals simp
theorem told_len (i : I6) (hi : In64 i) (c : UInt8) : (toldL i c).length ≤ 22 := by
  obtain ⟨⟨h1, h2, h3⟩, h4, h5⟩ := hi
  have e1 := Lib.itoa_length_le _ h1.1 h1.2
  have e2 := Lib.itoa_length_le _ h2.1 h2.2
  have e3 := Lib.itoa_length_le _ h3.1 h3.2
  have e4 := Lib.itoa_length_le _ h4.1 h4.2
  have e5 := Lib.itoa_length_le _ h5.1 h5.2
  have e6 := Lib.itoa_length_le _ (tdiv_I64 h4).1 (tdiv_I64 h4).2
  unfold toldL regL
  repeat' split
  all_goals (first | omega | (simp only [List.length_cons, List.length_nil]; omega))
theorem rest_len (i : I6) (hi : In64 i) : ∀ l : Str, (l.flatMap (toldL i)).length ≤ 22 * l.length
  | [] => by simp
  | c :: l => by
    have := told_len i hi c
    have := rest_len i hi l
    rw [List.flatMap_cons, List.length_append, List.length_cons]
    omega
theorem name_len : ∀ x ∈ nameL, x.length ≤ 8 ∧ x ≠ [] := by decide +kernel

theorem run_at (l : Str) (k : Nat) (c : UInt8) (h : l[k]? = some c) (w : World) : (Instr.index 9 (.string ⟨l.toArray⟩) (.int .i64 (k : Int))).run Tryz.prog w = .ok (.int .u8 (c.toNat : Int)) w := by
  have hk : k < (ByteArray.mk l.toArray).size := by
    have := (List.getElem?_eq_some_iff.1 h).1
    simpa [ByteArray.size] using this
  have hc : (ByteArray.mk l.toArray)[k] = c := by
    obtain ⟨h1, h2⟩ := List.getElem?_eq_some_iff.1 h
    simpa [ByteArray.getElem_eq_getElem_data] using h2
  have hi : 0 ≤ (k : Int) ∧ (k : Int) < ((ByteArray.mk l.toArray).size : Int) := by omega
  rw [run_index_string w _ _ _ _ Tryz.underlying9, dif_pos hi]
  simp only [Int.toNat_natCast, hc]

/-- Between the steps of Text. -/
def TextSt (w : World) (i : I6) (B : Nat) (acc : Str) (W : World) : Prop := Bld B acc W ∧ SixAt W w.heap.size i ∧ Below w.heap.size w W ∧ w.heap.size < B
theorem TextSt.keeps {w : World} {i : I6} {B : Nat} {acc : Str} {W W' : World} (h : TextSt w i B acc W) (hb : Below W.heap.size W W') : TextSt w i B acc W' :=
  ⟨h.1.keeps hb, h.2.1.below hb (Nat.lt_trans h.2.2.2 h.1.2), h.2.2.1.trans (hb.mono h.2.2.1.size), h.2.2.2⟩
theorem TextSt.wrote {w : World} {i : I6} {B : Nat} {acc acc' : Str} {W W' : World} (h : TextSt w i B acc W) (hB : Bld B acc' W') (hb : Below B W W') : TextSt w i B acc' W' :=
  ⟨hB, h.2.1.below hb h.2.2.2, h.2.2.1.trans (hb.mono (Nat.le_of_lt h.2.2.2)), h.2.2.2⟩

set_option maxHeartbeats 4000000 in
set_option maxRecDepth 100000 in
theorem text_ok (i : I6) (h : encOk i = true) (w : World) (hA : AsAt w) :
    Calls Tryz.prog 9 #[.agg i.cells] w fun e w' => e = .returned (.tuple #[.string ⟨(textL i).toArray⟩, .nilIface]) ∧ Below w.heap.size w w' := by
  have HC := hide (check_all i)
  have e : encN i = 0 := by unfold encN; rw [h]; rfl
  rw [e, errno_zero] at HC
  have HA := hide hA
  have HB := hide (valid_bounds h)
  obtain ⟨h1, h2⟩ := encOk_valid h
  obtain ⟨h3, h4⟩ := op_nat h1
  have HO := hide (oper_any i.op.toNat h3)
  have HN := hide (name_yes i.op.toNat h3)
  have HS := hide (SixAt.new w i 28)
  have HPt := hide (parts_all (kindN i.op.toNat) i.op.toNat (kindN_is _ h3))
  have HQ := hide (name_len _ (nameS_mem h3))
  have HL := hide (oper_len (kindN i.op.toNat) i.op.toNat)
  have HTx : Hid (textL i = nameS i.op.toNat ++ ((if operK (kindN i.op.toNat) i.op.toNat = [] then [] else [32]) ++ (operK (kindN i.op.toNat) i.op.toNat).flatMap (toldL i))) := rfl
  have HTo := hide (fun c hc w h => atold_any i HB.out c hc w h)
  rw [show nameN i.op.toNat = ⟨(nameS i.op.toNat).toArray⟩ from rfl] at HN
  rw [← h4] at HO HN
  generalize operK (kindN i.op.toNat) i.op.toNat = F at *
  generalize nameS i.op.toNat = N at *
  clear hA e h h1 h2 h3 h4
  obtain ⟨op, rd, rs1, rs2, imm, csr⟩ := i
  simp only [I6.cells] at HC HTo HS HO HN ⊢
  go_enter Tryz.func9, Tryz.ntmps9
  go_wp2_with (first
    | (go_at_call 20; refine (HC.out _ (HA.out.tabs.below (below_box w _))).mono ?_; rintro e w2 ⟨rfl, hb2⟩; have HW : Hid (TextSt w ⟨op, rd, rs1, rs2, imm, csr⟩ w2.heap.size [] (w2.alloc (.cells #[.pointer none, .slice none 0 0] 60))) := ⟨Bld.new w2, (HS.out.below hb2 (by simp)).below (below_box w2 _) (Nat.lt_of_lt_of_le (by simp) hb2.size), (below_new hb2).trans ((below_box w2 _).mono (below_new hb2).size), Nat.lt_of_lt_of_le (by simp) hb2.size⟩; have hc0 := HW.out.2.1.1; simp only at hc0)
    | (go_at_call 22; refine (HN.out _ (HA.out.below HW.out.2.2.1).tabs.2).mono ?_; rintro e w3 ⟨rfl, rfl⟩)
    | (go_at_call 21; refine (writeS _ [] N _ HW.out.1 (by have := HQ.out.1; simp; omega)).mono ?_; rintro e w4 ⟨rfl, hB4, hb4⟩; have HW4 := hide (HW.out.wrote hB4 hb4); clear hc0 hB4 hb4; have hc0 := HW4.out.2.1.1; simp only at hc0))
  refine (HO.out _ (HA.out.below HW4.out.2.2.1).tabs).mono ?_
  rintro e w5 ⟨rfl, rfl⟩
  have hlt := HW4.out.2.2.2
  clear HW hb2 HS HC HN HO
  generalize w2.heap.size = B at *
  clear w2
  simp only [List.nil_append] at HW4
  by_cases hF : F = []
  · subst hF
    have HTx' : Hid (textL ⟨op, rd, rs1, rs2, imm, csr⟩ = N) := hide (by have := HTx.out; simpa using this)
    clear HTx
    go_wp2
    go_loopw [25] (fun iv wr => iv = .int .i64 0 ∧ TextSt w ⟨op, rd, rs1, rs2, imm, csr⟩ B N wr) (fun iv wr => 0)
    case atStart => exact ⟨rfl, HW4.out⟩
    case round =>
      obtain ⟨rfl, hW⟩ := hrel
      have HWr := hide hW
      clear hW
      go_wp2_with (go_at_call 26; refine (stringB _ N _ HWr.out.1 HQ.out.2).mono ?_; rintro e w6 ⟨rfl, hb6⟩)
      go_ret2
      refine ⟨?_, HWr.out.2.2.1.trans (hb6.mono (Nat.le_of_lt hlt))⟩
      rw [HTx'.out]; rfl
  · have hF' : List.isEmpty F = false := by cases F with | nil => exact absurd rfl hF | cons _ _ => rfl
    have HTx' : Hid (textL ⟨op, rd, rs1, rs2, imm, csr⟩ = (N ++ [32]) ++ F.flatMap (toldL ⟨op, rd, rs1, rs2, imm, csr⟩)) := hide (by have := HTx.out; rw [if_neg hF] at this; simpa using this)
    clear HTx
    go_wp2_with (go_at_call 24; refine (writeB _ N 32 _ HW4.out.1 (by have := HQ.out.1; omega)).mono ?_; rintro e w6 ⟨rfl, hB6, hb6⟩; have HW6 := hide (HW4.out.wrote hB6 hb6); clear hc0 hB6 hb6)
    go_loopw [25] (fun iv wr => ∃ k : Nat, k ≤ F.length ∧ iv = .int .i64 k ∧ TextSt w ⟨op, rd, rs1, rs2, imm, csr⟩ B ((N ++ [32]) ++ (F.take k).flatMap (toldL ⟨op, rd, rs1, rs2, imm, csr⟩)) wr) (fun iv wr => F.length - (intOf iv).toNat)
    case atStart => exact ⟨0, by omega, rfl, by simpa using HW6.out⟩
    case round =>
      obtain ⟨k, hk, rfl, hW⟩ := hrel
      have HWr := hide hW
      clear hW
      by_cases hlt2 : k < F.length
      · have hx : F[k]? = some F[k] := List.getElem?_eq_getElem hlt2
        have hix := run_at F k F[k] hx
        have HPk := hide (HPt.out F[k] (List.getElem_mem hlt2))
        generalize F[k] = c at *
        obtain ⟨c0, c1, c2, c3, c4, c5⟩ := HWr.out.2.1
        simp only at c0 c1 c2 c3 c4 c5
        have HLn := hide (show ((N ++ [32]) ++ (F.take k).flatMap (toldL ⟨op, rd, rs1, rs2, imm, csr⟩)).length + (toldL ⟨op, rd, rs1, rs2, imm, csr⟩ c).length ≤ 100000 from by
          have a1 := HQ.out.1
          have a2 := rest_len _ HB.out (F.take k)
          have a3 := told_len _ HB.out c
          have a4 := HL.out
          rw [List.length_take] at a2
          simp only [List.length_append, List.length_cons, List.length_nil]
          omega)
        have HNx := hide (show ((N ++ [32]) ++ (F.take k).flatMap (toldL ⟨op, rd, rs1, rs2, imm, csr⟩)) ++ toldL ⟨op, rd, rs1, rs2, imm, csr⟩ c = (N ++ [32]) ++ (F.take (k + 1)).flatMap (toldL ⟨op, rd, rs1, rs2, imm, csr⟩) from by
          rw [List.take_add_one, hx]; simp)
        clear hx
        have hwk : wrap64 ((k : Int) + 1) = ((k + 1 : Nat) : Int) := by have := HL.out; unfold wrap64; omega
        go_wp2
        go_region_with (first | (go_at_call 25; refine (HTo.out c HPk.out _ (HA.out.below HWr.out.2.2.1.drew).pow).mono ?_; rintro e w7 ⟨rfl, hb7⟩; replace hb7 := below_of_drew hb7; have HW7 := hide (HWr.out.keeps hb7); clear hb7) | (go_at_call 21; refine (writeS _ _ _ _ HW7.out.1 HLn.out).mono ?_; rintro e w8 ⟨rfl, hB8, hb8⟩; have HW8 := hide (HW7.out.wrote hB8 hb8); clear hB8 hb8))
        all_goals
          go_wp2
          go_roundw
          case rel =>
            have hw := HW8.out
            rw [HNx.out] at hw
            exact ⟨k + 1, by omega, by rw [hwk], hw⟩
          case measure => rw [hwk]; simp [intOf]; omega
      · obtain rfl : k = F.length := by omega
        go_wp2_with (go_at_call 26; refine (stringB _ _ _ HWr.out.1 (by simp)).mono ?_; rintro e w6 ⟨rfl, hb6⟩)
        go_ret2
        refine ⟨?_, HWr.out.2.2.1.trans (hb6.mono (Nat.le_of_lt hlt))⟩
        have e := HTx'.out
        rw [List.append_assoc, List.singleton_append] at e
        rw [e]; rfl

theorem text_all (i : I6) (w : World) (hA : AsAt w) :
    Calls Tryz.prog 9 #[.agg i.cells] w fun e w' => e = .returned (.tuple #[.string ⟨(if encOk i = true then textL i else []).toArray⟩, errno (encN i)]) ∧ Below w.heap.size w w' := by
  unfold encN
  by_cases h : encOk i = true
  · rw [if_pos h, if_pos h]
    exact text_ok i h w hA
  · rw [if_neg h, if_neg h]
    exact text_bad i (by simpa using h) w hA
end Go.Proofs.YtoekcfbjdcibpaaGreatDoor
