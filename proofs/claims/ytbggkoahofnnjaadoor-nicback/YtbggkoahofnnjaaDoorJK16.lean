/-
  What ring's follow answers.
-/
import Derived.Test.YtbggkoahofnnjaaDoorJK15
import Derived.Test.YtbggkoahofnnjaaDoorJK12
namespace Go.Proofs.YtbggkoahofnnjaaDoor
open Go.RowKit
set_option linter.unusedVariables false
set_option linter.unusedSimpArgs false

attribute [local go_sem] Rg.at0 Rg.at1 Rg.at2 Rg.at3 Rg.at4 Rg.at5
/-- The words of the descriptor at a. -/
def wordsR (f : Nat → Nat) (a : Nat) : Nat → Nat := fun i => numF f (a + 4 * i) 4
def untilR (f : Nat → Nat) (a k : Nat) : Nat → Nat := fun i => if i < k then wordsR f a i else 0
theorem untilR_step (f : Nat → Nat) (a k : Nat) (hk : k < 4) : dscV (updN (untilR f a k) k (wordsR f a k)) = dscV (untilR f a (k + 1)) := by
  rcases k with _ | _ | _ | _ | k
  all_goals first | (simp [dscV, updN, untilR]; done) | omega
theorem untilR_four (f : Nat → Nat) (a : Nat) : dscV (untilR f a 4) = dscV (wordsR f a) := by simp [dscV, untilR]
theorem untilR_none (f : Nat → Nat) (a : Nat) : dscV (fun _ => 0) = dscV (untilR f a 0) := by simp [dscV, untilR]
/-- Where the n-th descriptor stands. -/
def deA (r : Rg) (n : Nat) : Nat := t32 (r.de + 16 * n)
theorem deA_lt (r : Rg) (n : Nat) : deA r n < 4294967296 := Nat.mod_lt _ (by decide)
theorem deA_al {r : Rg} (h : r.de % 16 = 0) (n : Nat) : deA r n % 16 = 0 := by unfold deA t32; omega
theorem de_in {p x k : Nat} (hp : p ≤ 16384) (hx : x < 4294967296) (h : plB p x 16 = true) (hk : k < 4) : t32 (x + 4 * k) < 4294967296 ∧ plM (t32 (x + 4 * k)) = plM x + 4 * k ∧ plB p (t32 (x + 4 * k)) 4 = true := by
  have h1 := plB_in h (by decide)
  have e : plM (t32 (x + 4 * k)) = plM x + 4 * k := by
    unfold t32 plM at *
    split at h1 <;> split <;> omega
  exact ⟨Nat.mod_lt _ (by decide), e, by unfold plB; rw [e]; exact decide_eq_true (by omega)⟩
theorem de_out {p x : Nat} (ha : x % 16 = 0) (h : plB p x 16 = false) : plB p x 4 = false := by
  have h1 := plB_out h
  have h2 := plM_al x 16 (by decide) ha
  unfold plB
  exact decide_eq_false (by omega)
set_option maxHeartbeats 2000000 in
theorem rd_ok (r : Rg) (hr0 : r.Ok) (hde : r.de % 16 = 0) (n : Nat) (hn : n < 256) {w : World} {B b p c : Nat} {f : Nat → Nat} {O : Nat → Prop} (h : RamB w B b p f c O) (hA : AreasAt w) (hG : 0 < B) (h0 : plB p (deA r n) 16 = true) : Calls Tryd.prog 58 #[.agg r.cells, .pointer (some ⟨b, 0, none⟩), .int .i64 (n : Nat)] w fun e w' => e = .returned (.tuple #[.agg (dscV (wordsR f (plM (deA r n)))), .nilIface]) ∧ ∃ O', RamB w' B b p f c O' ∧ Went B O O' w w' := by
  have hB0 := h.base
  have hGw : 0 < w.heap.size := Nat.lt_of_lt_of_le hG hB0
  have HH := hide h
  have hA0 := hA
  have hfew := h.few
  have hal := deA_al hde n
  have hdl := hr0.de
  have e0 : ((r.de : Int) + 16 * (n : Int)) % 4294967296 = ((deA r n : Nat) : Int) := by unfold deA t32; omega
  obtain ⟨av, hav⟩ : ∃ a, deA r n = a := ⟨_, rfl⟩
  have havl : av < 4294967296 := hav ▸ deA_lt r n
  rw [hav] at h0 hal e0 ⊢
  have HIN := hide (fun k (hk : k < 4) => de_in hfew havl h0 hk)
  clear h hA hr0 hde h0 hav
  go_enter Tryd.func58, Tryd.ntmps58
  go_wp2_with (first | ((with_reducible refine bx_rp w.heap.size r ?_ ?_ ?_); exact rfl; exact rfl; intro W hr hb hz) | ((with_reducible refine al_dp (w.heap.size + 1) ?_ ?_); exact hz.out; intro W hq hb' hz'; replace hr := hr.bl (hz.out ▸ hb'); replace hb := hb.trans (hb'.mono (by omega)); replace hz := hz'; clear hz' hb') | ((with_reducible refine al_dp (w.heap.size + 1 + 1) ?_ ?_); exact hz.out; intro W hd hb' hz'; replace hr := hr.bl (hz.out ▸ hb'); replace hq := hq.bl (hz.out ▸ hb'); replace hb := hb.trans (hb'.mono (by omega)); replace hz := hz'; clear hz' hb') | ((with_reducible refine ld_rde w.heap.size _ _ hr ?_ ?_ ?_); exact rfl; exact rfl))
  simp only [e0]
  clear e0
  go_loopw [19] (fun iv wr => ∃ (k : Nat) (O1 : Nat → Prop), k ≤ 4 ∧ iv = .int .i64 (k : Nat) ∧ RamB wr B b p f c O1 ∧ Went B O O1 w wr ∧ AreasAt wr ∧ RowAt wr (w.heap.size + 1) (dscV (fun _ => 0)) 125 ∧ RowAt wr (w.heap.size + 1 + 1) (dscV (untilR f (plM av) k)) 125 ∧ FarB O1 w.heap.size 3 ∧ w.heap.size + 3 ≤ wr.heap.size) (fun iv _ => 4 - (intOf iv).toNat)
  case atStart =>
    have hbw : Below w.heap.size w W := hb
    exact ⟨0, O, Nat.zero_le _, rfl, HH.out.bl hbw, Went.of hbw hB0, hA0.bl hbw, hq, (untilR_none f (plM av)) ▸ hd, HH.out.far 3, by have := hz.out; omega⟩
  case round =>
    clear hr hq hd hb hz
    obtain ⟨k, O1, hk, rfl, hM, hW, hA, hq, hd, hF, hS⟩ := hrel
    have hB : B ≤ wr.heap.size := by omega
    by_cases hlt : k < 4
    · have hk4 : k < 4 := hlt
      obtain ⟨i1, i2, i3⟩ := HIN.out k hk4
      have HL : Hid (∀ W O1 (z : Int), RamB W B b p f c O1 → AreasAt W → z = ((t32 (av + 4 * k) : Nat) : Int) → Calls Tryd.prog 43 #[.pointer (some ⟨b, 0, none⟩), .int .u32 z, .int .i64 4] W fun e w' => e = .returned (.tuple #[.int .u32 (wordsR f (plM av) k : Nat), .nilIface]) ∧ ∃ O', RamB w' B b p f c O' ∧ Went B O1 O' W w') :=
        hide (fun W O1 z hM hA hz => by rw [hz]; have := rload_ok hM hA hG (t32 (av + 4 * k)) 4 i1 (by decide) (by unfold t32; omega) i3; rw [i2] at this; exact this)
      have ez : ((t32 (av + 4 * k) : Nat) : Int) = ((av : Int) + 4 * (k : Int)) % 4294967296 := by unfold t32; omega
      rw [ez] at HL
      clear ez i1 i2 i3
      go_wp2_with (first | (go_at_call 43; (with_reducible refine (HL.out _ _ _ hM hA ?_).mono ?_); (first | omega | (simp; omega)); rintro e W2 ⟨rfl, O2, hM2, hW2⟩; replace hq := hW2.row hq (hF.at 1 (by omega)); replace hd := hW2.row hd (hF.at 2 (by omega)); replace hA := hA.wentR hG hW2; replace hF := hF.went hW2 hS; replace hS := Nat.le_trans hS hW2.size; replace hW := hW.trans hW2; replace hB := Nat.le_trans hB hW2.size; replace hM := hM2; clear hM2 hW2) | ((with_reducible refine st_di (w.heap.size + 1 + 1) k _ (wordsR f (plM av) k) hk4 hd ?_ ?_ ?_); exact rfl; exact rfl; intro W hnew ho; replace hq := hq.only ho (by omega); replace hM := hM.only ho (hF.at 2 (by omega)); replace hA := hA.onlyR ho (by omega); replace hW := hW.only ho (by omega) (by omega); replace hS := (show w.heap.size + 3 ≤ W.heap.size by rw [ho.size]; exact hS); replace hB := (show B ≤ W.heap.size by rw [ho.size]; exact hB); replace hd := (untilR_step f (plM av) k hk4) ▸ hnew; clear hnew ho))
      go_roundw
      case rel => exact ⟨k + 1, _, hlt, by go_num, hM, hW, hA, hq, hd, hF, hS⟩
      case measure => show 4 - (((k : Int) + 1)).toNat < 4 - ((k : Int)).toNat; omega
    · obtain rfl : k = 4 := by omega
      replace hd := (untilR_four f (plM av)) ▸ hd
      go_wp2_with (first | ((with_reducible refine ld_dp (w.heap.size + 1 + 1) _ hd ?_ ?_ ?_); exact rfl; exact rfl) | ((with_reducible refine st_dp (w.heap.size + 1) _ (wordsR f (plM av)) hq ?_ ?_ ?_); exact rfl; exact rfl; intro W hnew ho; replace hd := hd.only ho (by omega); replace hM := hM.only ho (hF.at 1 (by omega)); replace hA := hA.onlyR ho (by omega); replace hW := hW.only ho (by omega) (by omega); replace hS := (show w.heap.size + 3 ≤ W.heap.size by rw [ho.size]; exact hS); replace hB := (show B ≤ W.heap.size by rw [ho.size]; exact hB); replace hq := hnew; clear hnew ho))
      refine bodyPost_ret (results_cell_u Tryd.results58 _ _ (w.heap.size + 1) _ _ _ rfl hq Tryd.underlying125 rfl size_dp) rfl ?_
      exact ⟨rfl, _, hM, hW⟩
set_option maxHeartbeats 2000000 in
theorem rd_no (r : Rg) (hr0 : r.Ok) (hde : r.de % 16 = 0) (n : Nat) (hn : n < 256) {w : World} {B b p c : Nat} {f : Nat → Nat} {O : Nat → Prop} (h : RamB w B b p f c O) (hA : AreasAt w) (hG : 0 < B) (h0 : plB p (deA r n) 16 = false) : Calls Tryd.prog 58 #[.agg r.cells, .pointer (some ⟨b, 0, none⟩), .int .i64 (n : Nat)] w fun e w' => e = .returned (.tuple #[.agg (dscV (fun _ => 0)), .iface 59 (.int .i64 22)]) ∧ ∃ O', RamB w' B b p f c O' ∧ Went B O O' w w' := by
  have hB0 := h.base
  have hGw : 0 < w.heap.size := Nat.lt_of_lt_of_le hG hB0
  have HH := hide h
  have hA0 := hA
  have hfew := h.few
  have hal := deA_al hde n
  have hdl := hr0.de
  have e0 : ((r.de : Int) + 16 * (n : Int)) % 4294967296 = ((deA r n : Nat) : Int) := by unfold deA t32; omega
  obtain ⟨av, hav⟩ : ∃ a, deA r n = a := ⟨_, rfl⟩
  have havl : av < 4294967296 := hav ▸ deA_lt r n
  rw [hav] at h0 hal e0 
  have h04 := de_out hal h0
  clear h hA hr0 hde h0 hav
  go_enter Tryd.func58, Tryd.ntmps58
  go_wp2_with (first | ((with_reducible refine bx_rp w.heap.size r ?_ ?_ ?_); exact rfl; exact rfl; intro W hr hb hz) | ((with_reducible refine al_dp (w.heap.size + 1) ?_ ?_); exact hz.out; intro W hq hb' hz'; replace hr := hr.bl (hz.out ▸ hb'); replace hb := hb.trans (hb'.mono (by omega)); replace hz := hz'; clear hz' hb') | ((with_reducible refine al_dp (w.heap.size + 1 + 1) ?_ ?_); exact hz.out; intro W hd hb' hz'; replace hr := hr.bl (hz.out ▸ hb'); replace hq := hq.bl (hz.out ▸ hb'); replace hb := hb.trans (hb'.mono (by omega)); replace hz := hz'; clear hz' hb') | ((with_reducible refine ld_rde w.heap.size _ _ hr ?_ ?_ ?_); exact rfl; exact rfl))
  simp only [e0]
  clear e0
  go_loopw [19] (fun iv wr => ∃ (k : Nat) (O1 : Nat → Prop), k ≤ 0 ∧ iv = .int .i64 (k : Nat) ∧ RamB wr B b p f c O1 ∧ Went B O O1 w wr ∧ AreasAt wr ∧ RowAt wr (w.heap.size + 1) (dscV (fun _ => 0)) 125 ∧ RowAt wr (w.heap.size + 1 + 1) (dscV (untilR f (plM av) k)) 125 ∧ FarB O1 w.heap.size 3 ∧ w.heap.size + 3 ≤ wr.heap.size) (fun iv _ => 4 - (intOf iv).toNat)
  case atStart =>
    have hbw : Below w.heap.size w W := hb
    exact ⟨0, O, Nat.zero_le _, rfl, HH.out.bl hbw, Went.of hbw hB0, hA0.bl hbw, hq, (untilR_none f (plM av)) ▸ hd, HH.out.far 3, by have := hz.out; omega⟩
  case round =>
    clear hr hq hd hb hz
    obtain ⟨k, O1, hk, rfl, hM, hW, hA, hq, hd, hF, hS⟩ := hrel
    have hB : B ≤ wr.heap.size := by omega
    obtain rfl : k = 0 := by omega
    have HL : Hid (∀ W O1 (z : Int), RamB W B b p f c O1 → AreasAt W → z = (av : Int) → Calls Tryd.prog 43 #[.pointer (some ⟨b, 0, none⟩), .int .u32 z, .int .i64 4] W fun e w' => e = .returned (.tuple #[.int .u32 0, .iface 59 (.int .i64 22)]) ∧ ∃ O', RamB w' B b p f c O' ∧ Went B O1 O' W w') :=
      hide (fun W O1 z hM hA hz => by rw [hz]; exact rload_no hM hA hG av 4 havl (by decide) (by omega) h04)
    clear h04
    go_wp2_with (first | (go_at_call 43; (with_reducible refine (HL.out _ _ _ hM hA ?_).mono ?_); (first | omega | (simp; omega)); rintro e W2 ⟨rfl, O2, hM2, hW2⟩; replace hq := hW2.row hq (hF.at 1 (by omega)); replace hd := hW2.row hd (hF.at 2 (by omega)); replace hA := hA.wentR hG hW2; replace hF := hF.went hW2 hS; replace hS := Nat.le_trans hS hW2.size; replace hW := hW.trans hW2; replace hB := Nat.le_trans hB hW2.size; replace hM := hM2; clear hM2 hW2) | ((with_reducible refine st_dp (w.heap.size + 1) _ (fun _ => 0) hq ?_ ?_ ?_); exact rfl; exact rfl; intro W hnew ho; replace hd := hd.only ho (by omega); replace hM := hM.only ho (hF.at 1 (by omega)); replace hA := hA.onlyR ho (by omega); replace hW := hW.only ho (by omega) (by omega); replace hS := (show w.heap.size + 3 ≤ W.heap.size by rw [ho.size]; exact hS); replace hB := (show B ≤ W.heap.size by rw [ho.size]; exact hB); replace hq := hnew; clear hnew ho))
    refine bodyPost_ret (results_cell_u Tryd.results58 _ _ (w.heap.size + 1) _ _ _ rfl hq Tryd.underlying125 rfl size_dp) rfl ?_
    exact ⟨rfl, _, hM, hW⟩
end Go.Proofs.YtbggkoahofnnjaaDoor
namespace Go.Proofs.YtbggkoahofnnjaaDoor
open Go.RowKit
set_option linter.unusedVariables false
set_option linter.unusedSimpArgs false

def dscL (l : List (Nat → Nat)) : List Value := l.flatMap fun g => (dscV g).toList
theorem dscL_len (l : List (Nat → Nat)) : (dscL l).length = l.length * 4 := by
  induction l with
  | nil => rfl
  | cons x t ih => simp only [dscL, List.flatMap_cons, List.length_append, List.length_cons] at ih ⊢; rw [ih, show (dscV x).toList.length = 4 from rfl]; omega
theorem dscL_app (l m : List (Nat → Nat)) : dscL (l ++ m) = dscL l ++ dscL m := by simp [dscL]
theorem dscL_one (g : (Nat → Nat)) : dscL [g] = (dscV g).toList := by simp [dscL]
theorem dscL_ones (l : List (Nat → Nat)) : ∀ u ∈ dscL l, u.oneCell' = true := by
  intro u hu
  obtain ⟨g, _, hg⟩ := List.mem_flatMap.1 hu
  exact (Array.all_eq_true_iff_forall_mem.1 (dsc_one g)) u (by simpa using hg)
theorem dscL_at : ∀ (l : List (Nat → Nat)) (j : Nat) (g : (Nat → Nat)), l[j]? = some g → ∀ i, i < 4 → (dscL l)[j * 4 + i]? = (dscV g)[i]?
  | [], j, g, h => by simp at h
  | x :: t, 0, g, h => fun i hi => by
    simp only [List.getElem?_cons_zero, Option.some.injEq] at h
    subst h
    have : dscL (x :: t) = (dscV x).toList ++ dscL t := rfl
    rw [this, Nat.zero_mul, Nat.zero_add, List.getElem?_append_left (by show i < 4; exact hi), Array.getElem?_toList]
  | x :: t, j + 1, g, h => fun i hi => by
    have ih := dscL_at t j g (by simpa using h) i hi
    have : dscL (x :: t) = (dscV x).toList ++ dscL t := rfl
    rw [this, List.getElem?_append_right (by show 4 ≤ _; omega), ← ih]
    congr 1
    show (j + 1) * 4 + i - 4 = _
    omega
def segL (l : List Sg) : List Value := l.flatMap fun g => (g.cells).toList
theorem segL_len (l : List Sg) : (segL l).length = l.length * 3 := by
  induction l with
  | nil => rfl
  | cons x t ih => simp only [segL, List.flatMap_cons, List.length_append, List.length_cons] at ih ⊢; rw [ih, show (x.cells).toList.length = 3 from rfl]; omega
theorem segL_app (l m : List Sg) : segL (l ++ m) = segL l ++ segL m := by simp [segL]
theorem segL_one (g : Sg) : segL [g] = (g.cells).toList := by simp [segL]
theorem segL_ones (l : List Sg) : ∀ u ∈ segL l, u.oneCell' = true := by
  intro u hu
  obtain ⟨g, _, hg⟩ := List.mem_flatMap.1 hu
  exact (Array.all_eq_true_iff_forall_mem.1 (sg_one g)) u (by simpa using hg)
theorem segL_at : ∀ (l : List Sg) (j : Nat) (g : Sg), l[j]? = some g → ∀ i, i < 3 → (segL l)[j * 3 + i]? = (g.cells)[i]?
  | [], j, g, h => by simp at h
  | x :: t, 0, g, h => fun i hi => by
    simp only [List.getElem?_cons_zero, Option.some.injEq] at h
    subst h
    have : segL (x :: t) = (x.cells).toList ++ segL t := rfl
    rw [this, Nat.zero_mul, Nat.zero_add, List.getElem?_append_left (by show i < 3; exact hi), Array.getElem?_toList]
  | x :: t, j + 1, g, h => fun i hi => by
    have ih := segL_at t j g (by simpa using h) i hi
    have : segL (x :: t) = (x.cells).toList ++ segL t := rfl
    rw [this, List.getElem?_append_right (by show 3 ≤ _; omega), ← ih]
    congr 1
    show (j + 1) * 3 + i - 3 = _
    omega
theorem info_d : ∃ i, Tryd.prog.info? 125 = some i ∧ i.zero = some (.agg (dscV (fun _ => 0))) ∧ i.size = 4 ∧ i.bytes = 16 := info_parts (P := Tryd.prog) (e := 125) (z := .agg (dscV (fun _ => 0))) (size := 4) (bytes := 16) (by kernel_rfl)
theorem info_s : ∃ i, Tryd.prog.info? 104 = some i ∧ i.zero = some (.agg zeroSg.cells) ∧ i.size = 3 ∧ i.bytes = 24 := info_parts (P := Tryd.prog) (e := 104) (z := .agg zeroSg.cells) (size := 3) (bytes := 24) (by kernel_rfl)
variable {ops : Array Oper} {rest : List Oper} {dst : Option Tmp} {ty : TypeId} {pos : String} {after : Array Edge} {a : Act} {w : World} {Q : Exit → Act → World → Prop} {x y : Operand} {B : Nat} {v : Value}
/-- One more behind a list of one's own. -/
theorem app_d (l : List (Nat → Nat)) (g : Nat → Nat) (n : Nat) (hn : l.length = n) (hown : w.ownsRow B 125 4 v n (dscL l)) (s : Nat) (hs : RowAt w s (dscV g) 125) (hl : n ≤ 1000000) (hB : B ≤ w.heap.size) (hx : a.eval x = v) (hy : a.eval y = .slice (some ⟨s, 0, none⟩) 1 1)
    (k : ∀ W v', W.ownsRow B 125 4 v' (n + 1) (dscL (l ++ [g])) → w.grownBy W v.ownBlock → (v'.ownBlock = v.ownBlock ∨ v'.ownBlock = some w.heap.size) → wpList Tryd.prog ops Q rest (a.put dst v') W) :
    wpList Tryd.prog ops Q (⟨dst, .call { callee := .builtin .append, args := #[x, y], argTypes := #[120, 120] }, 120, pos, after, none⟩ :: rest) a w := by
  obtain ⟨i, h1, h2, h3, h4⟩ := info_d
  refine op_appl 120 125 i _ 4 16 Tryd.underlying120 h1 h2 h3 h4 rfl (by decide) hown ⟨s, 0, none⟩ 1 1 (dscL [g]) (by rw [dscL_len]; rfl) ?_ (dscL_ones _) (by unfold maxLen; omega) (by omega) hB hx hy ?_
  · intro j u hu
    rw [Addr.add_lit, Nat.zero_add, hs.cell, ← Array.getElem?_toList]
    rwa [dscL_one] at hu
  · intro W v' q1 q2 q3
    rw [← dscL_app] at q1
    exact k W v' q1 q2 q3
theorem app_s (l : List Sg) (g : Sg) (n : Nat) (hn : l.length = n) (hown : w.ownsRow B 104 3 v n (segL l)) (s : Nat) (hs : RowAt w s g.cells 104) (hl : n ≤ 1000000000) (hB : B ≤ w.heap.size) (hx : a.eval x = v) (hy : a.eval y = .slice (some ⟨s, 0, none⟩) 1 1)
    (k : ∀ W v', W.ownsRow B 104 3 v' (n + 1) (segL (l ++ [g])) → w.grownBy W v.ownBlock → (v'.ownBlock = v.ownBlock ∨ v'.ownBlock = some w.heap.size) → wpList Tryd.prog ops Q rest (a.put dst v') W) :
    wpList Tryd.prog ops Q (⟨dst, .call { callee := .builtin .append, args := #[x, y], argTypes := #[63, 63] }, 63, pos, after, none⟩ :: rest) a w := by
  obtain ⟨i, h1, h2, h3, h4⟩ := info_s
  refine op_appl 63 104 i _ 3 24 Tryd.underlying63 h1 h2 h3 h4 rfl (by decide) hown ⟨s, 0, none⟩ 1 1 (segL [g]) (by rw [segL_len]; rfl) ?_ (segL_ones _) (by unfold maxLen; omega) (by omega) hB hx hy ?_
  · intro j u hu
    rw [Addr.add_lit, Nat.zero_add, hs.cell, ← Array.getElem?_toList]
    rwa [segL_one] at hu
  · intro W v' q1 q2 q3
    rw [← segL_app] at q1
    exact k W v' q1 q2 q3
theorem bs_d (N : Nat) (hN : w.heap.size = N) (g : Nat → Nat) (hx : a.eval x = .agg (dscV g))
    (k : ∀ W, RowAt W N (dscV g) 125 → Below N w W → Hid (W.heap.size = N + 1) → wpList Tryd.prog ops Q rest (a.put dst (.slice (some ⟨N, 0, none⟩) 1 1)) W) :
    wpList Tryd.prog ops Q (⟨dst, .buildSlice 120 1 #[(0, x)], ty, pos, after, none⟩ :: rest) a w :=
  op_bsn 120 125 1 Tryd.underlying120 (dscV g) N hN [(0, .agg (dscV g))] (by simp [hx]) ⟨by kernel_rfl⟩ k
theorem bs_s (N : Nat) (hN : w.heap.size = N) (g : Sg) (hx : a.eval x = .agg g.cells)
    (k : ∀ W, RowAt W N g.cells 104 → Below N w W → Hid (W.heap.size = N + 1) → wpList Tryd.prog ops Q rest (a.put dst (.slice (some ⟨N, 0, none⟩) 1 1)) W) :
    wpList Tryd.prog ops Q (⟨dst, .buildSlice 63 1 #[(0, x)], ty, pos, after, none⟩ :: rest) a w :=
  op_bsn 63 104 1 Tryd.underlying63 g.cells N hN [(0, .agg g.cells)] (by simp [hx]) ⟨by kernel_rfl⟩ k
end Go.Proofs.YtbggkoahofnnjaaDoor
namespace Go.Proofs.YtbggkoahofnnjaaDoor
open Go.RowKit
set_option linter.unusedVariables false
set_option linter.unusedSimpArgs false

attribute [local go_sem] Rg.at0 Rg.at1 Rg.at2 Rg.at3 Rg.at4 Rg.at5
theorem AreasAt.growR {w W : World} {row : Option Nat} (h : AreasAt w) (hg : w.grownBy W row) (hn : ∀ g, row = some g → 0 < g) : AreasAt W := by
  have e : W.heap[0]? = w.heap[0]? := hg.block _ h.lt (fun k => absurd (hn _ k.symm) (by omega))
  intro d hd
  obtain ⟨h1, h2, h3⟩ := h d hd
  exact ⟨(cell_of_heap e _).trans h1, (cell_of_heap e _).trans h2, (cell_of_heap e _).trans h3⟩
theorem own_lower1 {W : World} {B e sz n : Nat} {v : Value} {xs : List Value} (h : W.ownsRow (B + 1) e sz v n xs) : W.ownsRow B e sz v n xs := by
  refine ⟨h.1, h.2.imp id ?_⟩
  rintro ⟨g, cap, cur, rfl, hb, hgg, rest⟩
  exact ⟨g, cap, cur, rfl, by omega, hgg, rest⟩
/-- The descriptor of a number. -/
def dscAt (f : Nat → Nat) (r : Rg) (n : Int) : Nat → Nat := wordsR f (plM (deA r n.toNat))
/-- The descriptors of a chain, of k at most. -/
def followV (p : Nat) (f : Nat → Nat) (r : Rg) : Nat → Int → Option (List (Nat → Nat))
  | 0, _ => none
  | k + 1, n =>
    if 0 ≤ n ∧ n < r.sz then
      if plB p (deA r n.toNat) 16 then
        (if hasD (dscAt f r n) 1 then (followV p f r k (dscAt f r n 3 / 65536 : Nat)).map (dscAt f r n :: ·) else some [dscAt f r n])
      else none
    else none
theorem follow_len {p : Nat} {f : Nat → Nat} {r : Rg} : ∀ (k : Nat) (n : Int) (l : List (Nat → Nat)), followV p f r k n = some l → l.length ≤ k ∧ 0 < l.length
  | 0, n, l, h => by cases h
  | k + 1, n, l, h => by
    simp only [followV] at h
    split at h
    · split at h
      · split at h
        · cases hq : followV p f r k (dscAt f r n 3 / 65536 : Nat) with
          | none => rw [hq] at h; cases h
          | some l' =>
            have := follow_len k _ l' hq
            rw [hq] at h
            simp only [Option.map_some, Option.some.injEq] at h
            subst h
            simp; omega
        · cases h; simp
      · cases h
    · cases h
theorem dscAt_lt {f : Nat → Nat} (hf : ∀ x, f x < 256) (r : Rg) (n : Int) (i : Nat) : dscAt f r n i < 4294967296 := numF_lt hf _ 4
theorem follow_words {p : Nat} {f : Nat → Nat} {r : Rg} (hf : ∀ x, f x < 256) : ∀ (k : Nat) (n : Int) (l : List (Nat → Nat)), followV p f r k n = some l → ∀ g ∈ l, ∀ i, g i < 4294967296
  | 0, n, l, h => by cases h
  | k + 1, n, l, h => by
    simp only [followV] at h
    split at h
    · split at h
      · split at h
        · cases hq : followV p f r k (dscAt f r n 3 / 65536 : Nat) with
          | none => rw [hq] at h; cases h
          | some l' =>
            have ih := follow_words hf k _ l' hq
            rw [hq] at h
            simp only [Option.map_some, Option.some.injEq] at h
            subst h
            intro g hg i
            rcases List.mem_cons.1 hg with rfl | hg
            · exact dscAt_lt hf r n i
            · exact ih g hg i
        · cases h
          intro g hg i
          obtain rfl := List.mem_singleton.1 hg
          exact dscAt_lt hf r n i
      · cases h
    · cases h
set_option maxHeartbeats 4000000 in
theorem follow_any (r : Rg) (hr0 : r.Ok) (hc : chkR r = true) (hd : Int) {w : World} {B b p c : Nat} {f : Nat → Nat} {O : Nat → Prop} (h : RamB w B b p f c O) (hA : AreasAt w) (hG : 0 < B) :
    Calls Tryd.prog 45 #[.agg r.cells, .pointer (some ⟨b, 0, none⟩), .int .i64 hd] w fun e w' => ∃ O', RamB w' B b p f c O' ∧ Went B O O' w w' ∧ ((followV p f r r.sz.toNat hd = none ∧ e = .returned (.tuple #[.slice none 0 0, .iface 59 (.int .i64 22)])) ∨ ∃ l v, followV p f r r.sz.toNat hd = some l ∧ e = .returned (.tuple #[v, .nilIface]) ∧ w'.ownsRow w.heap.size 125 4 v l.length (dscL l) ∧ ∀ g, v.ownBlock = some g → ¬ O' g) := by
  have hB0 := h.base
  have hGw : 0 < w.heap.size := Nat.lt_of_lt_of_le hG hB0
  have hA0 := hA
  have HH := hide h
  have hsm := hide h.small
  obtain ⟨k, hk, hk0, hk1⟩ := chkR_sz hc
  obtain ⟨al1, al2, al3⟩ := chkR_al hc
  have hkn : r.sz.toNat = k := by omega
  rw [hkn]
  have HIS : Hid (∀ n W, Calls Tryd.prog 51 #[.agg r.cells, .int .i64 n] W fun e w' => e = .returned (.bool (decide (0 ≤ n ∧ n < r.sz))) ∧ Below W.heap.size W w') := hide (fun n W => ishead_any r n W)
  have hk' := hide hk
  clear h hA hkn hk
  go_enter Tryd.func45, Tryd.ntmps45
  go_wp2_with (first | ((with_reducible refine bx_rp w.heap.size r ?_ ?_ ?_); exact rfl; exact rfl; intro W hr hb hz))
  go_loopw [8, 9] (fun ov nv wr => ∃ (acc : List (Nat → Nat)) (n : Int) (O1 : Nat → Prop), acc.length ≤ k ∧ nv = .int .i64 n ∧ followV p f r k hd = (followV p f r (k - acc.length) n).map (acc ++ ·) ∧ RamB wr B b p f c O1 ∧ Went B O O1 w wr ∧ AreasAt wr ∧ RowAt wr w.heap.size r.cells 36 ∧ wr.ownsRow (w.heap.size + 1) 125 4 ov acc.length (dscL acc) ∧ (∀ g, ov.ownBlock = some g → ¬ O1 g) ∧ FarB O1 w.heap.size 1 ∧ w.heap.size + 1 ≤ wr.heap.size) (fun ov nv _ => 300 - lenV ov)
  case atStart =>
    have hbw : Below w.heap.size w W := hb
    refine ⟨[], hd, O, Nat.zero_le _, rfl, ?_, HH.out.bl hbw, Went.of hbw hB0, hA0.bl hbw, hr, World.ownsRow_nil _ _ _ _, (fun g hg => by cases hg), HH.out.far 1, by have := hz.out; omega⟩
    show followV p f r k hd = (followV p f r k hd).map (([] : List (Nat → Nat)) ++ ·)
    cases followV p f r k hd <;> rfl
  case round =>
    clear hr hb hz
    obtain ⟨acc, n, O1, hk2, rfl, hfo, hM, hW, hA, hr, hL, hLn, hF, hS⟩ := hrel
    have hB : B ≤ wr.heap.size := by omega
    obtain ⟨na, hna⟩ : ∃ x, acc.length = x := ⟨_, rfl⟩
    rw [hna] at hk2 hL hfo
    have HNA := hide hna
    obtain ⟨av, cap, rfl, hcap1, hcap2⟩ := own_form hL
    have hsz : r.sz = (k : Int) := hk'.out
    have HFO := hide hfo
    clear hfo hna
    by_cases hin : (0 ≤ n ∧ n < r.sz) ∧ na < k
    · obtain ⟨hin1, hin2⟩ := hin
      obtain ⟨m, rfl⟩ := Int.eq_ofNat_of_zero_le hin1.1
      have hml : m < 256 := by omega
      have d0 : decide (0 ≤ (m : Int) ∧ (m : Int) < r.sz) = true := decide_eq_true hin1
      have lt0 : (na : Int) < r.sz := by omega
      have HI1 := hide (fun W => (d0 ▸ HIS.out (m : Int) W : Calls Tryd.prog 51 #[.agg r.cells, .int .i64 (m : Int)] W fun e w' => e = .returned (.bool true) ∧ Below W.heap.size W w'))
      have hfs : followV p f r (k - na) (m : Int) = if plB p (deA r m) 16 then (if hasD (dscAt f r m) 1 then (followV p f r (k - na - 1) (dscAt f r m 3 / 65536 : Nat)).map (dscAt f r m :: ·) else some [dscAt f r m]) else none := by
        rw [show k - na = (k - na - 1) + 1 by omega]
        simp only [followV]
        rw [if_pos hin1]
        rfl
      clear hin1 d0
      by_cases hpl : plB p (deA r m) 16 = true
      · have HRD : Hid (∀ W O1, RamB W B b p f c O1 → AreasAt W → Calls Tryd.prog 58 #[.agg r.cells, .pointer (some ⟨b, 0, none⟩), .int .i64 (m : Nat)] W fun e w' => e = .returned (.tuple #[.agg (dscV (dscAt f r m)), .nilIface]) ∧ ∃ O', RamB w' B b p f c O' ∧ Went B O1 O' W w') := hide (fun W O1 hM hA => rd_ok r hr0 al1 m hml hM hA hG hpl)
        rw [if_pos hpl] at hfs
        have hgl : ∀ i, dscAt f r m i < 4294967296 := fun i => dscAt_lt hsm.out r m i
        obtain ⟨d, hdd⟩ : ∃ d, dscAt f r m = d := ⟨_, rfl⟩
        rw [hdd] at HRD hfs hgl
        have HHS : Hid (∀ W, Calls Tryd.prog 48 #[.agg (dscV d), .int .u32 1] W fun e w' => e = .returned (.bool (hasD d 1)) ∧ Below W.heap.size W w') := hide (fun W => hasd_any d (hgl 3) 1 (by decide) W)
        have HNX : Hid (∀ W, Calls Tryd.prog 59 #[.agg (dscV d)] W fun e w' => e = .returned (.int .i64 (d 3 / 65536 : Nat)) ∧ Below W.heap.size W w') := hide (fun W => next_any d (hgl 3) W)
        have HFS := hide hfs
        have hdl := hgl 3
        clear hdd hfs hpl hgl
        by_cases hhas : hasD d 1 = true
        · rw [hhas] at HHS
          obtain ⟨nx, hnx⟩ : ∃ x, d 3 / 65536 = x := ⟨_, rfl⟩
          rw [hnx] at HNX HFS
          clear hnx
          go_wp2_with (first | ((with_reducible refine ld_rp w.heap.size _ hr ?_ ?_ ?_); exact rfl; exact rfl) | ((with_reducible refine ld_rsz w.heap.size _ _ hr ?_ ?_ ?_); exact rfl; exact rfl) | (go_at_call 51; (with_reducible refine (HI1.out _).mono ?_); rintro e W ⟨rfl, hbc⟩; replace hM := hM.bl hbc; replace hW := hW.bl hbc hB; replace hA := hA.bl hbc; replace hB := Nat.le_trans hB hbc.size; replace hS := Nat.le_trans hS hbc.size; replace hr := hr.bl hbc; replace hL := own_bel hL hbc) | (go_at_call 58; (with_reducible refine (HRD.out _ _ hM hA).mono ?_); rintro e W2 ⟨rfl, O2, hM2, hW2⟩; have hLn2 := (fun g hg => hW2.no (hL.lt g hg).2 (hLn g hg)); replace hL := own_went hL hW2 hLn; replace hLn := hLn2; clear hLn2; replace hr := hW2.row hr (hF.at 0 (by omega)); replace hA := hA.wentR hG hW2; replace hF := hF.went hW2 hS; replace hS := Nat.le_trans hS hW2.size; replace hW := hW.trans hW2; replace hB := Nat.le_trans hB hW2.size; replace hM := hM2; clear hM2 hW2; obtain ⟨ND, hND0⟩ : ∃ n, W2.heap.size = n := ⟨_, rfl⟩; have hND := hide hND0; have hN1 : w.heap.size + 1 ≤ ND := hND0 ▸ hS; have hN2 : B ≤ ND := hND0 ▸ hB; have hdn : ¬ O2 ND := (fun e => absurd (hM.lt _ e) (by omega)); have hdv : ∀ g, (Value.slice av na cap).ownBlock = some g → w.heap.size + 1 ≤ g ∧ g < ND := (fun g hg => hND0 ▸ hL.lt g hg); clear hND0) | ((with_reducible refine al_dp ND ?_ ?_); exact hND.out; intro W hd hb' hz; have hbc := hND.out ▸ hb'; replace hM := hM.bl hbc; replace hW := hW.bl hbc hB; replace hA := hA.bl hbc; replace hB := Nat.le_trans hB hbc.size; replace hS := Nat.le_trans hS hbc.size; replace hr := hr.bl hbc; replace hL := own_bel hL hbc; clear hb' hbc) | ((with_reducible refine st_dp ND _ d hd ?_ ?_ ?_); exact rfl; exact rfl; intro W hnew ho; replace hz := hide (ho.size.trans hz.out); replace hr := hr.only ho (by omega); replace hL := own_only hL ho (fun e => absurd (hdv _ e).2 (by omega)); replace hM := hM.only ho hdn; replace hA := hA.onlyR ho (by omega); replace hW := hW.only ho (by omega) (by omega); replace hS := (show w.heap.size + 1 ≤ W.heap.size by rw [ho.size]; exact hS); replace hB := (show B ≤ W.heap.size by rw [ho.size]; exact hB); replace hd := hnew; clear hnew ho) | ((with_reducible refine ld_dp ND _ hd ?_ ?_ ?_); exact rfl; exact rfl) | ((with_reducible refine bs_d (ND + 1) ?_ d ?_ ?_); exact hz.out; exact rfl; intro W hs hb' hz'; have hbc := hz.out ▸ hb'; replace hM := hM.bl hbc; replace hW := hW.bl hbc hB; replace hA := hA.bl hbc; replace hB := Nat.le_trans hB hbc.size; replace hS := Nat.le_trans hS hbc.size; replace hr := hr.bl hbc; replace hL := own_bel hL hbc; replace hd := hd.bl hbc; clear hb' hbc hz') | ((with_reducible refine app_d acc d na HNA.out hL (ND + 1) hs (by omega) hS ?_ ?_ ?_); exact rfl; exact rfl; intro W v' hL2 hg hbk; replace hr := grow_row hr hg (fun e => absurd (hdv _ e).1 (by omega)); replace hd := grow_row hd hg (fun e => absurd (hdv _ e).2 (by omega)); replace hA := AreasAt.growR hA hg (fun g e => by have := (hdv g e).1; omega); replace hW := grow_went hW hg (fun g e => by have := (hdv g e).1; omega) hB0; have HLN0 := hide hLn; replace hLn := grow_no hM hLn hbk; have hM3 := grow_ram hM hg (fun g e => HLN0.out g e); replace hM := hM3; clear hM3; replace hS := Nat.le_trans hS hg.size; replace hB := Nat.le_trans hB hg.size; replace hL := hL2; clear hL2 hg hs) | (go_at_call 48; (with_reducible refine (HHS.out _).mono ?_); rintro e W ⟨rfl, hbc⟩; replace hM := hM.bl hbc; replace hW := hW.bl hbc hB; replace hA := hA.bl hbc; replace hB := Nat.le_trans hB hbc.size; replace hS := Nat.le_trans hS hbc.size; replace hr := hr.bl hbc; replace hL := own_bel hL hbc; replace hd := hd.bl hbc) | (go_at_call 59; (with_reducible refine (HNX.out _).mono ?_); rintro e W ⟨rfl, hbc⟩; replace hM := hM.bl hbc; replace hW := hW.bl hbc hB; replace hA := hA.bl hbc; replace hB := Nat.le_trans hB hbc.size; replace hS := Nat.le_trans hS hbc.size; replace hr := hr.bl hbc; replace hL := own_bel hL hbc; replace hd := hd.bl hbc))
          go_roundw
          case rel =>
            refine ⟨acc ++ [d], (nx : Int), _, by rw [List.length_append, HNA.out]; exact hin2, rfl, ?_, hM, hW, hA, hr, by rw [List.length_append, HNA.out]; exact hL, hLn, hF, by omega⟩
            rw [HFO.out, HFS.out, List.length_append, HNA.out, if_pos hhas, Option.map_map, show k - na - 1 = k - (na + [d].length) from by simp; omega]
            congr 1
            funext l
            simp
          case measure => obtain ⟨av', cap', rfl, _, _⟩ := own_form hL; show 300 - (na + 1) < 300 - na; omega
        · have hh : hasD d 1 = false := by simpa using hhas
          rw [hh] at HHS HFS
          clear hhas
          go_wp2_with (first | ((with_reducible refine ld_rp w.heap.size _ hr ?_ ?_ ?_); exact rfl; exact rfl) | ((with_reducible refine ld_rsz w.heap.size _ _ hr ?_ ?_ ?_); exact rfl; exact rfl) | (go_at_call 51; (with_reducible refine (HI1.out _).mono ?_); rintro e W ⟨rfl, hbc⟩; replace hM := hM.bl hbc; replace hW := hW.bl hbc hB; replace hA := hA.bl hbc; replace hB := Nat.le_trans hB hbc.size; replace hS := Nat.le_trans hS hbc.size; replace hr := hr.bl hbc; replace hL := own_bel hL hbc) | (go_at_call 58; (with_reducible refine (HRD.out _ _ hM hA).mono ?_); rintro e W2 ⟨rfl, O2, hM2, hW2⟩; have hLn2 := (fun g hg => hW2.no (hL.lt g hg).2 (hLn g hg)); replace hL := own_went hL hW2 hLn; replace hLn := hLn2; clear hLn2; replace hr := hW2.row hr (hF.at 0 (by omega)); replace hA := hA.wentR hG hW2; replace hF := hF.went hW2 hS; replace hS := Nat.le_trans hS hW2.size; replace hW := hW.trans hW2; replace hB := Nat.le_trans hB hW2.size; replace hM := hM2; clear hM2 hW2; obtain ⟨ND, hND0⟩ : ∃ n, W2.heap.size = n := ⟨_, rfl⟩; have hND := hide hND0; have hN1 : w.heap.size + 1 ≤ ND := hND0 ▸ hS; have hN2 : B ≤ ND := hND0 ▸ hB; have hdn : ¬ O2 ND := (fun e => absurd (hM.lt _ e) (by omega)); have hdv : ∀ g, (Value.slice av na cap).ownBlock = some g → w.heap.size + 1 ≤ g ∧ g < ND := (fun g hg => hND0 ▸ hL.lt g hg); clear hND0) | ((with_reducible refine al_dp ND ?_ ?_); exact hND.out; intro W hd hb' hz; have hbc := hND.out ▸ hb'; replace hM := hM.bl hbc; replace hW := hW.bl hbc hB; replace hA := hA.bl hbc; replace hB := Nat.le_trans hB hbc.size; replace hS := Nat.le_trans hS hbc.size; replace hr := hr.bl hbc; replace hL := own_bel hL hbc; clear hb' hbc) | ((with_reducible refine st_dp ND _ d hd ?_ ?_ ?_); exact rfl; exact rfl; intro W hnew ho; replace hz := hide (ho.size.trans hz.out); replace hr := hr.only ho (by omega); replace hL := own_only hL ho (fun e => absurd (hdv _ e).2 (by omega)); replace hM := hM.only ho hdn; replace hA := hA.onlyR ho (by omega); replace hW := hW.only ho (by omega) (by omega); replace hS := (show w.heap.size + 1 ≤ W.heap.size by rw [ho.size]; exact hS); replace hB := (show B ≤ W.heap.size by rw [ho.size]; exact hB); replace hd := hnew; clear hnew ho) | ((with_reducible refine ld_dp ND _ hd ?_ ?_ ?_); exact rfl; exact rfl) | ((with_reducible refine bs_d (ND + 1) ?_ d ?_ ?_); exact hz.out; exact rfl; intro W hs hb' hz'; have hbc := hz.out ▸ hb'; replace hM := hM.bl hbc; replace hW := hW.bl hbc hB; replace hA := hA.bl hbc; replace hB := Nat.le_trans hB hbc.size; replace hS := Nat.le_trans hS hbc.size; replace hr := hr.bl hbc; replace hL := own_bel hL hbc; replace hd := hd.bl hbc; clear hb' hbc hz') | ((with_reducible refine app_d acc d na HNA.out hL (ND + 1) hs (by omega) hS ?_ ?_ ?_); exact rfl; exact rfl; intro W v' hL2 hg hbk; replace hr := grow_row hr hg (fun e => absurd (hdv _ e).1 (by omega)); replace hd := grow_row hd hg (fun e => absurd (hdv _ e).2 (by omega)); replace hA := AreasAt.growR hA hg (fun g e => by have := (hdv g e).1; omega); replace hW := grow_went hW hg (fun g e => by have := (hdv g e).1; omega) hB0; have HLN0 := hide hLn; replace hLn := grow_no hM hLn hbk; have hM3 := grow_ram hM hg (fun g e => HLN0.out g e); replace hM := hM3; clear hM3; replace hS := Nat.le_trans hS hg.size; replace hB := Nat.le_trans hB hg.size; replace hL := hL2; clear hL2 hg hs) | (go_at_call 48; (with_reducible refine (HHS.out _).mono ?_); rintro e W ⟨rfl, hbc⟩; replace hM := hM.bl hbc; replace hW := hW.bl hbc hB; replace hA := hA.bl hbc; replace hB := Nat.le_trans hB hbc.size; replace hS := Nat.le_trans hS hbc.size; replace hr := hr.bl hbc; replace hL := own_bel hL hbc; replace hd := hd.bl hbc) | (go_at_call 59; (with_reducible refine (HNX.out _).mono ?_); rintro e W ⟨rfl, hbc⟩; replace hM := hM.bl hbc; replace hW := hW.bl hbc hB; replace hA := hA.bl hbc; replace hB := Nat.le_trans hB hbc.size; replace hS := Nat.le_trans hS hbc.size; replace hr := hr.bl hbc; replace hL := own_bel hL hbc; replace hd := hd.bl hbc))
          go_ret2
          refine ⟨_, hM, hW, .inr ⟨acc ++ [d], _, ?_, rfl, by rw [List.length_append, HNA.out]; exact own_lower1 hL, hLn⟩⟩
          rw [HFO.out, HFS.out]
          rfl
      · have hpf : plB p (deA r m) 16 = false := by simpa using hpl
        have HRD : Hid (∀ W O1, RamB W B b p f c O1 → AreasAt W → Calls Tryd.prog 58 #[.agg r.cells, .pointer (some ⟨b, 0, none⟩), .int .i64 (m : Nat)] W fun e w' => e = .returned (.tuple #[.agg (dscV (fun _ => 0)), .iface 59 (.int .i64 22)]) ∧ ∃ O', RamB w' B b p f c O' ∧ Went B O1 O' W w') := hide (fun W O1 hM hA => rd_no r hr0 al1 m hml hM hA hG hpf)
        rw [if_neg hpl] at hfs
        have HFS := hide hfs
        clear hfs hpl hpf
        go_wp2_with (first | ((with_reducible refine ld_rp w.heap.size _ hr ?_ ?_ ?_); exact rfl; exact rfl) | ((with_reducible refine ld_rsz w.heap.size _ _ hr ?_ ?_ ?_); exact rfl; exact rfl) | (go_at_call 51; (with_reducible refine (HI1.out _).mono ?_); rintro e W ⟨rfl, hbc⟩; replace hM := hM.bl hbc; replace hW := hW.bl hbc hB; replace hA := hA.bl hbc; replace hB := Nat.le_trans hB hbc.size; replace hS := Nat.le_trans hS hbc.size; replace hr := hr.bl hbc; replace hL := own_bel hL hbc) | (go_at_call 58; (with_reducible refine (HRD.out _ _ hM hA).mono ?_); rintro e W2 ⟨rfl, O2, hM2, hW2⟩; have hLn2 := (fun g hg => hW2.no (hL.lt g hg).2 (hLn g hg)); replace hL := own_went hL hW2 hLn; replace hLn := hLn2; clear hLn2; replace hr := hW2.row hr (hF.at 0 (by omega)); replace hA := hA.wentR hG hW2; replace hF := hF.went hW2 hS; replace hS := Nat.le_trans hS hW2.size; replace hW := hW.trans hW2; replace hB := Nat.le_trans hB hW2.size; replace hM := hM2; clear hM2 hW2; obtain ⟨ND, hND0⟩ : ∃ n, W2.heap.size = n := ⟨_, rfl⟩; have hND := hide hND0; have hN1 : w.heap.size + 1 ≤ ND := hND0 ▸ hS; have hN2 : B ≤ ND := hND0 ▸ hB; have hdn : ¬ O2 ND := (fun e => absurd (hM.lt _ e) (by omega)); have hdv : ∀ g, (Value.slice av na cap).ownBlock = some g → w.heap.size + 1 ≤ g ∧ g < ND := (fun g hg => hND0 ▸ hL.lt g hg); clear hND0) | ((with_reducible refine al_dp ND ?_ ?_); exact hND.out; intro W hd hb' hz; have hbc := hND.out ▸ hb'; replace hM := hM.bl hbc; replace hW := hW.bl hbc hB; replace hA := hA.bl hbc; replace hB := Nat.le_trans hB hbc.size; replace hS := Nat.le_trans hS hbc.size; replace hr := hr.bl hbc; replace hL := own_bel hL hbc; clear hb' hbc) | ((with_reducible refine st_dp ND _ (fun _ => 0) hd ?_ ?_ ?_); exact rfl; exact rfl; intro W hnew ho; replace hz := hide (ho.size.trans hz.out); replace hr := hr.only ho (by omega); replace hL := own_only hL ho (fun e => absurd (hdv _ e).2 (by omega)); replace hM := hM.only ho hdn; replace hA := hA.onlyR ho (by omega); replace hW := hW.only ho (by omega) (by omega); replace hS := (show w.heap.size + 1 ≤ W.heap.size by rw [ho.size]; exact hS); replace hB := (show B ≤ W.heap.size by rw [ho.size]; exact hB); replace hd := hnew; clear hnew ho))
        go_ret2
        refine ⟨_, hM, hW, .inl ⟨?_, rfl⟩⟩
        rw [HFO.out, HFS.out]
        rfl
    · have hno : followV p f r (k - na) n = none := by
        rcases Nat.lt_or_ge na k with e | e
        · rw [show k - na = (k - na - 1) + 1 by omega]
          simp only [followV]
          rw [if_neg (fun q => hin ⟨q, e⟩)]
        · rw [show k - na = 0 by omega]; rfl
      have HNO := hide hno
      clear hno
      by_cases hd0 : 0 ≤ n ∧ n < r.sz
      · have hge : ¬ (na : Int) < r.sz := fun e => hin ⟨hd0, by omega⟩
        have HI1 : Hid (∀ W, Calls Tryd.prog 51 #[.agg r.cells, .int .i64 n] W fun e w' => e = .returned (.bool true) ∧ Below W.heap.size W w') := hide (fun W => by have := HIS.out n W; rwa [decide_eq_true hd0] at this)
        have hge2 : decide ((na : Int) < r.sz) = false := by simpa using hge
        clear hin hd0
        go_wp2_with (first | ((with_reducible refine ld_rp w.heap.size _ hr ?_ ?_ ?_); exact rfl; exact rfl) | ((with_reducible refine ld_rsz w.heap.size _ _ hr ?_ ?_ ?_); exact rfl; exact rfl) | (go_at_call 51; (with_reducible refine (HI1.out _).mono ?_); rintro e W ⟨rfl, hbc⟩; replace hM := hM.bl hbc; replace hW := hW.bl hbc hB; replace hA := hA.bl hbc; replace hB := Nat.le_trans hB hbc.size; replace hS := Nat.le_trans hS hbc.size; replace hr := hr.bl hbc; replace hL := own_bel hL hbc))
        go_ret2
        refine ⟨_, hM, hW, .inl ⟨?_, rfl⟩⟩
        rw [HFO.out, HNO.out]
        rfl
      · have HI1 : Hid (∀ W, Calls Tryd.prog 51 #[.agg r.cells, .int .i64 n] W fun e w' => e = .returned (.bool false) ∧ Below W.heap.size W w') := hide (fun W => by have := HIS.out n W; rwa [decide_eq_false hd0] at this)
        clear hin hd0
        go_wp2_with (first | ((with_reducible refine ld_rp w.heap.size _ hr ?_ ?_ ?_); exact rfl; exact rfl) | ((with_reducible refine ld_rsz w.heap.size _ _ hr ?_ ?_ ?_); exact rfl; exact rfl) | (go_at_call 51; (with_reducible refine (HI1.out _).mono ?_); rintro e W ⟨rfl, hbc⟩; replace hM := hM.bl hbc; replace hW := hW.bl hbc hB; replace hA := hA.bl hbc; replace hB := Nat.le_trans hB hbc.size; replace hS := Nat.le_trans hS hbc.size; replace hr := hr.bl hbc; replace hL := own_bel hL hbc))
        go_ret2
        refine ⟨_, hM, hW, .inl ⟨?_, rfl⟩⟩
        rw [HFO.out, HNO.out]
        rfl
end Go.Proofs.YtbggkoahofnnjaaDoor
