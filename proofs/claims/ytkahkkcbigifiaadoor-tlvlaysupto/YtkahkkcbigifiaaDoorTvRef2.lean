/-
  The document's taking off: TakeN, TakeRun, Done.
-/
import Derived.Test.YtkahkkcbigifiaaDoorTvRef1
import Derived.Test.YtkahkkcbigifiaaDoorSmOps
import Derived.Great.Walk
namespace Go.Proofs.YtkahkkcbigifiaaDoor
open Go.RowKit
set_option linter.unusedVariables false
set_option linter.unusedSimpArgs false

def inC (vb : Value) (er : Nat) : Array Value := #[vb, .int .i64 (er : Nat)]
theorem size_in (vb : Value) (er : Nat) : (Tryd.prog.info? 49).map (·.size) = some (inC vb er).size := by kernel_rfl
theorem size_i64 : (Tryd.prog.info? 3).map (·.size) = some 1 := by kernel_rfl
theorem zero_in : ∀ w : World, (zeroValue 49).run Tryd.prog w = .ok (.agg (inC (.slice none 0 0) 0)) w := fun w => by kernel_rfl
theorem one_in (ad : Option Addr) (n cap er : Nat) : (inC (.slice ad n cap) er).all (·.oneCell') = true := by simp [inC, Value.oneCell']
theorem results_cell_one {P : Program} {fn : Func} {p u : Tmp} {ty : TypeId} (h : fn.results = #[.cell p ty, .tmp u]) (tmps : Array Value) (w : World) (g : Nat) (t : TypeId) (cs : Array Value) (d : TypeDesc)
    (hp : tmps.getD p undef = .pointer (some ⟨g, 0, none⟩)) (hg : RowAt w g cs t) (hu : P.underlying ty = some d) (hd : d.isRow = true) (hi : (P.info? ty).map (·.size) = some cs.size) :
    (results fn tmps).run P w = .ok (.tuple #[.agg cs, tmps.getD u undef]) w := by
  have e : tmps[p]?.getD undef = .pointer (some ⟨g, 0, none⟩) := by simpa using hp
  have l := run_loadVar_row w g t ty cs (0, 0) d hg hu (by cases d <;> first | rfl | cases hd) hi
  simp [results, h, e, asAddr, l]
variable {P : Program} {ops : Array Oper} {rest : List Oper} {dst : Option Tmp} {ty t t2 : TypeId} {pos : String} {after : Array Edge} {a : Act} {w : World} {Q : Exit → Act → World → Prop} {K : Act → World → Prop} {x y : Operand} {gd : Option (Nat × Bool)} {vb : Value} {er N : Nat}
theorem op_box (N : Nat) (hN : w.heap.size = N) (cs : Array Value) (hx : a.eval x = .agg cs)
    (k : ∀ W, RowAt W N cs t → Below N w W → Hid (W.heap.size = N + 1) → wpList P ops Q rest (a.put dst (.pointer (some ⟨N, 0, none⟩))) W) :
    wpList P ops Q (⟨dst, .box t x, ty, pos, after, none⟩ :: rest) a w := by
  subst hN
  exact Great.wpList_boxTo rfl t x rfl dst rfl _ rfl cs (by rw [hx]; rfl) (k _ (RowAt.new w _ cs t rfl) (below_one w _) (hide (by simp)))
theorem ld_inb (hr : RowAt w N (inC vb er) 49) (hx : a.eval x = .pointer (some ⟨N, 0, none⟩)) (k : wpList Tryd.prog ops Q rest (a.put dst vb) w) : wpList Tryd.prog ops Q (⟨dst, .load 26 x, ty, pos, after, none⟩ :: rest) a w :=
  op_load_cell N 0 hx _ vb _ hr rfl _ Tryd.underlying26 rfl k
theorem ld_ine (hr : RowAt w N (inC vb er) 49) (hx : a.eval x = .pointer (some ⟨N, 1, none⟩)) (k : wpList Tryd.prog ops Q rest (a.put dst (.int .i64 (er : Nat))) w) : wpList Tryd.prog ops Q (⟨dst, .load 3 x, ty, pos, after, none⟩ :: rest) a w :=
  op_load_cell N 1 hx _ (.int .i64 (er : Nat)) _ hr rfl _ Tryd.underlying3 rfl k
theorem st_ine (e' : Nat) (hr : RowAt w N (inC vb er) 49) (hx : a.eval x = .pointer (some ⟨N, 1, none⟩)) (hy : a.eval y = .int .i64 (e' : Nat)) (k : ∀ W, RowAt W N (inC vb e') 49 → Only N w W → wpList Tryd.prog ops Q rest (a.put dst undef) W) : wpList Tryd.prog ops Q (⟨dst, .store 3 x y, ty, pos, after, none⟩ :: rest) a w :=
  op_store_cell N 1 hx (.int .i64 (e' : Nat)) hy _ (inC vb e') _ hr size_i64 (show 1 < 2 by decide) rfl rfl k
theorem ld_in (hr : RowAt w N (inC vb er) 49) (hx : a.eval x = .pointer (some ⟨N, 0, none⟩)) (k : wpList Tryd.prog ops Q rest (a.put dst (.agg (inC vb er))) w) : wpList Tryd.prog ops Q (⟨dst, .load 49 x, ty, pos, after, none⟩ :: rest) a w :=
  op_load N hx _ _ hr _ Tryd.underlying49 rfl (size_in vb er) k
theorem st_in {vo : Value} {eo : Nat} (ad : Option Addr) (n cap e' : Nat) (hr : RowAt w N (inC vo eo) 49) (hx : a.eval x = .pointer (some ⟨N, 0, none⟩)) (hy : a.eval y = .agg (inC (.slice ad n cap) e')) (k : ∀ W, RowAt W N (inC (.slice ad n cap) e') 49 → Only N w W → wpList Tryd.prog ops Q rest (a.put dst undef) W) : wpList Tryd.prog ops Q (⟨dst, .store 49 x y, ty, pos, after, none⟩ :: rest) a w :=
  op_store N hx _ hy _ _ hr (size_in _ e') rfl (one_in ad n cap e') k
theorem s_in {vo : Value} {eo : Nat} (ad : Option Addr) (n cap e' : Nat) (hr : RowAt w N (inC vo eo) 49) (hx : a.eval x = .pointer (some ⟨N, 0, none⟩)) (hy : a.eval y = .agg (inC (.slice ad n cap) e')) (k : ∀ W, RowAt W N (inC (.slice ad n cap) e') 49 → Only N w W → K (a.put dst undef) W) : Oper.wp Tryd.prog ⟨dst, .store 49 x y, ty, pos, after, none⟩ a w K Q :=
  s_store N hx _ hy _ _ hr (size_in _ e') rfl (one_in ad n cap e') k
set_option maxRecDepth 100000 in
set_option maxHeartbeats 4000000 in
theorem rtakeN_any {B : Nat} {vb : Value} {i : InS} (w : World) (h : Rd B w vb i.b) (hB : B ≤ w.heap.size) (n : Int) (most : Nat) (hmost : most < 18446744073709551616) :
    Calls Tryd.prog 23 #[.agg #[vb, .int .i64 (i.err : Nat)], .int .i64 n, .int .u64 (most : Nat)] w fun e w' => ∃ vb', e = .returned (.tuple #[.agg #[vb', .int .i64 ((takeN i n most).1.err : Nat)], .int .u64 ((takeN i n most).2 : Nat)]) ∧ Rd B w' vb' (takeN i n most).1.b ∧ Below w.heap.size w w' := by
  obtain ⟨l, er⟩ := i
  obtain ⟨ad, cap, rfl, hcap, hmax⟩ := h.form
  have HR := hide h
  replace hcap : l.length ≤ cap := hcap
  simp only at h ⊢
  clear h
  by_cases he : er ≠ 0
  · rw [takeN_eq, if_pos he]
    simp only
    go_enter Tryd.func23, Tryd.ntmps23
    go_wp2_with (first | ((with_reducible refine op_box w.heap.size ?_ (inC (.slice ad l.length cap) er) ?_ ?_); exact rfl; exact rfl; intro W hr hb hz) | ((with_reducible refine op_alloc (w.heap.size + 1) ?_ _ zero_in ?_); exact hz.out; intro W hq hb' hz'; replace hr := hr.bl (hz.out ▸ hb'); replace hb := hb.trans (hb'.mono (by omega)); clear hb' hz) | ((with_reducible refine ld_inb hr ?_ ?_); exact rfl) | ((with_reducible refine ld_ine hr ?_ ?_); exact rfl) | ((with_reducible refine ld_in hr ?_ ?_); exact rfl) | ((with_reducible refine st_in ad l.length cap er hq ?_ ?_ ?_); exact rfl; exact rfl; intro W hnew ho; replace hr := hr.only ho (by omega); replace hb := ho.bel _ _ (by omega) hb; replace hq := hnew; clear hnew ho))
    refine bodyPost_ret (results_cell_one Tryd.results23 _ _ (w.heap.size + 1) _ _ _ rfl hq Tryd.underlying49 rfl (size_in _ _)) rfl ?_
    exact ⟨_, rfl, HR.out.bel (hb.mono hB), hb⟩
  · obtain rfl : er = 0 := by omega
    by_cases h1 : n < 1 ∨ 8 < n
    · rw [takeN_eq, if_neg he, if_pos h1]
      simp only
      by_cases h2 : n < 1
      · clear h1
        go_enter Tryd.func23, Tryd.ntmps23
        go_wp2_with (first | ((with_reducible refine op_box w.heap.size ?_ (inC (.slice ad l.length cap) 0) ?_ ?_); exact rfl; exact rfl; intro W hr hb hz) | ((with_reducible refine op_alloc (w.heap.size + 1) ?_ _ zero_in ?_); exact hz.out; intro W hq hb' hz'; replace hr := hr.bl (hz.out ▸ hb'); replace hb := hb.trans (hb'.mono (by omega)); clear hb' hz) | ((with_reducible refine ld_inb hr ?_ ?_); exact rfl) | ((with_reducible refine ld_ine hr ?_ ?_); exact rfl) | ((with_reducible refine st_ine 1 hr ?_ ?_ ?_); exact rfl; exact rfl; intro W hnew ho; replace hq := hq.only ho (by omega); replace hb := ho.bel _ _ (by omega) hb; replace hr := hnew; clear hnew ho) | ((with_reducible refine ld_in hr ?_ ?_); exact rfl) | ((with_reducible refine st_in ad l.length cap 1 hq ?_ ?_ ?_); exact rfl; exact rfl; intro W hnew ho; replace hr := hr.only ho (by omega); replace hb := ho.bel _ _ (by omega) hb; replace hq := hnew; clear hnew ho))
        refine bodyPost_ret (results_cell_one Tryd.results23 _ _ (w.heap.size + 1) _ _ _ rfl hq Tryd.underlying49 rfl (size_in _ _)) rfl ?_
        exact ⟨_, rfl, HR.out.bel (hb.mono hB), hb⟩
      · have h3 : 8 < n := by omega
        clear h1
        go_enter Tryd.func23, Tryd.ntmps23
        go_wp2_with (first | ((with_reducible refine op_box w.heap.size ?_ (inC (.slice ad l.length cap) 0) ?_ ?_); exact rfl; exact rfl; intro W hr hb hz) | ((with_reducible refine op_alloc (w.heap.size + 1) ?_ _ zero_in ?_); exact hz.out; intro W hq hb' hz'; replace hr := hr.bl (hz.out ▸ hb'); replace hb := hb.trans (hb'.mono (by omega)); clear hb' hz) | ((with_reducible refine ld_inb hr ?_ ?_); exact rfl) | ((with_reducible refine ld_ine hr ?_ ?_); exact rfl) | ((with_reducible refine st_ine 1 hr ?_ ?_ ?_); exact rfl; exact rfl; intro W hnew ho; replace hq := hq.only ho (by omega); replace hb := ho.bel _ _ (by omega) hb; replace hr := hnew; clear hnew ho) | ((with_reducible refine ld_in hr ?_ ?_); exact rfl) | ((with_reducible refine st_in ad l.length cap 1 hq ?_ ?_ ?_); exact rfl; exact rfl; intro W hnew ho; replace hr := hr.only ho (by omega); replace hb := ho.bel _ _ (by omega) hb; replace hq := hnew; clear hnew ho))
        refine bodyPost_ret (results_cell_one Tryd.results23 _ _ (w.heap.size + 1) _ _ _ rfl hq Tryd.underlying49 rfl (size_in _ _)) rfl ?_
        exact ⟨_, rfl, HR.out.bel (hb.mono hB), hb⟩
    · obtain ⟨m, rfl⟩ := Int.eq_ofNat_of_zero_le (show 0 ≤ n by omega)
      by_cases h2 : l.length < m
      · rw [takeN_eq, if_neg he, if_neg h1, if_pos (by omega)]
        simp only
        have hm1 : 1 ≤ m := by omega
        have hm8 : m ≤ 8 := by omega
        clear h1
        go_enter Tryd.func23, Tryd.ntmps23
        go_wp2_with (first | ((with_reducible refine op_box w.heap.size ?_ (inC (.slice ad l.length cap) 0) ?_ ?_); exact rfl; exact rfl; intro W hr hb hz) | ((with_reducible refine op_alloc (w.heap.size + 1) ?_ _ zero_in ?_); exact hz.out; intro W hq hb' hz'; replace hr := hr.bl (hz.out ▸ hb'); replace hb := hb.trans (hb'.mono (by omega)); clear hb' hz) | ((with_reducible refine ld_inb hr ?_ ?_); exact rfl) | ((with_reducible refine ld_ine hr ?_ ?_); exact rfl) | ((with_reducible refine st_ine 12 hr ?_ ?_ ?_); exact rfl; exact rfl; intro W hnew ho; replace hq := hq.only ho (by omega); replace hb := ho.bel _ _ (by omega) hb; replace hr := hnew; clear hnew ho) | ((with_reducible refine ld_in hr ?_ ?_); exact rfl) | ((with_reducible refine st_in ad l.length cap 12 hq ?_ ?_ ?_); exact rfl; exact rfl; intro W hnew ho; replace hr := hr.only ho (by omega); replace hb := ho.bel _ _ (by omega) hb; replace hq := hnew; clear hnew ho))
        refine bodyPost_ret (results_cell_one Tryd.results23 _ _ (w.heap.size + 1) _ _ _ rfl hq Tryd.underlying49 rfl (size_in _ _)) rfl ?_
        exact ⟨_, rfl, HR.out.bel (hb.mono hB), hb⟩
      · have hm1 : 1 ≤ m := by omega
        have hm8 : m ≤ 8 := by omega
        have HML := hide (show m ≤ l.length by omega)
        have HT := hide (HR.out.to HML.out)
        have HNM := hide (fun W hR => rnumber_any (B := B) (v := .slice ad m cap) (l := l.take m) W hR (by rw [List.length_take]; omega))
        have hx := num_64 (l := l.take m) (take_lt HR.out.lt m) (by rw [List.length_take]; omega)
        have hml : m ≤ l.length := HML.out
        have hmc : m ≤ cap := by omega
        rw [takeN_eq, if_neg he, if_neg h1, if_neg (by omega), Int.toNat_natCast]
        clear h1 he
        generalize numL (l.take m) = x at *
        by_cases h3 : most < x
        · rw [if_pos h3]
          simp only
          go_enter Tryd.func23, Tryd.ntmps23
          go_wp2_with (first | ((with_reducible refine op_box w.heap.size ?_ (inC (.slice ad l.length cap) 0) ?_ ?_); exact rfl; exact rfl; intro W hr hb hz) | ((with_reducible refine op_alloc (w.heap.size + 1) ?_ _ zero_in ?_); exact hz.out; intro W hq hb' hz'; replace hr := hr.bl (hz.out ▸ hb'); replace hb := hb.trans (hb'.mono (by omega)); clear hb' hz) | ((with_reducible refine ld_inb hr ?_ ?_); exact rfl) | ((with_reducible refine ld_ine hr ?_ ?_); exact rfl) | (go_at_call 47; refine (HNM.out _ (HT.out.bel (hb.mono hB))).mono ?_; rintro e W2 ⟨rfl, rfl⟩) | ((with_reducible refine st_ine 4 hr ?_ ?_ ?_); exact rfl; exact rfl; intro W hnew ho; replace hq := hq.only ho (by omega); replace hb := ho.bel _ _ (by omega) hb; replace hr := hnew; clear hnew ho) | ((with_reducible refine ld_in hr ?_ ?_); exact rfl) | ((with_reducible refine st_in ad l.length cap 4 hq ?_ ?_ ?_); exact rfl; exact rfl; intro W hnew ho; replace hr := hr.only ho (by omega); replace hb := ho.bel _ _ (by omega) hb; replace hq := hnew; clear hnew ho))
          refine bodyPost_ret (results_cell_one Tryd.results23 _ _ (w.heap.size + 1) _ _ _ rfl hq Tryd.underlying49 rfl (size_in _ _)) rfl ?_
          exact ⟨_, rfl, HR.out.bel (hb.mono hB), hb⟩
        · have hxm : x ≤ most := by omega
          rw [if_neg h3]
          simp only
          have HF := hide (HR.out.frm HML.out)
          clear h3
          go_enter Tryd.func23, Tryd.ntmps23
          go_wp2_with (first | ((with_reducible refine op_box w.heap.size ?_ (inC (.slice ad l.length cap) 0) ?_ ?_); exact rfl; exact rfl; intro W hr hb hz) | ((with_reducible refine op_alloc (w.heap.size + 1) ?_ _ zero_in ?_); exact hz.out; intro W hq hb' hz'; replace hr := hr.bl (hz.out ▸ hb'); replace hb := hb.trans (hb'.mono (by omega)); clear hb' hz) | ((with_reducible refine ld_inb hr ?_ ?_); exact rfl) | ((with_reducible refine ld_ine hr ?_ ?_); exact rfl) | (go_at_call 47; refine (HNM.out _ (HT.out.bel (hb.mono hB))).mono ?_; rintro e W2 ⟨rfl, rfl⟩) | ((with_reducible refine ld_in hr ?_ ?_); exact rfl))
          obtain ⟨af, cf, hvF, _, _⟩ := HF.out.form
          have hlF : (l.drop m).length = l.length - m := List.length_drop
          rw [hlF] at hvF
          have HVF := hide hvF
          rw [hvF] at HF
          clear hlF hvF
          refine wp_region_held_drew (S := (fun U => Below w.heap.size w U ∧ RowAt U w.heap.size (inC (.slice ad l.length cap) 0) 49)) (by kernel_rfl) ?_ (fun hHeld => ?_)
          · exact ⟨hb.drew, hr.dr⟩
          replace hq := hq.dr
          generalize W2.drew = V at hHeld hq ⊢
          refine wpAnyH_take (i := 0) (oi := ?oi1) (v := .pointer (some ⟨w.heap.size, 0, none⟩)) ?hi1 (by kernel_rfl) (by kernel_rfl) (by kernel_rfl) ?hQ1 ?hy1 (by assumption) ?rest1
          case hi1 => (simp only [List.getElem?_toArray, List.getElem?_cons_zero]; rfl)
          case hQ1 => exact fun _ _ _ h => h
          case hy1 => exact Or.inl ⟨by rfl, by (intro w hSw; (try dsimp only at hSw); go_simp )⟩
          simp only [Act.put, List.setIfInBounds_toArray, List.set_cons_zero, List.set_cons_succ]
          refine wpAnyH_take (i := 1) (oi := ?oi2) (v := .slice ad l.length cap) ?hi2 (by kernel_rfl) (by kernel_rfl) (by kernel_rfl) ?hQ2 ?hy2 (by assumption) ?rest2
          case hi2 => (simp only [List.getElem?_toArray, List.getElem?_cons_zero, List.getElem?_cons_succ]; rfl)
          case hQ2 => exact fun _ _ _ h => h
          case hy2 => exact y_cell w.heap.size 0 _ (fun U hU => hU.2.cell 0) _ Tryd.underlying26 rfl rfl
          simp only [Act.put, List.setIfInBounds_toArray, List.set_cons_zero, List.set_cons_succ]
          refine wpAnyH_take (i := 2) (oi := ?oi3) (v := .int .i64 (m : Nat)) ?hi3 (by kernel_rfl) (by kernel_rfl) (by kernel_rfl) ?hQ3 ?hy3 (by assumption) ?rest3
          case hi3 => (simp only [List.getElem?_toArray, List.getElem?_cons_zero, List.getElem?_cons_succ]; rfl)
          case hQ3 => exact fun _ _ _ h => h
          case hy3 => exact Or.inl ⟨by rfl, by (intro w hSw; (try dsimp only at hSw); go_simp )⟩
          simp only [Act.put, List.setIfInBounds_toArray, List.set_cons_zero, List.set_cons_succ]
          refine wpAnyH_take (i := 3) (oi := ?oi4) (v := .slice af (l.length - m) cf) ?hi4 (by kernel_rfl) (by kernel_rfl) (by kernel_rfl) ?hQ4 ?hy4 (by assumption) ?rest4
          case hi4 => (simp only [List.getElem?_toArray, List.getElem?_cons_zero, List.getElem?_cons_succ]; rfl)
          case hQ4 => exact fun _ _ _ h => h
          case hy4 => exact Or.inl ⟨by rfl, fun U hU => (ex_frm HR.out HML.out und_sl siz_sl rfl rfl U).trans (by rw [HVF.out])⟩
          simp only [Act.put, List.setIfInBounds_toArray, List.set_cons_zero, List.set_cons_succ]
          refine wpAnyH_take (i := 4) (oi := ?oi5) (v := .agg (inC (.slice af (l.length - m) cf) 0)) ?hi5 (by kernel_rfl) (by kernel_rfl) (by kernel_rfl) ?hQ5 ?hy5 (by assumption) ?rest5
          case hi5 => (simp only [List.getElem?_toArray, List.getElem?_cons_zero, List.getElem?_cons_succ]; rfl)
          case hQ5 => exact fun _ _ _ h => h
          case hy5 => exact Or.inl ⟨by rfl, by (intro w hSw; go_simp; rfl)⟩
          simp only [Act.put, List.setIfInBounds_toArray, List.set_cons_zero, List.set_cons_succ]
          refine wpAnyH_take (i := 5) (oi := ?oi6) (v := .pointer (some ⟨w.heap.size, 0, none⟩)) ?hi6 (by kernel_rfl) (by kernel_rfl) (by kernel_rfl) ?hQ6 ?hy6 (by assumption) ?rest6
          case hi6 => (simp only [List.getElem?_toArray, List.getElem?_cons_zero, List.getElem?_cons_succ]; rfl)
          case hQ6 => exact fun _ _ _ h => h
          case hy6 => exact Or.inl ⟨by rfl, by (intro w hSw; (try dsimp only at hSw); go_simp )⟩
          simp only [Act.put, List.setIfInBounds_toArray, List.set_cons_zero, List.set_cons_succ]
          refine wpAnyH_take (i := 6) (oi := ?oi7) (v := .slice ad l.length cap) ?hi7 (by kernel_rfl) (by kernel_rfl) (by kernel_rfl) ?hQ7 ?hy7 (by assumption) ?rest7
          case hi7 => (simp only [List.getElem?_toArray, List.getElem?_cons_zero, List.getElem?_cons_succ]; rfl)
          case hQ7 => exact fun _ _ _ h => h
          case hy7 => exact y_cell w.heap.size 0 _ (fun U hU => hU.2.cell 0) _ Tryd.underlying26 rfl rfl
          simp only [Act.put, List.setIfInBounds_toArray, List.set_cons_zero, List.set_cons_succ]
          refine wpAnyH_take (i := 7) (oi := ?oi8) (v := .int .i64 (m : Nat)) ?hi8 (by kernel_rfl) (by kernel_rfl) (by kernel_rfl) ?hQ8 ?hy8 (by assumption) ?rest8
          case hi8 => (simp only [List.getElem?_toArray, List.getElem?_cons_zero, List.getElem?_cons_succ]; rfl)
          case hQ8 => exact fun _ _ _ h => h
          case hy8 => exact Or.inl ⟨by rfl, by (intro w hSw; (try dsimp only at hSw); go_simp )⟩
          simp only [Act.put, List.setIfInBounds_toArray, List.set_cons_zero, List.set_cons_succ]
          refine wpAnyH_take (i := 8) (oi := ?oi9) (v := .slice ad m cap) ?hi9 (by kernel_rfl) (by kernel_rfl) (by kernel_rfl) ?hQ9 ?hy9 (by assumption) ?rest9
          case hi9 => (simp only [List.getElem?_toArray, List.getElem?_cons_zero, List.getElem?_cons_succ]; rfl)
          case hQ9 => exact fun _ _ _ h => h
          case hy9 => exact Or.inl ⟨by rfl, fun U hU => ex_to HR.out HML.out und_sl siz_sl rfl rfl U⟩
          simp only [Act.put, List.setIfInBounds_toArray, List.set_cons_zero, List.set_cons_succ]
          refine wpAnyH_ready (rs := [9]) (by kernel_rfl) (by simp) ?_
          refine AllReadyH.cons (o := ?oi10) ?hi10 (fun K hK => ?_) AllReadyH.nil
          case hi10 => (simp only [List.getElem?_toArray, List.getElem?_cons_zero, List.getElem?_cons_succ]; rfl)
          rw [if_pos (by rfl)]
          go_simp
          refine (HNM.out _ (HT.out.bel (hHeld.1.mono hB))).mono ?_
          rintro e V2 ⟨rfl, rfl⟩
          go_simp
          refine hK.out _ _ ?_ (fun hHeld => ?_)
          · exact hHeld
          clear hK K
          refine wpAnyH_ready (rs := [10]) (by kernel_rfl) (by simp) ?_
          refine AllReadyH.cons (o := ?oi11) ?hi11 (fun K hK => ?_) AllReadyH.nil
          case hi11 => (simp only [List.getElem?_toArray, List.getElem?_cons_zero, List.getElem?_cons_succ]; rfl)
          rw [if_pos (by rfl)]
          refine s_in af (l.length - m) cf 0 hq rfl rfl ?_
          intro V3 hnew ho
          have hk3 : Below w.heap.size w V3 ∧ RowAt V3 w.heap.size (inC (.slice ad l.length cap) 0) 49 := ⟨ho.bel _ _ (by omega) hHeld.1, hHeld.2.only ho (by omega)⟩
          refine hK.out _ _ ?_ (fun hHeld => ?_)
          · exact hk3
          clear hK K
          refine wpAnyH_take (i := 11) (oi := ?oi12) (v := .int .u64 (x : Nat)) ?hi12 (by kernel_rfl) (by kernel_rfl) (by kernel_rfl) ?hQ12 ?hy12 (by assumption) ?rest12
          case hi12 => (simp only [List.getElem?_toArray, List.getElem?_cons_zero, List.getElem?_cons_succ]; rfl)
          case hQ12 => exact fun _ _ _ h => h
          case hy12 => exact Or.inl ⟨by rfl, by (intro w hSw; (try dsimp only at hSw); go_simp )⟩
          simp only [Act.put, List.setIfInBounds_toArray, List.set_cons_zero, List.set_cons_succ]
          refine wpAnyH_done (by kernel_rfl) ?_ _
          have hb := hk3.1
          replace hq := hnew
          clear hHeld
          go_wp2
          refine bodyPost_ret (results_cell_one Tryd.results23 _ _ (w.heap.size + 1) _ _ _ rfl hq Tryd.underlying49 rfl (size_in _ _)) rfl ?_
          exact ⟨_, rfl, HF.out.bel (hb.mono hB), hb⟩
end Go.Proofs.YtkahkkcbigifiaaDoor
