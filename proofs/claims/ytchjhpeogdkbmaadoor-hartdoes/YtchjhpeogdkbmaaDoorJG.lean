/-
  The document's Do: branches; control and the rest.
-/
import Derived.Test.YtchjhpeogdkbmaaDoorJF
import Derived.Test.YtchjhpeogdkbmaaDoorJE
import Derived.Test.YtchjhpeogdkbmaaDoorJD
import Derived.Test.YtchjhpeogdkbmaaDoorHaDo
import Derived.Test.YtchjhpeogdkbmaaDoorTk
namespace Go.Proofs.YtchjhpeogdkbmaaDoor
open Go.RowKit
set_option linter.unusedVariables false

end Go.Proofs.YtchjhpeogdkbmaaDoor
namespace Go.Proofs.YtchjhpeogdkbmaaDoor
open Go.RowKit
set_option linter.unusedVariables false
variable {ops : Array Oper} {rest : List Oper} {dst : Option Tmp} {ty : TypeId} {pos : String} {after : Array Edge} {a : Act} {w : World} {Q : Exit → Act → World → Prop} {x y : Operand} {S : World → Prop} {K : Act → World → Prop}
theorem size_racc : (Tryd.prog.info? 37).map (·.size) = some 6 := by kernel_rfl
theorem zero_racc (w : World) : (zeroValue 37).run Tryd.prog w = .ok (.agg noA.cells) w :=
  (zero_of_info (P := Tryd.prog) (t := 37) (v := .agg noA.cells) (n := 6) (by kernel_rfl)).1 w
theorem al_ra (N : Nat) (hN : w.heap.size = N)
    (k : ∀ W, RowAt W N noA.cells 37 → Below N w W → Hid (W.heap.size = N + 1) → wpList Tryd.prog ops Q rest (a.put dst (.pointer (some ⟨N, 0, none⟩))) W) :
    wpList Tryd.prog ops Q (⟨dst, .alloc 37, ty, pos, after, none⟩ :: rest) a w := op_alloc N hN noA.cells zero_racc k
theorem ld_ra (b : Nat) (i : A6) (hr : RowAt w b i.cells 37) (hx : a.eval x = .pointer (some ⟨b, 0, none⟩))
    (k : wpList Tryd.prog ops Q rest (a.put dst (.agg i.cells)) w) : wpList Tryd.prog ops Q (⟨dst, .load 37 x, ty, pos, after, none⟩ :: rest) a w :=
  op_load b hx i.cells _ hr _ Tryd.underlying37 rfl size_racc k
theorem st_ra (b : Nat) (old i : A6) (hr : RowAt w b old.cells 37) (hx : a.eval x = .pointer (some ⟨b, 0, none⟩)) (hy : a.eval y = .agg i.cells)
    (k : ∀ W, RowAt W b i.cells 37 → Only b w W → wpList Tryd.prog ops Q rest (a.put dst undef) W) : wpList Tryd.prog ops Q (⟨dst, .store 37 x y, ty, pos, after, none⟩ :: rest) a w :=
  op_store b hx i.cells hy old.cells _ hr size_racc rfl (a_one i) k
theorem s_ra (b : Nat) (old h : A6) (hr : RowAt w b old.cells 37) (hx : a.eval x = .pointer (some ⟨b, 0, none⟩)) (hy : a.eval y = .agg h.cells)
    (k : ∀ W, RowAt W b h.cells 37 → Only b w W → K (a.put dst undef) W) :
    Oper.wp Tryd.prog ⟨dst, .store 37 x y, ty, pos, after, none⟩ a w K Q :=
  s_store b hx h.cells hy old.cells _ hr size_racc rfl (a_one h) k
theorem size_ri2 : (Tryd.prog.info? 69).map (·.size) = some 6 := by kernel_rfl
theorem zero_ri (w : World) : (zeroValue 69).run Tryd.prog w = .ok (.agg zeroI.cells) w :=
  (zero_of_info (P := Tryd.prog) (t := 69) (v := .agg zeroI.cells) (n := 6) (by kernel_rfl)).1 w
theorem al_ri (N : Nat) (hN : w.heap.size = N)
    (k : ∀ W, RowAt W N zeroI.cells 69 → Below N w W → Hid (W.heap.size = N + 1) → wpList Tryd.prog ops Q rest (a.put dst (.pointer (some ⟨N, 0, none⟩))) W) :
    wpList Tryd.prog ops Q (⟨dst, .alloc 69, ty, pos, after, none⟩ :: rest) a w := op_alloc N hN zeroI.cells zero_ri k
theorem st_ri (b : Nat) (old i : I6) (hr : RowAt w b old.cells 69) (hx : a.eval x = .pointer (some ⟨b, 0, none⟩)) (hy : a.eval y = .agg i.cells)
    (k : ∀ W, RowAt W b i.cells 69 → Only b w W → wpList Tryd.prog ops Q rest (a.put dst undef) W) : wpList Tryd.prog ops Q (⟨dst, .store 69 x y, ty, pos, after, none⟩ :: rest) a w :=
  op_store b hx i.cells hy old.cells _ hr size_ri2 rfl (i_one i) k
theorem ld_ri (b : Nat) (i : I6) (hr : RowAt w b i.cells 69) (hx : a.eval x = .pointer (some ⟨b, 0, none⟩))
    (k : wpList Tryd.prog ops Q rest (a.put dst (.agg i.cells)) w) : wpList Tryd.prog ops Q (⟨dst, .load 69 x, ty, pos, after, none⟩ :: rest) a w :=
  op_load b hx i.cells _ hr _ Tryd.underlying69 rfl size_ri2 k
theorem ld_rij (b j : Nat) (v : Int) (cs : Array Value) (t' : TypeId) (hr : RowAt w b cs t') (hv : cs[j]? = some (.int .i64 v)) (hx : a.eval x = .pointer (some ⟨b, j, none⟩))
    (k : wpList Tryd.prog ops Q rest (a.put dst (.int .i64 v)) w) : wpList Tryd.prog ops Q (⟨dst, .load 3 x, ty, pos, after, none⟩ :: rest) a w :=
  op_load_cell b j hx cs _ _ hr hv _ Tryd.underlying3 rfl k
/-- A list of names. -/
def lstC (L : List (List UInt8)) : Array Value := (L.map fun x => Value.string ⟨x.toArray⟩).toArray
def lstN (L : List (List UInt8)) (j : Nat) : ByteArray := ⟨(L.getD j []).toArray⟩
theorem lst_at (L : List (List UInt8)) (j : Nat) (h : j < L.length) : (lstC L)[j]? = some (.string (lstN L j)) := by
  unfold lstC lstN
  rw [List.getElem?_toArray, List.getElem?_map, List.getElem?_eq_getElem h, List.getD_eq_getElem?_getD, List.getElem?_eq_getElem h]
  rfl
theorem bs_lst {parts : Array (Nat × Operand)} (L : List (List UInt8)) (n N : Nat) (hN : w.heap.size = N) (hp : Tryd.prog.builtSlice 9 n (parts.map fun (i, x) => (i, a.eval x)).toList = some (lstC L))
    (k : ∀ W, RowAt W N (lstC L) 9 → Below N w W → Hid (W.heap.size = N + 1) → wpList Tryd.prog ops Q rest (a.put dst (.slice (some ⟨N, 0, none⟩) n n)) W) :
    wpList Tryd.prog ops Q (⟨dst, .buildSlice 75 n parts, ty, pos, after, none⟩ :: rest) a w := by
  subst hN
  exact Great.wpList_buildSliceTo rfl _ 9 n parts rfl _ rfl dst rfl Tryd.underlying75 (lstC L) hp (k _ (RowAt.new w _ (lstC L) 9 rfl) (below_one w _) (hide (by simp)))
def intC (L : List Nat) : Array Value := (L.map fun x : Nat => Value.int .i64 (x : Int)).toArray
theorem bs_int {parts : Array (Nat × Operand)} (L : List Nat) (n N : Nat) (hN : w.heap.size = N) (hp : Tryd.prog.builtSlice 3 n (parts.map fun (i, x) => (i, a.eval x)).toList = some (intC L))
    (k : ∀ W, RowAt W N (intC L) 3 → Below N w W → Hid (W.heap.size = N + 1) → wpList Tryd.prog ops Q rest (a.put dst (.slice (some ⟨N, 0, none⟩) n n)) W) :
    wpList Tryd.prog ops Q (⟨dst, .buildSlice 82 n parts, ty, pos, after, none⟩ :: rest) a w := by
  subst hN
  exact Great.wpList_buildSliceTo rfl _ 3 n parts rfl _ rfl dst rfl Tryd.underlying82 (intC L) hp (k _ (RowAt.new w _ (intC L) 3 rfl) (below_one w _) (hide (by simp)))
end Go.Proofs.YtchjhpeogdkbmaaDoor
namespace Go.Proofs.YtchjhpeogdkbmaaDoor
open Go.RowKit
set_option linter.unusedVariables false
/-- The name lies at that place of a list, and at no lower one. -/
def HitL (L : List (List UInt8)) (k : Nat) (s : ByteArray) : Prop := k < L.length ∧ lstN L k = s ∧ ∀ j, j < k → lstN L j ≠ s
def MissL (L : List (List UInt8)) (s : ByteArray) : Prop := ∀ j, j < L.length → lstN L j ≠ s
theorem place_hit (L : List (List UInt8)) (n k : Nat) (s : ByteArray) (hn : L.length = n) (hs : n < 100) (h : HitL L k s) (N : Nat) (w : World) (hr : RowAt w N (lstC L) 9) :
    Calls Tryd.prog 31 #[.slice (some ⟨N, 0, none⟩) n n, .string s] w fun e w' => e = .returned (.int .i64 (k : Nat)) ∧ w' = w := by
  subst hn
  exact rplace_hit (lstN L) _ k N s hs h.1 h.2.1 h.2.2 w (fun j hj => (hr.cell j).trans (lst_at L j hj))
theorem place_miss (L : List (List UInt8)) (n : Nat) (s : ByteArray) (hn : L.length = n) (hs : n < 100) (h : MissL L s) (N : Nat) (w : World) (hr : RowAt w N (lstC L) 9) :
    Calls Tryd.prog 31 #[.slice (some ⟨N, 0, none⟩) n n, .string s] w fun e w' => e = .returned (.int .i64 (-1)) ∧ w' = w := by
  subst hn
  exact rplace_miss (lstN L) _ N s hs h w (fun j hj => (hr.cell j).trans (lst_at L j hj))
def L1 : List (List UInt8) := [[97, 100, 100, 105], [], [115, 108, 108, 105], [115, 108, 116, 105], [115, 108, 116, 105, 117], [120, 111, 114, 105], [115, 114, 108, 105], [115, 114, 97, 105], [111, 114, 105], [97, 110, 100, 105]]
def L2 : List (List UInt8) := [[97, 100, 100], [115, 117, 98], [115, 108, 108], [115, 108, 116], [115, 108, 116, 117], [120, 111, 114], [115, 114, 108], [115, 114, 97], [111, 114], [97, 110, 100], [109, 117, 108], [109, 117, 108, 104], [109, 117, 108, 104, 115, 117], [109, 117, 108, 104, 117], [100, 105, 118], [100, 105, 118, 117], [114, 101, 109], [114, 101, 109, 117]]
def L3 : List (List UInt8) := [[98, 101, 113], [98, 110, 101], [98, 108, 116], [98, 103, 101], [98, 108, 116, 117], [98, 103, 101, 117]]
def L4 : List (List UInt8) := [[108, 98], [108, 104], [108, 119], [108, 98, 117], [108, 104, 117]]
def L5 : List (List UInt8) := [[115, 98], [115, 104], [115, 119]]
def L6 : List (List UInt8) := [[99, 115, 114, 114, 119], [99, 115, 114, 114, 115], [99, 115, 114, 114, 99], [99, 115, 114, 114, 119, 105], [99, 115, 114, 114, 115, 105], [99, 115, 114, 114, 99, 105]]
/-- What the document's Decode and Name answer, wherever they are called. -/
def Told (v : Nat) (i : I6) (s : ByteArray) : Prop :=
  (∀ w, Calls Tryd.prog 28 #[.int .u32 (v : Nat)] w fun e w' => e = .returned (.tuple #[.agg i.cells, .int .i64 0]) ∧ Below w.heap.size w w') ∧
  (∀ w, Calls Tryd.prog 30 #[.int .i64 i.op] w fun e w' => e = .returned (.string s) ∧ Below w.heap.size w w')
end Go.Proofs.YtchjhpeogdkbmaaDoor
namespace Go.Proofs.YtchjhpeogdkbmaaDoor
open Go.RowKit
set_option linter.unusedVariables false

set_option maxRecDepth 100000 in
set_option maxHeartbeats 2000000 in
theorem rdo_none (h : H) (ok : h.Ok) (v l : Nat) (hD : ∀ w, Calls Tryd.prog 28 #[.int .u32 (v : Nat)] w fun e w' => e = .returned (.tuple #[.agg zeroI.cells, .int .i64 3]) ∧ Below w.heap.size w w') (w : World) :
    Calls Tryd.prog 10 #[.agg h.cells, .int .u32 (v : Nat), .int .u32 (l : Nat)] w fun e w' => e = .returned (.tuple #[.agg (trapH h 2 v).cells, .agg (noA).cells]) ∧ Below w.heap.size w w' := by
  have HD := hide hD
  clear hD
  have HX := hide (fun w => rtrap8 h ok 2 v (by decide) w)
  rw [show (((2 : Nat) : Int)) = 2 from rfl] at HX
  go_enter Tryd.func10, Tryd.ntmps10
  go_wp2_with (first | ((with_reducible refine bx_g w.heap.size h ?_ ?_ ?_); exact rfl; exact rfl; intro W hr hb hz) | ((with_reducible refine al_g (w.heap.size + 1) ?_ ?_); exact hz.out; intro W hq hb' hz'; obtain ⟨hr, hb⟩ := an1 hz hb' hr hb; replace hz := hz') | ((with_reducible refine al_ra (w.heap.size + 2) ?_ ?_); exact hz.out; intro W ha hb' hz'; obtain ⟨hr, hq, hb⟩ := an2 hz hb' hr hq hb; replace hz := hz') | (go_at_call 28; (with_reducible refine (HD.out _).mono ?_); rintro e W ⟨rfl, hbc⟩; replace hr := hr.bl hbc; replace hq := hq.bl hbc; replace ha := ha.bl hbc; obtain ⟨NI, hNI⟩ : ∃ n, W.heap.size = n := ⟨_, rfl⟩; have lNI : w.heap.size + 3 ≤ NI := (by (have := ha.lt; omega)); replace hNI := hide hNI; replace hb := below_bl rfl hb hbc) | ((with_reducible refine al_ri NI ?_ ?_); exact hNI.out; intro W hi hb' hzI; obtain ⟨hr, hq, ha, hb⟩ := an3 hNI hb' hr hq ha hb) | ((with_reducible refine st_ri NI _ zeroI hi ?_ ?_ ?_); exact rfl; exact rfl; intro W hnew ho; obtain ⟨hr, hq, ha, hb⟩ := on3 ho hr hq ha hb; replace hi := hnew) | ((with_reducible refine ld_g w.heap.size _ hr ?_ ?_); exact rfl) | (go_at_call 29; (with_reducible refine (HX.out _).mono ?_); rintro e W ⟨rfl, hbc⟩; obtain ⟨hr, hq, ha, hi, hb⟩ := bl4 hbc hr hq ha hi hb) | ((with_reducible refine st_g (w.heap.size + 1) _ (trapH h 2 v) hq ?_ ?_ ?_); exact rfl; exact rfl; intro W hnew ho; obtain ⟨hr, ha, hi, hb⟩ := on3 ho hr ha hi hb; replace hq := hnew) | ((with_reducible refine st_ra (w.heap.size + 2) _ (noA) ha ?_ ?_ ?_); exact rfl; exact rfl; intro W hnew ho; obtain ⟨hr, hq, hi, hb⟩ := on3 ho hr hq hi hb; replace ha := hnew))
  refine bodyPost_ret (results_two_rows Tryd.results10 _ _ (w.heap.size + 1) (w.heap.size + 2) _ _ _ _ _ _ rfl hq Tryd.underlying28 rfl size_g rfl ha Tryd.underlying37 rfl size_racc) rfl ?_
  exact ⟨rfl, hb⟩

set_option maxRecDepth 100000 in
set_option maxHeartbeats 2000000 in
theorem rdo_1 (h : H) (ok : h.Ok) (op im cs : Int) (rd s1 s2 : Nat) (hrd : rd < 32) (h1 : s1 < 32) (h2 : s2 < 32) (v l : Nat) (s : ByteArray) (hT : Told v ⟨op, (rd : Nat), (s1 : Nat), (s2 : Nat), im, cs⟩ s) (k : Nat) (hk : HitL L1 k s) (w : World) :
    Calls Tryd.prog 10 #[.agg h.cells, .int .u32 (v : Nat), .int .u32 (l : Nat)] w fun e w' => e = .returned (.tuple #[.agg (goH (writeH h rd (doN k (h.x s1) (immN im))) ((h.pc + 4) % 4294967296)).cells, .agg (noA).cells]) ∧ Below w.heap.size w w' := by
  have HD := hide hT.1
  have HM := hide hT.2
  clear hT
  obtain ⟨n, hn0⟩ : ∃ n, immN im = n := ⟨_, rfl⟩
  have hn : n < 4294967296 := hn0 ▸ immN_lt im
  have HIm : Hid (IntKind.u32.wrap im = ((n : Nat) : Int)) := hide (by rw [IntKind.wrap_u32, ← immN_cast, hn0])
  obtain ⟨nx, hnx0⟩ : ∃ x, (h.pc + 4) % 4294967296 = x := ⟨_, rfl⟩
  have HNx : Hid (IntKind.u32.wrap ((h.pc : Int) + 4) = ((nx : Nat) : Int)) := hide (by rw [IntKind.wrap_u32, ← hnx0]; omega)
  have b1 : (0 : Int) ≤ s1 := by omega
  have b1' : (s1 : Int) < 32 := by omega
  have b2 : (0 : Int) ≤ s2 := by omega
  have b2' : (s2 : Int) < 32 := by omega
  have HP1 := hide (fun N w hr => place_hit L1 10 k s rfl (by decide) hk N w hr)
  have hk18 : k < 18 := Nat.lt_of_lt_of_le hk.1 (by decide)
  have HDo := hide (fun w => refdo_any k hk18 (h.x s1) n (ok.x s1) hn w)
  have hz1 : doN k (h.x s1) n < 4294967296 := doN_lt k _ _ (ok.x s1) hn
  have HV : Hid ((goH (writeH h rd (doN k (h.x s1) (immN im))) ((h.pc + 4) % 4294967296)) = goH (writeH h rd (doN k (h.x s1) n)) nx) := hide (by rw [hnx0]; rw [hn0])
  rw [HV.out]
  generalize doN k (h.x s1) n = z at *
  have HW := hide (fun w => rwith_any h rd hrd z w)
  have HTo := hide (fun w => rto_any (writeH h rd z) (writeH_ok ok rd hz1) nx w)
  have tk : (0 : Int) ≤ (k : Int) := by omega
  go_enter Tryd.func10, Tryd.ntmps10
  go_wp2_with (first | ((with_reducible refine bx_g w.heap.size h ?_ ?_ ?_); exact rfl; exact rfl; intro W hr hb hz) | ((with_reducible refine al_g (w.heap.size + 1) ?_ ?_); exact hz.out; intro W hq hb' hz'; obtain ⟨hr, hb⟩ := an1 hz hb' hr hb; replace hz := hz') | ((with_reducible refine al_ra (w.heap.size + 2) ?_ ?_); exact hz.out; intro W ha hb' hz'; obtain ⟨hr, hq, hb⟩ := an2 hz hb' hr hq hb; replace hz := hz') | (go_at_call 28; (with_reducible refine (HD.out _).mono ?_); rintro e W ⟨rfl, hbc⟩; replace hr := hr.bl hbc; replace hq := hq.bl hbc; replace ha := ha.bl hbc; obtain ⟨NI, hNI⟩ : ∃ n, W.heap.size = n := ⟨_, rfl⟩; have lNI : w.heap.size + 3 ≤ NI := (by (have := ha.lt; omega)); replace hNI := hide hNI; replace hb := below_bl rfl hb hbc) | ((with_reducible refine al_ri NI ?_ ?_); exact hNI.out; intro W hi hb' hzI; obtain ⟨hr, hq, ha, hb⟩ := an3 hNI hb' hr hq ha hb) | ((with_reducible refine st_ri NI _ ⟨op, (rd : Nat), (s1 : Nat), (s2 : Nat), im, cs⟩ hi ?_ ?_ ?_); exact rfl; exact rfl; intro W hnew ho; obtain ⟨hr, hq, ha, hb⟩ := on3 ho hr hq ha hb; replace hi := hnew))
  replace hq := hq.dr
  replace ha := ha.dr
  refine wp_region_held_drew (S := (fun V => RowAt V w.heap.size h.cells 28 ∧ RowAt V NI (I6.cells ⟨op, (rd : Nat), (s1 : Nat), (s2 : Nat), im, cs⟩) 69 ∧ Below w.heap.size w V)) (by kernel_rfl) ?_ (fun hHeld => ?_)
  · exact ⟨hr.dr, hi.dr, hb.drew⟩
  generalize W.drew = V at hHeld hq ha ⊢
  clear hr hi hb
  refine tkO 0 (.pointer (some ⟨NI, 2, none⟩)) (by simp only [gT, gZ]; rfl) (puO (by (intro w hSw; (try dsimp only at hSw); go_simp))) ?_
  simp only [Act.put, pA, pZ, pS]
  refine tkO 1 (.int .i64 (s1 : Nat)) (by simp only [gT, gZ, gS]; rfl) (y_int NI 2 (s1 : Nat) (fun V hV => (hV.2.1.cell 2).trans rfl) rfl) ?_
  simp only [Act.put, pA, pZ, pS]
  refine tkO 2 (.pointer (some ⟨w.heap.size, 1, none⟩)) (by simp only [gT, gZ, gS]; rfl) (puO (by (intro w hSw; (try dsimp only at hSw); go_simp))) ?_
  simp only [Act.put, pA, pZ, pS]
  refine tkO 3 (.pointer (some ⟨w.heap.size, 1 + s1, none⟩)) (by simp only [gT, gZ, gS]; rfl) (puO (by (intro w hSw; (try dsimp only at hSw); go_simp))) ?_
  simp only [Act.put, pA, pZ, pS]
  refine tkO 4 (.int .u32 (h.x s1 : Nat)) (by simp only [gT, gZ, gS]; rfl) (y_word w.heap.size (1 + s1) _ (fun V hV => (hV.1.cell (1 + s1)).trans (h.cell_x s1 h1)) rfl) ?_
  simp only [Act.put, pA, pZ, pS]
  refine tkO 5 (.pointer (some ⟨NI, 3, none⟩)) (by simp only [gT, gZ, gS]; rfl) (puO (by (intro w hSw; (try dsimp only at hSw); go_simp))) ?_
  simp only [Act.put, pA, pZ, pS]
  refine tkO 6 (.int .i64 (s2 : Nat)) (by simp only [gT, gZ, gS]; rfl) (y_int NI 3 (s2 : Nat) (fun V hV => (hV.2.1.cell 3).trans rfl) rfl) ?_
  simp only [Act.put, pA, pZ, pS]
  refine tkO 7 (.pointer (some ⟨w.heap.size, 1, none⟩)) (by simp only [gT, gZ, gS]; rfl) (puO (by (intro w hSw; (try dsimp only at hSw); go_simp))) ?_
  simp only [Act.put, pA, pZ, pS]
  refine tkO 8 (.pointer (some ⟨w.heap.size, 1 + s2, none⟩)) (by simp only [gT, gZ, gS]; rfl) (puO (by (intro w hSw; (try dsimp only at hSw); go_simp))) ?_
  simp only [Act.put, pA, pZ, pS]
  refine tkO 9 (.int .u32 (h.x s2 : Nat)) (by simp only [gT, gZ, gS]; rfl) (y_word w.heap.size (1 + s2) _ (fun V hV => (hV.1.cell (1 + s2)).trans (h.cell_x s2 h2)) rfl) ?_
  simp only [Act.put, pA, pZ, pS]
  refine tkO 10 (.pointer (some ⟨NI, 4, none⟩)) (by simp only [gT, gZ, gS]; rfl) (puO (by (intro w hSw; (try dsimp only at hSw); go_simp))) ?_
  simp only [Act.put, pA, pZ, pS]
  refine tkO 11 (.int .i64 im) (by simp only [gT, gZ, gS]; rfl) (y_int NI 4 im (fun V hV => (hV.2.1.cell 4).trans rfl) rfl) ?_
  simp only [Act.put, pA, pZ, pS]
  refine tkO 12 (.int .u32 (n : Nat)) (by simp only [gT, gZ, gS]; rfl) (puO (by (intro w hSw; (try dsimp only at hSw); go_simp; exact HIm.out))) ?_
  simp only [Act.put, pA, pZ, pS]
  refine tkO 13 (.pointer (some ⟨w.heap.size, 0, none⟩)) (by simp only [gT, gZ, gS]; rfl) (puO (by (intro w hSw; (try dsimp only at hSw); go_simp))) ?_
  simp only [Act.put, pA, pZ, pS]
  refine tkO 14 (.int .u32 (h.pc : Nat)) (by simp only [gT, gZ, gS]; rfl) (y_word w.heap.size 0 (h.pc : Nat) (fun V hV => hV.1.cell 0) rfl) ?_
  simp only [Act.put, pA, pZ, pS]
  refine tkO 15 (.int .u32 (nx : Nat)) (by simp only [gT, gZ, gS]; rfl) (puO (by (intro w hSw; (try dsimp only at hSw); go_simp; exact HNx.out))) ?_
  simp only [Act.put, pA, pZ, pS]
  refine tkO 16 (.int .u32 (h.x s1 : Nat)) (by simp only [gT, gZ, gS]; rfl) (puO (by (intro w hSw; (try dsimp only at hSw); go_simp))) ?_
  simp only [Act.put, pA, pZ, pS]
  refine tkO 17 (.int .u32 (h.x s2 : Nat)) (by simp only [gT, gZ, gS]; rfl) (puO (by (intro w hSw; (try dsimp only at hSw); go_simp))) ?_
  simp only [Act.put, pA, pZ, pS]
  refine tkO 18 (.int .u32 (n : Nat)) (by simp only [gT, gZ, gS]; rfl) (puO (by (intro w hSw; (try dsimp only at hSw); go_simp))) ?_
  simp only [Act.put, pA, pZ, pS]
  refine tkO 19 (.int .u32 (nx : Nat)) (by simp only [gT, gZ, gS]; rfl) (puO (by (intro w hSw; (try dsimp only at hSw); go_simp))) ?_
  simp only [Act.put, pA, pZ, pS]
  refine wpAnyH_done (by kernel_rfl) ?_ _
  have hr := hHeld.1
  have hi := hHeld.2.1
  have hb := hHeld.2.2
  clear hHeld
  go_wp2_with (first | ((with_reducible refine ld_rij NI 0 op _ _ hi ?_ ?_ ?_); exact rfl; exact rfl) | (go_at_call 30; (with_reducible refine (HM.out _).mono ?_); rintro e W ⟨rfl, hbc⟩; replace hr := hr.bl hbc; replace hq := hq.bl hbc; replace ha := ha.bl hbc; replace hi := hi.bl hbc; obtain ⟨M1, hM1⟩ : ∃ n, W.heap.size = n := ⟨_, rfl⟩; have lM1 : NI + 1 ≤ M1 := (by (have := hi.lt; omega)); replace hM1 := hide hM1; replace hb := below_bl rfl hb hbc) | ((with_reducible refine bs_lst L1 10 M1 ?_ ?_ ?_); exact hM1.out; kernel_rfl; intro W hl1 hb' hzM1; obtain ⟨hr, hq, ha, hi, hb⟩ := an4 hM1 hb' hr hq ha hi hb) | (go_at_call 31; (with_reducible refine (HP1.out _ _ hl1).mono ?_); rintro e W2 ⟨rfl, rfl⟩) | (go_at_call 32; (with_reducible refine (HDo.out _).mono ?_); rintro e W2 ⟨rfl, rfl⟩) | ((with_reducible refine ld_g w.heap.size _ hr ?_ ?_); exact rfl) | ((with_reducible refine ld_rij NI 1 (rd : Nat) _ _ hi ?_ ?_ ?_); exact rfl; exact rfl) | (go_at_call 34; (with_reducible refine (HW.out _).mono ?_); rintro e W ⟨rfl, hbc⟩; obtain ⟨hr, hq, ha, hi, hb⟩ := bl4 hbc hr hq ha hi hb) | (go_at_call 33; (with_reducible refine (HTo.out _).mono ?_); rintro e W ⟨rfl, hbc⟩; obtain ⟨hr, hq, ha, hi, hb⟩ := bl4 hbc hr hq ha hi hb) | ((with_reducible refine st_g (w.heap.size + 1) _ (goH (writeH h rd z) nx) hq ?_ ?_ ?_); exact rfl; exact rfl; intro W hnew ho; obtain ⟨hr, ha, hi, hb⟩ := on3 ho hr ha hi hb; replace hq := hnew) | ((with_reducible refine st_ra (w.heap.size + 2) _ (noA) ha ?_ ?_ ?_); exact rfl; exact rfl; intro W hnew ho; obtain ⟨hr, hq, hi, hb⟩ := on3 ho hr hq hi hb; replace ha := hnew))
  refine bodyPost_ret (results_two_rows Tryd.results10 _ _ (w.heap.size + 1) (w.heap.size + 2) _ _ _ _ _ _ rfl hq Tryd.underlying28 rfl size_g rfl ha Tryd.underlying37 rfl size_racc) rfl ?_
  exact ⟨rfl, hb⟩

set_option maxRecDepth 100000 in
set_option maxHeartbeats 2000000 in
theorem rdo_2 (h : H) (ok : h.Ok) (op im cs : Int) (rd s1 s2 : Nat) (hrd : rd < 32) (h1 : s1 < 32) (h2 : s2 < 32) (v l : Nat) (s : ByteArray) (hT : Told v ⟨op, (rd : Nat), (s1 : Nat), (s2 : Nat), im, cs⟩ s) (m1 : MissL L1 s) (k : Nat) (hk : HitL L2 k s) (w : World) :
    Calls Tryd.prog 10 #[.agg h.cells, .int .u32 (v : Nat), .int .u32 (l : Nat)] w fun e w' => e = .returned (.tuple #[.agg (goH (writeH h rd (doN k (h.x s1) (h.x s2))) ((h.pc + 4) % 4294967296)).cells, .agg (noA).cells]) ∧ Below w.heap.size w w' := by
  have HD := hide hT.1
  have HM := hide hT.2
  clear hT
  obtain ⟨n, hn0⟩ : ∃ n, immN im = n := ⟨_, rfl⟩
  have hn : n < 4294967296 := hn0 ▸ immN_lt im
  have HIm : Hid (IntKind.u32.wrap im = ((n : Nat) : Int)) := hide (by rw [IntKind.wrap_u32, ← immN_cast, hn0])
  obtain ⟨nx, hnx0⟩ : ∃ x, (h.pc + 4) % 4294967296 = x := ⟨_, rfl⟩
  have HNx : Hid (IntKind.u32.wrap ((h.pc : Int) + 4) = ((nx : Nat) : Int)) := hide (by rw [IntKind.wrap_u32, ← hnx0]; omega)
  have b1 : (0 : Int) ≤ s1 := by omega
  have b1' : (s1 : Int) < 32 := by omega
  have b2 : (0 : Int) ≤ s2 := by omega
  have b2' : (s2 : Int) < 32 := by omega
  have HP1 := hide (fun N w hr => place_miss L1 10 s rfl (by decide) m1 N w hr)
  have HP2 := hide (fun N w hr => place_hit L2 18 k s rfl (by decide) hk N w hr)
  clear m1
  have hk18 : k < 18 := Nat.lt_of_lt_of_le hk.1 (by decide)
  have HDo := hide (fun w => refdo_any k hk18 (h.x s1) (h.x s2) (ok.x s1) (ok.x s2) w)
  have hz1 : doN k (h.x s1) (h.x s2) < 4294967296 := doN_lt k _ _ (ok.x s1) (ok.x s2)
  have HV : Hid ((goH (writeH h rd (doN k (h.x s1) (h.x s2))) ((h.pc + 4) % 4294967296)) = goH (writeH h rd (doN k (h.x s1) (h.x s2))) nx) := hide (by rw [hnx0])
  rw [HV.out]
  generalize doN k (h.x s1) (h.x s2) = z at *
  have HW := hide (fun w => rwith_any h rd hrd z w)
  have HTo := hide (fun w => rto_any (writeH h rd z) (writeH_ok ok rd hz1) nx w)
  have tk : (0 : Int) ≤ (k : Int) := by omega
  go_enter Tryd.func10, Tryd.ntmps10
  go_wp2_with (first | ((with_reducible refine bx_g w.heap.size h ?_ ?_ ?_); exact rfl; exact rfl; intro W hr hb hz) | ((with_reducible refine al_g (w.heap.size + 1) ?_ ?_); exact hz.out; intro W hq hb' hz'; obtain ⟨hr, hb⟩ := an1 hz hb' hr hb; replace hz := hz') | ((with_reducible refine al_ra (w.heap.size + 2) ?_ ?_); exact hz.out; intro W ha hb' hz'; obtain ⟨hr, hq, hb⟩ := an2 hz hb' hr hq hb; replace hz := hz') | (go_at_call 28; (with_reducible refine (HD.out _).mono ?_); rintro e W ⟨rfl, hbc⟩; replace hr := hr.bl hbc; replace hq := hq.bl hbc; replace ha := ha.bl hbc; obtain ⟨NI, hNI⟩ : ∃ n, W.heap.size = n := ⟨_, rfl⟩; have lNI : w.heap.size + 3 ≤ NI := (by (have := ha.lt; omega)); replace hNI := hide hNI; replace hb := below_bl rfl hb hbc) | ((with_reducible refine al_ri NI ?_ ?_); exact hNI.out; intro W hi hb' hzI; obtain ⟨hr, hq, ha, hb⟩ := an3 hNI hb' hr hq ha hb) | ((with_reducible refine st_ri NI _ ⟨op, (rd : Nat), (s1 : Nat), (s2 : Nat), im, cs⟩ hi ?_ ?_ ?_); exact rfl; exact rfl; intro W hnew ho; obtain ⟨hr, hq, ha, hb⟩ := on3 ho hr hq ha hb; replace hi := hnew))
  replace hq := hq.dr
  replace ha := ha.dr
  refine wp_region_held_drew (S := (fun V => RowAt V w.heap.size h.cells 28 ∧ RowAt V NI (I6.cells ⟨op, (rd : Nat), (s1 : Nat), (s2 : Nat), im, cs⟩) 69 ∧ Below w.heap.size w V)) (by kernel_rfl) ?_ (fun hHeld => ?_)
  · exact ⟨hr.dr, hi.dr, hb.drew⟩
  generalize W.drew = V at hHeld hq ha ⊢
  clear hr hi hb
  refine tkO 0 (.pointer (some ⟨NI, 2, none⟩)) (by simp only [gT, gZ]; rfl) (puO (by (intro w hSw; (try dsimp only at hSw); go_simp))) ?_
  simp only [Act.put, pA, pZ, pS]
  refine tkO 1 (.int .i64 (s1 : Nat)) (by simp only [gT, gZ, gS]; rfl) (y_int NI 2 (s1 : Nat) (fun V hV => (hV.2.1.cell 2).trans rfl) rfl) ?_
  simp only [Act.put, pA, pZ, pS]
  refine tkO 2 (.pointer (some ⟨w.heap.size, 1, none⟩)) (by simp only [gT, gZ, gS]; rfl) (puO (by (intro w hSw; (try dsimp only at hSw); go_simp))) ?_
  simp only [Act.put, pA, pZ, pS]
  refine tkO 3 (.pointer (some ⟨w.heap.size, 1 + s1, none⟩)) (by simp only [gT, gZ, gS]; rfl) (puO (by (intro w hSw; (try dsimp only at hSw); go_simp))) ?_
  simp only [Act.put, pA, pZ, pS]
  refine tkO 4 (.int .u32 (h.x s1 : Nat)) (by simp only [gT, gZ, gS]; rfl) (y_word w.heap.size (1 + s1) _ (fun V hV => (hV.1.cell (1 + s1)).trans (h.cell_x s1 h1)) rfl) ?_
  simp only [Act.put, pA, pZ, pS]
  refine tkO 5 (.pointer (some ⟨NI, 3, none⟩)) (by simp only [gT, gZ, gS]; rfl) (puO (by (intro w hSw; (try dsimp only at hSw); go_simp))) ?_
  simp only [Act.put, pA, pZ, pS]
  refine tkO 6 (.int .i64 (s2 : Nat)) (by simp only [gT, gZ, gS]; rfl) (y_int NI 3 (s2 : Nat) (fun V hV => (hV.2.1.cell 3).trans rfl) rfl) ?_
  simp only [Act.put, pA, pZ, pS]
  refine tkO 7 (.pointer (some ⟨w.heap.size, 1, none⟩)) (by simp only [gT, gZ, gS]; rfl) (puO (by (intro w hSw; (try dsimp only at hSw); go_simp))) ?_
  simp only [Act.put, pA, pZ, pS]
  refine tkO 8 (.pointer (some ⟨w.heap.size, 1 + s2, none⟩)) (by simp only [gT, gZ, gS]; rfl) (puO (by (intro w hSw; (try dsimp only at hSw); go_simp))) ?_
  simp only [Act.put, pA, pZ, pS]
  refine tkO 9 (.int .u32 (h.x s2 : Nat)) (by simp only [gT, gZ, gS]; rfl) (y_word w.heap.size (1 + s2) _ (fun V hV => (hV.1.cell (1 + s2)).trans (h.cell_x s2 h2)) rfl) ?_
  simp only [Act.put, pA, pZ, pS]
  refine tkO 10 (.pointer (some ⟨NI, 4, none⟩)) (by simp only [gT, gZ, gS]; rfl) (puO (by (intro w hSw; (try dsimp only at hSw); go_simp))) ?_
  simp only [Act.put, pA, pZ, pS]
  refine tkO 11 (.int .i64 im) (by simp only [gT, gZ, gS]; rfl) (y_int NI 4 im (fun V hV => (hV.2.1.cell 4).trans rfl) rfl) ?_
  simp only [Act.put, pA, pZ, pS]
  refine tkO 12 (.int .u32 (n : Nat)) (by simp only [gT, gZ, gS]; rfl) (puO (by (intro w hSw; (try dsimp only at hSw); go_simp; exact HIm.out))) ?_
  simp only [Act.put, pA, pZ, pS]
  refine tkO 13 (.pointer (some ⟨w.heap.size, 0, none⟩)) (by simp only [gT, gZ, gS]; rfl) (puO (by (intro w hSw; (try dsimp only at hSw); go_simp))) ?_
  simp only [Act.put, pA, pZ, pS]
  refine tkO 14 (.int .u32 (h.pc : Nat)) (by simp only [gT, gZ, gS]; rfl) (y_word w.heap.size 0 (h.pc : Nat) (fun V hV => hV.1.cell 0) rfl) ?_
  simp only [Act.put, pA, pZ, pS]
  refine tkO 15 (.int .u32 (nx : Nat)) (by simp only [gT, gZ, gS]; rfl) (puO (by (intro w hSw; (try dsimp only at hSw); go_simp; exact HNx.out))) ?_
  simp only [Act.put, pA, pZ, pS]
  refine tkO 16 (.int .u32 (h.x s1 : Nat)) (by simp only [gT, gZ, gS]; rfl) (puO (by (intro w hSw; (try dsimp only at hSw); go_simp))) ?_
  simp only [Act.put, pA, pZ, pS]
  refine tkO 17 (.int .u32 (h.x s2 : Nat)) (by simp only [gT, gZ, gS]; rfl) (puO (by (intro w hSw; (try dsimp only at hSw); go_simp))) ?_
  simp only [Act.put, pA, pZ, pS]
  refine tkO 18 (.int .u32 (n : Nat)) (by simp only [gT, gZ, gS]; rfl) (puO (by (intro w hSw; (try dsimp only at hSw); go_simp))) ?_
  simp only [Act.put, pA, pZ, pS]
  refine tkO 19 (.int .u32 (nx : Nat)) (by simp only [gT, gZ, gS]; rfl) (puO (by (intro w hSw; (try dsimp only at hSw); go_simp))) ?_
  simp only [Act.put, pA, pZ, pS]
  refine wpAnyH_done (by kernel_rfl) ?_ _
  have hr := hHeld.1
  have hi := hHeld.2.1
  have hb := hHeld.2.2
  clear hHeld
  go_wp2_with (first | ((with_reducible refine ld_rij NI 0 op _ _ hi ?_ ?_ ?_); exact rfl; exact rfl) | (go_at_call 30; (with_reducible refine (HM.out _).mono ?_); rintro e W ⟨rfl, hbc⟩; replace hr := hr.bl hbc; replace hq := hq.bl hbc; replace ha := ha.bl hbc; replace hi := hi.bl hbc; obtain ⟨M1, hM1⟩ : ∃ n, W.heap.size = n := ⟨_, rfl⟩; have lM1 : NI + 1 ≤ M1 := (by (have := hi.lt; omega)); replace hM1 := hide hM1; replace hb := below_bl rfl hb hbc) | ((with_reducible refine bs_lst L1 10 M1 ?_ ?_ ?_); exact hM1.out; kernel_rfl; intro W hl1 hb' hzM1; obtain ⟨hr, hq, ha, hi, hb⟩ := an4 hM1 hb' hr hq ha hi hb) | (go_at_call 31; (with_reducible refine (HP1.out _ _ hl1).mono ?_); rintro e W2 ⟨rfl, rfl⟩) | ((with_reducible refine bs_lst L2 18 (M1 + 1) ?_ ?_ ?_); exact hzM1.out; kernel_rfl; intro W hl2 hb' hzM2; obtain ⟨hr, hq, ha, hi, hb⟩ := an4 hzM1 hb' hr hq ha hi hb) | (go_at_call 31; (with_reducible refine (HP2.out _ _ hl2).mono ?_); rintro e W2 ⟨rfl, rfl⟩) | (go_at_call 32; (with_reducible refine (HDo.out _).mono ?_); rintro e W2 ⟨rfl, rfl⟩) | ((with_reducible refine ld_g w.heap.size _ hr ?_ ?_); exact rfl) | ((with_reducible refine ld_rij NI 1 (rd : Nat) _ _ hi ?_ ?_ ?_); exact rfl; exact rfl) | (go_at_call 34; (with_reducible refine (HW.out _).mono ?_); rintro e W ⟨rfl, hbc⟩; obtain ⟨hr, hq, ha, hi, hb⟩ := bl4 hbc hr hq ha hi hb) | (go_at_call 33; (with_reducible refine (HTo.out _).mono ?_); rintro e W ⟨rfl, hbc⟩; obtain ⟨hr, hq, ha, hi, hb⟩ := bl4 hbc hr hq ha hi hb) | ((with_reducible refine st_g (w.heap.size + 1) _ (goH (writeH h rd z) nx) hq ?_ ?_ ?_); exact rfl; exact rfl; intro W hnew ho; obtain ⟨hr, ha, hi, hb⟩ := on3 ho hr ha hi hb; replace hq := hnew) | ((with_reducible refine st_ra (w.heap.size + 2) _ (noA) ha ?_ ?_ ?_); exact rfl; exact rfl; intro W hnew ho; obtain ⟨hr, hq, hi, hb⟩ := on3 ho hr hq hi hb; replace ha := hnew))
  refine bodyPost_ret (results_two_rows Tryd.results10 _ _ (w.heap.size + 1) (w.heap.size + 2) _ _ _ _ _ _ rfl hq Tryd.underlying28 rfl size_g rfl ha Tryd.underlying37 rfl size_racc) rfl ?_
  exact ⟨rfl, hb⟩

end Go.Proofs.YtchjhpeogdkbmaaDoor
namespace Go.Proofs.YtchjhpeogdkbmaaDoor
open Go.RowKit
set_option linter.unusedVariables false

set_option maxRecDepth 100000 in
set_option maxHeartbeats 2000000 in
theorem rdo_3y (h : H) (ok : h.Ok) (op im cs : Int) (rd s1 s2 : Nat) (hrd : rd < 32) (h1 : s1 < 32) (h2 : s2 < 32) (v l : Nat) (s : ByteArray) (hT : Told v ⟨op, (rd : Nat), (s1 : Nat), (s2 : Nat), im, cs⟩ s) (m1 : MissL L1 s) (m2 : MissL L2 s) (k : Nat) (hk : HitL L3 k s) (hh : holdsN k (h.x s1) (h.x s2) = true) (w : World) :
    Calls Tryd.prog 10 #[.agg h.cells, .int .u32 (v : Nat), .int .u32 (l : Nat)] w fun e w' => e = .returned (.tuple #[.agg (goH h ((h.pc + immN im) % 4294967296)).cells, .agg (noA).cells]) ∧ Below w.heap.size w w' := by
  have HD := hide hT.1
  have HM := hide hT.2
  clear hT
  obtain ⟨n, hn0⟩ : ∃ n, immN im = n := ⟨_, rfl⟩
  have hn : n < 4294967296 := hn0 ▸ immN_lt im
  have HIm : Hid (IntKind.u32.wrap im = ((n : Nat) : Int)) := hide (by rw [IntKind.wrap_u32, ← immN_cast, hn0])
  obtain ⟨nx, hnx0⟩ : ∃ x, (h.pc + 4) % 4294967296 = x := ⟨_, rfl⟩
  have HNx : Hid (IntKind.u32.wrap ((h.pc : Int) + 4) = ((nx : Nat) : Int)) := hide (by rw [IntKind.wrap_u32, ← hnx0]; omega)
  have b1 : (0 : Int) ≤ s1 := by omega
  have b1' : (s1 : Int) < 32 := by omega
  have b2 : (0 : Int) ≤ s2 := by omega
  have b2' : (s2 : Int) < 32 := by omega
  have HP1 := hide (fun N w hr => place_miss L1 10 s rfl (by decide) m1 N w hr)
  have HP2 := hide (fun N w hr => place_miss L2 18 s rfl (by decide) m2 N w hr)
  have HP3 := hide (fun N w hr => place_hit L3 6 k s rfl (by decide) hk N w hr)
  clear m1 m2
  have HDo := hide (fun w => refholds_any k hk.1 (h.x s1) (h.x s2) (ok.x s1) (ok.x s2) w)
  rw [hh] at HDo
  clear hh
  have tk : (0 : Int) ≤ (k : Int) := by omega
  have HTo := hide (fun w => rto_any h ok ((h.pc + n) % 4294967296) w)
  have e1 : (((h.pc + n) % 4294967296 : Nat) : Int) = ((h.pc : Int) + (n : Int)) % 4294967296 := by omega
  rw [e1] at HTo
  have HV : Hid (goH h ((h.pc + immN im) % 4294967296) = goH h ((h.pc + n) % 4294967296)) := hide (by rw [hn0])
  rw [HV.out]
  go_enter Tryd.func10, Tryd.ntmps10
  go_wp2_with (first | ((with_reducible refine bx_g w.heap.size h ?_ ?_ ?_); exact rfl; exact rfl; intro W hr hb hz) | ((with_reducible refine al_g (w.heap.size + 1) ?_ ?_); exact hz.out; intro W hq hb' hz'; obtain ⟨hr, hb⟩ := an1 hz hb' hr hb; replace hz := hz') | ((with_reducible refine al_ra (w.heap.size + 2) ?_ ?_); exact hz.out; intro W ha hb' hz'; obtain ⟨hr, hq, hb⟩ := an2 hz hb' hr hq hb; replace hz := hz') | (go_at_call 28; (with_reducible refine (HD.out _).mono ?_); rintro e W ⟨rfl, hbc⟩; replace hr := hr.bl hbc; replace hq := hq.bl hbc; replace ha := ha.bl hbc; obtain ⟨NI, hNI⟩ : ∃ n, W.heap.size = n := ⟨_, rfl⟩; have lNI : w.heap.size + 3 ≤ NI := (by (have := ha.lt; omega)); replace hNI := hide hNI; replace hb := below_bl rfl hb hbc) | ((with_reducible refine al_ri NI ?_ ?_); exact hNI.out; intro W hi hb' hzI; obtain ⟨hr, hq, ha, hb⟩ := an3 hNI hb' hr hq ha hb) | ((with_reducible refine st_ri NI _ ⟨op, (rd : Nat), (s1 : Nat), (s2 : Nat), im, cs⟩ hi ?_ ?_ ?_); exact rfl; exact rfl; intro W hnew ho; obtain ⟨hr, hq, ha, hb⟩ := on3 ho hr hq ha hb; replace hi := hnew))
  replace hq := hq.dr
  replace ha := ha.dr
  refine wp_region_held_drew (S := (fun V => RowAt V w.heap.size h.cells 28 ∧ RowAt V NI (I6.cells ⟨op, (rd : Nat), (s1 : Nat), (s2 : Nat), im, cs⟩) 69 ∧ Below w.heap.size w V)) (by kernel_rfl) ?_ (fun hHeld => ?_)
  · exact ⟨hr.dr, hi.dr, hb.drew⟩
  generalize W.drew = V at hHeld hq ha ⊢
  clear hr hi hb
  refine tkO 0 (.pointer (some ⟨NI, 2, none⟩)) (by simp only [gT, gZ]; rfl) (puO (by (intro w hSw; (try dsimp only at hSw); go_simp))) ?_
  simp only [Act.put, pA, pZ, pS]
  refine tkO 1 (.int .i64 (s1 : Nat)) (by simp only [gT, gZ, gS]; rfl) (y_int NI 2 (s1 : Nat) (fun V hV => (hV.2.1.cell 2).trans rfl) rfl) ?_
  simp only [Act.put, pA, pZ, pS]
  refine tkO 2 (.pointer (some ⟨w.heap.size, 1, none⟩)) (by simp only [gT, gZ, gS]; rfl) (puO (by (intro w hSw; (try dsimp only at hSw); go_simp))) ?_
  simp only [Act.put, pA, pZ, pS]
  refine tkO 3 (.pointer (some ⟨w.heap.size, 1 + s1, none⟩)) (by simp only [gT, gZ, gS]; rfl) (puO (by (intro w hSw; (try dsimp only at hSw); go_simp))) ?_
  simp only [Act.put, pA, pZ, pS]
  refine tkO 4 (.int .u32 (h.x s1 : Nat)) (by simp only [gT, gZ, gS]; rfl) (y_word w.heap.size (1 + s1) _ (fun V hV => (hV.1.cell (1 + s1)).trans (h.cell_x s1 h1)) rfl) ?_
  simp only [Act.put, pA, pZ, pS]
  refine tkO 5 (.pointer (some ⟨NI, 3, none⟩)) (by simp only [gT, gZ, gS]; rfl) (puO (by (intro w hSw; (try dsimp only at hSw); go_simp))) ?_
  simp only [Act.put, pA, pZ, pS]
  refine tkO 6 (.int .i64 (s2 : Nat)) (by simp only [gT, gZ, gS]; rfl) (y_int NI 3 (s2 : Nat) (fun V hV => (hV.2.1.cell 3).trans rfl) rfl) ?_
  simp only [Act.put, pA, pZ, pS]
  refine tkO 7 (.pointer (some ⟨w.heap.size, 1, none⟩)) (by simp only [gT, gZ, gS]; rfl) (puO (by (intro w hSw; (try dsimp only at hSw); go_simp))) ?_
  simp only [Act.put, pA, pZ, pS]
  refine tkO 8 (.pointer (some ⟨w.heap.size, 1 + s2, none⟩)) (by simp only [gT, gZ, gS]; rfl) (puO (by (intro w hSw; (try dsimp only at hSw); go_simp))) ?_
  simp only [Act.put, pA, pZ, pS]
  refine tkO 9 (.int .u32 (h.x s2 : Nat)) (by simp only [gT, gZ, gS]; rfl) (y_word w.heap.size (1 + s2) _ (fun V hV => (hV.1.cell (1 + s2)).trans (h.cell_x s2 h2)) rfl) ?_
  simp only [Act.put, pA, pZ, pS]
  refine tkO 10 (.pointer (some ⟨NI, 4, none⟩)) (by simp only [gT, gZ, gS]; rfl) (puO (by (intro w hSw; (try dsimp only at hSw); go_simp))) ?_
  simp only [Act.put, pA, pZ, pS]
  refine tkO 11 (.int .i64 im) (by simp only [gT, gZ, gS]; rfl) (y_int NI 4 im (fun V hV => (hV.2.1.cell 4).trans rfl) rfl) ?_
  simp only [Act.put, pA, pZ, pS]
  refine tkO 12 (.int .u32 (n : Nat)) (by simp only [gT, gZ, gS]; rfl) (puO (by (intro w hSw; (try dsimp only at hSw); go_simp; exact HIm.out))) ?_
  simp only [Act.put, pA, pZ, pS]
  refine tkO 13 (.pointer (some ⟨w.heap.size, 0, none⟩)) (by simp only [gT, gZ, gS]; rfl) (puO (by (intro w hSw; (try dsimp only at hSw); go_simp))) ?_
  simp only [Act.put, pA, pZ, pS]
  refine tkO 14 (.int .u32 (h.pc : Nat)) (by simp only [gT, gZ, gS]; rfl) (y_word w.heap.size 0 (h.pc : Nat) (fun V hV => hV.1.cell 0) rfl) ?_
  simp only [Act.put, pA, pZ, pS]
  refine tkO 15 (.int .u32 (nx : Nat)) (by simp only [gT, gZ, gS]; rfl) (puO (by (intro w hSw; (try dsimp only at hSw); go_simp; exact HNx.out))) ?_
  simp only [Act.put, pA, pZ, pS]
  refine tkO 16 (.int .u32 (h.x s1 : Nat)) (by simp only [gT, gZ, gS]; rfl) (puO (by (intro w hSw; (try dsimp only at hSw); go_simp))) ?_
  simp only [Act.put, pA, pZ, pS]
  refine tkO 17 (.int .u32 (h.x s2 : Nat)) (by simp only [gT, gZ, gS]; rfl) (puO (by (intro w hSw; (try dsimp only at hSw); go_simp))) ?_
  simp only [Act.put, pA, pZ, pS]
  refine tkO 18 (.int .u32 (n : Nat)) (by simp only [gT, gZ, gS]; rfl) (puO (by (intro w hSw; (try dsimp only at hSw); go_simp))) ?_
  simp only [Act.put, pA, pZ, pS]
  refine tkO 19 (.int .u32 (nx : Nat)) (by simp only [gT, gZ, gS]; rfl) (puO (by (intro w hSw; (try dsimp only at hSw); go_simp))) ?_
  simp only [Act.put, pA, pZ, pS]
  refine wpAnyH_done (by kernel_rfl) ?_ _
  have hr := hHeld.1
  have hi := hHeld.2.1
  have hb := hHeld.2.2
  clear hHeld
  go_wp2_with (first | ((with_reducible refine ld_rij NI 0 op _ _ hi ?_ ?_ ?_); exact rfl; exact rfl) | (go_at_call 30; (with_reducible refine (HM.out _).mono ?_); rintro e W ⟨rfl, hbc⟩; replace hr := hr.bl hbc; replace hq := hq.bl hbc; replace ha := ha.bl hbc; replace hi := hi.bl hbc; obtain ⟨M1, hM1⟩ : ∃ n, W.heap.size = n := ⟨_, rfl⟩; have lM1 : NI + 1 ≤ M1 := (by (have := hi.lt; omega)); replace hM1 := hide hM1; replace hb := below_bl rfl hb hbc) | ((with_reducible refine bs_lst L1 10 M1 ?_ ?_ ?_); exact hM1.out; kernel_rfl; intro W hl1 hb' hzM1; obtain ⟨hr, hq, ha, hi, hb⟩ := an4 hM1 hb' hr hq ha hi hb) | (go_at_call 31; (with_reducible refine (HP1.out _ _ hl1).mono ?_); rintro e W2 ⟨rfl, rfl⟩) | ((with_reducible refine bs_lst L2 18 (M1 + 1) ?_ ?_ ?_); exact hzM1.out; kernel_rfl; intro W hl2 hb' hzM2; obtain ⟨hr, hq, ha, hi, hb⟩ := an4 hzM1 hb' hr hq ha hi hb) | (go_at_call 31; (with_reducible refine (HP2.out _ _ hl2).mono ?_); rintro e W2 ⟨rfl, rfl⟩) | ((with_reducible refine bs_lst L3 6 (M1 + 2) ?_ ?_ ?_); exact hzM2.out; kernel_rfl; intro W hl3 hb' hzM3; obtain ⟨hr, hq, ha, hi, hb⟩ := an4 hzM2 hb' hr hq ha hi hb) | (go_at_call 31; (with_reducible refine (HP3.out _ _ hl3).mono ?_); rintro e W2 ⟨rfl, rfl⟩) | (go_at_call 35; (with_reducible refine (HDo.out _).mono ?_); rintro e W2 ⟨rfl, rfl⟩) | ((with_reducible refine ld_g w.heap.size _ hr ?_ ?_); exact rfl) | ((with_reducible refine ld_gpc w.heap.size _ hr ?_ ?_); exact rfl) | (go_at_call 33; (with_reducible refine (HTo.out _).mono ?_); rintro e W ⟨rfl, hbc⟩; obtain ⟨hr, hq, ha, hi, hb⟩ := bl4 hbc hr hq ha hi hb) | ((with_reducible refine st_g (w.heap.size + 1) _ (goH h ((h.pc + n) % 4294967296)) hq ?_ ?_ ?_); exact rfl; exact rfl; intro W hnew ho; obtain ⟨hr, ha, hi, hb⟩ := on3 ho hr ha hi hb; replace hq := hnew) | ((with_reducible refine st_ra (w.heap.size + 2) _ (noA) ha ?_ ?_ ?_); exact rfl; exact rfl; intro W hnew ho; obtain ⟨hr, hq, hi, hb⟩ := on3 ho hr hq hi hb; replace ha := hnew))
  refine bodyPost_ret (results_two_rows Tryd.results10 _ _ (w.heap.size + 1) (w.heap.size + 2) _ _ _ _ _ _ rfl hq Tryd.underlying28 rfl size_g rfl ha Tryd.underlying37 rfl size_racc) rfl ?_
  exact ⟨rfl, hb⟩

set_option maxRecDepth 100000 in
set_option maxHeartbeats 2000000 in
theorem rdo_3n (h : H) (ok : h.Ok) (op im cs : Int) (rd s1 s2 : Nat) (hrd : rd < 32) (h1 : s1 < 32) (h2 : s2 < 32) (v l : Nat) (s : ByteArray) (hT : Told v ⟨op, (rd : Nat), (s1 : Nat), (s2 : Nat), im, cs⟩ s) (m1 : MissL L1 s) (m2 : MissL L2 s) (k : Nat) (hk : HitL L3 k s) (hh : holdsN k (h.x s1) (h.x s2) = false) (w : World) :
    Calls Tryd.prog 10 #[.agg h.cells, .int .u32 (v : Nat), .int .u32 (l : Nat)] w fun e w' => e = .returned (.tuple #[.agg (goH h ((h.pc + 4) % 4294967296)).cells, .agg (noA).cells]) ∧ Below w.heap.size w w' := by
  have HD := hide hT.1
  have HM := hide hT.2
  clear hT
  obtain ⟨n, hn0⟩ : ∃ n, immN im = n := ⟨_, rfl⟩
  have hn : n < 4294967296 := hn0 ▸ immN_lt im
  have HIm : Hid (IntKind.u32.wrap im = ((n : Nat) : Int)) := hide (by rw [IntKind.wrap_u32, ← immN_cast, hn0])
  obtain ⟨nx, hnx0⟩ : ∃ x, (h.pc + 4) % 4294967296 = x := ⟨_, rfl⟩
  have HNx : Hid (IntKind.u32.wrap ((h.pc : Int) + 4) = ((nx : Nat) : Int)) := hide (by rw [IntKind.wrap_u32, ← hnx0]; omega)
  have b1 : (0 : Int) ≤ s1 := by omega
  have b1' : (s1 : Int) < 32 := by omega
  have b2 : (0 : Int) ≤ s2 := by omega
  have b2' : (s2 : Int) < 32 := by omega
  have HP1 := hide (fun N w hr => place_miss L1 10 s rfl (by decide) m1 N w hr)
  have HP2 := hide (fun N w hr => place_miss L2 18 s rfl (by decide) m2 N w hr)
  have HP3 := hide (fun N w hr => place_hit L3 6 k s rfl (by decide) hk N w hr)
  clear m1 m2
  have HDo := hide (fun w => refholds_any k hk.1 (h.x s1) (h.x s2) (ok.x s1) (ok.x s2) w)
  rw [hh] at HDo
  clear hh
  have tk : (0 : Int) ≤ (k : Int) := by omega
  have HTo := hide (fun w => rto_any h ok nx w)
  have HV : Hid (goH h ((h.pc + 4) % 4294967296) = goH h nx) := hide (by rw [hnx0])
  rw [HV.out]
  go_enter Tryd.func10, Tryd.ntmps10
  go_wp2_with (first | ((with_reducible refine bx_g w.heap.size h ?_ ?_ ?_); exact rfl; exact rfl; intro W hr hb hz) | ((with_reducible refine al_g (w.heap.size + 1) ?_ ?_); exact hz.out; intro W hq hb' hz'; obtain ⟨hr, hb⟩ := an1 hz hb' hr hb; replace hz := hz') | ((with_reducible refine al_ra (w.heap.size + 2) ?_ ?_); exact hz.out; intro W ha hb' hz'; obtain ⟨hr, hq, hb⟩ := an2 hz hb' hr hq hb; replace hz := hz') | (go_at_call 28; (with_reducible refine (HD.out _).mono ?_); rintro e W ⟨rfl, hbc⟩; replace hr := hr.bl hbc; replace hq := hq.bl hbc; replace ha := ha.bl hbc; obtain ⟨NI, hNI⟩ : ∃ n, W.heap.size = n := ⟨_, rfl⟩; have lNI : w.heap.size + 3 ≤ NI := (by (have := ha.lt; omega)); replace hNI := hide hNI; replace hb := below_bl rfl hb hbc) | ((with_reducible refine al_ri NI ?_ ?_); exact hNI.out; intro W hi hb' hzI; obtain ⟨hr, hq, ha, hb⟩ := an3 hNI hb' hr hq ha hb) | ((with_reducible refine st_ri NI _ ⟨op, (rd : Nat), (s1 : Nat), (s2 : Nat), im, cs⟩ hi ?_ ?_ ?_); exact rfl; exact rfl; intro W hnew ho; obtain ⟨hr, hq, ha, hb⟩ := on3 ho hr hq ha hb; replace hi := hnew))
  replace hq := hq.dr
  replace ha := ha.dr
  refine wp_region_held_drew (S := (fun V => RowAt V w.heap.size h.cells 28 ∧ RowAt V NI (I6.cells ⟨op, (rd : Nat), (s1 : Nat), (s2 : Nat), im, cs⟩) 69 ∧ Below w.heap.size w V)) (by kernel_rfl) ?_ (fun hHeld => ?_)
  · exact ⟨hr.dr, hi.dr, hb.drew⟩
  generalize W.drew = V at hHeld hq ha ⊢
  clear hr hi hb
  refine tkO 0 (.pointer (some ⟨NI, 2, none⟩)) (by simp only [gT, gZ]; rfl) (puO (by (intro w hSw; (try dsimp only at hSw); go_simp))) ?_
  simp only [Act.put, pA, pZ, pS]
  refine tkO 1 (.int .i64 (s1 : Nat)) (by simp only [gT, gZ, gS]; rfl) (y_int NI 2 (s1 : Nat) (fun V hV => (hV.2.1.cell 2).trans rfl) rfl) ?_
  simp only [Act.put, pA, pZ, pS]
  refine tkO 2 (.pointer (some ⟨w.heap.size, 1, none⟩)) (by simp only [gT, gZ, gS]; rfl) (puO (by (intro w hSw; (try dsimp only at hSw); go_simp))) ?_
  simp only [Act.put, pA, pZ, pS]
  refine tkO 3 (.pointer (some ⟨w.heap.size, 1 + s1, none⟩)) (by simp only [gT, gZ, gS]; rfl) (puO (by (intro w hSw; (try dsimp only at hSw); go_simp))) ?_
  simp only [Act.put, pA, pZ, pS]
  refine tkO 4 (.int .u32 (h.x s1 : Nat)) (by simp only [gT, gZ, gS]; rfl) (y_word w.heap.size (1 + s1) _ (fun V hV => (hV.1.cell (1 + s1)).trans (h.cell_x s1 h1)) rfl) ?_
  simp only [Act.put, pA, pZ, pS]
  refine tkO 5 (.pointer (some ⟨NI, 3, none⟩)) (by simp only [gT, gZ, gS]; rfl) (puO (by (intro w hSw; (try dsimp only at hSw); go_simp))) ?_
  simp only [Act.put, pA, pZ, pS]
  refine tkO 6 (.int .i64 (s2 : Nat)) (by simp only [gT, gZ, gS]; rfl) (y_int NI 3 (s2 : Nat) (fun V hV => (hV.2.1.cell 3).trans rfl) rfl) ?_
  simp only [Act.put, pA, pZ, pS]
  refine tkO 7 (.pointer (some ⟨w.heap.size, 1, none⟩)) (by simp only [gT, gZ, gS]; rfl) (puO (by (intro w hSw; (try dsimp only at hSw); go_simp))) ?_
  simp only [Act.put, pA, pZ, pS]
  refine tkO 8 (.pointer (some ⟨w.heap.size, 1 + s2, none⟩)) (by simp only [gT, gZ, gS]; rfl) (puO (by (intro w hSw; (try dsimp only at hSw); go_simp))) ?_
  simp only [Act.put, pA, pZ, pS]
  refine tkO 9 (.int .u32 (h.x s2 : Nat)) (by simp only [gT, gZ, gS]; rfl) (y_word w.heap.size (1 + s2) _ (fun V hV => (hV.1.cell (1 + s2)).trans (h.cell_x s2 h2)) rfl) ?_
  simp only [Act.put, pA, pZ, pS]
  refine tkO 10 (.pointer (some ⟨NI, 4, none⟩)) (by simp only [gT, gZ, gS]; rfl) (puO (by (intro w hSw; (try dsimp only at hSw); go_simp))) ?_
  simp only [Act.put, pA, pZ, pS]
  refine tkO 11 (.int .i64 im) (by simp only [gT, gZ, gS]; rfl) (y_int NI 4 im (fun V hV => (hV.2.1.cell 4).trans rfl) rfl) ?_
  simp only [Act.put, pA, pZ, pS]
  refine tkO 12 (.int .u32 (n : Nat)) (by simp only [gT, gZ, gS]; rfl) (puO (by (intro w hSw; (try dsimp only at hSw); go_simp; exact HIm.out))) ?_
  simp only [Act.put, pA, pZ, pS]
  refine tkO 13 (.pointer (some ⟨w.heap.size, 0, none⟩)) (by simp only [gT, gZ, gS]; rfl) (puO (by (intro w hSw; (try dsimp only at hSw); go_simp))) ?_
  simp only [Act.put, pA, pZ, pS]
  refine tkO 14 (.int .u32 (h.pc : Nat)) (by simp only [gT, gZ, gS]; rfl) (y_word w.heap.size 0 (h.pc : Nat) (fun V hV => hV.1.cell 0) rfl) ?_
  simp only [Act.put, pA, pZ, pS]
  refine tkO 15 (.int .u32 (nx : Nat)) (by simp only [gT, gZ, gS]; rfl) (puO (by (intro w hSw; (try dsimp only at hSw); go_simp; exact HNx.out))) ?_
  simp only [Act.put, pA, pZ, pS]
  refine tkO 16 (.int .u32 (h.x s1 : Nat)) (by simp only [gT, gZ, gS]; rfl) (puO (by (intro w hSw; (try dsimp only at hSw); go_simp))) ?_
  simp only [Act.put, pA, pZ, pS]
  refine tkO 17 (.int .u32 (h.x s2 : Nat)) (by simp only [gT, gZ, gS]; rfl) (puO (by (intro w hSw; (try dsimp only at hSw); go_simp))) ?_
  simp only [Act.put, pA, pZ, pS]
  refine tkO 18 (.int .u32 (n : Nat)) (by simp only [gT, gZ, gS]; rfl) (puO (by (intro w hSw; (try dsimp only at hSw); go_simp))) ?_
  simp only [Act.put, pA, pZ, pS]
  refine tkO 19 (.int .u32 (nx : Nat)) (by simp only [gT, gZ, gS]; rfl) (puO (by (intro w hSw; (try dsimp only at hSw); go_simp))) ?_
  simp only [Act.put, pA, pZ, pS]
  refine wpAnyH_done (by kernel_rfl) ?_ _
  have hr := hHeld.1
  have hi := hHeld.2.1
  have hb := hHeld.2.2
  clear hHeld
  go_wp2_with (first | ((with_reducible refine ld_rij NI 0 op _ _ hi ?_ ?_ ?_); exact rfl; exact rfl) | (go_at_call 30; (with_reducible refine (HM.out _).mono ?_); rintro e W ⟨rfl, hbc⟩; replace hr := hr.bl hbc; replace hq := hq.bl hbc; replace ha := ha.bl hbc; replace hi := hi.bl hbc; obtain ⟨M1, hM1⟩ : ∃ n, W.heap.size = n := ⟨_, rfl⟩; have lM1 : NI + 1 ≤ M1 := (by (have := hi.lt; omega)); replace hM1 := hide hM1; replace hb := below_bl rfl hb hbc) | ((with_reducible refine bs_lst L1 10 M1 ?_ ?_ ?_); exact hM1.out; kernel_rfl; intro W hl1 hb' hzM1; obtain ⟨hr, hq, ha, hi, hb⟩ := an4 hM1 hb' hr hq ha hi hb) | (go_at_call 31; (with_reducible refine (HP1.out _ _ hl1).mono ?_); rintro e W2 ⟨rfl, rfl⟩) | ((with_reducible refine bs_lst L2 18 (M1 + 1) ?_ ?_ ?_); exact hzM1.out; kernel_rfl; intro W hl2 hb' hzM2; obtain ⟨hr, hq, ha, hi, hb⟩ := an4 hzM1 hb' hr hq ha hi hb) | (go_at_call 31; (with_reducible refine (HP2.out _ _ hl2).mono ?_); rintro e W2 ⟨rfl, rfl⟩) | ((with_reducible refine bs_lst L3 6 (M1 + 2) ?_ ?_ ?_); exact hzM2.out; kernel_rfl; intro W hl3 hb' hzM3; obtain ⟨hr, hq, ha, hi, hb⟩ := an4 hzM2 hb' hr hq ha hi hb) | (go_at_call 31; (with_reducible refine (HP3.out _ _ hl3).mono ?_); rintro e W2 ⟨rfl, rfl⟩) | (go_at_call 35; (with_reducible refine (HDo.out _).mono ?_); rintro e W2 ⟨rfl, rfl⟩) | ((with_reducible refine ld_g w.heap.size _ hr ?_ ?_); exact rfl) | ((with_reducible refine ld_gpc w.heap.size _ hr ?_ ?_); exact rfl) | (go_at_call 33; (with_reducible refine (HTo.out _).mono ?_); rintro e W ⟨rfl, hbc⟩; obtain ⟨hr, hq, ha, hi, hb⟩ := bl4 hbc hr hq ha hi hb) | ((with_reducible refine st_g (w.heap.size + 1) _ (goH h nx) hq ?_ ?_ ?_); exact rfl; exact rfl; intro W hnew ho; obtain ⟨hr, ha, hi, hb⟩ := on3 ho hr ha hi hb; replace hq := hnew) | ((with_reducible refine st_ra (w.heap.size + 2) _ (noA) ha ?_ ?_ ?_); exact rfl; exact rfl; intro W hnew ho; obtain ⟨hr, hq, hi, hb⟩ := on3 ho hr hq hi hb; replace ha := hnew))
  refine bodyPost_ret (results_two_rows Tryd.results10 _ _ (w.heap.size + 1) (w.heap.size + 2) _ _ _ _ _ _ rfl hq Tryd.underlying28 rfl size_g rfl ha Tryd.underlying37 rfl size_racc) rfl ?_
  exact ⟨rfl, hb⟩

set_option maxRecDepth 100000 in
set_option maxHeartbeats 2000000 in
theorem rdo_6 (h : H) (ok : h.Ok) (op im cs : Int) (rd s1 s2 : Nat) (hrd : rd < 32) (h1 : s1 < 32) (h2 : s2 < 32) (v l : Nat) (s : ByteArray) (hT : Told v ⟨op, (rd : Nat), (s1 : Nat), (s2 : Nat), im, cs⟩ s) (m1 : MissL L1 s) (m2 : MissL L2 s) (m3 : MissL L3 s) (m4 : MissL L4 s) (m5 : MissL L5 s) (k : Nat) (hk : HitL L6 k s) (z : H) (hC : ∀ w, Calls Tryd.prog 36 #[.agg h.cells, .agg (I6.cells ⟨op, (rd : Nat), (s1 : Nat), (s2 : Nat), im, cs⟩), .int .i64 (k : Nat), .int .u32 (v : Nat), .int .u32 (l : Nat)] w fun e w' => e = .returned (.agg z.cells) ∧ Below w.heap.size w w') (w : World) :
    Calls Tryd.prog 10 #[.agg h.cells, .int .u32 (v : Nat), .int .u32 (l : Nat)] w fun e w' => e = .returned (.tuple #[.agg (z).cells, .agg (noA).cells]) ∧ Below w.heap.size w w' := by
  have HD := hide hT.1
  have HM := hide hT.2
  clear hT
  obtain ⟨n, hn0⟩ : ∃ n, immN im = n := ⟨_, rfl⟩
  have hn : n < 4294967296 := hn0 ▸ immN_lt im
  have HIm : Hid (IntKind.u32.wrap im = ((n : Nat) : Int)) := hide (by rw [IntKind.wrap_u32, ← immN_cast, hn0])
  obtain ⟨nx, hnx0⟩ : ∃ x, (h.pc + 4) % 4294967296 = x := ⟨_, rfl⟩
  have HNx : Hid (IntKind.u32.wrap ((h.pc : Int) + 4) = ((nx : Nat) : Int)) := hide (by rw [IntKind.wrap_u32, ← hnx0]; omega)
  have b1 : (0 : Int) ≤ s1 := by omega
  have b1' : (s1 : Int) < 32 := by omega
  have b2 : (0 : Int) ≤ s2 := by omega
  have b2' : (s2 : Int) < 32 := by omega
  have HP1 := hide (fun N w hr => place_miss L1 10 s rfl (by decide) m1 N w hr)
  have HP2 := hide (fun N w hr => place_miss L2 18 s rfl (by decide) m2 N w hr)
  have HP3 := hide (fun N w hr => place_miss L3 6 s rfl (by decide) m3 N w hr)
  have HP4 := hide (fun N w hr => place_miss L4 5 s rfl (by decide) m4 N w hr)
  have HP5 := hide (fun N w hr => place_miss L5 3 s rfl (by decide) m5 N w hr)
  have HP6 := hide (fun N w hr => place_hit L6 6 k s rfl (by decide) hk N w hr)
  clear m1 m2 m3 m4 m5
  have HDo := hide hC
  clear hC
  have tk : (0 : Int) ≤ (k : Int) := by omega
  go_enter Tryd.func10, Tryd.ntmps10
  go_wp2_with (first | ((with_reducible refine bx_g w.heap.size h ?_ ?_ ?_); exact rfl; exact rfl; intro W hr hb hz) | ((with_reducible refine al_g (w.heap.size + 1) ?_ ?_); exact hz.out; intro W hq hb' hz'; obtain ⟨hr, hb⟩ := an1 hz hb' hr hb; replace hz := hz') | ((with_reducible refine al_ra (w.heap.size + 2) ?_ ?_); exact hz.out; intro W ha hb' hz'; obtain ⟨hr, hq, hb⟩ := an2 hz hb' hr hq hb; replace hz := hz') | (go_at_call 28; (with_reducible refine (HD.out _).mono ?_); rintro e W ⟨rfl, hbc⟩; replace hr := hr.bl hbc; replace hq := hq.bl hbc; replace ha := ha.bl hbc; obtain ⟨NI, hNI⟩ : ∃ n, W.heap.size = n := ⟨_, rfl⟩; have lNI : w.heap.size + 3 ≤ NI := (by (have := ha.lt; omega)); replace hNI := hide hNI; replace hb := below_bl rfl hb hbc) | ((with_reducible refine al_ri NI ?_ ?_); exact hNI.out; intro W hi hb' hzI; obtain ⟨hr, hq, ha, hb⟩ := an3 hNI hb' hr hq ha hb) | ((with_reducible refine st_ri NI _ ⟨op, (rd : Nat), (s1 : Nat), (s2 : Nat), im, cs⟩ hi ?_ ?_ ?_); exact rfl; exact rfl; intro W hnew ho; obtain ⟨hr, hq, ha, hb⟩ := on3 ho hr hq ha hb; replace hi := hnew))
  replace hq := hq.dr
  replace ha := ha.dr
  refine wp_region_held_drew (S := (fun V => RowAt V w.heap.size h.cells 28 ∧ RowAt V NI (I6.cells ⟨op, (rd : Nat), (s1 : Nat), (s2 : Nat), im, cs⟩) 69 ∧ Below w.heap.size w V)) (by kernel_rfl) ?_ (fun hHeld => ?_)
  · exact ⟨hr.dr, hi.dr, hb.drew⟩
  generalize W.drew = V at hHeld hq ha ⊢
  clear hr hi hb
  refine tkO 0 (.pointer (some ⟨NI, 2, none⟩)) (by simp only [gT, gZ]; rfl) (puO (by (intro w hSw; (try dsimp only at hSw); go_simp))) ?_
  simp only [Act.put, pA, pZ, pS]
  refine tkO 1 (.int .i64 (s1 : Nat)) (by simp only [gT, gZ, gS]; rfl) (y_int NI 2 (s1 : Nat) (fun V hV => (hV.2.1.cell 2).trans rfl) rfl) ?_
  simp only [Act.put, pA, pZ, pS]
  refine tkO 2 (.pointer (some ⟨w.heap.size, 1, none⟩)) (by simp only [gT, gZ, gS]; rfl) (puO (by (intro w hSw; (try dsimp only at hSw); go_simp))) ?_
  simp only [Act.put, pA, pZ, pS]
  refine tkO 3 (.pointer (some ⟨w.heap.size, 1 + s1, none⟩)) (by simp only [gT, gZ, gS]; rfl) (puO (by (intro w hSw; (try dsimp only at hSw); go_simp))) ?_
  simp only [Act.put, pA, pZ, pS]
  refine tkO 4 (.int .u32 (h.x s1 : Nat)) (by simp only [gT, gZ, gS]; rfl) (y_word w.heap.size (1 + s1) _ (fun V hV => (hV.1.cell (1 + s1)).trans (h.cell_x s1 h1)) rfl) ?_
  simp only [Act.put, pA, pZ, pS]
  refine tkO 5 (.pointer (some ⟨NI, 3, none⟩)) (by simp only [gT, gZ, gS]; rfl) (puO (by (intro w hSw; (try dsimp only at hSw); go_simp))) ?_
  simp only [Act.put, pA, pZ, pS]
  refine tkO 6 (.int .i64 (s2 : Nat)) (by simp only [gT, gZ, gS]; rfl) (y_int NI 3 (s2 : Nat) (fun V hV => (hV.2.1.cell 3).trans rfl) rfl) ?_
  simp only [Act.put, pA, pZ, pS]
  refine tkO 7 (.pointer (some ⟨w.heap.size, 1, none⟩)) (by simp only [gT, gZ, gS]; rfl) (puO (by (intro w hSw; (try dsimp only at hSw); go_simp))) ?_
  simp only [Act.put, pA, pZ, pS]
  refine tkO 8 (.pointer (some ⟨w.heap.size, 1 + s2, none⟩)) (by simp only [gT, gZ, gS]; rfl) (puO (by (intro w hSw; (try dsimp only at hSw); go_simp))) ?_
  simp only [Act.put, pA, pZ, pS]
  refine tkO 9 (.int .u32 (h.x s2 : Nat)) (by simp only [gT, gZ, gS]; rfl) (y_word w.heap.size (1 + s2) _ (fun V hV => (hV.1.cell (1 + s2)).trans (h.cell_x s2 h2)) rfl) ?_
  simp only [Act.put, pA, pZ, pS]
  refine tkO 10 (.pointer (some ⟨NI, 4, none⟩)) (by simp only [gT, gZ, gS]; rfl) (puO (by (intro w hSw; (try dsimp only at hSw); go_simp))) ?_
  simp only [Act.put, pA, pZ, pS]
  refine tkO 11 (.int .i64 im) (by simp only [gT, gZ, gS]; rfl) (y_int NI 4 im (fun V hV => (hV.2.1.cell 4).trans rfl) rfl) ?_
  simp only [Act.put, pA, pZ, pS]
  refine tkO 12 (.int .u32 (n : Nat)) (by simp only [gT, gZ, gS]; rfl) (puO (by (intro w hSw; (try dsimp only at hSw); go_simp; exact HIm.out))) ?_
  simp only [Act.put, pA, pZ, pS]
  refine tkO 13 (.pointer (some ⟨w.heap.size, 0, none⟩)) (by simp only [gT, gZ, gS]; rfl) (puO (by (intro w hSw; (try dsimp only at hSw); go_simp))) ?_
  simp only [Act.put, pA, pZ, pS]
  refine tkO 14 (.int .u32 (h.pc : Nat)) (by simp only [gT, gZ, gS]; rfl) (y_word w.heap.size 0 (h.pc : Nat) (fun V hV => hV.1.cell 0) rfl) ?_
  simp only [Act.put, pA, pZ, pS]
  refine tkO 15 (.int .u32 (nx : Nat)) (by simp only [gT, gZ, gS]; rfl) (puO (by (intro w hSw; (try dsimp only at hSw); go_simp; exact HNx.out))) ?_
  simp only [Act.put, pA, pZ, pS]
  refine tkO 16 (.int .u32 (h.x s1 : Nat)) (by simp only [gT, gZ, gS]; rfl) (puO (by (intro w hSw; (try dsimp only at hSw); go_simp))) ?_
  simp only [Act.put, pA, pZ, pS]
  refine tkO 17 (.int .u32 (h.x s2 : Nat)) (by simp only [gT, gZ, gS]; rfl) (puO (by (intro w hSw; (try dsimp only at hSw); go_simp))) ?_
  simp only [Act.put, pA, pZ, pS]
  refine tkO 18 (.int .u32 (n : Nat)) (by simp only [gT, gZ, gS]; rfl) (puO (by (intro w hSw; (try dsimp only at hSw); go_simp))) ?_
  simp only [Act.put, pA, pZ, pS]
  refine tkO 19 (.int .u32 (nx : Nat)) (by simp only [gT, gZ, gS]; rfl) (puO (by (intro w hSw; (try dsimp only at hSw); go_simp))) ?_
  simp only [Act.put, pA, pZ, pS]
  refine wpAnyH_done (by kernel_rfl) ?_ _
  have hr := hHeld.1
  have hi := hHeld.2.1
  have hb := hHeld.2.2
  clear hHeld
  go_wp2_with (first | ((with_reducible refine ld_rij NI 0 op _ _ hi ?_ ?_ ?_); exact rfl; exact rfl) | (go_at_call 30; (with_reducible refine (HM.out _).mono ?_); rintro e W ⟨rfl, hbc⟩; replace hr := hr.bl hbc; replace hq := hq.bl hbc; replace ha := ha.bl hbc; replace hi := hi.bl hbc; obtain ⟨M1, hM1⟩ : ∃ n, W.heap.size = n := ⟨_, rfl⟩; have lM1 : NI + 1 ≤ M1 := (by (have := hi.lt; omega)); replace hM1 := hide hM1; replace hb := below_bl rfl hb hbc) | ((with_reducible refine bs_lst L1 10 M1 ?_ ?_ ?_); exact hM1.out; kernel_rfl; intro W hl1 hb' hzM1; obtain ⟨hr, hq, ha, hi, hb⟩ := an4 hM1 hb' hr hq ha hi hb) | (go_at_call 31; (with_reducible refine (HP1.out _ _ hl1).mono ?_); rintro e W2 ⟨rfl, rfl⟩) | ((with_reducible refine bs_lst L2 18 (M1 + 1) ?_ ?_ ?_); exact hzM1.out; kernel_rfl; intro W hl2 hb' hzM2; obtain ⟨hr, hq, ha, hi, hb⟩ := an4 hzM1 hb' hr hq ha hi hb) | (go_at_call 31; (with_reducible refine (HP2.out _ _ hl2).mono ?_); rintro e W2 ⟨rfl, rfl⟩) | ((with_reducible refine bs_lst L3 6 (M1 + 2) ?_ ?_ ?_); exact hzM2.out; kernel_rfl; intro W hl3 hb' hzM3; obtain ⟨hr, hq, ha, hi, hb⟩ := an4 hzM2 hb' hr hq ha hi hb) | (go_at_call 31; (with_reducible refine (HP3.out _ _ hl3).mono ?_); rintro e W2 ⟨rfl, rfl⟩) | ((with_reducible refine bs_lst L4 5 (M1 + 3) ?_ ?_ ?_); exact hzM3.out; kernel_rfl; intro W hl4 hb' hzM4; obtain ⟨hr, hq, ha, hi, hb⟩ := an4 hzM3 hb' hr hq ha hi hb) | (go_at_call 31; (with_reducible refine (HP4.out _ _ hl4).mono ?_); rintro e W2 ⟨rfl, rfl⟩) | ((with_reducible refine bs_lst L5 3 (M1 + 4) ?_ ?_ ?_); exact hzM4.out; kernel_rfl; intro W hl5 hb' hzM5; obtain ⟨hr, hq, ha, hi, hb⟩ := an4 hzM4 hb' hr hq ha hi hb) | (go_at_call 31; (with_reducible refine (HP5.out _ _ hl5).mono ?_); rintro e W2 ⟨rfl, rfl⟩) | ((with_reducible refine bs_lst L6 6 (M1 + 5) ?_ ?_ ?_); exact hzM5.out; kernel_rfl; intro W hl6 hb' hzM6; obtain ⟨hr, hq, ha, hi, hb⟩ := an4 hzM5 hb' hr hq ha hi hb) | (go_at_call 31; (with_reducible refine (HP6.out _ _ hl6).mono ?_); rintro e W2 ⟨rfl, rfl⟩) | ((with_reducible refine ld_g w.heap.size _ hr ?_ ?_); exact rfl) | ((with_reducible refine ld_ri NI _ hi ?_ ?_); exact rfl) | (go_at_call 36; (with_reducible refine (HDo.out _).mono ?_); rintro e W ⟨rfl, hbc⟩; obtain ⟨hr, hq, ha, hi, hb⟩ := bl4 hbc hr hq ha hi hb) | ((with_reducible refine st_g (w.heap.size + 1) _ (z) hq ?_ ?_ ?_); exact rfl; exact rfl; intro W hnew ho; obtain ⟨hr, ha, hi, hb⟩ := on3 ho hr ha hi hb; replace hq := hnew) | ((with_reducible refine st_ra (w.heap.size + 2) _ (noA) ha ?_ ?_ ?_); exact rfl; exact rfl; intro W hnew ho; obtain ⟨hr, hq, hi, hb⟩ := on3 ho hr hq hi hb; replace ha := hnew))
  refine bodyPost_ret (results_two_rows Tryd.results10 _ _ (w.heap.size + 1) (w.heap.size + 2) _ _ _ _ _ _ rfl hq Tryd.underlying28 rfl size_g rfl ha Tryd.underlying37 rfl size_racc) rfl ?_
  exact ⟨rfl, hb⟩

set_option maxRecDepth 100000 in
set_option maxHeartbeats 2000000 in
theorem rdo_7 (h : H) (ok : h.Ok) (op im cs : Int) (rd s1 s2 : Nat) (hrd : rd < 32) (h1 : s1 < 32) (h2 : s2 < 32) (v l : Nat) (s : ByteArray) (hT : Told v ⟨op, (rd : Nat), (s1 : Nat), (s2 : Nat), im, cs⟩ s) (m1 : MissL L1 s) (m2 : MissL L2 s) (m3 : MissL L3 s) (m4 : MissL L4 s) (m5 : MissL L5 s) (m6 : MissL L6 s) (z : H) (hC : ∀ w, Calls Tryd.prog 37 #[.agg h.cells, .string s, .agg (I6.cells ⟨op, (rd : Nat), (s1 : Nat), (s2 : Nat), im, cs⟩), .agg #[.int .u32 (h.x s1 : Nat), .int .u32 (immN im : Nat)]] w fun e w' => e = .returned (.agg z.cells) ∧ Below w.heap.size w w') (w : World) :
    Calls Tryd.prog 10 #[.agg h.cells, .int .u32 (v : Nat), .int .u32 (l : Nat)] w fun e w' => e = .returned (.tuple #[.agg (z).cells, .agg (noA).cells]) ∧ Below w.heap.size w w' := by
  have HD := hide hT.1
  have HM := hide hT.2
  clear hT
  obtain ⟨n, hn0⟩ : ∃ n, immN im = n := ⟨_, rfl⟩
  have hn : n < 4294967296 := hn0 ▸ immN_lt im
  have HIm : Hid (IntKind.u32.wrap im = ((n : Nat) : Int)) := hide (by rw [IntKind.wrap_u32, ← immN_cast, hn0])
  obtain ⟨nx, hnx0⟩ : ∃ x, (h.pc + 4) % 4294967296 = x := ⟨_, rfl⟩
  have HNx : Hid (IntKind.u32.wrap ((h.pc : Int) + 4) = ((nx : Nat) : Int)) := hide (by rw [IntKind.wrap_u32, ← hnx0]; omega)
  have b1 : (0 : Int) ≤ s1 := by omega
  have b1' : (s1 : Int) < 32 := by omega
  have b2 : (0 : Int) ≤ s2 := by omega
  have b2' : (s2 : Int) < 32 := by omega
  have HP1 := hide (fun N w hr => place_miss L1 10 s rfl (by decide) m1 N w hr)
  have HP2 := hide (fun N w hr => place_miss L2 18 s rfl (by decide) m2 N w hr)
  have HP3 := hide (fun N w hr => place_miss L3 6 s rfl (by decide) m3 N w hr)
  have HP4 := hide (fun N w hr => place_miss L4 5 s rfl (by decide) m4 N w hr)
  have HP5 := hide (fun N w hr => place_miss L5 3 s rfl (by decide) m5 N w hr)
  have HP6 := hide (fun N w hr => place_miss L6 6 s rfl (by decide) m6 N w hr)
  clear m1 m2 m3 m4 m5 m6
  have HDo := hide hC
  rw [hn0] at HDo
  clear hC
  go_enter Tryd.func10, Tryd.ntmps10
  go_wp2_with (first | ((with_reducible refine bx_g w.heap.size h ?_ ?_ ?_); exact rfl; exact rfl; intro W hr hb hz) | ((with_reducible refine al_g (w.heap.size + 1) ?_ ?_); exact hz.out; intro W hq hb' hz'; obtain ⟨hr, hb⟩ := an1 hz hb' hr hb; replace hz := hz') | ((with_reducible refine al_ra (w.heap.size + 2) ?_ ?_); exact hz.out; intro W ha hb' hz'; obtain ⟨hr, hq, hb⟩ := an2 hz hb' hr hq hb; replace hz := hz') | (go_at_call 28; (with_reducible refine (HD.out _).mono ?_); rintro e W ⟨rfl, hbc⟩; replace hr := hr.bl hbc; replace hq := hq.bl hbc; replace ha := ha.bl hbc; obtain ⟨NI, hNI⟩ : ∃ n, W.heap.size = n := ⟨_, rfl⟩; have lNI : w.heap.size + 3 ≤ NI := (by (have := ha.lt; omega)); replace hNI := hide hNI; replace hb := below_bl rfl hb hbc) | ((with_reducible refine al_ri NI ?_ ?_); exact hNI.out; intro W hi hb' hzI; obtain ⟨hr, hq, ha, hb⟩ := an3 hNI hb' hr hq ha hb) | ((with_reducible refine st_ri NI _ ⟨op, (rd : Nat), (s1 : Nat), (s2 : Nat), im, cs⟩ hi ?_ ?_ ?_); exact rfl; exact rfl; intro W hnew ho; obtain ⟨hr, hq, ha, hb⟩ := on3 ho hr hq ha hb; replace hi := hnew))
  replace hq := hq.dr
  replace ha := ha.dr
  refine wp_region_held_drew (S := (fun V => RowAt V w.heap.size h.cells 28 ∧ RowAt V NI (I6.cells ⟨op, (rd : Nat), (s1 : Nat), (s2 : Nat), im, cs⟩) 69 ∧ Below w.heap.size w V)) (by kernel_rfl) ?_ (fun hHeld => ?_)
  · exact ⟨hr.dr, hi.dr, hb.drew⟩
  generalize W.drew = V at hHeld hq ha ⊢
  clear hr hi hb
  refine tkO 0 (.pointer (some ⟨NI, 2, none⟩)) (by simp only [gT, gZ]; rfl) (puO (by (intro w hSw; (try dsimp only at hSw); go_simp))) ?_
  simp only [Act.put, pA, pZ, pS]
  refine tkO 1 (.int .i64 (s1 : Nat)) (by simp only [gT, gZ, gS]; rfl) (y_int NI 2 (s1 : Nat) (fun V hV => (hV.2.1.cell 2).trans rfl) rfl) ?_
  simp only [Act.put, pA, pZ, pS]
  refine tkO 2 (.pointer (some ⟨w.heap.size, 1, none⟩)) (by simp only [gT, gZ, gS]; rfl) (puO (by (intro w hSw; (try dsimp only at hSw); go_simp))) ?_
  simp only [Act.put, pA, pZ, pS]
  refine tkO 3 (.pointer (some ⟨w.heap.size, 1 + s1, none⟩)) (by simp only [gT, gZ, gS]; rfl) (puO (by (intro w hSw; (try dsimp only at hSw); go_simp))) ?_
  simp only [Act.put, pA, pZ, pS]
  refine tkO 4 (.int .u32 (h.x s1 : Nat)) (by simp only [gT, gZ, gS]; rfl) (y_word w.heap.size (1 + s1) _ (fun V hV => (hV.1.cell (1 + s1)).trans (h.cell_x s1 h1)) rfl) ?_
  simp only [Act.put, pA, pZ, pS]
  refine tkO 5 (.pointer (some ⟨NI, 3, none⟩)) (by simp only [gT, gZ, gS]; rfl) (puO (by (intro w hSw; (try dsimp only at hSw); go_simp))) ?_
  simp only [Act.put, pA, pZ, pS]
  refine tkO 6 (.int .i64 (s2 : Nat)) (by simp only [gT, gZ, gS]; rfl) (y_int NI 3 (s2 : Nat) (fun V hV => (hV.2.1.cell 3).trans rfl) rfl) ?_
  simp only [Act.put, pA, pZ, pS]
  refine tkO 7 (.pointer (some ⟨w.heap.size, 1, none⟩)) (by simp only [gT, gZ, gS]; rfl) (puO (by (intro w hSw; (try dsimp only at hSw); go_simp))) ?_
  simp only [Act.put, pA, pZ, pS]
  refine tkO 8 (.pointer (some ⟨w.heap.size, 1 + s2, none⟩)) (by simp only [gT, gZ, gS]; rfl) (puO (by (intro w hSw; (try dsimp only at hSw); go_simp))) ?_
  simp only [Act.put, pA, pZ, pS]
  refine tkO 9 (.int .u32 (h.x s2 : Nat)) (by simp only [gT, gZ, gS]; rfl) (y_word w.heap.size (1 + s2) _ (fun V hV => (hV.1.cell (1 + s2)).trans (h.cell_x s2 h2)) rfl) ?_
  simp only [Act.put, pA, pZ, pS]
  refine tkO 10 (.pointer (some ⟨NI, 4, none⟩)) (by simp only [gT, gZ, gS]; rfl) (puO (by (intro w hSw; (try dsimp only at hSw); go_simp))) ?_
  simp only [Act.put, pA, pZ, pS]
  refine tkO 11 (.int .i64 im) (by simp only [gT, gZ, gS]; rfl) (y_int NI 4 im (fun V hV => (hV.2.1.cell 4).trans rfl) rfl) ?_
  simp only [Act.put, pA, pZ, pS]
  refine tkO 12 (.int .u32 (n : Nat)) (by simp only [gT, gZ, gS]; rfl) (puO (by (intro w hSw; (try dsimp only at hSw); go_simp; exact HIm.out))) ?_
  simp only [Act.put, pA, pZ, pS]
  refine tkO 13 (.pointer (some ⟨w.heap.size, 0, none⟩)) (by simp only [gT, gZ, gS]; rfl) (puO (by (intro w hSw; (try dsimp only at hSw); go_simp))) ?_
  simp only [Act.put, pA, pZ, pS]
  refine tkO 14 (.int .u32 (h.pc : Nat)) (by simp only [gT, gZ, gS]; rfl) (y_word w.heap.size 0 (h.pc : Nat) (fun V hV => hV.1.cell 0) rfl) ?_
  simp only [Act.put, pA, pZ, pS]
  refine tkO 15 (.int .u32 (nx : Nat)) (by simp only [gT, gZ, gS]; rfl) (puO (by (intro w hSw; (try dsimp only at hSw); go_simp; exact HNx.out))) ?_
  simp only [Act.put, pA, pZ, pS]
  refine tkO 16 (.int .u32 (h.x s1 : Nat)) (by simp only [gT, gZ, gS]; rfl) (puO (by (intro w hSw; (try dsimp only at hSw); go_simp))) ?_
  simp only [Act.put, pA, pZ, pS]
  refine tkO 17 (.int .u32 (h.x s2 : Nat)) (by simp only [gT, gZ, gS]; rfl) (puO (by (intro w hSw; (try dsimp only at hSw); go_simp))) ?_
  simp only [Act.put, pA, pZ, pS]
  refine tkO 18 (.int .u32 (n : Nat)) (by simp only [gT, gZ, gS]; rfl) (puO (by (intro w hSw; (try dsimp only at hSw); go_simp))) ?_
  simp only [Act.put, pA, pZ, pS]
  refine tkO 19 (.int .u32 (nx : Nat)) (by simp only [gT, gZ, gS]; rfl) (puO (by (intro w hSw; (try dsimp only at hSw); go_simp))) ?_
  simp only [Act.put, pA, pZ, pS]
  refine wpAnyH_done (by kernel_rfl) ?_ _
  have hr := hHeld.1
  have hi := hHeld.2.1
  have hb := hHeld.2.2
  clear hHeld
  go_wp2_with (first | ((with_reducible refine ld_rij NI 0 op _ _ hi ?_ ?_ ?_); exact rfl; exact rfl) | (go_at_call 30; (with_reducible refine (HM.out _).mono ?_); rintro e W ⟨rfl, hbc⟩; replace hr := hr.bl hbc; replace hq := hq.bl hbc; replace ha := ha.bl hbc; replace hi := hi.bl hbc; obtain ⟨M1, hM1⟩ : ∃ n, W.heap.size = n := ⟨_, rfl⟩; have lM1 : NI + 1 ≤ M1 := (by (have := hi.lt; omega)); replace hM1 := hide hM1; replace hb := below_bl rfl hb hbc) | ((with_reducible refine bs_lst L1 10 M1 ?_ ?_ ?_); exact hM1.out; kernel_rfl; intro W hl1 hb' hzM1; obtain ⟨hr, hq, ha, hi, hb⟩ := an4 hM1 hb' hr hq ha hi hb) | (go_at_call 31; (with_reducible refine (HP1.out _ _ hl1).mono ?_); rintro e W2 ⟨rfl, rfl⟩) | ((with_reducible refine bs_lst L2 18 (M1 + 1) ?_ ?_ ?_); exact hzM1.out; kernel_rfl; intro W hl2 hb' hzM2; obtain ⟨hr, hq, ha, hi, hb⟩ := an4 hzM1 hb' hr hq ha hi hb) | (go_at_call 31; (with_reducible refine (HP2.out _ _ hl2).mono ?_); rintro e W2 ⟨rfl, rfl⟩) | ((with_reducible refine bs_lst L3 6 (M1 + 2) ?_ ?_ ?_); exact hzM2.out; kernel_rfl; intro W hl3 hb' hzM3; obtain ⟨hr, hq, ha, hi, hb⟩ := an4 hzM2 hb' hr hq ha hi hb) | (go_at_call 31; (with_reducible refine (HP3.out _ _ hl3).mono ?_); rintro e W2 ⟨rfl, rfl⟩) | ((with_reducible refine bs_lst L4 5 (M1 + 3) ?_ ?_ ?_); exact hzM3.out; kernel_rfl; intro W hl4 hb' hzM4; obtain ⟨hr, hq, ha, hi, hb⟩ := an4 hzM3 hb' hr hq ha hi hb) | (go_at_call 31; (with_reducible refine (HP4.out _ _ hl4).mono ?_); rintro e W2 ⟨rfl, rfl⟩) | ((with_reducible refine bs_lst L5 3 (M1 + 4) ?_ ?_ ?_); exact hzM4.out; kernel_rfl; intro W hl5 hb' hzM5; obtain ⟨hr, hq, ha, hi, hb⟩ := an4 hzM4 hb' hr hq ha hi hb) | (go_at_call 31; (with_reducible refine (HP5.out _ _ hl5).mono ?_); rintro e W2 ⟨rfl, rfl⟩) | ((with_reducible refine bs_lst L6 6 (M1 + 5) ?_ ?_ ?_); exact hzM5.out; kernel_rfl; intro W hl6 hb' hzM6; obtain ⟨hr, hq, ha, hi, hb⟩ := an4 hzM5 hb' hr hq ha hi hb) | (go_at_call 31; (with_reducible refine (HP6.out _ _ hl6).mono ?_); rintro e W2 ⟨rfl, rfl⟩) | ((with_reducible refine ld_g w.heap.size _ hr ?_ ?_); exact rfl) | ((with_reducible refine ld_ri NI _ hi ?_ ?_); exact rfl) | (go_at_call 37; (with_reducible refine (HDo.out _).mono ?_); rintro e W ⟨rfl, hbc⟩; obtain ⟨hr, hq, ha, hi, hb⟩ := bl4 hbc hr hq ha hi hb) | ((with_reducible refine st_g (w.heap.size + 1) _ (z) hq ?_ ?_ ?_); exact rfl; exact rfl; intro W hnew ho; obtain ⟨hr, ha, hi, hb⟩ := on3 ho hr ha hi hb; replace hq := hnew) | ((with_reducible refine st_ra (w.heap.size + 2) _ (noA) ha ?_ ?_ ?_); exact rfl; exact rfl; intro W hnew ho; obtain ⟨hr, hq, hi, hb⟩ := on3 ho hr hq hi hb; replace ha := hnew))
  refine bodyPost_ret (results_two_rows Tryd.results10 _ _ (w.heap.size + 1) (w.heap.size + 2) _ _ _ _ _ _ rfl hq Tryd.underlying28 rfl size_g rfl ha Tryd.underlying37 rfl size_racc) rfl ?_
  exact ⟨rfl, hb⟩

end Go.Proofs.YtchjhpeogdkbmaaDoor
