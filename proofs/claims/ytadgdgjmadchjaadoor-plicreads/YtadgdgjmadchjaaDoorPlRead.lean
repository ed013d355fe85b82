/-
  What plic.Read answers.
-/
import Derived.Test.YtadgdgjmadchjaaDoorPlBest
namespace Go.Proofs.YtadgdgjmadchjaaDoor
open Go.RowKit
set_option linter.unusedVariables false

def errP (n : Nat) : Value := if n = 0 then .nilIface else .iface 46 (.int .i64 (n : Int))
theorem results_cell_two {P : Program} {fn : Func} {p u v : Tmp} {ty : TypeId} (h : fn.results = #[.cell p ty, .tmp u, .tmp v]) (tmps : Array Value) (w : World) (g : Nat) (t : TypeId) (cs : Array Value) (d : TypeDesc)
    (hp : tmps.getD p undef = .pointer (some ⟨g, 0, none⟩)) (hg : RowAt w g cs t) (hu : P.underlying ty = some d) (hd : d.isRow = true) (hi : (P.info? ty).map (·.size) = some cs.size) :
    (results fn tmps).run P w = .ok (.tuple #[.agg cs, tmps.getD u undef, tmps.getD v undef]) w := by
  have e : tmps[p]?.getD undef = .pointer (some ⟨g, 0, none⟩) := by simpa using hp
  have l := run_loadVar_row w g t ty cs (0, 0) d hg hu (by cases d <;> first | rfl | cases hd) hi
  simp [results, h, e, asAddr, l]
theorem results_cell_one {P : Program} {fn : Func} {p u : Tmp} {ty : TypeId} (h : fn.results = #[.cell p ty, .tmp u]) (tmps : Array Value) (w : World) (g : Nat) (t : TypeId) (cs : Array Value) (d : TypeDesc)
    (hp : tmps.getD p undef = .pointer (some ⟨g, 0, none⟩)) (hg : RowAt w g cs t) (hu : P.underlying ty = some d) (hd : d.isRow = true) (hi : (P.info? ty).map (·.size) = some cs.size) :
    (results fn tmps).run P w = .ok (.tuple #[.agg cs, tmps.getD u undef]) w := by
  have e : tmps[p]?.getD undef = .pointer (some ⟨g, 0, none⟩) := by simpa using hp
  have l := run_loadVar_row w g t ty cs (0, 0) d hg hu (by cases d <;> first | rfl | cases hd) hi
  simp [results, h, e, asAddr, l]
set_option maxRecDepth 100000 in
set_option maxHeartbeats 1000000 in
theorem read_pr0 (s : P5) (w : World) :
    Calls Tryd.prog 5 #[.agg s.cells, .int .u32 ((0 : Nat) : Int)] w fun e w' => e = .returned (.tuple #[.agg (readV s 0).1.cells, .int .u32 ((readV s 0).2.1 : Nat), errP (readV s 0).2.2]) ∧ Below w.heap.size w w' := by
  rw [show (((0 : Nat) : Int)) = 0 from rfl]
  have HI := hide (fun w => isPr_any 0 w)
  rw [show isPr 0 = true from by decide, show (((0 : Nat) : Int)) = 0 from rfl] at HI
  go_enter Tryd.func5, Tryd.ntmps5
  go_wp2_with (first | ((with_reducible refine bx_p w.heap.size s ?_ ?_ ?_); exact rfl; exact rfl; intro W hr hb hz) | ((with_reducible refine al_p (w.heap.size + 1) ?_ ?_); exact hz.out; intro W hq hb' hz'; replace hr := hr.bl (hz.out ▸ hb'); replace hb := hb.trans (hb'.mono (by omega)); replace hz := hz') | (go_at_call 15; refine (HI.out _).mono ?_; rintro e W2 ⟨rfl, rfl⟩))
  refine wp_region_held_drew (S := (fun V => RowAt V w.heap.size s.cells 26 ∧ Below w.heap.size w V)) (by kernel_rfl) ?_ (fun hHeld => ?_)
  · exact ⟨hr.dr, hb.drew⟩
  replace hq := hq.dr
  clear hr hb hz
  refine wpAnyH_take (i := 0) (oi := ?oi1) (v := .agg s.cells) ?hi1 (by kernel_rfl) (by kernel_rfl) (by kernel_rfl) ?hQ1 ?hy1 (by assumption) ?rest1
  case hi1 => (simp only [List.getElem?_toArray, List.getElem?_cons_zero]; rfl)
  case hQ1 => exact fun _ _ _ h => h
  case hy1 => exact y_p w.heap.size s (fun V hV => hV.1) rfl
  simp only [Act.put, List.setIfInBounds_toArray, List.set_cons_zero, List.set_cons_succ]
  refine wpAnyH_take (i := 1) (oi := ?oi2) (v := .int .u32 0) ?hi2 (by kernel_rfl) (by kernel_rfl) (by kernel_rfl) ?hQ2 ?hy2 (by assumption) ?rest2
  case hi2 => (simp only [List.getElem?_toArray, List.getElem?_cons_zero, List.getElem?_cons_succ]; rfl)
  case hQ2 => exact fun _ _ _ h => h
  case hy2 => exact Or.inl ⟨by rfl, by (intro w hSw; (try dsimp only at hSw); go_simp )⟩
  simp only [Act.put, List.setIfInBounds_toArray, List.set_cons_zero, List.set_cons_succ]
  refine wpAnyH_take (i := 2) (oi := ?oi3) (v := .int .u32 0) ?hi3 (by kernel_rfl) (by kernel_rfl) (by kernel_rfl) ?hQ3 ?hy3 (by assumption) ?rest3
  case hi3 => (simp only [List.getElem?_toArray, List.getElem?_cons_zero, List.getElem?_cons_succ]; rfl)
  case hQ3 => exact fun _ _ _ h => h
  case hy3 => exact Or.inl ⟨by rfl, by (intro w hSw; (try dsimp only at hSw); go_simp <;> rfl)⟩
  simp only [Act.put, List.setIfInBounds_toArray, List.set_cons_zero, List.set_cons_succ]
  refine wpAnyH_take (i := 3) (oi := ?oi4) (v := .pointer (some ⟨w.heap.size, 0, none⟩)) ?hi4 (by kernel_rfl) (by kernel_rfl) (by kernel_rfl) ?hQ4 ?hy4 (by assumption) ?rest4
  case hi4 => (simp only [List.getElem?_toArray, List.getElem?_cons_zero, List.getElem?_cons_succ]; rfl)
  case hQ4 => exact fun _ _ _ h => h
  case hy4 => exact Or.inl ⟨by rfl, by (intro w hSw; (try dsimp only at hSw); go_simp )⟩
  simp only [Act.put, List.setIfInBounds_toArray, List.set_cons_zero, List.set_cons_succ]
  refine wpAnyH_take (i := 4) (oi := ?oi5) (v := .pointer (some ⟨w.heap.size, 0, none⟩)) ?hi5 (by kernel_rfl) (by kernel_rfl) (by kernel_rfl) ?hQ5 ?hy5 (by assumption) ?rest5
  case hi5 => (simp only [List.getElem?_toArray, List.getElem?_cons_zero, List.getElem?_cons_succ]; rfl)
  case hQ5 => exact fun _ _ _ h => h
  case hy5 => exact Or.inl ⟨by rfl, by (intro w hSw; (try dsimp only at hSw); go_simp )⟩
  simp only [Act.put, List.setIfInBounds_toArray, List.set_cons_zero, List.set_cons_succ]
  refine wpAnyH_take (i := 5) (oi := ?oi6) (v := .int .u32 (s.pr 0 : Nat)) ?hi6 (by kernel_rfl) (by kernel_rfl) (by kernel_rfl) ?hQ6 ?hy6 (by assumption) ?rest6
  case hi6 => (simp only [List.getElem?_toArray, List.getElem?_cons_zero, List.getElem?_cons_succ]; rfl)
  case hQ6 => exact fun _ _ _ h => h
  case hy6 => exact y_word w.heap.size 0 _ (fun V hV => (hV.1.cell 0).trans rfl) rfl
  simp only [Act.put, List.setIfInBounds_toArray, List.set_cons_zero, List.set_cons_succ]
  refine wpAnyH_ready (rs := [6]) (by kernel_rfl) (by simp) ?_
  refine AllReadyH.cons (o := ?oi7) ?hi7 (fun K hK => ?_) AllReadyH.nil
  case hi7 => (simp only [List.getElem?_toArray, List.getElem?_cons_zero, List.getElem?_cons_succ]; rfl)
  rw [if_pos (by rfl)]
  (with_reducible refine s_p (w.heap.size + 1) _ s hq ?_ ?_ ?_)
  · exact rfl
  · exact rfl
  intro V hnew ho
  have hr := hHeld.1.only ho (by omega)
  have hb := ho.bel _ _ (by omega) hHeld.2
  replace hq := hnew
  clear hHeld hnew ho
  refine hK.out _ _ ?_ (fun hHeld => ?_)
  · exact ⟨hr, hb⟩
  clear hK K
  refine wpAnyH_take (i := 7) (oi := ?oi8) (v := .int .u32 (s.pr 0 : Nat)) ?hi8 (by kernel_rfl) (by kernel_rfl) (by kernel_rfl) ?hQ8 ?hy8 (by assumption) ?rest8
  case hi8 => (simp only [List.getElem?_toArray, List.getElem?_cons_zero, List.getElem?_cons_succ]; rfl)
  case hQ8 => exact fun _ _ _ h => h
  case hy8 => exact Or.inl ⟨by rfl, by (intro w hSw; (try dsimp only at hSw); go_simp )⟩
  simp only [Act.put, List.setIfInBounds_toArray, List.set_cons_zero, List.set_cons_succ]
  refine wpAnyH_take (i := 8) (oi := ?oi9) (v := .nilIface) ?hi9 (by kernel_rfl) (by kernel_rfl) (by kernel_rfl) ?hQ9 ?hy9 (by assumption) ?rest9
  case hi9 => (simp only [List.getElem?_toArray, List.getElem?_cons_zero, List.getElem?_cons_succ]; rfl)
  case hQ9 => exact fun _ _ _ h => h
  case hy9 => exact Or.inl ⟨by rfl, by (intro w hSw; (try dsimp only at hSw); go_simp )⟩
  simp only [Act.put, List.setIfInBounds_toArray, List.set_cons_zero, List.set_cons_succ]
  refine wpAnyH_done (by kernel_rfl) ?_ _
  go_wp2
  refine bodyPost_ret (results_cell_two Tryd.results5 _ _ (w.heap.size + 1) _ _ _ rfl hq Tryd.underlying26 rfl size_p) rfl ?_
  exact ⟨rfl, hHeld.2⟩

set_option maxRecDepth 100000 in
set_option maxHeartbeats 1000000 in
theorem read_pr1 (s : P5) (w : World) :
    Calls Tryd.prog 5 #[.agg s.cells, .int .u32 ((4 : Nat) : Int)] w fun e w' => e = .returned (.tuple #[.agg (readV s 4).1.cells, .int .u32 ((readV s 4).2.1 : Nat), errP (readV s 4).2.2]) ∧ Below w.heap.size w w' := by
  rw [show (((4 : Nat) : Int)) = 4 from rfl]
  have HI := hide (fun w => isPr_any 4 w)
  rw [show isPr 4 = true from by decide, show (((4 : Nat) : Int)) = 4 from rfl] at HI
  go_enter Tryd.func5, Tryd.ntmps5
  go_wp2_with (first | ((with_reducible refine bx_p w.heap.size s ?_ ?_ ?_); exact rfl; exact rfl; intro W hr hb hz) | ((with_reducible refine al_p (w.heap.size + 1) ?_ ?_); exact hz.out; intro W hq hb' hz'; replace hr := hr.bl (hz.out ▸ hb'); replace hb := hb.trans (hb'.mono (by omega)); replace hz := hz') | (go_at_call 15; refine (HI.out _).mono ?_; rintro e W2 ⟨rfl, rfl⟩))
  refine wp_region_held_drew (S := (fun V => RowAt V w.heap.size s.cells 26 ∧ Below w.heap.size w V)) (by kernel_rfl) ?_ (fun hHeld => ?_)
  · exact ⟨hr.dr, hb.drew⟩
  replace hq := hq.dr
  clear hr hb hz
  refine wpAnyH_take (i := 0) (oi := ?oi10) (v := .agg s.cells) ?hi10 (by kernel_rfl) (by kernel_rfl) (by kernel_rfl) ?hQ10 ?hy10 (by assumption) ?rest10
  case hi10 => (simp only [List.getElem?_toArray, List.getElem?_cons_zero]; rfl)
  case hQ10 => exact fun _ _ _ h => h
  case hy10 => exact y_p w.heap.size s (fun V hV => hV.1) rfl
  simp only [Act.put, List.setIfInBounds_toArray, List.set_cons_zero, List.set_cons_succ]
  refine wpAnyH_take (i := 1) (oi := ?oi11) (v := .int .u32 4) ?hi11 (by kernel_rfl) (by kernel_rfl) (by kernel_rfl) ?hQ11 ?hy11 (by assumption) ?rest11
  case hi11 => (simp only [List.getElem?_toArray, List.getElem?_cons_zero, List.getElem?_cons_succ]; rfl)
  case hQ11 => exact fun _ _ _ h => h
  case hy11 => exact Or.inl ⟨by rfl, by (intro w hSw; (try dsimp only at hSw); go_simp )⟩
  simp only [Act.put, List.setIfInBounds_toArray, List.set_cons_zero, List.set_cons_succ]
  refine wpAnyH_take (i := 2) (oi := ?oi12) (v := .int .u32 1) ?hi12 (by kernel_rfl) (by kernel_rfl) (by kernel_rfl) ?hQ12 ?hy12 (by assumption) ?rest12
  case hi12 => (simp only [List.getElem?_toArray, List.getElem?_cons_zero, List.getElem?_cons_succ]; rfl)
  case hQ12 => exact fun _ _ _ h => h
  case hy12 => exact Or.inl ⟨by rfl, by (intro w hSw; (try dsimp only at hSw); go_simp <;> rfl)⟩
  simp only [Act.put, List.setIfInBounds_toArray, List.set_cons_zero, List.set_cons_succ]
  refine wpAnyH_take (i := 3) (oi := ?oi13) (v := .pointer (some ⟨w.heap.size, 0, none⟩)) ?hi13 (by kernel_rfl) (by kernel_rfl) (by kernel_rfl) ?hQ13 ?hy13 (by assumption) ?rest13
  case hi13 => (simp only [List.getElem?_toArray, List.getElem?_cons_zero, List.getElem?_cons_succ]; rfl)
  case hQ13 => exact fun _ _ _ h => h
  case hy13 => exact Or.inl ⟨by rfl, by (intro w hSw; (try dsimp only at hSw); go_simp )⟩
  simp only [Act.put, List.setIfInBounds_toArray, List.set_cons_zero, List.set_cons_succ]
  refine wpAnyH_take (i := 4) (oi := ?oi14) (v := .pointer (some ⟨w.heap.size, 1, none⟩)) ?hi14 (by kernel_rfl) (by kernel_rfl) (by kernel_rfl) ?hQ14 ?hy14 (by assumption) ?rest14
  case hi14 => (simp only [List.getElem?_toArray, List.getElem?_cons_zero, List.getElem?_cons_succ]; rfl)
  case hQ14 => exact fun _ _ _ h => h
  case hy14 => exact Or.inl ⟨by rfl, by (intro w hSw; (try dsimp only at hSw); go_simp )⟩
  simp only [Act.put, List.setIfInBounds_toArray, List.set_cons_zero, List.set_cons_succ]
  refine wpAnyH_take (i := 5) (oi := ?oi15) (v := .int .u32 (s.pr 1 : Nat)) ?hi15 (by kernel_rfl) (by kernel_rfl) (by kernel_rfl) ?hQ15 ?hy15 (by assumption) ?rest15
  case hi15 => (simp only [List.getElem?_toArray, List.getElem?_cons_zero, List.getElem?_cons_succ]; rfl)
  case hQ15 => exact fun _ _ _ h => h
  case hy15 => exact y_word w.heap.size 1 _ (fun V hV => (hV.1.cell 1).trans rfl) rfl
  simp only [Act.put, List.setIfInBounds_toArray, List.set_cons_zero, List.set_cons_succ]
  refine wpAnyH_ready (rs := [6]) (by kernel_rfl) (by simp) ?_
  refine AllReadyH.cons (o := ?oi16) ?hi16 (fun K hK => ?_) AllReadyH.nil
  case hi16 => (simp only [List.getElem?_toArray, List.getElem?_cons_zero, List.getElem?_cons_succ]; rfl)
  rw [if_pos (by rfl)]
  (with_reducible refine s_p (w.heap.size + 1) _ s hq ?_ ?_ ?_)
  · exact rfl
  · exact rfl
  intro V hnew ho
  have hr := hHeld.1.only ho (by omega)
  have hb := ho.bel _ _ (by omega) hHeld.2
  replace hq := hnew
  clear hHeld hnew ho
  refine hK.out _ _ ?_ (fun hHeld => ?_)
  · exact ⟨hr, hb⟩
  clear hK K
  refine wpAnyH_take (i := 7) (oi := ?oi17) (v := .int .u32 (s.pr 1 : Nat)) ?hi17 (by kernel_rfl) (by kernel_rfl) (by kernel_rfl) ?hQ17 ?hy17 (by assumption) ?rest17
  case hi17 => (simp only [List.getElem?_toArray, List.getElem?_cons_zero, List.getElem?_cons_succ]; rfl)
  case hQ17 => exact fun _ _ _ h => h
  case hy17 => exact Or.inl ⟨by rfl, by (intro w hSw; (try dsimp only at hSw); go_simp )⟩
  simp only [Act.put, List.setIfInBounds_toArray, List.set_cons_zero, List.set_cons_succ]
  refine wpAnyH_take (i := 8) (oi := ?oi18) (v := .nilIface) ?hi18 (by kernel_rfl) (by kernel_rfl) (by kernel_rfl) ?hQ18 ?hy18 (by assumption) ?rest18
  case hi18 => (simp only [List.getElem?_toArray, List.getElem?_cons_zero, List.getElem?_cons_succ]; rfl)
  case hQ18 => exact fun _ _ _ h => h
  case hy18 => exact Or.inl ⟨by rfl, by (intro w hSw; (try dsimp only at hSw); go_simp )⟩
  simp only [Act.put, List.setIfInBounds_toArray, List.set_cons_zero, List.set_cons_succ]
  refine wpAnyH_done (by kernel_rfl) ?_ _
  go_wp2
  refine bodyPost_ret (results_cell_two Tryd.results5 _ _ (w.heap.size + 1) _ _ _ rfl hq Tryd.underlying26 rfl size_p) rfl ?_
  exact ⟨rfl, hHeld.2⟩

set_option maxRecDepth 100000 in
set_option maxHeartbeats 1000000 in
theorem read_pr2 (s : P5) (w : World) :
    Calls Tryd.prog 5 #[.agg s.cells, .int .u32 ((8 : Nat) : Int)] w fun e w' => e = .returned (.tuple #[.agg (readV s 8).1.cells, .int .u32 ((readV s 8).2.1 : Nat), errP (readV s 8).2.2]) ∧ Below w.heap.size w w' := by
  rw [show (((8 : Nat) : Int)) = 8 from rfl]
  have HI := hide (fun w => isPr_any 8 w)
  rw [show isPr 8 = true from by decide, show (((8 : Nat) : Int)) = 8 from rfl] at HI
  go_enter Tryd.func5, Tryd.ntmps5
  go_wp2_with (first | ((with_reducible refine bx_p w.heap.size s ?_ ?_ ?_); exact rfl; exact rfl; intro W hr hb hz) | ((with_reducible refine al_p (w.heap.size + 1) ?_ ?_); exact hz.out; intro W hq hb' hz'; replace hr := hr.bl (hz.out ▸ hb'); replace hb := hb.trans (hb'.mono (by omega)); replace hz := hz') | (go_at_call 15; refine (HI.out _).mono ?_; rintro e W2 ⟨rfl, rfl⟩))
  refine wp_region_held_drew (S := (fun V => RowAt V w.heap.size s.cells 26 ∧ Below w.heap.size w V)) (by kernel_rfl) ?_ (fun hHeld => ?_)
  · exact ⟨hr.dr, hb.drew⟩
  replace hq := hq.dr
  clear hr hb hz
  refine wpAnyH_take (i := 0) (oi := ?oi19) (v := .agg s.cells) ?hi19 (by kernel_rfl) (by kernel_rfl) (by kernel_rfl) ?hQ19 ?hy19 (by assumption) ?rest19
  case hi19 => (simp only [List.getElem?_toArray, List.getElem?_cons_zero]; rfl)
  case hQ19 => exact fun _ _ _ h => h
  case hy19 => exact y_p w.heap.size s (fun V hV => hV.1) rfl
  simp only [Act.put, List.setIfInBounds_toArray, List.set_cons_zero, List.set_cons_succ]
  refine wpAnyH_take (i := 1) (oi := ?oi20) (v := .int .u32 8) ?hi20 (by kernel_rfl) (by kernel_rfl) (by kernel_rfl) ?hQ20 ?hy20 (by assumption) ?rest20
  case hi20 => (simp only [List.getElem?_toArray, List.getElem?_cons_zero, List.getElem?_cons_succ]; rfl)
  case hQ20 => exact fun _ _ _ h => h
  case hy20 => exact Or.inl ⟨by rfl, by (intro w hSw; (try dsimp only at hSw); go_simp )⟩
  simp only [Act.put, List.setIfInBounds_toArray, List.set_cons_zero, List.set_cons_succ]
  refine wpAnyH_take (i := 2) (oi := ?oi21) (v := .int .u32 2) ?hi21 (by kernel_rfl) (by kernel_rfl) (by kernel_rfl) ?hQ21 ?hy21 (by assumption) ?rest21
  case hi21 => (simp only [List.getElem?_toArray, List.getElem?_cons_zero, List.getElem?_cons_succ]; rfl)
  case hQ21 => exact fun _ _ _ h => h
  case hy21 => exact Or.inl ⟨by rfl, by (intro w hSw; (try dsimp only at hSw); go_simp <;> rfl)⟩
  simp only [Act.put, List.setIfInBounds_toArray, List.set_cons_zero, List.set_cons_succ]
  refine wpAnyH_take (i := 3) (oi := ?oi22) (v := .pointer (some ⟨w.heap.size, 0, none⟩)) ?hi22 (by kernel_rfl) (by kernel_rfl) (by kernel_rfl) ?hQ22 ?hy22 (by assumption) ?rest22
  case hi22 => (simp only [List.getElem?_toArray, List.getElem?_cons_zero, List.getElem?_cons_succ]; rfl)
  case hQ22 => exact fun _ _ _ h => h
  case hy22 => exact Or.inl ⟨by rfl, by (intro w hSw; (try dsimp only at hSw); go_simp )⟩
  simp only [Act.put, List.setIfInBounds_toArray, List.set_cons_zero, List.set_cons_succ]
  refine wpAnyH_take (i := 4) (oi := ?oi23) (v := .pointer (some ⟨w.heap.size, 2, none⟩)) ?hi23 (by kernel_rfl) (by kernel_rfl) (by kernel_rfl) ?hQ23 ?hy23 (by assumption) ?rest23
  case hi23 => (simp only [List.getElem?_toArray, List.getElem?_cons_zero, List.getElem?_cons_succ]; rfl)
  case hQ23 => exact fun _ _ _ h => h
  case hy23 => exact Or.inl ⟨by rfl, by (intro w hSw; (try dsimp only at hSw); go_simp )⟩
  simp only [Act.put, List.setIfInBounds_toArray, List.set_cons_zero, List.set_cons_succ]
  refine wpAnyH_take (i := 5) (oi := ?oi24) (v := .int .u32 (s.pr 2 : Nat)) ?hi24 (by kernel_rfl) (by kernel_rfl) (by kernel_rfl) ?hQ24 ?hy24 (by assumption) ?rest24
  case hi24 => (simp only [List.getElem?_toArray, List.getElem?_cons_zero, List.getElem?_cons_succ]; rfl)
  case hQ24 => exact fun _ _ _ h => h
  case hy24 => exact y_word w.heap.size 2 _ (fun V hV => (hV.1.cell 2).trans rfl) rfl
  simp only [Act.put, List.setIfInBounds_toArray, List.set_cons_zero, List.set_cons_succ]
  refine wpAnyH_ready (rs := [6]) (by kernel_rfl) (by simp) ?_
  refine AllReadyH.cons (o := ?oi25) ?hi25 (fun K hK => ?_) AllReadyH.nil
  case hi25 => (simp only [List.getElem?_toArray, List.getElem?_cons_zero, List.getElem?_cons_succ]; rfl)
  rw [if_pos (by rfl)]
  (with_reducible refine s_p (w.heap.size + 1) _ s hq ?_ ?_ ?_)
  · exact rfl
  · exact rfl
  intro V hnew ho
  have hr := hHeld.1.only ho (by omega)
  have hb := ho.bel _ _ (by omega) hHeld.2
  replace hq := hnew
  clear hHeld hnew ho
  refine hK.out _ _ ?_ (fun hHeld => ?_)
  · exact ⟨hr, hb⟩
  clear hK K
  refine wpAnyH_take (i := 7) (oi := ?oi26) (v := .int .u32 (s.pr 2 : Nat)) ?hi26 (by kernel_rfl) (by kernel_rfl) (by kernel_rfl) ?hQ26 ?hy26 (by assumption) ?rest26
  case hi26 => (simp only [List.getElem?_toArray, List.getElem?_cons_zero, List.getElem?_cons_succ]; rfl)
  case hQ26 => exact fun _ _ _ h => h
  case hy26 => exact Or.inl ⟨by rfl, by (intro w hSw; (try dsimp only at hSw); go_simp )⟩
  simp only [Act.put, List.setIfInBounds_toArray, List.set_cons_zero, List.set_cons_succ]
  refine wpAnyH_take (i := 8) (oi := ?oi27) (v := .nilIface) ?hi27 (by kernel_rfl) (by kernel_rfl) (by kernel_rfl) ?hQ27 ?hy27 (by assumption) ?rest27
  case hi27 => (simp only [List.getElem?_toArray, List.getElem?_cons_zero, List.getElem?_cons_succ]; rfl)
  case hQ27 => exact fun _ _ _ h => h
  case hy27 => exact Or.inl ⟨by rfl, by (intro w hSw; (try dsimp only at hSw); go_simp )⟩
  simp only [Act.put, List.setIfInBounds_toArray, List.set_cons_zero, List.set_cons_succ]
  refine wpAnyH_done (by kernel_rfl) ?_ _
  go_wp2
  refine bodyPost_ret (results_cell_two Tryd.results5 _ _ (w.heap.size + 1) _ _ _ rfl hq Tryd.underlying26 rfl size_p) rfl ?_
  exact ⟨rfl, hHeld.2⟩

set_option maxRecDepth 100000 in
set_option maxHeartbeats 1000000 in
theorem read_pr3 (s : P5) (w : World) :
    Calls Tryd.prog 5 #[.agg s.cells, .int .u32 ((12 : Nat) : Int)] w fun e w' => e = .returned (.tuple #[.agg (readV s 12).1.cells, .int .u32 ((readV s 12).2.1 : Nat), errP (readV s 12).2.2]) ∧ Below w.heap.size w w' := by
  rw [show (((12 : Nat) : Int)) = 12 from rfl]
  have HI := hide (fun w => isPr_any 12 w)
  rw [show isPr 12 = true from by decide, show (((12 : Nat) : Int)) = 12 from rfl] at HI
  go_enter Tryd.func5, Tryd.ntmps5
  go_wp2_with (first | ((with_reducible refine bx_p w.heap.size s ?_ ?_ ?_); exact rfl; exact rfl; intro W hr hb hz) | ((with_reducible refine al_p (w.heap.size + 1) ?_ ?_); exact hz.out; intro W hq hb' hz'; replace hr := hr.bl (hz.out ▸ hb'); replace hb := hb.trans (hb'.mono (by omega)); replace hz := hz') | (go_at_call 15; refine (HI.out _).mono ?_; rintro e W2 ⟨rfl, rfl⟩))
  refine wp_region_held_drew (S := (fun V => RowAt V w.heap.size s.cells 26 ∧ Below w.heap.size w V)) (by kernel_rfl) ?_ (fun hHeld => ?_)
  · exact ⟨hr.dr, hb.drew⟩
  replace hq := hq.dr
  clear hr hb hz
  refine wpAnyH_take (i := 0) (oi := ?oi28) (v := .agg s.cells) ?hi28 (by kernel_rfl) (by kernel_rfl) (by kernel_rfl) ?hQ28 ?hy28 (by assumption) ?rest28
  case hi28 => (simp only [List.getElem?_toArray, List.getElem?_cons_zero]; rfl)
  case hQ28 => exact fun _ _ _ h => h
  case hy28 => exact y_p w.heap.size s (fun V hV => hV.1) rfl
  simp only [Act.put, List.setIfInBounds_toArray, List.set_cons_zero, List.set_cons_succ]
  refine wpAnyH_take (i := 1) (oi := ?oi29) (v := .int .u32 12) ?hi29 (by kernel_rfl) (by kernel_rfl) (by kernel_rfl) ?hQ29 ?hy29 (by assumption) ?rest29
  case hi29 => (simp only [List.getElem?_toArray, List.getElem?_cons_zero, List.getElem?_cons_succ]; rfl)
  case hQ29 => exact fun _ _ _ h => h
  case hy29 => exact Or.inl ⟨by rfl, by (intro w hSw; (try dsimp only at hSw); go_simp )⟩
  simp only [Act.put, List.setIfInBounds_toArray, List.set_cons_zero, List.set_cons_succ]
  refine wpAnyH_take (i := 2) (oi := ?oi30) (v := .int .u32 3) ?hi30 (by kernel_rfl) (by kernel_rfl) (by kernel_rfl) ?hQ30 ?hy30 (by assumption) ?rest30
  case hi30 => (simp only [List.getElem?_toArray, List.getElem?_cons_zero, List.getElem?_cons_succ]; rfl)
  case hQ30 => exact fun _ _ _ h => h
  case hy30 => exact Or.inl ⟨by rfl, by (intro w hSw; (try dsimp only at hSw); go_simp <;> rfl)⟩
  simp only [Act.put, List.setIfInBounds_toArray, List.set_cons_zero, List.set_cons_succ]
  refine wpAnyH_take (i := 3) (oi := ?oi31) (v := .pointer (some ⟨w.heap.size, 0, none⟩)) ?hi31 (by kernel_rfl) (by kernel_rfl) (by kernel_rfl) ?hQ31 ?hy31 (by assumption) ?rest31
  case hi31 => (simp only [List.getElem?_toArray, List.getElem?_cons_zero, List.getElem?_cons_succ]; rfl)
  case hQ31 => exact fun _ _ _ h => h
  case hy31 => exact Or.inl ⟨by rfl, by (intro w hSw; (try dsimp only at hSw); go_simp )⟩
  simp only [Act.put, List.setIfInBounds_toArray, List.set_cons_zero, List.set_cons_succ]
  refine wpAnyH_take (i := 4) (oi := ?oi32) (v := .pointer (some ⟨w.heap.size, 3, none⟩)) ?hi32 (by kernel_rfl) (by kernel_rfl) (by kernel_rfl) ?hQ32 ?hy32 (by assumption) ?rest32
  case hi32 => (simp only [List.getElem?_toArray, List.getElem?_cons_zero, List.getElem?_cons_succ]; rfl)
  case hQ32 => exact fun _ _ _ h => h
  case hy32 => exact Or.inl ⟨by rfl, by (intro w hSw; (try dsimp only at hSw); go_simp )⟩
  simp only [Act.put, List.setIfInBounds_toArray, List.set_cons_zero, List.set_cons_succ]
  refine wpAnyH_take (i := 5) (oi := ?oi33) (v := .int .u32 (s.pr 3 : Nat)) ?hi33 (by kernel_rfl) (by kernel_rfl) (by kernel_rfl) ?hQ33 ?hy33 (by assumption) ?rest33
  case hi33 => (simp only [List.getElem?_toArray, List.getElem?_cons_zero, List.getElem?_cons_succ]; rfl)
  case hQ33 => exact fun _ _ _ h => h
  case hy33 => exact y_word w.heap.size 3 _ (fun V hV => (hV.1.cell 3).trans rfl) rfl
  simp only [Act.put, List.setIfInBounds_toArray, List.set_cons_zero, List.set_cons_succ]
  refine wpAnyH_ready (rs := [6]) (by kernel_rfl) (by simp) ?_
  refine AllReadyH.cons (o := ?oi34) ?hi34 (fun K hK => ?_) AllReadyH.nil
  case hi34 => (simp only [List.getElem?_toArray, List.getElem?_cons_zero, List.getElem?_cons_succ]; rfl)
  rw [if_pos (by rfl)]
  (with_reducible refine s_p (w.heap.size + 1) _ s hq ?_ ?_ ?_)
  · exact rfl
  · exact rfl
  intro V hnew ho
  have hr := hHeld.1.only ho (by omega)
  have hb := ho.bel _ _ (by omega) hHeld.2
  replace hq := hnew
  clear hHeld hnew ho
  refine hK.out _ _ ?_ (fun hHeld => ?_)
  · exact ⟨hr, hb⟩
  clear hK K
  refine wpAnyH_take (i := 7) (oi := ?oi35) (v := .int .u32 (s.pr 3 : Nat)) ?hi35 (by kernel_rfl) (by kernel_rfl) (by kernel_rfl) ?hQ35 ?hy35 (by assumption) ?rest35
  case hi35 => (simp only [List.getElem?_toArray, List.getElem?_cons_zero, List.getElem?_cons_succ]; rfl)
  case hQ35 => exact fun _ _ _ h => h
  case hy35 => exact Or.inl ⟨by rfl, by (intro w hSw; (try dsimp only at hSw); go_simp )⟩
  simp only [Act.put, List.setIfInBounds_toArray, List.set_cons_zero, List.set_cons_succ]
  refine wpAnyH_take (i := 8) (oi := ?oi36) (v := .nilIface) ?hi36 (by kernel_rfl) (by kernel_rfl) (by kernel_rfl) ?hQ36 ?hy36 (by assumption) ?rest36
  case hi36 => (simp only [List.getElem?_toArray, List.getElem?_cons_zero, List.getElem?_cons_succ]; rfl)
  case hQ36 => exact fun _ _ _ h => h
  case hy36 => exact Or.inl ⟨by rfl, by (intro w hSw; (try dsimp only at hSw); go_simp )⟩
  simp only [Act.put, List.setIfInBounds_toArray, List.set_cons_zero, List.set_cons_succ]
  refine wpAnyH_done (by kernel_rfl) ?_ _
  go_wp2
  refine bodyPost_ret (results_cell_two Tryd.results5 _ _ (w.heap.size + 1) _ _ _ rfl hq Tryd.underlying26 rfl size_p) rfl ?_
  exact ⟨rfl, hHeld.2⟩

set_option maxRecDepth 100000 in
set_option maxHeartbeats 1000000 in
theorem read_pr4 (s : P5) (w : World) :
    Calls Tryd.prog 5 #[.agg s.cells, .int .u32 ((16 : Nat) : Int)] w fun e w' => e = .returned (.tuple #[.agg (readV s 16).1.cells, .int .u32 ((readV s 16).2.1 : Nat), errP (readV s 16).2.2]) ∧ Below w.heap.size w w' := by
  rw [show (((16 : Nat) : Int)) = 16 from rfl]
  have HI := hide (fun w => isPr_any 16 w)
  rw [show isPr 16 = true from by decide, show (((16 : Nat) : Int)) = 16 from rfl] at HI
  go_enter Tryd.func5, Tryd.ntmps5
  go_wp2_with (first | ((with_reducible refine bx_p w.heap.size s ?_ ?_ ?_); exact rfl; exact rfl; intro W hr hb hz) | ((with_reducible refine al_p (w.heap.size + 1) ?_ ?_); exact hz.out; intro W hq hb' hz'; replace hr := hr.bl (hz.out ▸ hb'); replace hb := hb.trans (hb'.mono (by omega)); replace hz := hz') | (go_at_call 15; refine (HI.out _).mono ?_; rintro e W2 ⟨rfl, rfl⟩))
  refine wp_region_held_drew (S := (fun V => RowAt V w.heap.size s.cells 26 ∧ Below w.heap.size w V)) (by kernel_rfl) ?_ (fun hHeld => ?_)
  · exact ⟨hr.dr, hb.drew⟩
  replace hq := hq.dr
  clear hr hb hz
  refine wpAnyH_take (i := 0) (oi := ?oi37) (v := .agg s.cells) ?hi37 (by kernel_rfl) (by kernel_rfl) (by kernel_rfl) ?hQ37 ?hy37 (by assumption) ?rest37
  case hi37 => (simp only [List.getElem?_toArray, List.getElem?_cons_zero]; rfl)
  case hQ37 => exact fun _ _ _ h => h
  case hy37 => exact y_p w.heap.size s (fun V hV => hV.1) rfl
  simp only [Act.put, List.setIfInBounds_toArray, List.set_cons_zero, List.set_cons_succ]
  refine wpAnyH_take (i := 1) (oi := ?oi38) (v := .int .u32 16) ?hi38 (by kernel_rfl) (by kernel_rfl) (by kernel_rfl) ?hQ38 ?hy38 (by assumption) ?rest38
  case hi38 => (simp only [List.getElem?_toArray, List.getElem?_cons_zero, List.getElem?_cons_succ]; rfl)
  case hQ38 => exact fun _ _ _ h => h
  case hy38 => exact Or.inl ⟨by rfl, by (intro w hSw; (try dsimp only at hSw); go_simp )⟩
  simp only [Act.put, List.setIfInBounds_toArray, List.set_cons_zero, List.set_cons_succ]
  refine wpAnyH_take (i := 2) (oi := ?oi39) (v := .int .u32 4) ?hi39 (by kernel_rfl) (by kernel_rfl) (by kernel_rfl) ?hQ39 ?hy39 (by assumption) ?rest39
  case hi39 => (simp only [List.getElem?_toArray, List.getElem?_cons_zero, List.getElem?_cons_succ]; rfl)
  case hQ39 => exact fun _ _ _ h => h
  case hy39 => exact Or.inl ⟨by rfl, by (intro w hSw; (try dsimp only at hSw); go_simp <;> rfl)⟩
  simp only [Act.put, List.setIfInBounds_toArray, List.set_cons_zero, List.set_cons_succ]
  refine wpAnyH_take (i := 3) (oi := ?oi40) (v := .pointer (some ⟨w.heap.size, 0, none⟩)) ?hi40 (by kernel_rfl) (by kernel_rfl) (by kernel_rfl) ?hQ40 ?hy40 (by assumption) ?rest40
  case hi40 => (simp only [List.getElem?_toArray, List.getElem?_cons_zero, List.getElem?_cons_succ]; rfl)
  case hQ40 => exact fun _ _ _ h => h
  case hy40 => exact Or.inl ⟨by rfl, by (intro w hSw; (try dsimp only at hSw); go_simp )⟩
  simp only [Act.put, List.setIfInBounds_toArray, List.set_cons_zero, List.set_cons_succ]
  refine wpAnyH_take (i := 4) (oi := ?oi41) (v := .pointer (some ⟨w.heap.size, 4, none⟩)) ?hi41 (by kernel_rfl) (by kernel_rfl) (by kernel_rfl) ?hQ41 ?hy41 (by assumption) ?rest41
  case hi41 => (simp only [List.getElem?_toArray, List.getElem?_cons_zero, List.getElem?_cons_succ]; rfl)
  case hQ41 => exact fun _ _ _ h => h
  case hy41 => exact Or.inl ⟨by rfl, by (intro w hSw; (try dsimp only at hSw); go_simp )⟩
  simp only [Act.put, List.setIfInBounds_toArray, List.set_cons_zero, List.set_cons_succ]
  refine wpAnyH_take (i := 5) (oi := ?oi42) (v := .int .u32 (s.pr 4 : Nat)) ?hi42 (by kernel_rfl) (by kernel_rfl) (by kernel_rfl) ?hQ42 ?hy42 (by assumption) ?rest42
  case hi42 => (simp only [List.getElem?_toArray, List.getElem?_cons_zero, List.getElem?_cons_succ]; rfl)
  case hQ42 => exact fun _ _ _ h => h
  case hy42 => exact y_word w.heap.size 4 _ (fun V hV => (hV.1.cell 4).trans rfl) rfl
  simp only [Act.put, List.setIfInBounds_toArray, List.set_cons_zero, List.set_cons_succ]
  refine wpAnyH_ready (rs := [6]) (by kernel_rfl) (by simp) ?_
  refine AllReadyH.cons (o := ?oi43) ?hi43 (fun K hK => ?_) AllReadyH.nil
  case hi43 => (simp only [List.getElem?_toArray, List.getElem?_cons_zero, List.getElem?_cons_succ]; rfl)
  rw [if_pos (by rfl)]
  (with_reducible refine s_p (w.heap.size + 1) _ s hq ?_ ?_ ?_)
  · exact rfl
  · exact rfl
  intro V hnew ho
  have hr := hHeld.1.only ho (by omega)
  have hb := ho.bel _ _ (by omega) hHeld.2
  replace hq := hnew
  clear hHeld hnew ho
  refine hK.out _ _ ?_ (fun hHeld => ?_)
  · exact ⟨hr, hb⟩
  clear hK K
  refine wpAnyH_take (i := 7) (oi := ?oi44) (v := .int .u32 (s.pr 4 : Nat)) ?hi44 (by kernel_rfl) (by kernel_rfl) (by kernel_rfl) ?hQ44 ?hy44 (by assumption) ?rest44
  case hi44 => (simp only [List.getElem?_toArray, List.getElem?_cons_zero, List.getElem?_cons_succ]; rfl)
  case hQ44 => exact fun _ _ _ h => h
  case hy44 => exact Or.inl ⟨by rfl, by (intro w hSw; (try dsimp only at hSw); go_simp )⟩
  simp only [Act.put, List.setIfInBounds_toArray, List.set_cons_zero, List.set_cons_succ]
  refine wpAnyH_take (i := 8) (oi := ?oi45) (v := .nilIface) ?hi45 (by kernel_rfl) (by kernel_rfl) (by kernel_rfl) ?hQ45 ?hy45 (by assumption) ?rest45
  case hi45 => (simp only [List.getElem?_toArray, List.getElem?_cons_zero, List.getElem?_cons_succ]; rfl)
  case hQ45 => exact fun _ _ _ h => h
  case hy45 => exact Or.inl ⟨by rfl, by (intro w hSw; (try dsimp only at hSw); go_simp )⟩
  simp only [Act.put, List.setIfInBounds_toArray, List.set_cons_zero, List.set_cons_succ]
  refine wpAnyH_done (by kernel_rfl) ?_ _
  go_wp2
  refine bodyPost_ret (results_cell_two Tryd.results5 _ _ (w.heap.size + 1) _ _ _ rfl hq Tryd.underlying26 rfl size_p) rfl ?_
  exact ⟨rfl, hHeld.2⟩

set_option maxRecDepth 100000 in
set_option maxHeartbeats 1000000 in
theorem read_pr5 (s : P5) (w : World) :
    Calls Tryd.prog 5 #[.agg s.cells, .int .u32 ((20 : Nat) : Int)] w fun e w' => e = .returned (.tuple #[.agg (readV s 20).1.cells, .int .u32 ((readV s 20).2.1 : Nat), errP (readV s 20).2.2]) ∧ Below w.heap.size w w' := by
  rw [show (((20 : Nat) : Int)) = 20 from rfl]
  have HI := hide (fun w => isPr_any 20 w)
  rw [show isPr 20 = true from by decide, show (((20 : Nat) : Int)) = 20 from rfl] at HI
  go_enter Tryd.func5, Tryd.ntmps5
  go_wp2_with (first | ((with_reducible refine bx_p w.heap.size s ?_ ?_ ?_); exact rfl; exact rfl; intro W hr hb hz) | ((with_reducible refine al_p (w.heap.size + 1) ?_ ?_); exact hz.out; intro W hq hb' hz'; replace hr := hr.bl (hz.out ▸ hb'); replace hb := hb.trans (hb'.mono (by omega)); replace hz := hz') | (go_at_call 15; refine (HI.out _).mono ?_; rintro e W2 ⟨rfl, rfl⟩))
  refine wp_region_held_drew (S := (fun V => RowAt V w.heap.size s.cells 26 ∧ Below w.heap.size w V)) (by kernel_rfl) ?_ (fun hHeld => ?_)
  · exact ⟨hr.dr, hb.drew⟩
  replace hq := hq.dr
  clear hr hb hz
  refine wpAnyH_take (i := 0) (oi := ?oi46) (v := .agg s.cells) ?hi46 (by kernel_rfl) (by kernel_rfl) (by kernel_rfl) ?hQ46 ?hy46 (by assumption) ?rest46
  case hi46 => (simp only [List.getElem?_toArray, List.getElem?_cons_zero]; rfl)
  case hQ46 => exact fun _ _ _ h => h
  case hy46 => exact y_p w.heap.size s (fun V hV => hV.1) rfl
  simp only [Act.put, List.setIfInBounds_toArray, List.set_cons_zero, List.set_cons_succ]
  refine wpAnyH_take (i := 1) (oi := ?oi47) (v := .int .u32 20) ?hi47 (by kernel_rfl) (by kernel_rfl) (by kernel_rfl) ?hQ47 ?hy47 (by assumption) ?rest47
  case hi47 => (simp only [List.getElem?_toArray, List.getElem?_cons_zero, List.getElem?_cons_succ]; rfl)
  case hQ47 => exact fun _ _ _ h => h
  case hy47 => exact Or.inl ⟨by rfl, by (intro w hSw; (try dsimp only at hSw); go_simp )⟩
  simp only [Act.put, List.setIfInBounds_toArray, List.set_cons_zero, List.set_cons_succ]
  refine wpAnyH_take (i := 2) (oi := ?oi48) (v := .int .u32 5) ?hi48 (by kernel_rfl) (by kernel_rfl) (by kernel_rfl) ?hQ48 ?hy48 (by assumption) ?rest48
  case hi48 => (simp only [List.getElem?_toArray, List.getElem?_cons_zero, List.getElem?_cons_succ]; rfl)
  case hQ48 => exact fun _ _ _ h => h
  case hy48 => exact Or.inl ⟨by rfl, by (intro w hSw; (try dsimp only at hSw); go_simp <;> rfl)⟩
  simp only [Act.put, List.setIfInBounds_toArray, List.set_cons_zero, List.set_cons_succ]
  refine wpAnyH_take (i := 3) (oi := ?oi49) (v := .pointer (some ⟨w.heap.size, 0, none⟩)) ?hi49 (by kernel_rfl) (by kernel_rfl) (by kernel_rfl) ?hQ49 ?hy49 (by assumption) ?rest49
  case hi49 => (simp only [List.getElem?_toArray, List.getElem?_cons_zero, List.getElem?_cons_succ]; rfl)
  case hQ49 => exact fun _ _ _ h => h
  case hy49 => exact Or.inl ⟨by rfl, by (intro w hSw; (try dsimp only at hSw); go_simp )⟩
  simp only [Act.put, List.setIfInBounds_toArray, List.set_cons_zero, List.set_cons_succ]
  refine wpAnyH_take (i := 4) (oi := ?oi50) (v := .pointer (some ⟨w.heap.size, 5, none⟩)) ?hi50 (by kernel_rfl) (by kernel_rfl) (by kernel_rfl) ?hQ50 ?hy50 (by assumption) ?rest50
  case hi50 => (simp only [List.getElem?_toArray, List.getElem?_cons_zero, List.getElem?_cons_succ]; rfl)
  case hQ50 => exact fun _ _ _ h => h
  case hy50 => exact Or.inl ⟨by rfl, by (intro w hSw; (try dsimp only at hSw); go_simp )⟩
  simp only [Act.put, List.setIfInBounds_toArray, List.set_cons_zero, List.set_cons_succ]
  refine wpAnyH_take (i := 5) (oi := ?oi51) (v := .int .u32 (s.pr 5 : Nat)) ?hi51 (by kernel_rfl) (by kernel_rfl) (by kernel_rfl) ?hQ51 ?hy51 (by assumption) ?rest51
  case hi51 => (simp only [List.getElem?_toArray, List.getElem?_cons_zero, List.getElem?_cons_succ]; rfl)
  case hQ51 => exact fun _ _ _ h => h
  case hy51 => exact y_word w.heap.size 5 _ (fun V hV => (hV.1.cell 5).trans rfl) rfl
  simp only [Act.put, List.setIfInBounds_toArray, List.set_cons_zero, List.set_cons_succ]
  refine wpAnyH_ready (rs := [6]) (by kernel_rfl) (by simp) ?_
  refine AllReadyH.cons (o := ?oi52) ?hi52 (fun K hK => ?_) AllReadyH.nil
  case hi52 => (simp only [List.getElem?_toArray, List.getElem?_cons_zero, List.getElem?_cons_succ]; rfl)
  rw [if_pos (by rfl)]
  (with_reducible refine s_p (w.heap.size + 1) _ s hq ?_ ?_ ?_)
  · exact rfl
  · exact rfl
  intro V hnew ho
  have hr := hHeld.1.only ho (by omega)
  have hb := ho.bel _ _ (by omega) hHeld.2
  replace hq := hnew
  clear hHeld hnew ho
  refine hK.out _ _ ?_ (fun hHeld => ?_)
  · exact ⟨hr, hb⟩
  clear hK K
  refine wpAnyH_take (i := 7) (oi := ?oi53) (v := .int .u32 (s.pr 5 : Nat)) ?hi53 (by kernel_rfl) (by kernel_rfl) (by kernel_rfl) ?hQ53 ?hy53 (by assumption) ?rest53
  case hi53 => (simp only [List.getElem?_toArray, List.getElem?_cons_zero, List.getElem?_cons_succ]; rfl)
  case hQ53 => exact fun _ _ _ h => h
  case hy53 => exact Or.inl ⟨by rfl, by (intro w hSw; (try dsimp only at hSw); go_simp )⟩
  simp only [Act.put, List.setIfInBounds_toArray, List.set_cons_zero, List.set_cons_succ]
  refine wpAnyH_take (i := 8) (oi := ?oi54) (v := .nilIface) ?hi54 (by kernel_rfl) (by kernel_rfl) (by kernel_rfl) ?hQ54 ?hy54 (by assumption) ?rest54
  case hi54 => (simp only [List.getElem?_toArray, List.getElem?_cons_zero, List.getElem?_cons_succ]; rfl)
  case hQ54 => exact fun _ _ _ h => h
  case hy54 => exact Or.inl ⟨by rfl, by (intro w hSw; (try dsimp only at hSw); go_simp )⟩
  simp only [Act.put, List.setIfInBounds_toArray, List.set_cons_zero, List.set_cons_succ]
  refine wpAnyH_done (by kernel_rfl) ?_ _
  go_wp2
  refine bodyPost_ret (results_cell_two Tryd.results5 _ _ (w.heap.size + 1) _ _ _ rfl hq Tryd.underlying26 rfl size_p) rfl ?_
  exact ⟨rfl, hHeld.2⟩

set_option maxRecDepth 100000 in
set_option maxHeartbeats 1000000 in
theorem read_pr6 (s : P5) (w : World) :
    Calls Tryd.prog 5 #[.agg s.cells, .int .u32 ((24 : Nat) : Int)] w fun e w' => e = .returned (.tuple #[.agg (readV s 24).1.cells, .int .u32 ((readV s 24).2.1 : Nat), errP (readV s 24).2.2]) ∧ Below w.heap.size w w' := by
  rw [show (((24 : Nat) : Int)) = 24 from rfl]
  have HI := hide (fun w => isPr_any 24 w)
  rw [show isPr 24 = true from by decide, show (((24 : Nat) : Int)) = 24 from rfl] at HI
  go_enter Tryd.func5, Tryd.ntmps5
  go_wp2_with (first | ((with_reducible refine bx_p w.heap.size s ?_ ?_ ?_); exact rfl; exact rfl; intro W hr hb hz) | ((with_reducible refine al_p (w.heap.size + 1) ?_ ?_); exact hz.out; intro W hq hb' hz'; replace hr := hr.bl (hz.out ▸ hb'); replace hb := hb.trans (hb'.mono (by omega)); replace hz := hz') | (go_at_call 15; refine (HI.out _).mono ?_; rintro e W2 ⟨rfl, rfl⟩))
  refine wp_region_held_drew (S := (fun V => RowAt V w.heap.size s.cells 26 ∧ Below w.heap.size w V)) (by kernel_rfl) ?_ (fun hHeld => ?_)
  · exact ⟨hr.dr, hb.drew⟩
  replace hq := hq.dr
  clear hr hb hz
  refine wpAnyH_take (i := 0) (oi := ?oi55) (v := .agg s.cells) ?hi55 (by kernel_rfl) (by kernel_rfl) (by kernel_rfl) ?hQ55 ?hy55 (by assumption) ?rest55
  case hi55 => (simp only [List.getElem?_toArray, List.getElem?_cons_zero]; rfl)
  case hQ55 => exact fun _ _ _ h => h
  case hy55 => exact y_p w.heap.size s (fun V hV => hV.1) rfl
  simp only [Act.put, List.setIfInBounds_toArray, List.set_cons_zero, List.set_cons_succ]
  refine wpAnyH_take (i := 1) (oi := ?oi56) (v := .int .u32 24) ?hi56 (by kernel_rfl) (by kernel_rfl) (by kernel_rfl) ?hQ56 ?hy56 (by assumption) ?rest56
  case hi56 => (simp only [List.getElem?_toArray, List.getElem?_cons_zero, List.getElem?_cons_succ]; rfl)
  case hQ56 => exact fun _ _ _ h => h
  case hy56 => exact Or.inl ⟨by rfl, by (intro w hSw; (try dsimp only at hSw); go_simp )⟩
  simp only [Act.put, List.setIfInBounds_toArray, List.set_cons_zero, List.set_cons_succ]
  refine wpAnyH_take (i := 2) (oi := ?oi57) (v := .int .u32 6) ?hi57 (by kernel_rfl) (by kernel_rfl) (by kernel_rfl) ?hQ57 ?hy57 (by assumption) ?rest57
  case hi57 => (simp only [List.getElem?_toArray, List.getElem?_cons_zero, List.getElem?_cons_succ]; rfl)
  case hQ57 => exact fun _ _ _ h => h
  case hy57 => exact Or.inl ⟨by rfl, by (intro w hSw; (try dsimp only at hSw); go_simp <;> rfl)⟩
  simp only [Act.put, List.setIfInBounds_toArray, List.set_cons_zero, List.set_cons_succ]
  refine wpAnyH_take (i := 3) (oi := ?oi58) (v := .pointer (some ⟨w.heap.size, 0, none⟩)) ?hi58 (by kernel_rfl) (by kernel_rfl) (by kernel_rfl) ?hQ58 ?hy58 (by assumption) ?rest58
  case hi58 => (simp only [List.getElem?_toArray, List.getElem?_cons_zero, List.getElem?_cons_succ]; rfl)
  case hQ58 => exact fun _ _ _ h => h
  case hy58 => exact Or.inl ⟨by rfl, by (intro w hSw; (try dsimp only at hSw); go_simp )⟩
  simp only [Act.put, List.setIfInBounds_toArray, List.set_cons_zero, List.set_cons_succ]
  refine wpAnyH_take (i := 4) (oi := ?oi59) (v := .pointer (some ⟨w.heap.size, 6, none⟩)) ?hi59 (by kernel_rfl) (by kernel_rfl) (by kernel_rfl) ?hQ59 ?hy59 (by assumption) ?rest59
  case hi59 => (simp only [List.getElem?_toArray, List.getElem?_cons_zero, List.getElem?_cons_succ]; rfl)
  case hQ59 => exact fun _ _ _ h => h
  case hy59 => exact Or.inl ⟨by rfl, by (intro w hSw; (try dsimp only at hSw); go_simp )⟩
  simp only [Act.put, List.setIfInBounds_toArray, List.set_cons_zero, List.set_cons_succ]
  refine wpAnyH_take (i := 5) (oi := ?oi60) (v := .int .u32 (s.pr 6 : Nat)) ?hi60 (by kernel_rfl) (by kernel_rfl) (by kernel_rfl) ?hQ60 ?hy60 (by assumption) ?rest60
  case hi60 => (simp only [List.getElem?_toArray, List.getElem?_cons_zero, List.getElem?_cons_succ]; rfl)
  case hQ60 => exact fun _ _ _ h => h
  case hy60 => exact y_word w.heap.size 6 _ (fun V hV => (hV.1.cell 6).trans rfl) rfl
  simp only [Act.put, List.setIfInBounds_toArray, List.set_cons_zero, List.set_cons_succ]
  refine wpAnyH_ready (rs := [6]) (by kernel_rfl) (by simp) ?_
  refine AllReadyH.cons (o := ?oi61) ?hi61 (fun K hK => ?_) AllReadyH.nil
  case hi61 => (simp only [List.getElem?_toArray, List.getElem?_cons_zero, List.getElem?_cons_succ]; rfl)
  rw [if_pos (by rfl)]
  (with_reducible refine s_p (w.heap.size + 1) _ s hq ?_ ?_ ?_)
  · exact rfl
  · exact rfl
  intro V hnew ho
  have hr := hHeld.1.only ho (by omega)
  have hb := ho.bel _ _ (by omega) hHeld.2
  replace hq := hnew
  clear hHeld hnew ho
  refine hK.out _ _ ?_ (fun hHeld => ?_)
  · exact ⟨hr, hb⟩
  clear hK K
  refine wpAnyH_take (i := 7) (oi := ?oi62) (v := .int .u32 (s.pr 6 : Nat)) ?hi62 (by kernel_rfl) (by kernel_rfl) (by kernel_rfl) ?hQ62 ?hy62 (by assumption) ?rest62
  case hi62 => (simp only [List.getElem?_toArray, List.getElem?_cons_zero, List.getElem?_cons_succ]; rfl)
  case hQ62 => exact fun _ _ _ h => h
  case hy62 => exact Or.inl ⟨by rfl, by (intro w hSw; (try dsimp only at hSw); go_simp )⟩
  simp only [Act.put, List.setIfInBounds_toArray, List.set_cons_zero, List.set_cons_succ]
  refine wpAnyH_take (i := 8) (oi := ?oi63) (v := .nilIface) ?hi63 (by kernel_rfl) (by kernel_rfl) (by kernel_rfl) ?hQ63 ?hy63 (by assumption) ?rest63
  case hi63 => (simp only [List.getElem?_toArray, List.getElem?_cons_zero, List.getElem?_cons_succ]; rfl)
  case hQ63 => exact fun _ _ _ h => h
  case hy63 => exact Or.inl ⟨by rfl, by (intro w hSw; (try dsimp only at hSw); go_simp )⟩
  simp only [Act.put, List.setIfInBounds_toArray, List.set_cons_zero, List.set_cons_succ]
  refine wpAnyH_done (by kernel_rfl) ?_ _
  go_wp2
  refine bodyPost_ret (results_cell_two Tryd.results5 _ _ (w.heap.size + 1) _ _ _ rfl hq Tryd.underlying26 rfl size_p) rfl ?_
  exact ⟨rfl, hHeld.2⟩

set_option maxRecDepth 100000 in
set_option maxHeartbeats 1000000 in
theorem read_pr7 (s : P5) (w : World) :
    Calls Tryd.prog 5 #[.agg s.cells, .int .u32 ((28 : Nat) : Int)] w fun e w' => e = .returned (.tuple #[.agg (readV s 28).1.cells, .int .u32 ((readV s 28).2.1 : Nat), errP (readV s 28).2.2]) ∧ Below w.heap.size w w' := by
  rw [show (((28 : Nat) : Int)) = 28 from rfl]
  have HI := hide (fun w => isPr_any 28 w)
  rw [show isPr 28 = true from by decide, show (((28 : Nat) : Int)) = 28 from rfl] at HI
  go_enter Tryd.func5, Tryd.ntmps5
  go_wp2_with (first | ((with_reducible refine bx_p w.heap.size s ?_ ?_ ?_); exact rfl; exact rfl; intro W hr hb hz) | ((with_reducible refine al_p (w.heap.size + 1) ?_ ?_); exact hz.out; intro W hq hb' hz'; replace hr := hr.bl (hz.out ▸ hb'); replace hb := hb.trans (hb'.mono (by omega)); replace hz := hz') | (go_at_call 15; refine (HI.out _).mono ?_; rintro e W2 ⟨rfl, rfl⟩))
  refine wp_region_held_drew (S := (fun V => RowAt V w.heap.size s.cells 26 ∧ Below w.heap.size w V)) (by kernel_rfl) ?_ (fun hHeld => ?_)
  · exact ⟨hr.dr, hb.drew⟩
  replace hq := hq.dr
  clear hr hb hz
  refine wpAnyH_take (i := 0) (oi := ?oi64) (v := .agg s.cells) ?hi64 (by kernel_rfl) (by kernel_rfl) (by kernel_rfl) ?hQ64 ?hy64 (by assumption) ?rest64
  case hi64 => (simp only [List.getElem?_toArray, List.getElem?_cons_zero]; rfl)
  case hQ64 => exact fun _ _ _ h => h
  case hy64 => exact y_p w.heap.size s (fun V hV => hV.1) rfl
  simp only [Act.put, List.setIfInBounds_toArray, List.set_cons_zero, List.set_cons_succ]
  refine wpAnyH_take (i := 1) (oi := ?oi65) (v := .int .u32 28) ?hi65 (by kernel_rfl) (by kernel_rfl) (by kernel_rfl) ?hQ65 ?hy65 (by assumption) ?rest65
  case hi65 => (simp only [List.getElem?_toArray, List.getElem?_cons_zero, List.getElem?_cons_succ]; rfl)
  case hQ65 => exact fun _ _ _ h => h
  case hy65 => exact Or.inl ⟨by rfl, by (intro w hSw; (try dsimp only at hSw); go_simp )⟩
  simp only [Act.put, List.setIfInBounds_toArray, List.set_cons_zero, List.set_cons_succ]
  refine wpAnyH_take (i := 2) (oi := ?oi66) (v := .int .u32 7) ?hi66 (by kernel_rfl) (by kernel_rfl) (by kernel_rfl) ?hQ66 ?hy66 (by assumption) ?rest66
  case hi66 => (simp only [List.getElem?_toArray, List.getElem?_cons_zero, List.getElem?_cons_succ]; rfl)
  case hQ66 => exact fun _ _ _ h => h
  case hy66 => exact Or.inl ⟨by rfl, by (intro w hSw; (try dsimp only at hSw); go_simp <;> rfl)⟩
  simp only [Act.put, List.setIfInBounds_toArray, List.set_cons_zero, List.set_cons_succ]
  refine wpAnyH_take (i := 3) (oi := ?oi67) (v := .pointer (some ⟨w.heap.size, 0, none⟩)) ?hi67 (by kernel_rfl) (by kernel_rfl) (by kernel_rfl) ?hQ67 ?hy67 (by assumption) ?rest67
  case hi67 => (simp only [List.getElem?_toArray, List.getElem?_cons_zero, List.getElem?_cons_succ]; rfl)
  case hQ67 => exact fun _ _ _ h => h
  case hy67 => exact Or.inl ⟨by rfl, by (intro w hSw; (try dsimp only at hSw); go_simp )⟩
  simp only [Act.put, List.setIfInBounds_toArray, List.set_cons_zero, List.set_cons_succ]
  refine wpAnyH_take (i := 4) (oi := ?oi68) (v := .pointer (some ⟨w.heap.size, 7, none⟩)) ?hi68 (by kernel_rfl) (by kernel_rfl) (by kernel_rfl) ?hQ68 ?hy68 (by assumption) ?rest68
  case hi68 => (simp only [List.getElem?_toArray, List.getElem?_cons_zero, List.getElem?_cons_succ]; rfl)
  case hQ68 => exact fun _ _ _ h => h
  case hy68 => exact Or.inl ⟨by rfl, by (intro w hSw; (try dsimp only at hSw); go_simp )⟩
  simp only [Act.put, List.setIfInBounds_toArray, List.set_cons_zero, List.set_cons_succ]
  refine wpAnyH_take (i := 5) (oi := ?oi69) (v := .int .u32 (s.pr 7 : Nat)) ?hi69 (by kernel_rfl) (by kernel_rfl) (by kernel_rfl) ?hQ69 ?hy69 (by assumption) ?rest69
  case hi69 => (simp only [List.getElem?_toArray, List.getElem?_cons_zero, List.getElem?_cons_succ]; rfl)
  case hQ69 => exact fun _ _ _ h => h
  case hy69 => exact y_word w.heap.size 7 _ (fun V hV => (hV.1.cell 7).trans rfl) rfl
  simp only [Act.put, List.setIfInBounds_toArray, List.set_cons_zero, List.set_cons_succ]
  refine wpAnyH_ready (rs := [6]) (by kernel_rfl) (by simp) ?_
  refine AllReadyH.cons (o := ?oi70) ?hi70 (fun K hK => ?_) AllReadyH.nil
  case hi70 => (simp only [List.getElem?_toArray, List.getElem?_cons_zero, List.getElem?_cons_succ]; rfl)
  rw [if_pos (by rfl)]
  (with_reducible refine s_p (w.heap.size + 1) _ s hq ?_ ?_ ?_)
  · exact rfl
  · exact rfl
  intro V hnew ho
  have hr := hHeld.1.only ho (by omega)
  have hb := ho.bel _ _ (by omega) hHeld.2
  replace hq := hnew
  clear hHeld hnew ho
  refine hK.out _ _ ?_ (fun hHeld => ?_)
  · exact ⟨hr, hb⟩
  clear hK K
  refine wpAnyH_take (i := 7) (oi := ?oi71) (v := .int .u32 (s.pr 7 : Nat)) ?hi71 (by kernel_rfl) (by kernel_rfl) (by kernel_rfl) ?hQ71 ?hy71 (by assumption) ?rest71
  case hi71 => (simp only [List.getElem?_toArray, List.getElem?_cons_zero, List.getElem?_cons_succ]; rfl)
  case hQ71 => exact fun _ _ _ h => h
  case hy71 => exact Or.inl ⟨by rfl, by (intro w hSw; (try dsimp only at hSw); go_simp )⟩
  simp only [Act.put, List.setIfInBounds_toArray, List.set_cons_zero, List.set_cons_succ]
  refine wpAnyH_take (i := 8) (oi := ?oi72) (v := .nilIface) ?hi72 (by kernel_rfl) (by kernel_rfl) (by kernel_rfl) ?hQ72 ?hy72 (by assumption) ?rest72
  case hi72 => (simp only [List.getElem?_toArray, List.getElem?_cons_zero, List.getElem?_cons_succ]; rfl)
  case hQ72 => exact fun _ _ _ h => h
  case hy72 => exact Or.inl ⟨by rfl, by (intro w hSw; (try dsimp only at hSw); go_simp )⟩
  simp only [Act.put, List.setIfInBounds_toArray, List.set_cons_zero, List.set_cons_succ]
  refine wpAnyH_done (by kernel_rfl) ?_ _
  go_wp2
  refine bodyPost_ret (results_cell_two Tryd.results5 _ _ (w.heap.size + 1) _ _ _ rfl hq Tryd.underlying26 rfl size_p) rfl ?_
  exact ⟨rfl, hHeld.2⟩

set_option maxRecDepth 100000 in
set_option maxHeartbeats 1000000 in
theorem read_pe (s : P5) (w : World) :
    Calls Tryd.prog 5 #[.agg s.cells, .int .u32 ((4096 : Nat) : Int)] w fun e w' => e = .returned (.tuple #[.agg (readV s 4096).1.cells, .int .u32 ((readV s 4096).2.1 : Nat), errP (readV s 4096).2.2]) ∧ Below w.heap.size w w' := by
  rw [show (((4096 : Nat) : Int)) = 4096 from rfl]
  have HI := hide (fun w => isPr_any 4096 w)
  rw [show isPr 4096 = false from by decide, show (((4096 : Nat) : Int)) = 4096 from rfl] at HI
  go_enter Tryd.func5, Tryd.ntmps5
  go_wp2_with (first | ((with_reducible refine bx_p w.heap.size s ?_ ?_ ?_); exact rfl; exact rfl; intro W hr hb hz) | ((with_reducible refine al_p (w.heap.size + 1) ?_ ?_); exact hz.out; intro W hq hb' hz'; replace hr := hr.bl (hz.out ▸ hb'); replace hb := hb.trans (hb'.mono (by omega)); replace hz := hz') | (go_at_call 15; refine (HI.out _).mono ?_; rintro e W2 ⟨rfl, rfl⟩))
  refine wp_region_held_drew (S := (fun V => RowAt V w.heap.size s.cells 26 ∧ Below w.heap.size w V)) (by kernel_rfl) ?_ (fun hHeld => ?_)
  · exact ⟨hr.dr, hb.drew⟩
  replace hq := hq.dr
  clear hr hb hz
  refine wpAnyH_take (i := 0) (oi := ?oi73) (v := .agg s.cells) ?hi73 (by kernel_rfl) (by kernel_rfl) (by kernel_rfl) ?hQ73 ?hy73 (by assumption) ?rest73
  case hi73 => (simp only [List.getElem?_toArray, List.getElem?_cons_zero]; rfl)
  case hQ73 => exact fun _ _ _ h => h
  case hy73 => exact y_p w.heap.size s (fun V hV => hV.1) rfl
  simp only [Act.put, List.setIfInBounds_toArray, List.set_cons_zero, List.set_cons_succ]
  refine wpAnyH_take (i := 1) (oi := ?oi74) (v := .pointer (some ⟨w.heap.size, 10, none⟩)) ?hi74 (by kernel_rfl) (by kernel_rfl) (by kernel_rfl) ?hQ74 ?hy74 (by assumption) ?rest74
  case hi74 => (simp only [List.getElem?_toArray, List.getElem?_cons_zero, List.getElem?_cons_succ]; rfl)
  case hQ74 => exact fun _ _ _ h => h
  case hy74 => exact Or.inl ⟨by rfl, by (intro w hSw; (try dsimp only at hSw); go_simp )⟩
  simp only [Act.put, List.setIfInBounds_toArray, List.set_cons_zero, List.set_cons_succ]
  refine wpAnyH_take (i := 2) (oi := ?oi75) (v := .int .u32 (s.pe : Nat)) ?hi75 (by kernel_rfl) (by kernel_rfl) (by kernel_rfl) ?hQ75 ?hy75 (by assumption) ?rest75
  case hi75 => (simp only [List.getElem?_toArray, List.getElem?_cons_zero, List.getElem?_cons_succ]; rfl)
  case hQ75 => exact fun _ _ _ h => h
  case hy75 => exact y_word w.heap.size 10 _ (fun V hV => (hV.1.cell 10).trans rfl) rfl
  simp only [Act.put, List.setIfInBounds_toArray, List.set_cons_zero, List.set_cons_succ]
  refine wpAnyH_ready (rs := [3]) (by kernel_rfl) (by simp) ?_
  refine AllReadyH.cons (o := ?oi76) ?hi76 (fun K hK => ?_) AllReadyH.nil
  case hi76 => (simp only [List.getElem?_toArray, List.getElem?_cons_zero, List.getElem?_cons_succ]; rfl)
  rw [if_pos (by rfl)]
  (with_reducible refine s_p (w.heap.size + 1) _ s hq ?_ ?_ ?_)
  · exact rfl
  · exact rfl
  intro V hnew ho
  have hr := hHeld.1.only ho (by omega)
  have hb := ho.bel _ _ (by omega) hHeld.2
  replace hq := hnew
  clear hHeld hnew ho
  refine hK.out _ _ ?_ (fun hHeld => ?_)
  · exact ⟨hr, hb⟩
  clear hK K
  refine wpAnyH_take (i := 4) (oi := ?oi77) (v := .int .u32 (s.pe : Nat)) ?hi77 (by kernel_rfl) (by kernel_rfl) (by kernel_rfl) ?hQ77 ?hy77 (by assumption) ?rest77
  case hi77 => (simp only [List.getElem?_toArray, List.getElem?_cons_zero, List.getElem?_cons_succ]; rfl)
  case hQ77 => exact fun _ _ _ h => h
  case hy77 => exact Or.inl ⟨by rfl, by (intro w hSw; (try dsimp only at hSw); go_simp )⟩
  simp only [Act.put, List.setIfInBounds_toArray, List.set_cons_zero, List.set_cons_succ]
  refine wpAnyH_take (i := 5) (oi := ?oi78) (v := .nilIface) ?hi78 (by kernel_rfl) (by kernel_rfl) (by kernel_rfl) ?hQ78 ?hy78 (by assumption) ?rest78
  case hi78 => (simp only [List.getElem?_toArray, List.getElem?_cons_zero, List.getElem?_cons_succ]; rfl)
  case hQ78 => exact fun _ _ _ h => h
  case hy78 => exact Or.inl ⟨by rfl, by (intro w hSw; (try dsimp only at hSw); go_simp )⟩
  simp only [Act.put, List.setIfInBounds_toArray, List.set_cons_zero, List.set_cons_succ]
  refine wpAnyH_done (by kernel_rfl) ?_ _
  go_wp2
  refine bodyPost_ret (results_cell_two Tryd.results5 _ _ (w.heap.size + 1) _ _ _ rfl hq Tryd.underlying26 rfl size_p) rfl ?_
  exact ⟨rfl, hHeld.2⟩

set_option maxRecDepth 100000 in
set_option maxHeartbeats 1000000 in
theorem read_en (s : P5) (w : World) :
    Calls Tryd.prog 5 #[.agg s.cells, .int .u32 ((8192 : Nat) : Int)] w fun e w' => e = .returned (.tuple #[.agg (readV s 8192).1.cells, .int .u32 ((readV s 8192).2.1 : Nat), errP (readV s 8192).2.2]) ∧ Below w.heap.size w w' := by
  rw [show (((8192 : Nat) : Int)) = 8192 from rfl]
  have HI := hide (fun w => isPr_any 8192 w)
  rw [show isPr 8192 = false from by decide, show (((8192 : Nat) : Int)) = 8192 from rfl] at HI
  go_enter Tryd.func5, Tryd.ntmps5
  go_wp2_with (first | ((with_reducible refine bx_p w.heap.size s ?_ ?_ ?_); exact rfl; exact rfl; intro W hr hb hz) | ((with_reducible refine al_p (w.heap.size + 1) ?_ ?_); exact hz.out; intro W hq hb' hz'; replace hr := hr.bl (hz.out ▸ hb'); replace hb := hb.trans (hb'.mono (by omega)); replace hz := hz') | (go_at_call 15; refine (HI.out _).mono ?_; rintro e W2 ⟨rfl, rfl⟩))
  refine wp_region_held_drew (S := (fun V => RowAt V w.heap.size s.cells 26 ∧ Below w.heap.size w V)) (by kernel_rfl) ?_ (fun hHeld => ?_)
  · exact ⟨hr.dr, hb.drew⟩
  replace hq := hq.dr
  clear hr hb hz
  refine wpAnyH_take (i := 0) (oi := ?oi79) (v := .agg s.cells) ?hi79 (by kernel_rfl) (by kernel_rfl) (by kernel_rfl) ?hQ79 ?hy79 (by assumption) ?rest79
  case hi79 => (simp only [List.getElem?_toArray, List.getElem?_cons_zero]; rfl)
  case hQ79 => exact fun _ _ _ h => h
  case hy79 => exact y_p w.heap.size s (fun V hV => hV.1) rfl
  simp only [Act.put, List.setIfInBounds_toArray, List.set_cons_zero, List.set_cons_succ]
  refine wpAnyH_take (i := 1) (oi := ?oi80) (v := .pointer (some ⟨w.heap.size, 8, none⟩)) ?hi80 (by kernel_rfl) (by kernel_rfl) (by kernel_rfl) ?hQ80 ?hy80 (by assumption) ?rest80
  case hi80 => (simp only [List.getElem?_toArray, List.getElem?_cons_zero, List.getElem?_cons_succ]; rfl)
  case hQ80 => exact fun _ _ _ h => h
  case hy80 => exact Or.inl ⟨by rfl, by (intro w hSw; (try dsimp only at hSw); go_simp )⟩
  simp only [Act.put, List.setIfInBounds_toArray, List.set_cons_zero, List.set_cons_succ]
  refine wpAnyH_take (i := 2) (oi := ?oi81) (v := .int .u32 (s.en : Nat)) ?hi81 (by kernel_rfl) (by kernel_rfl) (by kernel_rfl) ?hQ81 ?hy81 (by assumption) ?rest81
  case hi81 => (simp only [List.getElem?_toArray, List.getElem?_cons_zero, List.getElem?_cons_succ]; rfl)
  case hQ81 => exact fun _ _ _ h => h
  case hy81 => exact y_word w.heap.size 8 _ (fun V hV => (hV.1.cell 8).trans rfl) rfl
  simp only [Act.put, List.setIfInBounds_toArray, List.set_cons_zero, List.set_cons_succ]
  refine wpAnyH_ready (rs := [3]) (by kernel_rfl) (by simp) ?_
  refine AllReadyH.cons (o := ?oi82) ?hi82 (fun K hK => ?_) AllReadyH.nil
  case hi82 => (simp only [List.getElem?_toArray, List.getElem?_cons_zero, List.getElem?_cons_succ]; rfl)
  rw [if_pos (by rfl)]
  (with_reducible refine s_p (w.heap.size + 1) _ s hq ?_ ?_ ?_)
  · exact rfl
  · exact rfl
  intro V hnew ho
  have hr := hHeld.1.only ho (by omega)
  have hb := ho.bel _ _ (by omega) hHeld.2
  replace hq := hnew
  clear hHeld hnew ho
  refine hK.out _ _ ?_ (fun hHeld => ?_)
  · exact ⟨hr, hb⟩
  clear hK K
  refine wpAnyH_take (i := 4) (oi := ?oi83) (v := .int .u32 (s.en : Nat)) ?hi83 (by kernel_rfl) (by kernel_rfl) (by kernel_rfl) ?hQ83 ?hy83 (by assumption) ?rest83
  case hi83 => (simp only [List.getElem?_toArray, List.getElem?_cons_zero, List.getElem?_cons_succ]; rfl)
  case hQ83 => exact fun _ _ _ h => h
  case hy83 => exact Or.inl ⟨by rfl, by (intro w hSw; (try dsimp only at hSw); go_simp )⟩
  simp only [Act.put, List.setIfInBounds_toArray, List.set_cons_zero, List.set_cons_succ]
  refine wpAnyH_take (i := 5) (oi := ?oi84) (v := .nilIface) ?hi84 (by kernel_rfl) (by kernel_rfl) (by kernel_rfl) ?hQ84 ?hy84 (by assumption) ?rest84
  case hi84 => (simp only [List.getElem?_toArray, List.getElem?_cons_zero, List.getElem?_cons_succ]; rfl)
  case hQ84 => exact fun _ _ _ h => h
  case hy84 => exact Or.inl ⟨by rfl, by (intro w hSw; (try dsimp only at hSw); go_simp )⟩
  simp only [Act.put, List.setIfInBounds_toArray, List.set_cons_zero, List.set_cons_succ]
  refine wpAnyH_done (by kernel_rfl) ?_ _
  go_wp2
  refine bodyPost_ret (results_cell_two Tryd.results5 _ _ (w.heap.size + 1) _ _ _ rfl hq Tryd.underlying26 rfl size_p) rfl ?_
  exact ⟨rfl, hHeld.2⟩

set_option maxRecDepth 100000 in
set_option maxHeartbeats 1000000 in
theorem read_th (s : P5) (w : World) :
    Calls Tryd.prog 5 #[.agg s.cells, .int .u32 ((2097152 : Nat) : Int)] w fun e w' => e = .returned (.tuple #[.agg (readV s 2097152).1.cells, .int .u32 ((readV s 2097152).2.1 : Nat), errP (readV s 2097152).2.2]) ∧ Below w.heap.size w w' := by
  rw [show (((2097152 : Nat) : Int)) = 2097152 from rfl]
  have HI := hide (fun w => isPr_any 2097152 w)
  rw [show isPr 2097152 = false from by decide, show (((2097152 : Nat) : Int)) = 2097152 from rfl] at HI
  go_enter Tryd.func5, Tryd.ntmps5
  go_wp2_with (first | ((with_reducible refine bx_p w.heap.size s ?_ ?_ ?_); exact rfl; exact rfl; intro W hr hb hz) | ((with_reducible refine al_p (w.heap.size + 1) ?_ ?_); exact hz.out; intro W hq hb' hz'; replace hr := hr.bl (hz.out ▸ hb'); replace hb := hb.trans (hb'.mono (by omega)); replace hz := hz') | (go_at_call 15; refine (HI.out _).mono ?_; rintro e W2 ⟨rfl, rfl⟩))
  refine wp_region_held_drew (S := (fun V => RowAt V w.heap.size s.cells 26 ∧ Below w.heap.size w V)) (by kernel_rfl) ?_ (fun hHeld => ?_)
  · exact ⟨hr.dr, hb.drew⟩
  replace hq := hq.dr
  clear hr hb hz
  refine wpAnyH_take (i := 0) (oi := ?oi85) (v := .agg s.cells) ?hi85 (by kernel_rfl) (by kernel_rfl) (by kernel_rfl) ?hQ85 ?hy85 (by assumption) ?rest85
  case hi85 => (simp only [List.getElem?_toArray, List.getElem?_cons_zero]; rfl)
  case hQ85 => exact fun _ _ _ h => h
  case hy85 => exact y_p w.heap.size s (fun V hV => hV.1) rfl
  simp only [Act.put, List.setIfInBounds_toArray, List.set_cons_zero, List.set_cons_succ]
  refine wpAnyH_take (i := 1) (oi := ?oi86) (v := .pointer (some ⟨w.heap.size, 9, none⟩)) ?hi86 (by kernel_rfl) (by kernel_rfl) (by kernel_rfl) ?hQ86 ?hy86 (by assumption) ?rest86
  case hi86 => (simp only [List.getElem?_toArray, List.getElem?_cons_zero, List.getElem?_cons_succ]; rfl)
  case hQ86 => exact fun _ _ _ h => h
  case hy86 => exact Or.inl ⟨by rfl, by (intro w hSw; (try dsimp only at hSw); go_simp )⟩
  simp only [Act.put, List.setIfInBounds_toArray, List.set_cons_zero, List.set_cons_succ]
  refine wpAnyH_take (i := 2) (oi := ?oi87) (v := .int .u32 (s.th : Nat)) ?hi87 (by kernel_rfl) (by kernel_rfl) (by kernel_rfl) ?hQ87 ?hy87 (by assumption) ?rest87
  case hi87 => (simp only [List.getElem?_toArray, List.getElem?_cons_zero, List.getElem?_cons_succ]; rfl)
  case hQ87 => exact fun _ _ _ h => h
  case hy87 => exact y_word w.heap.size 9 _ (fun V hV => (hV.1.cell 9).trans rfl) rfl
  simp only [Act.put, List.setIfInBounds_toArray, List.set_cons_zero, List.set_cons_succ]
  refine wpAnyH_ready (rs := [3]) (by kernel_rfl) (by simp) ?_
  refine AllReadyH.cons (o := ?oi88) ?hi88 (fun K hK => ?_) AllReadyH.nil
  case hi88 => (simp only [List.getElem?_toArray, List.getElem?_cons_zero, List.getElem?_cons_succ]; rfl)
  rw [if_pos (by rfl)]
  (with_reducible refine s_p (w.heap.size + 1) _ s hq ?_ ?_ ?_)
  · exact rfl
  · exact rfl
  intro V hnew ho
  have hr := hHeld.1.only ho (by omega)
  have hb := ho.bel _ _ (by omega) hHeld.2
  replace hq := hnew
  clear hHeld hnew ho
  refine hK.out _ _ ?_ (fun hHeld => ?_)
  · exact ⟨hr, hb⟩
  clear hK K
  refine wpAnyH_take (i := 4) (oi := ?oi89) (v := .int .u32 (s.th : Nat)) ?hi89 (by kernel_rfl) (by kernel_rfl) (by kernel_rfl) ?hQ89 ?hy89 (by assumption) ?rest89
  case hi89 => (simp only [List.getElem?_toArray, List.getElem?_cons_zero, List.getElem?_cons_succ]; rfl)
  case hQ89 => exact fun _ _ _ h => h
  case hy89 => exact Or.inl ⟨by rfl, by (intro w hSw; (try dsimp only at hSw); go_simp )⟩
  simp only [Act.put, List.setIfInBounds_toArray, List.set_cons_zero, List.set_cons_succ]
  refine wpAnyH_take (i := 5) (oi := ?oi90) (v := .nilIface) ?hi90 (by kernel_rfl) (by kernel_rfl) (by kernel_rfl) ?hQ90 ?hy90 (by assumption) ?rest90
  case hi90 => (simp only [List.getElem?_toArray, List.getElem?_cons_zero, List.getElem?_cons_succ]; rfl)
  case hQ90 => exact fun _ _ _ h => h
  case hy90 => exact Or.inl ⟨by rfl, by (intro w hSw; (try dsimp only at hSw); go_simp )⟩
  simp only [Act.put, List.setIfInBounds_toArray, List.set_cons_zero, List.set_cons_succ]
  refine wpAnyH_done (by kernel_rfl) ?_ _
  go_wp2
  refine bodyPost_ret (results_cell_two Tryd.results5 _ _ (w.heap.size + 1) _ _ _ rfl hq Tryd.underlying26 rfl size_p) rfl ?_
  exact ⟨rfl, hHeld.2⟩

theorem serve_any (s : P5) (hs : s.Ok) (n : Nat) (hn : n ≤ 7) (w : World) :
    Calls Tryd.prog 16 #[.agg s.cells, .int .i64 (n : Nat)] w fun e w' => e = .returned (.agg (serveV s n).cells) ∧ Below w.heap.size w w' := by
  by_cases h0 : n = 0
  · subst h0; exact serve_none s w
  · exact serve_one s hs n (by omega) hn w
theorem ret_three {cs ds : Array Value} {a b : Int} {e f : Value} (h : cs = ds) (h' : a = b) (he : e = f) : Ending.returned (.tuple #[.agg cs, .int .u32 a, e]) = .returned (.tuple #[.agg ds, .int .u32 b, f]) := by rw [h, h', he]
set_option maxHeartbeats 1000000 in
theorem read_claim (s : P5) (hs : s.Ok) (w : World) :
    Calls Tryd.prog 5 #[.agg s.cells, .int .u32 ((2097156 : Nat) : Int)] w fun e w' => e = .returned (.tuple #[.agg (readV s 2097156).1.cells, .int .u32 ((readV s 2097156).2.1 : Nat), errP (readV s 2097156).2.2]) ∧ Below w.heap.size w w' := by
  rw [show (((2097156 : Nat) : Int)) = 2097156 from rfl]
  have HI := hide (fun w => isPr_any 2097156 w)
  rw [show isPr 2097156 = false from by decide, show (((2097156 : Nat) : Int)) = 2097156 from rfl] at HI
  have HB := hide (fun w => best_any s hs w)
  have hle := bestV_le s
  have HV : Hid (readV s 2097156 = (serveV s (bestV s), bestV s, 0)) := hide rfl
  rw [HV.out]
  have HS : Hid (∀ w, Calls Tryd.prog 16 #[.agg s.cells, .int .i64 (bestV s : Nat)] w fun e w' => e = .returned (.agg (serveV s (bestV s)).cells) ∧ Below w.heap.size w w') := hide (fun w => serve_any s hs _ hle w)
  generalize serveV s (bestV s) = s' at *
  generalize bestV s = n at *
  go_enter Tryd.func5, Tryd.ntmps5
  go_wp2_with (first | ((with_reducible refine bx_p w.heap.size s ?_ ?_ ?_); exact rfl; exact rfl; intro W hr hb hz) | ((with_reducible refine al_p (w.heap.size + 1) ?_ ?_); exact hz.out; intro W hq hb' hz'; replace hr := hr.bl (hz.out ▸ hb'); replace hb := hb.trans (hb'.mono (by omega)); replace hz := hz') | (go_at_call 15; refine (HI.out _).mono ?_; rintro e W2 ⟨rfl, rfl⟩) | ((with_reducible refine ld_p w.heap.size _ hr ?_ ?_); exact rfl) | (go_at_call 10; refine (HB.out _).mono ?_; rintro e W ⟨rfl, hbc⟩; replace hr := hr.bl hbc; replace hq := hq.bl hbc; replace hb := below_bl rfl hb hbc) | (go_at_call 16; refine (HS.out _).mono ?_; rintro e W ⟨rfl, hbc⟩; replace hr := hr.bl hbc; replace hq := hq.bl hbc; replace hb := below_bl rfl hb hbc) | ((with_reducible refine st_p (w.heap.size + 1) _ s' hq ?_ ?_ ?_); exact rfl; exact rfl; intro W hnew ho; replace hr := hr.only ho (by omega); replace hq := hnew; replace hb := ho.bel _ _ (by omega) hb))
  refine bodyPost_ret (results_cell_two Tryd.results5 _ _ (w.heap.size + 1) _ _ _ rfl hq Tryd.underlying26 rfl size_p) rfl ?_
  exact ⟨ret_three rfl (by go_num) rfl, hb⟩

set_option maxHeartbeats 1000000 in
theorem read_none (s : P5) (a : Nat) (hp : isPr a = false) (n1 : a ≠ 4096) (n2 : a ≠ 8192) (n3 : a ≠ 2097152) (n4 : a ≠ 2097156) (w : World) :
    Calls Tryd.prog 5 #[.agg s.cells, .int .u32 (a : Nat)] w fun e w' => e = .returned (.tuple #[.agg (readV s a).1.cells, .int .u32 ((readV s a).2.1 : Nat), errP (readV s a).2.2]) ∧ Below w.heap.size w w' := by
  have HI := hide (fun w => isPr_any a w)
  rw [hp] at HI
  have t1 : ((a : Int) == 4096) = false := by simp; omega
  have t2 : ((a : Int) == 8192) = false := by simp; omega
  have t3 : ((a : Int) == 2097152) = false := by simp; omega
  have t4 : ((a : Int) == 2097156) = false := by simp; omega
  have HV : Hid (readV s a = (zeroP, 0, 20)) := hide (by unfold readV; rw [hp, if_neg (by simp), if_neg n1, if_neg n2, if_neg n3, if_neg n4])
  rw [HV.out]
  clear hp n1 n2 n3 n4
  go_enter Tryd.func5, Tryd.ntmps5
  go_wp2_with (first | ((with_reducible refine bx_p w.heap.size s ?_ ?_ ?_); exact rfl; exact rfl; intro W hr hb hz) | ((with_reducible refine al_p (w.heap.size + 1) ?_ ?_); exact hz.out; intro W hq hb' hz'; replace hr := hr.bl (hz.out ▸ hb'); replace hb := hb.trans (hb'.mono (by omega)); replace hz := hz') | (go_at_call 15; refine (HI.out _).mono ?_; rintro e W2 ⟨rfl, rfl⟩) | ((with_reducible refine st_p (w.heap.size + 1) _ zeroP hq ?_ ?_ ?_); exact rfl; exact rfl; intro W hnew ho; replace hr := hr.only ho (by omega); replace hq := hnew; replace hb := ho.bel _ _ (by omega) hb))
  refine bodyPost_ret (results_cell_two Tryd.results5 _ _ (w.heap.size + 1) _ _ _ rfl hq Tryd.underlying26 rfl size_p) rfl ?_
  exact ⟨rfl, hb⟩

theorem isPr_eight {a : Nat} (h : isPr a = true) : a = 0 ∨ a = 4 ∨ a = 8 ∨ a = 12 ∨ a = 16 ∨ a = 20 ∨ a = 24 ∨ a = 28 := by
  unfold isPr at h
  simp at h
  omega
theorem read_any (s : P5) (hs : s.Ok) (a : Nat) (w : World) :
    Calls Tryd.prog 5 #[.agg s.cells, .int .u32 (a : Nat)] w fun e w' => e = .returned (.tuple #[.agg (readV s a).1.cells, .int .u32 ((readV s a).2.1 : Nat), errP (readV s a).2.2]) ∧ Below w.heap.size w w' := by
  by_cases hp : isPr a = true
  · rcases isPr_eight hp with rfl | rfl | rfl | rfl | rfl | rfl | rfl | rfl
    · exact read_pr0 s w
    · exact read_pr1 s w
    · exact read_pr2 s w
    · exact read_pr3 s w
    · exact read_pr4 s w
    · exact read_pr5 s w
    · exact read_pr6 s w
    · exact read_pr7 s w
  by_cases n1 : a = 4096
  · subst n1; exact read_pe s w
  by_cases n2 : a = 8192
  · subst n2; exact read_en s w
  by_cases n3 : a = 2097152
  · subst n3; exact read_th s w
  by_cases n4 : a = 2097156
  · subst n4; exact read_claim s hs w
  · exact read_none s a (by simpa using hp) n1 n2 n3 n4 w
end Go.Proofs.YtadgdgjmadchjaaDoor
