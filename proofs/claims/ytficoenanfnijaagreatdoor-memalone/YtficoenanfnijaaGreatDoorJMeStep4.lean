/-
  The law's step: digests.
-/
import Derived.Test.YtficoenanfnijaaGreatDoorJMeStep3
import Derived.Test.YtficoenanfnijaaGreatDoorJMeZ
import Derived.Deep.RegionHeldLaw
import Derived.Deep.CutRange
namespace Go.Proofs.YtficoenanfnijaaGreatDoor
open Go.RowKit
set_option linter.unusedVariables false
attribute [local go_sem ↓] Go.wp_at_zero Go.wp_at_succ

variable {ops : Array Oper} {rest : List Oper} {dst : Option Tmp} {ty : TypeId} {pos : String} {after : Array Edge} {ac : Act} {w : World} {Q : Exit → Act → World → Prop} {x y : Operand}
theorem handle_keep {w w' : World} (h : HandleAt w) (hb : Below w.heap.size w w') : HandleAt w' := cell_bl hb h
theorem text_nil (w : World) : (convert 28 9 (.slice none 0 0)).run Tryz.prog w = .ok (.string ByteArray.empty) w :=
  run_convert_bytes_nil (P := Tryz.prog) w 28 5 Tryz.underlying28 Tryz.underlying5 0 0 9 Tryz.underlying9
set_option maxRecDepth 100000 in
set_option maxHeartbeats 4000000 in
theorem step_digest_bad {B b P D N n : Nat} {m : Mem} {r : RP} (hI : StepIn w B b P D N n m r) (a : Act5) (hk : a.kind = 8) (hp : a.k < 0 ∨ (n : Int) ≤ a.k) :
    Calls Tryz.prog 8 #[.pointer (some ⟨b, 0, none⟩), .agg (r.v N n), .agg a.cells] w (StepOut w B b P D N n m r false) := by
  have hkd := kind_eq a
  rw [hk] at hkd
  have HI := hide hI
  have HO0 : Hid (∀ x, w.heap.size ≤ x → ¬ m.owns b P D x) := hide (fun x hx h => by have := hI.ram.owned h; omega)
  have hmn := hI.same
  have HPn : Hid (a.k < 0 ∨ (m.n : Int) ≤ a.k) := hide (by rw [hmn]; exact hp)
  have HPn' := hide hp
  have HN := hide (fun W h => num_err 4 W h)
  clear hI hp hmn
  go_enter Tryz.func8, Tryz.ntmps8
  go_upto_region 34 with (first | ((with_reducible refine bx_R w.heap.size r N n ?_ ?_ ?_); exact rfl; exact rfl; intro W hr hb hz0) | ((with_reducible refine bx_A (w.heap.size + 1) a.cells ?_ ?_ ?_); exact hz0.out; exact rfl; intro W hA hb' hz'; replace hr := hr.bl (hz0.out ▸ hb'); replace hb := hb.trans (hb'.mono (by omega)); replace hz0 := hz') | ((with_reducible refine al_R (w.heap.size + 1 + 1) ?_ ?_); exact hz0.out; intro W0 hq hb' hz'; replace hr := hr.bl (hz0.out ▸ hb'); replace hA := hA.bl (hz0.out ▸ hb'); replace hb := hb.trans (hb'.mono (by omega)); replace hz0 := hz'; have HB0 := hide hb; have HQ0 := hide hq.lt) | ((with_reducible refine la_0 (w.heap.size + 1) a hA ?_ ?_); exact rfl) | ((with_reducible refine la_2 (w.heap.size + 1) a hA ?_ ?_); exact rfl) | ((with_reducible refine ld_R w.heap.size _ N n hr ?_ ?_); exact rfl) | (go_at_call 28; refine (digest_bad b P m.n a.k HPn.out HI.out.ram.few _ (HI.out.ram.bl hb).pagesAt).mono ?_; rintro e W1 ⟨rfl, rfl⟩) | (go_at_call 29; refine (rpage_bad (HI.out.ref.bl hb) a.k HPn'.out).mono ?_; rintro e W2 ⟨rfl, hx5⟩; replace hr := hr.bl hx5; replace hA := hA.bl hx5; have HQ2 := hide (Nat.lt_of_lt_of_le hq.lt hx5.size); replace hq := hq.bl hx5; replace hb := below_bl rfl hb hx5; clear hx5) | (go_at_call 13; refine (page_bad b P m.n a.k HPn.out HI.out.ram.few _ (HI.out.ram.bl hb).pagesAt).mono ?_; rintro e W3 ⟨rfl, rfl⟩))
  have s0 : W3.cell? ⟨w.heap.size, 0, none⟩ = some (.slice (some ⟨r.gB, 0, none⟩) N r.cB) := hr.cell 0
  have s1 : W3.cell? ⟨w.heap.size, 1, none⟩ = some (.slice (some ⟨r.gD, 0, none⟩) n r.cD) := hr.cell 1
  have s2 : W3.cell? ⟨w.heap.size, 2, none⟩ = some (.int .i64 r.wr) := hr.cell 2
  have HS4 := hide hr
  have HQ4 := hide hq
  have HH0 : Hid (HandleAt W3) := hide (handle_keep HI.out.handle hb)
  have HH : Hid (HandleAt W3.drew) := HH0
  have HBw := hide hb
  clear hr hq hA hb
  refine wp_region_held_drew (S := (fun V => RowAt V w.heap.size (r.v N n) 31)) (by kernel_rfl) ?_ (fun hHeld => ?_)
  · exact HS4.out.dr
  obtain ⟨V, hV⟩ : ∃ V, W3.drew = V := ⟨_, rfl⟩
  have HQ : Hid (RowAt V (w.heap.size + 1 + 1) zR 31) := hide (hV ▸ HQ4.out.dr)
  have HV : Hid (Below W3.heap.size W3 V) := hide (hV ▸ (Below.refl _ W3).drew)
  have HHd : Hid (HandleAt V) := hide (handle_keep HH0.out HV.out)
  rw [hV] at hHeld ⊢
  clear hV
  refine wpAnyH_take (i := 0) (oi := ?oi1) (v := .agg (r.v N n)) ?hi1 (by kernel_rfl) (by kernel_rfl) (by kernel_rfl) ?hQ1 ?hy1 (by assumption) ?rest1
  case hi1 => (simp only [List.getElem?_toArray, List.getElem?_cons_zero]; rfl)
  case hQ1 => exact fun _ _ _ h => h
  case hy1 => exact y_load w.heap.size (r.v N n) _ (fun V hV => hV) _ Tryz.underlying31 rfl size_R rfl
  simp only [Act.put, List.setIfInBounds_toArray, List.set_cons_zero, List.set_cons_succ]
  refine wpAnyH_take (i := 1) (oi := ?oi2) (v := .int .u32 0) ?hi2 (by kernel_rfl) (by kernel_rfl) (by kernel_rfl) ?hQ2 ?hy2 (by assumption) ?rest2
  case hi2 => (simp only [List.getElem?_toArray, List.getElem?_cons_zero, List.getElem?_cons_succ]; rfl)
  case hQ2 => exact fun _ _ _ h => h
  case hy2 => exact Or.inl ⟨by rfl, by (intro w hSw; (try dsimp only at hSw); go_simp )⟩
  simp only [Act.put, List.setIfInBounds_toArray, List.set_cons_zero, List.set_cons_succ]
  refine wpAnyH_take (i := 2) (oi := ?oi3) (v := .int .u32 0) ?hi3 (by kernel_rfl) (by kernel_rfl) (by kernel_rfl) ?hQ3 ?hy3 (by assumption) ?rest3
  case hi3 => (simp only [List.getElem?_toArray, List.getElem?_cons_zero, List.getElem?_cons_succ]; rfl)
  case hQ3 => exact fun _ _ _ h => h
  case hy3 => exact Or.inl ⟨by rfl, by (intro w hSw; (try dsimp only at hSw); go_simp )⟩
  simp only [Act.put, List.setIfInBounds_toArray, List.set_cons_zero, List.set_cons_succ]
  refine wpAnyH_take (i := 3) (oi := ?oi4) (v := .bool true) ?hi4 (by kernel_rfl) (by kernel_rfl) (by kernel_rfl) ?hQ4 ?hy4 (by assumption) ?rest4
  case hi4 => (simp only [List.getElem?_toArray, List.getElem?_cons_zero, List.getElem?_cons_succ]; rfl)
  case hQ4 => exact fun _ _ _ h => h
  case hy4 => exact Or.inl ⟨by rfl, by (intro w hSw; (try dsimp only at hSw); go_simp )⟩
  simp only [Act.put, List.setIfInBounds_toArray, List.set_cons_zero, List.set_cons_succ]
  refine wpAnyH_take (i := 4) (oi := ?oi5) (v := .bool true) ?hi5 (by kernel_rfl) (by kernel_rfl) (by kernel_rfl) ?hQ5 ?hy5 (by assumption) ?rest5
  case hi5 => (simp only [List.getElem?_toArray, List.getElem?_cons_zero, List.getElem?_cons_succ]; rfl)
  case hQ5 => exact fun _ _ _ h => h
  case hy5 => exact Or.inl ⟨by rfl, by (intro w hSw; (try dsimp only at hSw); go_simp )⟩
  simp only [Act.put, List.setIfInBounds_toArray, List.set_cons_zero, List.set_cons_succ]
  refine wpAnyH_take (i := 5) (oi := ?oi6) (v := .iface 54 (.int .i64 4)) ?hi6 (by kernel_rfl) (by kernel_rfl) (by kernel_rfl) ?hQ6 ?hy6 (by assumption) ?rest6
  case hi6 => (simp only [List.getElem?_toArray, List.getElem?_cons_zero, List.getElem?_cons_succ]; rfl)
  case hQ6 => exact fun _ _ _ h => h
  case hy6 => exact Or.inl ⟨by rfl, by (intro w hSw; (try dsimp only at hSw); go_simp )⟩
  simp only [Act.put, List.setIfInBounds_toArray, List.set_cons_zero, List.set_cons_succ]
  refine wpAnyH_take (i := 7) (oi := ?oi7) (v := .int .i64 4) ?hi7 (by kernel_rfl) (by kernel_rfl) (by kernel_rfl) ?hQ7 ?hy7 (by assumption) ?rest7
  case hi7 => (simp only [List.getElem?_toArray, List.getElem?_cons_zero, List.getElem?_cons_succ]; rfl)
  case hQ7 => exact fun _ _ _ h => h
  case hy7 => exact Or.inl ⟨by rfl, by (intro w hSw; (try dsimp only at hSw); go_simp )⟩
  simp only [Act.put, List.setIfInBounds_toArray, List.set_cons_zero, List.set_cons_succ]
  refine wpAnyH_ready (rs := [6]) (by kernel_rfl) (by simp) ?_
  refine AllReadyH.cons (o := ?oi8) ?hi8 (fun K hK => ?_) AllReadyH.nil
  case hi8 => (simp only [List.getElem?_toArray, List.getElem?_cons_zero, List.getElem?_cons_succ]; rfl)
  rw [if_pos (by rfl)]
  go_simp
  (with_reducible refine (HN.out V HHd.out).mono ?_)
  rintro e Va ⟨rfl, hbc⟩
  have hH2 := hide (hHeld.bl hbc)
  replace HV := hide (HV.out.trans (hbc.mono HV.out.size))
  replace HQ := hide (HQ.out.bl hbc)
  replace HHd := hide (handle_keep HHd.out hbc)
  clear hHeld hbc
  go_simp
  refine hK.out _ _ ?_ (fun hHeld => ?_)
  · exact hH2.out
  clear hK K
  clear hH2
  refine wpAnyH_take (i := 8) (oi := ?oi9) (v := .bool true) ?hi9 (by kernel_rfl) (by kernel_rfl) (by kernel_rfl) ?hQ9 ?hy9 (by assumption) ?rest9
  case hi9 => (simp only [List.getElem?_toArray, List.getElem?_cons_zero, List.getElem?_cons_succ]; rfl)
  case hQ9 => exact fun _ _ _ h => h
  case hy9 => exact Or.inl ⟨by rfl, by (intro w hSw; (try dsimp only at hSw); go_simp )⟩
  simp only [Act.put, List.setIfInBounds_toArray, List.set_cons_zero, List.set_cons_succ]
  refine wpAnyH_take (i := 9) (oi := ?oi10) (v := .bool true) ?hi10 (by kernel_rfl) (by kernel_rfl) (by kernel_rfl) ?hQ10 ?hy10 (by assumption) ?rest10
  case hi10 => (simp only [List.getElem?_toArray, List.getElem?_cons_zero, List.getElem?_cons_succ]; rfl)
  case hQ10 => exact fun _ _ _ h => h
  case hy10 => exact Or.inl ⟨by rfl, by (intro w hSw; (try dsimp only at hSw); go_simp )⟩
  simp only [Act.put, List.setIfInBounds_toArray, List.set_cons_zero, List.set_cons_succ]
  refine wpAnyH_take (i := 10) (oi := ?oi11) (v := .bool true) ?hi11 (by kernel_rfl) (by kernel_rfl) (by kernel_rfl) ?hQ11 ?hy11 (by assumption) ?rest11
  case hi11 => (simp only [List.getElem?_toArray, List.getElem?_cons_zero, List.getElem?_cons_succ]; rfl)
  case hQ11 => exact fun _ _ _ h => h
  case hy11 => exact Or.inl ⟨by rfl, by (intro w hSw; (try dsimp only at hSw); go_simp )⟩
  simp only [Act.put, List.setIfInBounds_toArray, List.set_cons_zero, List.set_cons_succ]
  refine wpAnyH_take (i := 11) (oi := ?oi12) (v := .iface 54 (.int .i64 4)) ?hi12 (by kernel_rfl) (by kernel_rfl) (by kernel_rfl) ?hQ12 ?hy12 (by assumption) ?rest12
  case hi12 => (simp only [List.getElem?_toArray, List.getElem?_cons_zero, List.getElem?_cons_succ]; rfl)
  case hQ12 => exact fun _ _ _ h => h
  case hy12 => exact Or.inl ⟨by rfl, by (intro w hSw; (try dsimp only at hSw); go_simp )⟩
  simp only [Act.put, List.setIfInBounds_toArray, List.set_cons_zero, List.set_cons_succ]
  refine wpAnyH_take (i := 13) (oi := ?oi13) (v := .int .i64 4) ?hi13 (by kernel_rfl) (by kernel_rfl) (by kernel_rfl) ?hQ13 ?hy13 (by assumption) ?rest13
  case hi13 => (simp only [List.getElem?_toArray, List.getElem?_cons_zero, List.getElem?_cons_succ]; rfl)
  case hQ13 => exact fun _ _ _ h => h
  case hy13 => exact Or.inl ⟨by rfl, by (intro w hSw; (try dsimp only at hSw); go_simp )⟩
  simp only [Act.put, List.setIfInBounds_toArray, List.set_cons_zero, List.set_cons_succ]
  refine wpAnyH_ready (rs := [12]) (by kernel_rfl) (by simp) ?_
  refine AllReadyH.cons (o := ?oi14) ?hi14 (fun K hK => ?_) AllReadyH.nil
  case hi14 => (simp only [List.getElem?_toArray, List.getElem?_cons_zero, List.getElem?_cons_succ]; rfl)
  rw [if_pos (by rfl)]
  go_simp
  (with_reducible refine (HN.out Va HHd.out).mono ?_)
  rintro e Vb ⟨rfl, hbc⟩
  have hH2 := hide (hHeld.bl hbc)
  replace HV := hide (HV.out.trans (hbc.mono HV.out.size))
  replace HQ := hide (HQ.out.bl hbc)
  replace HHd := hide (handle_keep HHd.out hbc)
  clear hHeld hbc
  go_simp
  refine hK.out _ _ ?_ (fun hHeld => ?_)
  · exact hH2.out
  clear hK K
  clear hH2
  refine wpAnyH_take (i := 14) (oi := ?oi15) (v := .bool true) ?hi15 (by kernel_rfl) (by kernel_rfl) (by kernel_rfl) ?hQ15 ?hy15 (by assumption) ?rest15
  case hi15 => (simp only [List.getElem?_toArray, List.getElem?_cons_zero, List.getElem?_cons_succ]; rfl)
  case hQ15 => exact fun _ _ _ h => h
  case hy15 => exact Or.inl ⟨by rfl, by (intro w hSw; (try dsimp only at hSw); go_simp )⟩
  simp only [Act.put, List.setIfInBounds_toArray, List.set_cons_zero, List.set_cons_succ]
  refine wpAnyH_take (i := 15) (oi := ?oi16) (v := .bool true) ?hi16 (by kernel_rfl) (by kernel_rfl) (by kernel_rfl) ?hQ16 ?hy16 (by assumption) ?rest16
  case hi16 => (simp only [List.getElem?_toArray, List.getElem?_cons_zero, List.getElem?_cons_succ]; rfl)
  case hQ16 => exact fun _ _ _ h => h
  case hy16 => exact Or.inl ⟨by rfl, by (intro w hSw; (try dsimp only at hSw); go_simp )⟩
  simp only [Act.put, List.setIfInBounds_toArray, List.set_cons_zero, List.set_cons_succ]
  refine wpAnyH_take (i := 16) (oi := ?oi17) (v := .bool true) ?hi17 (by kernel_rfl) (by kernel_rfl) (by kernel_rfl) ?hQ17 ?hy17 (by assumption) ?rest17
  case hi17 => (simp only [List.getElem?_toArray, List.getElem?_cons_zero, List.getElem?_cons_succ]; rfl)
  case hQ17 => exact fun _ _ _ h => h
  case hy17 => exact Or.inl ⟨by rfl, by (intro w hSw; (try dsimp only at hSw); go_simp )⟩
  simp only [Act.put, List.setIfInBounds_toArray, List.set_cons_zero, List.set_cons_succ]
  refine wpAnyH_take (i := 17) (oi := ?oi18) (v := .slice none 0 0) ?hi18 (by kernel_rfl) (by kernel_rfl) (by kernel_rfl) ?hQ18 ?hy18 (by assumption) ?rest18
  case hi18 => (simp only [List.getElem?_toArray, List.getElem?_cons_zero, List.getElem?_cons_succ]; rfl)
  case hQ18 => exact fun _ _ _ h => h
  case hy18 => exact Or.inl ⟨by rfl, by (intro w hSw; (try dsimp only at hSw); go_simp )⟩
  simp only [Act.put, List.setIfInBounds_toArray, List.set_cons_zero, List.set_cons_succ]
  refine wpAnyH_take (i := 19) (oi := ?oi19) (v := .slice none 0 0) ?hi19 (by kernel_rfl) (by kernel_rfl) (by kernel_rfl) ?hQ19 ?hy19 (by assumption) ?rest19
  case hi19 => (simp only [List.getElem?_toArray, List.getElem?_cons_zero, List.getElem?_cons_succ]; rfl)
  case hQ19 => exact fun _ _ _ h => h
  case hy19 => exact Or.inl ⟨by rfl, by (intro w hSw; (try dsimp only at hSw); go_simp )⟩
  simp only [Act.put, List.setIfInBounds_toArray, List.set_cons_zero, List.set_cons_succ]
  refine wpAnyH_take (i := 18) (oi := ?oi20) (v := .string ByteArray.empty) ?hi20 (by kernel_rfl) (by kernel_rfl) (by kernel_rfl) ?hQ20 ?hy20 (by assumption) ?rest20
  case hi20 => (simp only [List.getElem?_toArray, List.getElem?_cons_zero, List.getElem?_cons_succ]; rfl)
  case hQ20 => exact fun _ _ _ h => h
  case hy20 => exact Or.inl ⟨by rfl, by (intro V9 hV9; have hc9 := text_nil V9; go_simp)⟩
  simp only [Act.put, List.setIfInBounds_toArray, List.set_cons_zero, List.set_cons_succ]
  refine wpAnyH_take (i := 20) (oi := ?oi21) (v := .string ByteArray.empty) ?hi21 (by kernel_rfl) (by kernel_rfl) (by kernel_rfl) ?hQ21 ?hy21 (by assumption) ?rest21
  case hi21 => (simp only [List.getElem?_toArray, List.getElem?_cons_zero, List.getElem?_cons_succ]; rfl)
  case hQ21 => exact fun _ _ _ h => h
  case hy21 => exact Or.inl ⟨by rfl, by (intro V9 hV9; have hc9 := text_nil V9; go_simp)⟩
  simp only [Act.put, List.setIfInBounds_toArray, List.set_cons_zero, List.set_cons_succ]
  refine wpAnyH_take (i := 21) (oi := ?oi22) (v := .bool true) ?hi22 (by kernel_rfl) (by kernel_rfl) (by kernel_rfl) ?hQ22 ?hy22 (by assumption) ?rest22
  case hi22 => (simp only [List.getElem?_toArray, List.getElem?_cons_zero, List.getElem?_cons_succ]; rfl)
  case hQ22 => exact fun _ _ _ h => h
  case hy22 => exact Or.inl ⟨by rfl, by (intro w hSw; (try dsimp only at hSw); go_simp )⟩
  simp only [Act.put, List.setIfInBounds_toArray, List.set_cons_zero, List.set_cons_succ]
  refine wpAnyH_take (i := 22) (oi := ?oi23) (v := .bool true) ?hi23 (by kernel_rfl) (by kernel_rfl) (by kernel_rfl) ?hQ23 ?hy23 (by assumption) ?rest23
  case hi23 => (simp only [List.getElem?_toArray, List.getElem?_cons_zero, List.getElem?_cons_succ]; rfl)
  case hQ23 => exact fun _ _ _ h => h
  case hy23 => exact Or.inl ⟨by rfl, by (intro w hSw; (try dsimp only at hSw); go_simp )⟩
  simp only [Act.put, List.setIfInBounds_toArray, List.set_cons_zero, List.set_cons_succ]
  refine wpAnyH_ready (rs := [23]) (by kernel_rfl) (by simp) ?_
  refine AllReadyH.cons (o := ?oi24) ?hi24 (fun K hK => ?_) AllReadyH.nil
  case hi24 => (simp only [List.getElem?_toArray, List.getElem?_cons_zero, List.getElem?_cons_succ]; rfl)
  rw [if_pos (by rfl)]
  (with_reducible refine s_store (w.heap.size + 1 + 1) ?_ (r.v N n) ?_ zR _ HQ.out (size_Rv r N n) rfl (v_one r N n) ?_)
  · exact rfl
  · exact rfl
  intro Vc hnew ho
  have hr2 := hHeld.only ho (by omega)
  clear hHeld
  refine hK.out _ _ ?_ (fun hHeld => ?_)
  · exact hr2
  clear hK K
  refine wpAnyH_take (i := 24) (oi := ?oi25) (v := .bool true) ?hi25 (by kernel_rfl) (by kernel_rfl) (by kernel_rfl) ?hQ25 ?hy25 (by assumption) ?rest25
  case hi25 => (simp only [List.getElem?_toArray, List.getElem?_cons_zero, List.getElem?_cons_succ]; rfl)
  case hQ25 => exact fun _ _ _ h => h
  case hy25 => exact Or.inl ⟨by rfl, by (intro w hSw; (try dsimp only at hSw); go_simp )⟩
  simp only [Act.put, List.setIfInBounds_toArray, List.set_cons_zero, List.set_cons_succ]
  refine wpAnyH_done (by kernel_rfl) ?_ _
  go_wp2
  have hM : MOut W3 W3 B b P D m m false := ⟨HI.out.ram.bl HBw.out, Kept.refl _ _ _, Stepped.looked (Looked.refl m) (.inl rfl)⟩
  refine bodyPost_ret (results_cell_tmp_row Tryz.results8 _ _ (w.heap.size + 1 + 1) _ _ _ _ rfl hnew Tryz.underlying31 rfl size_R) rfl ?_
  exact step_only HI.out HBw.out hM rfl HV.out (HI.out.ref.bl (HBw.out.trans (HV.out.mono HBw.out.size))) (fun x hx => .inl hx) (by omega) HQ2.out ho true
set_option maxRecDepth 100000 in
set_option maxHeartbeats 4000000 in
theorem step_digest_ok {B b P D N n : Nat} {m : Mem} {r : RP} (hI : StepIn w B b P D N n m r) (a : Act5) (hk : a.kind = 8) (p : Nat) (hp : p < n) (hkp : a.k = p) (hsm : ∀ p j, m.dat p j < 256) :
    Calls Tryz.prog 8 #[.pointer (some ⟨b, 0, none⟩), .agg (r.v N n), .agg a.cells] w (StepOut w B b P D N n m r false) := by
  have hkd := kind_eq a
  rw [hk] at hkd
  have HI := hide hI
  have HO0 : Hid (∀ x, w.heap.size ≤ x → ¬ m.owns b P D x) := hide (fun x hx h => by have := hI.ram.owned h; omega)
  have hmn := hI.same
  have HPn := hide hp
  have HPm : Hid (p < m.n) := hide (by rw [hmn]; exact hp)
  have HNp : Hid (4096 * p + 4096 ≤ N) := hide (by have := hI.ref.few.2.2; omega)
  have HSm : Hid (∀ p j, m.dat p j < 256) := hide hsm
  have HPm1 : Hid (∀ m1, Looked m m1 → p < m1.n) := hide (fun m1 h => by rw [h.n, hmn]; exact hp)
  have HN := hide (fun W (_ : HandleAt W) => num_nil W)
  clear hI hp hmn hsm
  go_enter Tryz.func8, Tryz.ntmps8
  go_upto_region 34 with (first | ((with_reducible refine bx_R w.heap.size r N n ?_ ?_ ?_); exact rfl; exact rfl; intro W hr hb hz0) | ((with_reducible refine bx_A (w.heap.size + 1) a.cells ?_ ?_ ?_); exact hz0.out; exact rfl; intro W hA hb' hz'; replace hr := hr.bl (hz0.out ▸ hb'); replace hb := hb.trans (hb'.mono (by omega)); replace hz0 := hz') | ((with_reducible refine al_R (w.heap.size + 1 + 1) ?_ ?_); exact hz0.out; intro W0 hq hb' hz'; replace hr := hr.bl (hz0.out ▸ hb'); replace hA := hA.bl (hz0.out ▸ hb'); replace hb := hb.trans (hb'.mono (by omega)); replace hz0 := hz'; have HB0 := hide hb; have HQ0 := hide hq.lt) | ((with_reducible refine la_0 (w.heap.size + 1) a hA ?_ ?_); exact rfl) | ((with_reducible refine la_2 (w.heap.size + 1) a hA ?_ ?_); exact rfl; rw [hkp]) | ((with_reducible refine ld_R w.heap.size _ N n hr ?_ ?_); exact rfl) | (go_at_call 28; refine (digest_z (HI.out.ram.bl hb) (Nat.le_trans HI.out.base hb.size) p HPm.out).mono ?_; rintro e W1 ⟨⟨x1, rfl⟩, ⟨m1, hL1, hM1, hz1⟩, hK1⟩; replace hr := hr.kept hK1 (HO0.out _ (by omega)); replace hA := hA.kept hK1 (HO0.out _ (by omega)); replace hq := hq.kept hK1 (HO0.out _ (by omega)); have hk1 := (Kept.of (own := m.owns b P D) HB0.out HI.out.base).trans hK1; have hR1 := HI.out.ref.same (fun x hx => hk1.other x (HI.out.ref.lt hx) (fun h => HI.out.off x hx (.inl h))); have HL1 := hide hL1; have HM1 := hide hM1; have HZ1 := hide hz1; have HK0 := hide hK1; have HK1 := hide hk1; have HR1 := hide hR1; clear hL1 hM1 hz1 hK1 hk1 hR1) | (go_at_call 29; refine (rpage_ok HR1.out p HPn.out).mono ?_; rintro e W2 ⟨⟨o, c, rfl, ho4, hc1, hc2⟩, hx5⟩; replace hr := hr.bl hx5; replace hA := hA.bl hx5; replace hq := hq.bl hx5; have HR2 := hide (HR1.out.bl hx5); have HM2 := hide (HM1.out.bl hx5); have HB2 := hide hx5; have HO4 := hide ho4; have HC1 := hide hc1; have HC2 := hide hc2; obtain ⟨N3, hN3⟩ : ∃ k, W2.heap.size = k := ⟨_, rfl⟩; have HN3 := hide hN3; have HNQ : Hid (w.heap.size + 1 + 1 < N3) := hide (hN3 ▸ hq.lt); clear ho4 hc1 hc2 hx5 hN3) | (go_at_call 13; refine (page_z HM2.out (Nat.le_trans HI.out.base (Nat.le_trans HK1.out.size HB2.out.size)) p (HPm1.out m1 HL1.out)).mono ?_; rw [HN3.out]; rintro e W3 ⟨rfl, hH3, ⟨m2, hL2, hM3, hz2⟩, hK2⟩; replace hr := hr.kept hK2 (fun h => HO0.out _ (by omega) (HL1.out.owns.1 h)); replace hA := hA.kept hK2 (fun h => HO0.out _ (by omega) (HL1.out.owns.1 h)); replace hq := hq.kept hK2 (fun h => HO0.out _ (by omega) (HL1.out.owns.1 h)); have hR3 := HR2.out.same (fun x hx => hK2.other x (HR2.out.lt hx) (fun h => HI.out.off x hx (.inl (HL1.out.owns.1 h)))); have HH3 := hide hH3; have HL2 := hide hL2; have HM3 := hide hM3; have HZ2 := hide hz2; have HK2 := hide hK2; have HR3 := hide hR3; clear hH3 hL2 hM3 hz2 hK2 hR3) | (go_at_call 30; refine (rdigest_any HC1.out HC2.out (f := fun j => m.at (o + j)) (fun j hj => HR3.out.bytes.cell (j := o + j) (by (have := HO4.out; have := HNp.out; omega)))).mono ?_; rintro e W9 ⟨⟨x2, rfl⟩, rfl⟩))
  have HS4 := hide hr
  have HQ4 := hide hq
  have hkA : Kept B w W9 (m.owns b P D) := (HK1.out.trans (Kept.of HB2.out (Nat.le_trans HI.out.base HK1.out.size))).trans (HK2.out.mono (fun x h => HL1.out.owns.1 h))
  have hk0 : Kept B W0 W9 (m.owns b P D) := (HK0.out.trans (Kept.of HB2.out (Nat.le_trans HI.out.base HK1.out.size))).trans (HK2.out.mono (fun x h => HL1.out.owns.1 h))
  have HH0 : Hid (HandleAt W9) := hide (handle_bl HI.out.handle HI.out.low hkA.below)
  have HG1 : Hid (N3 < W9.heap.size) := hide HH3.out.lt
  have HGB : Hid (r.gB < W9.heap.size) := hide HR3.out.bytes.lt
  have HGw : Hid (r.gB < w.heap.size) := hide HI.out.ref.bytes.lt
  have hMO : MOut W0 W9 B b P D m m2 false := ⟨HM3.out, hk0, Stepped.looked (HL1.out.trans HL2.out) (by
    have hs := HN3.out
    have h01 := HK0.out.size
    have h12 := HB2.out.size
    rcases HZ2.out with e | ⟨y, e1, e2⟩
    · rcases HZ1.out with e3 | ⟨y, e3, e4⟩
      · exact .inl (e.trans e3)
      · exact .inr ⟨y, e.trans e3, e4⟩
    · exact .inr ⟨y, e1, by omega⟩)⟩
  have hF2 : m2.at = m.at := (HL1.out.trans HL2.out).at
  have HMO := hide hMO
  have HF2 := hide hF2
  obtain ⟨st, hst⟩ : ∃ st : ByteArray, (⟨((List.range 4096).map fun j => UInt8.ofNat (m.dat p j)).toArray⟩ : ByteArray) = st := ⟨_, rfl⟩
  have HT1 : Hid (∀ V : World, V.heap[N3]? = W9.heap[N3]? → (convert 28 9 (.slice (some ⟨N3, 0, none⟩) 4096 4096)).run Tryz.prog V = .ok (.string st) V) := hide (fun V hV => by
    rw [← hst]
    exact conv_row (fun j => HSm.out p j) (fun j hj => by rw [Nat.zero_add, cell_of_heap hV j, HH3.out.cell hj, HL1.out.dat]))
  have HT2 : Hid (∀ V : World, V.heap[r.gB]? = W9.heap[r.gB]? → (convert 28 9 (.slice (some ⟨r.gB, o, none⟩) 4096 c)).run Tryz.prog V = .ok (.string st) V) := hide (fun V hV => by
    rw [← hst]
    have e4 := HO4.out
    have e5 := HNp.out
    exact conv_row (fun j => HSm.out p j) (fun j hj => by
      rw [cell_of_heap hV (o + j), HR3.out.bytes.cell (j := o + j) (by omega), m.dat_at p j hj, show o + j = p * 4096 + j by omega]))
  clear hst hr hq hA hkA hk0 hMO hF2
  cases hxx : (x1 == x2) with
  | false =>
    refine wp_region_held_drew (S := (fun V => RowAt V w.heap.size (r.v N n) 31 ∧ V.heap[N3]? = W9.heap[N3]? ∧ V.heap[r.gB]? = W9.heap[r.gB]?)) (by kernel_rfl) ?_ (fun hHeld => ?_)
    · exact ⟨HS4.out.dr, rfl, rfl⟩
    obtain ⟨V, hV⟩ : ∃ V, W9.drew = V := ⟨_, rfl⟩
    have HQ : Hid (RowAt V (w.heap.size + 1 + 1) zR 31) := hide (hV ▸ HQ4.out.dr)
    have HV : Hid (Below W9.heap.size W9 V) := hide (hV ▸ (Below.refl _ W9).drew)
    have HHd : Hid (HandleAt V) := hide (handle_keep HH0.out HV.out)
    rw [hV] at hHeld ⊢
    clear hV
    refine wpAnyH_take (i := 0) (oi := ?oi26) (v := .agg (r.v N n)) ?hi26 (by kernel_rfl) (by kernel_rfl) (by kernel_rfl) ?hQ26 ?hy26 (by assumption) ?rest26
    case hi26 => (simp only [List.getElem?_toArray, List.getElem?_cons_zero]; rfl)
    case hQ26 => exact fun _ _ _ h => h
    case hy26 => exact y_load w.heap.size (r.v N n) _ (fun V hV => hV.1) _ Tryz.underlying31 rfl size_R rfl
    simp only [Act.put, List.setIfInBounds_toArray, List.set_cons_zero, List.set_cons_succ]
    refine wpAnyH_take (i := 1) (oi := ?oi27) (v := .int .u32 x1) ?hi27 (by kernel_rfl) (by kernel_rfl) (by kernel_rfl) ?hQ27 ?hy27 (by assumption) ?rest27
    case hi27 => (simp only [List.getElem?_toArray, List.getElem?_cons_zero, List.getElem?_cons_succ]; rfl)
    case hQ27 => exact fun _ _ _ h => h
    case hy27 => exact Or.inl ⟨by rfl, by (intro w hSw; (try dsimp only at hSw); go_simp )⟩
    simp only [Act.put, List.setIfInBounds_toArray, List.set_cons_zero, List.set_cons_succ]
    refine wpAnyH_take (i := 2) (oi := ?oi28) (v := .int .u32 x2) ?hi28 (by kernel_rfl) (by kernel_rfl) (by kernel_rfl) ?hQ28 ?hy28 (by assumption) ?rest28
    case hi28 => (simp only [List.getElem?_toArray, List.getElem?_cons_zero, List.getElem?_cons_succ]; rfl)
    case hQ28 => exact fun _ _ _ h => h
    case hy28 => exact Or.inl ⟨by rfl, by (intro w hSw; (try dsimp only at hSw); go_simp )⟩
    simp only [Act.put, List.setIfInBounds_toArray, List.set_cons_zero, List.set_cons_succ]
    refine wpAnyH_take (i := 3) (oi := ?oi29) (v := .bool false) ?hi29 (by kernel_rfl) (by kernel_rfl) (by kernel_rfl) ?hQ29 ?hy29 (by assumption) ?rest29
    case hi29 => (simp only [List.getElem?_toArray, List.getElem?_cons_zero, List.getElem?_cons_succ]; rfl)
    case hQ29 => exact fun _ _ _ h => h
    case hy29 => exact Or.inl ⟨by rfl, by (intro w hSw; (try dsimp only at hSw); go_simp )⟩
    simp only [Act.put, List.setIfInBounds_toArray, List.set_cons_zero, List.set_cons_succ]
    refine wpAnyH_take (i := 4) (oi := ?oi30) (v := .bool false) ?hi30 (by kernel_rfl) (by kernel_rfl) (by kernel_rfl) ?hQ30 ?hy30 (by assumption) ?rest30
    case hi30 => (simp only [List.getElem?_toArray, List.getElem?_cons_zero, List.getElem?_cons_succ]; rfl)
    case hQ30 => exact fun _ _ _ h => h
    case hy30 => exact Or.inl ⟨by rfl, by (intro w hSw; (try dsimp only at hSw); go_simp )⟩
    simp only [Act.put, List.setIfInBounds_toArray, List.set_cons_zero, List.set_cons_succ]
    refine wpAnyH_take (i := 5) (oi := ?oi31) (v := undef) ?hi31 (by kernel_rfl) (by kernel_rfl) (by kernel_rfl) ?hQ31 ?hy31 (by assumption) ?rest31
    case hi31 => (simp only [List.getElem?_toArray, List.getElem?_cons_zero, List.getElem?_cons_succ]; rfl)
    case hQ31 => exact fun _ _ _ h => h
    case hy31 => exact Or.inr ⟨by rfl, rfl⟩
    simp only [Act.put, List.setIfInBounds_toArray, List.set_cons_zero, List.set_cons_succ]
    refine wpAnyH_take (i := 6) (oi := ?oi32) (v := undef) ?hi32 (by kernel_rfl) (by kernel_rfl) (by kernel_rfl) ?hQ32 ?hy32 (by assumption) ?rest32
    case hi32 => (simp only [List.getElem?_toArray, List.getElem?_cons_zero, List.getElem?_cons_succ]; rfl)
    case hQ32 => exact fun _ _ _ h => h
    case hy32 => exact Or.inr ⟨by rfl, rfl⟩
    simp only [Act.put, List.setIfInBounds_toArray, List.set_cons_zero, List.set_cons_succ]
    refine wpAnyH_take (i := 7) (oi := ?oi33) (v := undef) ?hi33 (by kernel_rfl) (by kernel_rfl) (by kernel_rfl) ?hQ33 ?hy33 (by assumption) ?rest33
    case hi33 => (simp only [List.getElem?_toArray, List.getElem?_cons_zero, List.getElem?_cons_succ]; rfl)
    case hQ33 => exact fun _ _ _ h => h
    case hy33 => exact Or.inr ⟨by rfl, rfl⟩
    simp only [Act.put, List.setIfInBounds_toArray, List.set_cons_zero, List.set_cons_succ]
    refine wpAnyH_take (i := 8) (oi := ?oi34) (v := undef) ?hi34 (by kernel_rfl) (by kernel_rfl) (by kernel_rfl) ?hQ34 ?hy34 (by assumption) ?rest34
    case hi34 => (simp only [List.getElem?_toArray, List.getElem?_cons_zero, List.getElem?_cons_succ]; rfl)
    case hQ34 => exact fun _ _ _ h => h
    case hy34 => exact Or.inr ⟨by rfl, rfl⟩
    simp only [Act.put, List.setIfInBounds_toArray, List.set_cons_zero, List.set_cons_succ]
    refine wpAnyH_take (i := 9) (oi := ?oi35) (v := .bool false) ?hi35 (by kernel_rfl) (by kernel_rfl) (by kernel_rfl) ?hQ35 ?hy35 (by assumption) ?rest35
    case hi35 => (simp only [List.getElem?_toArray, List.getElem?_cons_zero, List.getElem?_cons_succ]; rfl)
    case hQ35 => exact fun _ _ _ h => h
    case hy35 => exact Or.inl ⟨by rfl, by (intro w hSw; (try dsimp only at hSw); go_simp )⟩
    simp only [Act.put, List.setIfInBounds_toArray, List.set_cons_zero, List.set_cons_succ]
    refine wpAnyH_take (i := 10) (oi := ?oi36) (v := .bool false) ?hi36 (by kernel_rfl) (by kernel_rfl) (by kernel_rfl) ?hQ36 ?hy36 (by assumption) ?rest36
    case hi36 => (simp only [List.getElem?_toArray, List.getElem?_cons_zero, List.getElem?_cons_succ]; rfl)
    case hQ36 => exact fun _ _ _ h => h
    case hy36 => exact Or.inl ⟨by rfl, by (intro w hSw; (try dsimp only at hSw); go_simp )⟩
    simp only [Act.put, List.setIfInBounds_toArray, List.set_cons_zero, List.set_cons_succ]
    refine wpAnyH_take (i := 11) (oi := ?oi37) (v := undef) ?hi37 (by kernel_rfl) (by kernel_rfl) (by kernel_rfl) ?hQ37 ?hy37 (by assumption) ?rest37
    case hi37 => (simp only [List.getElem?_toArray, List.getElem?_cons_zero, List.getElem?_cons_succ]; rfl)
    case hQ37 => exact fun _ _ _ h => h
    case hy37 => exact Or.inr ⟨by rfl, rfl⟩
    simp only [Act.put, List.setIfInBounds_toArray, List.set_cons_zero, List.set_cons_succ]
    refine wpAnyH_take (i := 12) (oi := ?oi38) (v := undef) ?hi38 (by kernel_rfl) (by kernel_rfl) (by kernel_rfl) ?hQ38 ?hy38 (by assumption) ?rest38
    case hi38 => (simp only [List.getElem?_toArray, List.getElem?_cons_zero, List.getElem?_cons_succ]; rfl)
    case hQ38 => exact fun _ _ _ h => h
    case hy38 => exact Or.inr ⟨by rfl, rfl⟩
    simp only [Act.put, List.setIfInBounds_toArray, List.set_cons_zero, List.set_cons_succ]
    refine wpAnyH_take (i := 13) (oi := ?oi39) (v := undef) ?hi39 (by kernel_rfl) (by kernel_rfl) (by kernel_rfl) ?hQ39 ?hy39 (by assumption) ?rest39
    case hi39 => (simp only [List.getElem?_toArray, List.getElem?_cons_zero, List.getElem?_cons_succ]; rfl)
    case hQ39 => exact fun _ _ _ h => h
    case hy39 => exact Or.inr ⟨by rfl, rfl⟩
    simp only [Act.put, List.setIfInBounds_toArray, List.set_cons_zero, List.set_cons_succ]
    refine wpAnyH_take (i := 14) (oi := ?oi40) (v := undef) ?hi40 (by kernel_rfl) (by kernel_rfl) (by kernel_rfl) ?hQ40 ?hy40 (by assumption) ?rest40
    case hi40 => (simp only [List.getElem?_toArray, List.getElem?_cons_zero, List.getElem?_cons_succ]; rfl)
    case hQ40 => exact fun _ _ _ h => h
    case hy40 => exact Or.inr ⟨by rfl, rfl⟩
    simp only [Act.put, List.setIfInBounds_toArray, List.set_cons_zero, List.set_cons_succ]
    refine wpAnyH_take (i := 15) (oi := ?oi41) (v := .bool false) ?hi41 (by kernel_rfl) (by kernel_rfl) (by kernel_rfl) ?hQ41 ?hy41 (by assumption) ?rest41
    case hi41 => (simp only [List.getElem?_toArray, List.getElem?_cons_zero, List.getElem?_cons_succ]; rfl)
    case hQ41 => exact fun _ _ _ h => h
    case hy41 => exact Or.inl ⟨by rfl, by (intro w hSw; (try dsimp only at hSw); go_simp )⟩
    simp only [Act.put, List.setIfInBounds_toArray, List.set_cons_zero, List.set_cons_succ]
    refine wpAnyH_take (i := 16) (oi := ?oi42) (v := .bool false) ?hi42 (by kernel_rfl) (by kernel_rfl) (by kernel_rfl) ?hQ42 ?hy42 (by assumption) ?rest42
    case hi42 => (simp only [List.getElem?_toArray, List.getElem?_cons_zero, List.getElem?_cons_succ]; rfl)
    case hQ42 => exact fun _ _ _ h => h
    case hy42 => exact Or.inl ⟨by rfl, by (intro w hSw; (try dsimp only at hSw); go_simp )⟩
    simp only [Act.put, List.setIfInBounds_toArray, List.set_cons_zero, List.set_cons_succ]
    refine wpAnyH_take (i := 17) (oi := ?oi43) (v := undef) ?hi43 (by kernel_rfl) (by kernel_rfl) (by kernel_rfl) ?hQ43 ?hy43 (by assumption) ?rest43
    case hi43 => (simp only [List.getElem?_toArray, List.getElem?_cons_zero, List.getElem?_cons_succ]; rfl)
    case hQ43 => exact fun _ _ _ h => h
    case hy43 => exact Or.inr ⟨by rfl, rfl⟩
    simp only [Act.put, List.setIfInBounds_toArray, List.set_cons_zero, List.set_cons_succ]
    refine wpAnyH_take (i := 18) (oi := ?oi44) (v := undef) ?hi44 (by kernel_rfl) (by kernel_rfl) (by kernel_rfl) ?hQ44 ?hy44 (by assumption) ?rest44
    case hi44 => (simp only [List.getElem?_toArray, List.getElem?_cons_zero, List.getElem?_cons_succ]; rfl)
    case hQ44 => exact fun _ _ _ h => h
    case hy44 => exact Or.inr ⟨by rfl, rfl⟩
    simp only [Act.put, List.setIfInBounds_toArray, List.set_cons_zero, List.set_cons_succ]
    refine wpAnyH_take (i := 19) (oi := ?oi45) (v := undef) ?hi45 (by kernel_rfl) (by kernel_rfl) (by kernel_rfl) ?hQ45 ?hy45 (by assumption) ?rest45
    case hi45 => (simp only [List.getElem?_toArray, List.getElem?_cons_zero, List.getElem?_cons_succ]; rfl)
    case hQ45 => exact fun _ _ _ h => h
    case hy45 => exact Or.inr ⟨by rfl, rfl⟩
    simp only [Act.put, List.setIfInBounds_toArray, List.set_cons_zero, List.set_cons_succ]
    refine wpAnyH_take (i := 20) (oi := ?oi46) (v := undef) ?hi46 (by kernel_rfl) (by kernel_rfl) (by kernel_rfl) ?hQ46 ?hy46 (by assumption) ?rest46
    case hi46 => (simp only [List.getElem?_toArray, List.getElem?_cons_zero, List.getElem?_cons_succ]; rfl)
    case hQ46 => exact fun _ _ _ h => h
    case hy46 => exact Or.inr ⟨by rfl, rfl⟩
    simp only [Act.put, List.setIfInBounds_toArray, List.set_cons_zero, List.set_cons_succ]
    refine wpAnyH_take (i := 21) (oi := ?oi47) (v := undef) ?hi47 (by kernel_rfl) (by kernel_rfl) (by kernel_rfl) ?hQ47 ?hy47 (by assumption) ?rest47
    case hi47 => (simp only [List.getElem?_toArray, List.getElem?_cons_zero, List.getElem?_cons_succ]; rfl)
    case hQ47 => exact fun _ _ _ h => h
    case hy47 => exact Or.inr ⟨by rfl, rfl⟩
    simp only [Act.put, List.setIfInBounds_toArray, List.set_cons_zero, List.set_cons_succ]
    refine wpAnyH_take (i := 22) (oi := ?oi48) (v := .bool false) ?hi48 (by kernel_rfl) (by kernel_rfl) (by kernel_rfl) ?hQ48 ?hy48 (by assumption) ?rest48
    case hi48 => (simp only [List.getElem?_toArray, List.getElem?_cons_zero, List.getElem?_cons_succ]; rfl)
    case hQ48 => exact fun _ _ _ h => h
    case hy48 => exact Or.inl ⟨by rfl, by (intro w hSw; (try dsimp only at hSw); go_simp )⟩
    simp only [Act.put, List.setIfInBounds_toArray, List.set_cons_zero, List.set_cons_succ]
    refine wpAnyH_ready (rs := [23]) (by kernel_rfl) (by simp) ?_
    refine AllReadyH.cons (o := ?oi49) ?hi49 (fun K hK => ?_) AllReadyH.nil
    case hi49 => (simp only [List.getElem?_toArray, List.getElem?_cons_zero, List.getElem?_cons_succ]; rfl)
    rw [if_pos (by rfl)]
    (with_reducible refine s_store (w.heap.size + 1 + 1) ?_ (r.v N n) ?_ zR _ HQ.out (size_Rv r N n) rfl (v_one r N n) ?_)
    · exact rfl
    · exact rfl
    intro Vc hnew ho
    have hr2 := And.intro (hHeld.1.only ho (by omega)) (And.intro ((ho.row _ (by (have := HNQ.out; omega))).trans hHeld.2.1) ((ho.row _ (by (have := HGw.out; omega))).trans hHeld.2.2))
    clear hHeld
    refine hK.out _ _ ?_ (fun hHeld => ?_)
    · exact hr2
    clear hK K
    refine wpAnyH_take (i := 24) (oi := ?oi50) (v := .bool false) ?hi50 (by kernel_rfl) (by kernel_rfl) (by kernel_rfl) ?hQ50 ?hy50 (by assumption) ?rest50
    case hi50 => (simp only [List.getElem?_toArray, List.getElem?_cons_zero, List.getElem?_cons_succ]; rfl)
    case hQ50 => exact fun _ _ _ h => h
    case hy50 => exact Or.inl ⟨by rfl, by (intro w hSw; (try dsimp only at hSw); go_simp )⟩
    simp only [Act.put, List.setIfInBounds_toArray, List.set_cons_zero, List.set_cons_succ]
    refine wpAnyH_done (by kernel_rfl) ?_ _
    go_wp2

    refine bodyPost_ret (results_cell_tmp_row Tryz.results8 _ _ (w.heap.size + 1 + 1) _ _ _ _ rfl hnew Tryz.underlying31 rfl size_R) rfl ?_
    exact step_only HI.out HB0.out HMO.out HF2.out HV.out (HR3.out.bl HV.out) (fun x hx => .inl hx) (by omega) HQ0.out ho false
  | true =>
    refine wp_region_held_drew (S := (fun V => RowAt V w.heap.size (r.v N n) 31 ∧ V.heap[N3]? = W9.heap[N3]? ∧ V.heap[r.gB]? = W9.heap[r.gB]?)) (by kernel_rfl) ?_ (fun hHeld => ?_)
    · exact ⟨HS4.out.dr, rfl, rfl⟩
    obtain ⟨V, hV⟩ : ∃ V, W9.drew = V := ⟨_, rfl⟩
    have HQ : Hid (RowAt V (w.heap.size + 1 + 1) zR 31) := hide (hV ▸ HQ4.out.dr)
    have HV : Hid (Below W9.heap.size W9 V) := hide (hV ▸ (Below.refl _ W9).drew)
    have HHd : Hid (HandleAt V) := hide (handle_keep HH0.out HV.out)
    rw [hV] at hHeld ⊢
    clear hV
    refine wpAnyH_take (i := 0) (oi := ?oi51) (v := .agg (r.v N n)) ?hi51 (by kernel_rfl) (by kernel_rfl) (by kernel_rfl) ?hQ51 ?hy51 (by assumption) ?rest51
    case hi51 => (simp only [List.getElem?_toArray, List.getElem?_cons_zero]; rfl)
    case hQ51 => exact fun _ _ _ h => h
    case hy51 => exact y_load w.heap.size (r.v N n) _ (fun V hV => hV.1) _ Tryz.underlying31 rfl size_R rfl
    simp only [Act.put, List.setIfInBounds_toArray, List.set_cons_zero, List.set_cons_succ]
    refine wpAnyH_take (i := 1) (oi := ?oi52) (v := .int .u32 x1) ?hi52 (by kernel_rfl) (by kernel_rfl) (by kernel_rfl) ?hQ52 ?hy52 (by assumption) ?rest52
    case hi52 => (simp only [List.getElem?_toArray, List.getElem?_cons_zero, List.getElem?_cons_succ]; rfl)
    case hQ52 => exact fun _ _ _ h => h
    case hy52 => exact Or.inl ⟨by rfl, by (intro w hSw; (try dsimp only at hSw); go_simp )⟩
    simp only [Act.put, List.setIfInBounds_toArray, List.set_cons_zero, List.set_cons_succ]
    refine wpAnyH_take (i := 2) (oi := ?oi53) (v := .int .u32 x2) ?hi53 (by kernel_rfl) (by kernel_rfl) (by kernel_rfl) ?hQ53 ?hy53 (by assumption) ?rest53
    case hi53 => (simp only [List.getElem?_toArray, List.getElem?_cons_zero, List.getElem?_cons_succ]; rfl)
    case hQ53 => exact fun _ _ _ h => h
    case hy53 => exact Or.inl ⟨by rfl, by (intro w hSw; (try dsimp only at hSw); go_simp )⟩
    simp only [Act.put, List.setIfInBounds_toArray, List.set_cons_zero, List.set_cons_succ]
    refine wpAnyH_take (i := 3) (oi := ?oi54) (v := .bool true) ?hi54 (by kernel_rfl) (by kernel_rfl) (by kernel_rfl) ?hQ54 ?hy54 (by assumption) ?rest54
    case hi54 => (simp only [List.getElem?_toArray, List.getElem?_cons_zero, List.getElem?_cons_succ]; rfl)
    case hQ54 => exact fun _ _ _ h => h
    case hy54 => exact Or.inl ⟨by rfl, by (intro w hSw; (try dsimp only at hSw); go_simp )⟩
    simp only [Act.put, List.setIfInBounds_toArray, List.set_cons_zero, List.set_cons_succ]
    refine wpAnyH_take (i := 4) (oi := ?oi55) (v := .bool true) ?hi55 (by kernel_rfl) (by kernel_rfl) (by kernel_rfl) ?hQ55 ?hy55 (by assumption) ?rest55
    case hi55 => (simp only [List.getElem?_toArray, List.getElem?_cons_zero, List.getElem?_cons_succ]; rfl)
    case hQ55 => exact fun _ _ _ h => h
    case hy55 => exact Or.inl ⟨by rfl, by (intro w hSw; (try dsimp only at hSw); go_simp )⟩
    simp only [Act.put, List.setIfInBounds_toArray, List.set_cons_zero, List.set_cons_succ]
    refine wpAnyH_take (i := 5) (oi := ?oi56) (v := .nilIface) ?hi56 (by kernel_rfl) (by kernel_rfl) (by kernel_rfl) ?hQ56 ?hy56 (by assumption) ?rest56
    case hi56 => (simp only [List.getElem?_toArray, List.getElem?_cons_zero, List.getElem?_cons_succ]; rfl)
    case hQ56 => exact fun _ _ _ h => h
    case hy56 => exact Or.inl ⟨by rfl, by (intro w hSw; (try dsimp only at hSw); go_simp )⟩
    simp only [Act.put, List.setIfInBounds_toArray, List.set_cons_zero, List.set_cons_succ]
    refine wpAnyH_take (i := 7) (oi := ?oi57) (v := .int .i64 0) ?hi57 (by kernel_rfl) (by kernel_rfl) (by kernel_rfl) ?hQ57 ?hy57 (by assumption) ?rest57
    case hi57 => (simp only [List.getElem?_toArray, List.getElem?_cons_zero, List.getElem?_cons_succ]; rfl)
    case hQ57 => exact fun _ _ _ h => h
    case hy57 => exact Or.inl ⟨by rfl, by (intro w hSw; (try dsimp only at hSw); go_simp )⟩
    simp only [Act.put, List.setIfInBounds_toArray, List.set_cons_zero, List.set_cons_succ]
    refine wpAnyH_ready (rs := [6]) (by kernel_rfl) (by simp) ?_
    refine AllReadyH.cons (o := ?oi58) ?hi58 (fun K hK => ?_) AllReadyH.nil
    case hi58 => (simp only [List.getElem?_toArray, List.getElem?_cons_zero, List.getElem?_cons_succ]; rfl)
    rw [if_pos (by rfl)]
    go_simp
    (with_reducible refine (HN.out V HHd.out).mono ?_)
    rintro e Va ⟨rfl, hbc⟩
    have hH2 := hide (And.intro (hHeld.1.bl hbc) (And.intro ((hbc.block _ (Nat.lt_of_lt_of_le HG1.out HV.out.size)).trans hHeld.2.1) ((hbc.block _ (Nat.lt_of_lt_of_le HGB.out HV.out.size)).trans hHeld.2.2)))
    replace HV := hide (HV.out.trans (hbc.mono HV.out.size))
    replace HQ := hide (HQ.out.bl hbc)
    replace HHd := hide (handle_keep HHd.out hbc)
    clear hHeld hbc
    go_simp
    refine hK.out _ _ ?_ (fun hHeld => ?_)
    · exact hH2.out
    clear hK K
    clear hH2
    refine wpAnyH_take (i := 8) (oi := ?oi59) (v := .bool true) ?hi59 (by kernel_rfl) (by kernel_rfl) (by kernel_rfl) ?hQ59 ?hy59 (by assumption) ?rest59
    case hi59 => (simp only [List.getElem?_toArray, List.getElem?_cons_zero, List.getElem?_cons_succ]; rfl)
    case hQ59 => exact fun _ _ _ h => h
    case hy59 => exact Or.inl ⟨by rfl, by (intro w hSw; (try dsimp only at hSw); go_simp )⟩
    simp only [Act.put, List.setIfInBounds_toArray, List.set_cons_zero, List.set_cons_succ]
    refine wpAnyH_take (i := 9) (oi := ?oi60) (v := .bool true) ?hi60 (by kernel_rfl) (by kernel_rfl) (by kernel_rfl) ?hQ60 ?hy60 (by assumption) ?rest60
    case hi60 => (simp only [List.getElem?_toArray, List.getElem?_cons_zero, List.getElem?_cons_succ]; rfl)
    case hQ60 => exact fun _ _ _ h => h
    case hy60 => exact Or.inl ⟨by rfl, by (intro w hSw; (try dsimp only at hSw); go_simp )⟩
    simp only [Act.put, List.setIfInBounds_toArray, List.set_cons_zero, List.set_cons_succ]
    refine wpAnyH_take (i := 10) (oi := ?oi61) (v := .bool true) ?hi61 (by kernel_rfl) (by kernel_rfl) (by kernel_rfl) ?hQ61 ?hy61 (by assumption) ?rest61
    case hi61 => (simp only [List.getElem?_toArray, List.getElem?_cons_zero, List.getElem?_cons_succ]; rfl)
    case hQ61 => exact fun _ _ _ h => h
    case hy61 => exact Or.inl ⟨by rfl, by (intro w hSw; (try dsimp only at hSw); go_simp )⟩
    simp only [Act.put, List.setIfInBounds_toArray, List.set_cons_zero, List.set_cons_succ]
    refine wpAnyH_take (i := 11) (oi := ?oi62) (v := .nilIface) ?hi62 (by kernel_rfl) (by kernel_rfl) (by kernel_rfl) ?hQ62 ?hy62 (by assumption) ?rest62
    case hi62 => (simp only [List.getElem?_toArray, List.getElem?_cons_zero, List.getElem?_cons_succ]; rfl)
    case hQ62 => exact fun _ _ _ h => h
    case hy62 => exact Or.inl ⟨by rfl, by (intro w hSw; (try dsimp only at hSw); go_simp )⟩
    simp only [Act.put, List.setIfInBounds_toArray, List.set_cons_zero, List.set_cons_succ]
    refine wpAnyH_take (i := 13) (oi := ?oi63) (v := .int .i64 0) ?hi63 (by kernel_rfl) (by kernel_rfl) (by kernel_rfl) ?hQ63 ?hy63 (by assumption) ?rest63
    case hi63 => (simp only [List.getElem?_toArray, List.getElem?_cons_zero, List.getElem?_cons_succ]; rfl)
    case hQ63 => exact fun _ _ _ h => h
    case hy63 => exact Or.inl ⟨by rfl, by (intro w hSw; (try dsimp only at hSw); go_simp )⟩
    simp only [Act.put, List.setIfInBounds_toArray, List.set_cons_zero, List.set_cons_succ]
    refine wpAnyH_ready (rs := [12]) (by kernel_rfl) (by simp) ?_
    refine AllReadyH.cons (o := ?oi64) ?hi64 (fun K hK => ?_) AllReadyH.nil
    case hi64 => (simp only [List.getElem?_toArray, List.getElem?_cons_zero, List.getElem?_cons_succ]; rfl)
    rw [if_pos (by rfl)]
    go_simp
    (with_reducible refine (HN.out Va HHd.out).mono ?_)
    rintro e Vb ⟨rfl, hbc⟩
    have hH2 := hide (And.intro (hHeld.1.bl hbc) (And.intro ((hbc.block _ (Nat.lt_of_lt_of_le HG1.out HV.out.size)).trans hHeld.2.1) ((hbc.block _ (Nat.lt_of_lt_of_le HGB.out HV.out.size)).trans hHeld.2.2)))
    replace HV := hide (HV.out.trans (hbc.mono HV.out.size))
    replace HQ := hide (HQ.out.bl hbc)
    replace HHd := hide (handle_keep HHd.out hbc)
    clear hHeld hbc
    go_simp
    refine hK.out _ _ ?_ (fun hHeld => ?_)
    · exact hH2.out
    clear hK K
    clear hH2
    refine wpAnyH_take (i := 14) (oi := ?oi65) (v := .bool true) ?hi65 (by kernel_rfl) (by kernel_rfl) (by kernel_rfl) ?hQ65 ?hy65 (by assumption) ?rest65
    case hi65 => (simp only [List.getElem?_toArray, List.getElem?_cons_zero, List.getElem?_cons_succ]; rfl)
    case hQ65 => exact fun _ _ _ h => h
    case hy65 => exact Or.inl ⟨by rfl, by (intro w hSw; (try dsimp only at hSw); go_simp )⟩
    simp only [Act.put, List.setIfInBounds_toArray, List.set_cons_zero, List.set_cons_succ]
    refine wpAnyH_take (i := 15) (oi := ?oi66) (v := .bool true) ?hi66 (by kernel_rfl) (by kernel_rfl) (by kernel_rfl) ?hQ66 ?hy66 (by assumption) ?rest66
    case hi66 => (simp only [List.getElem?_toArray, List.getElem?_cons_zero, List.getElem?_cons_succ]; rfl)
    case hQ66 => exact fun _ _ _ h => h
    case hy66 => exact Or.inl ⟨by rfl, by (intro w hSw; (try dsimp only at hSw); go_simp )⟩
    simp only [Act.put, List.setIfInBounds_toArray, List.set_cons_zero, List.set_cons_succ]
    refine wpAnyH_take (i := 16) (oi := ?oi67) (v := .bool true) ?hi67 (by kernel_rfl) (by kernel_rfl) (by kernel_rfl) ?hQ67 ?hy67 (by assumption) ?rest67
    case hi67 => (simp only [List.getElem?_toArray, List.getElem?_cons_zero, List.getElem?_cons_succ]; rfl)
    case hQ67 => exact fun _ _ _ h => h
    case hy67 => exact Or.inl ⟨by rfl, by (intro w hSw; (try dsimp only at hSw); go_simp )⟩
    simp only [Act.put, List.setIfInBounds_toArray, List.set_cons_zero, List.set_cons_succ]
    refine wpAnyH_take (i := 17) (oi := ?oi68) (v := .slice (some ⟨N3, 0, none⟩) 4096 4096) ?hi68 (by kernel_rfl) (by kernel_rfl) (by kernel_rfl) ?hQ68 ?hy68 (by assumption) ?rest68
    case hi68 => (simp only [List.getElem?_toArray, List.getElem?_cons_zero, List.getElem?_cons_succ]; rfl)
    case hQ68 => exact fun _ _ _ h => h
    case hy68 => exact Or.inl ⟨by rfl, by (intro w hSw; (try dsimp only at hSw); go_simp )⟩
    simp only [Act.put, List.setIfInBounds_toArray, List.set_cons_zero, List.set_cons_succ]
    refine wpAnyH_take (i := 19) (oi := ?oi69) (v := .slice (some ⟨r.gB, o, none⟩) 4096 c) ?hi69 (by kernel_rfl) (by kernel_rfl) (by kernel_rfl) ?hQ69 ?hy69 (by assumption) ?rest69
    case hi69 => (simp only [List.getElem?_toArray, List.getElem?_cons_zero, List.getElem?_cons_succ]; rfl)
    case hQ69 => exact fun _ _ _ h => h
    case hy69 => exact Or.inl ⟨by rfl, by (intro w hSw; (try dsimp only at hSw); go_simp )⟩
    simp only [Act.put, List.setIfInBounds_toArray, List.set_cons_zero, List.set_cons_succ]
    refine wpAnyH_take (i := 18) (oi := ?oi70) (v := .string st) ?hi70 (by kernel_rfl) (by kernel_rfl) (by kernel_rfl) ?hQ70 ?hy70 (by assumption) ?rest70
    case hi70 => (simp only [List.getElem?_toArray, List.getElem?_cons_zero, List.getElem?_cons_succ]; rfl)
    case hQ70 => exact fun _ _ _ h => h
    case hy70 => exact Or.inl ⟨by rfl, by (intro V9 hV9; have hc9 := HT1.out V9 hV9.2.1; go_simp)⟩
    simp only [Act.put, List.setIfInBounds_toArray, List.set_cons_zero, List.set_cons_succ]
    refine wpAnyH_take (i := 20) (oi := ?oi71) (v := .string st) ?hi71 (by kernel_rfl) (by kernel_rfl) (by kernel_rfl) ?hQ71 ?hy71 (by assumption) ?rest71
    case hi71 => (simp only [List.getElem?_toArray, List.getElem?_cons_zero, List.getElem?_cons_succ]; rfl)
    case hQ71 => exact fun _ _ _ h => h
    case hy71 => exact Or.inl ⟨by rfl, by (intro V9 hV9; have hc9 := HT2.out V9 hV9.2.2; go_simp)⟩
    simp only [Act.put, List.setIfInBounds_toArray, List.set_cons_zero, List.set_cons_succ]
    refine wpAnyH_take (i := 21) (oi := ?oi72) (v := .bool true) ?hi72 (by kernel_rfl) (by kernel_rfl) (by kernel_rfl) ?hQ72 ?hy72 (by assumption) ?rest72
    case hi72 => (simp only [List.getElem?_toArray, List.getElem?_cons_zero, List.getElem?_cons_succ]; rfl)
    case hQ72 => exact fun _ _ _ h => h
    case hy72 => exact Or.inl ⟨by rfl, by (intro w hSw; (try dsimp only at hSw); go_simp )⟩
    simp only [Act.put, List.setIfInBounds_toArray, List.set_cons_zero, List.set_cons_succ]
    refine wpAnyH_take (i := 22) (oi := ?oi73) (v := .bool true) ?hi73 (by kernel_rfl) (by kernel_rfl) (by kernel_rfl) ?hQ73 ?hy73 (by assumption) ?rest73
    case hi73 => (simp only [List.getElem?_toArray, List.getElem?_cons_zero, List.getElem?_cons_succ]; rfl)
    case hQ73 => exact fun _ _ _ h => h
    case hy73 => exact Or.inl ⟨by rfl, by (intro w hSw; (try dsimp only at hSw); go_simp )⟩
    simp only [Act.put, List.setIfInBounds_toArray, List.set_cons_zero, List.set_cons_succ]
    refine wpAnyH_ready (rs := [23]) (by kernel_rfl) (by simp) ?_
    refine AllReadyH.cons (o := ?oi74) ?hi74 (fun K hK => ?_) AllReadyH.nil
    case hi74 => (simp only [List.getElem?_toArray, List.getElem?_cons_zero, List.getElem?_cons_succ]; rfl)
    rw [if_pos (by rfl)]
    (with_reducible refine s_store (w.heap.size + 1 + 1) ?_ (r.v N n) ?_ zR _ HQ.out (size_Rv r N n) rfl (v_one r N n) ?_)
    · exact rfl
    · exact rfl
    intro Vc hnew ho
    have hr2 := And.intro (hHeld.1.only ho (by omega)) (And.intro ((ho.row _ (by (have := HNQ.out; omega))).trans hHeld.2.1) ((ho.row _ (by (have := HGw.out; omega))).trans hHeld.2.2))
    clear hHeld
    refine hK.out _ _ ?_ (fun hHeld => ?_)
    · exact hr2
    clear hK K
    refine wpAnyH_take (i := 24) (oi := ?oi75) (v := .bool true) ?hi75 (by kernel_rfl) (by kernel_rfl) (by kernel_rfl) ?hQ75 ?hy75 (by assumption) ?rest75
    case hi75 => (simp only [List.getElem?_toArray, List.getElem?_cons_zero, List.getElem?_cons_succ]; rfl)
    case hQ75 => exact fun _ _ _ h => h
    case hy75 => exact Or.inl ⟨by rfl, by (intro w hSw; (try dsimp only at hSw); go_simp )⟩
    simp only [Act.put, List.setIfInBounds_toArray, List.set_cons_zero, List.set_cons_succ]
    refine wpAnyH_done (by kernel_rfl) ?_ _
    go_wp2

    refine bodyPost_ret (results_cell_tmp_row Tryz.results8 _ _ (w.heap.size + 1 + 1) _ _ _ _ rfl hnew Tryz.underlying31 rfl size_R) rfl ?_
    exact step_only HI.out HB0.out HMO.out HF2.out HV.out (HR3.out.bl HV.out) (fun x hx => .inl hx) (by omega) HQ0.out ho true
end Go.Proofs.YtficoenanfnijaaGreatDoor
