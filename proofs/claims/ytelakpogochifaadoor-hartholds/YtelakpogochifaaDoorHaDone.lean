/-
  What hart.Done and Fault answer.
-/
import Derived.Test.YtelakpogochifaaDoorHaBgn
import Derived.Test.YtelakpogochifaaDoorCsMath2
namespace Go.Proofs.YtelakpogochifaaDoor
open Go.RowKit
set_option linter.unusedVariables false

attribute [local go_sem] A6.at0 A6.at1 A6.at2 A6.at3 A6.at4 A6.at5

variable {ops : Array Oper} {rest : List Oper} {dst : Option Tmp} {ty : TypeId} {pos : String} {after : Array Edge} {a : Act} {x : Operand} {S : World → Prop}
theorem y_a (b : Nat) (i : A6) (hS : ∀ V, S V → RowAt V b i.cells 33) (hx : a.eval x = .pointer (some ⟨b, 0, none⟩)) :
    YieldsIf Tryd.prog ops S ⟨dst, .load 33 x, ty, pos, after, none⟩ (.agg i.cells) a := y_load b i.cells _ hS _ Tryd.underlying33 rfl size_acc hx
set_option maxHeartbeats 1000000 in
theorem fault_1 (h : H) (ok : h.Ok) (pl rd va : Nat) (n : Int) (sg : Bool) (hrd : rd < 32) (w : World) :
    Calls Tryd.prog 19 #[.agg h.cells, .agg (A6.cells ⟨1, pl, n, sg, (rd : Nat), va⟩)] w fun e w' => e = .returned (.agg (trapH h 5 pl).cells) ∧ Below w.heap.size w w' := by
  have HI := hide (fun w => isReg_yes rd hrd w)
  have HT := hide (fun w => trap_any h ok 5 pl (by decide) w)
  rw [show (((5 : Nat) : Int)) = 5 from rfl] at HT
  go_enter Tryd.func19, Tryd.ntmps19
  go_wp2_with (first | ((with_reducible refine bx_h w.heap.size h ?_ ?_ ?_); exact rfl; exact rfl; intro W hr hb hz) | ((with_reducible refine bx_a (w.heap.size + 1) ⟨1, pl, n, sg, (rd : Nat), va⟩ ?_ ?_ ?_); exact hz.out; exact rfl; intro W ha hb' hz'; replace hr := hr.bl (hz.out ▸ hb'); replace hb := hb.trans (hb'.mono (by omega)); replace hz := hz') | ((with_reducible refine al_h (w.heap.size + 2) ?_ ?_); exact hz.out; intro W hq hb' hz'; replace hr := hr.bl (hz.out ▸ hb'); replace ha := ha.bl (hz.out ▸ hb'); replace hb := hb.trans (hb'.mono (by omega)); replace hz := hz'; have fa := ha.cell) | (go_at_call 44; refine (HI.out _).mono ?_; rintro e W2 ⟨rfl, rfl⟩) | ((with_reducible refine ld_h w.heap.size _ hr ?_ ?_); exact rfl) | (go_at_call 22; refine (HT.out _).mono ?_; rintro e W ⟨rfl, hbc⟩; replace hr := hr.bl hbc; replace ha := ha.bl hbc; replace hq := hq.bl hbc; replace hb := below_bl rfl hb hbc) | ((with_reducible refine st_h (w.heap.size + 2) _ (trapH h 5 pl) hq ?_ ?_ ?_); exact rfl; exact rfl; intro W hnew ho; replace hr := hr.only ho (by omega); replace ha := ha.only ho (by omega); replace hq := hnew; replace hb := ho.bel _ _ (by omega) hb))
  refine bodyPost_ret (results_cell_row Tryd.results19 _ _ (w.heap.size + 2) _ _ _ _ rfl hq Tryd.underlying31 rfl size_hart) rfl ?_
  exact ⟨rfl, hb⟩
set_option maxHeartbeats 1000000 in
theorem fault_2 (h : H) (ok : h.Ok) (pl rd va : Nat) (n : Int) (sg : Bool) (hrd : rd < 32) (w : World) :
    Calls Tryd.prog 19 #[.agg h.cells, .agg (A6.cells ⟨2, pl, n, sg, (rd : Nat), va⟩)] w fun e w' => e = .returned (.agg (trapH h 7 pl).cells) ∧ Below w.heap.size w w' := by
  have HI := hide (fun w => isReg_yes rd hrd w)
  have HT := hide (fun w => trap_any h ok 7 pl (by decide) w)
  rw [show (((7 : Nat) : Int)) = 7 from rfl] at HT
  go_enter Tryd.func19, Tryd.ntmps19
  go_wp2_with (first | ((with_reducible refine bx_h w.heap.size h ?_ ?_ ?_); exact rfl; exact rfl; intro W hr hb hz) | ((with_reducible refine bx_a (w.heap.size + 1) ⟨2, pl, n, sg, (rd : Nat), va⟩ ?_ ?_ ?_); exact hz.out; exact rfl; intro W ha hb' hz'; replace hr := hr.bl (hz.out ▸ hb'); replace hb := hb.trans (hb'.mono (by omega)); replace hz := hz') | ((with_reducible refine al_h (w.heap.size + 2) ?_ ?_); exact hz.out; intro W hq hb' hz'; replace hr := hr.bl (hz.out ▸ hb'); replace ha := ha.bl (hz.out ▸ hb'); replace hb := hb.trans (hb'.mono (by omega)); replace hz := hz'; have fa := ha.cell) | (go_at_call 44; refine (HI.out _).mono ?_; rintro e W2 ⟨rfl, rfl⟩) | ((with_reducible refine ld_h w.heap.size _ hr ?_ ?_); exact rfl) | (go_at_call 22; refine (HT.out _).mono ?_; rintro e W ⟨rfl, hbc⟩; replace hr := hr.bl hbc; replace ha := ha.bl hbc; replace hq := hq.bl hbc; replace hb := below_bl rfl hb hbc) | ((with_reducible refine st_h (w.heap.size + 2) _ (trapH h 7 pl) hq ?_ ?_ ?_); exact rfl; exact rfl; intro W hnew ho; replace hr := hr.only ho (by omega); replace ha := ha.only ho (by omega); replace hq := hnew; replace hb := ho.bel _ _ (by omega) hb))
  refine bodyPost_ret (results_cell_row Tryd.results19 _ _ (w.heap.size + 2) _ _ _ _ rfl hq Tryd.underlying31 rfl size_hart) rfl ?_
  exact ⟨rfl, hb⟩
set_option maxHeartbeats 1000000 in
theorem done_2 (h : H) (ok : h.Ok) (pl rd va v : Nat) (n : Int) (sg : Bool) (hrd : rd < 32) (w : World) :
    Calls Tryd.prog 20 #[.agg h.cells, .agg (A6.cells ⟨2, pl, n, sg, (rd : Nat), va⟩), .int .u32 v] w fun e w' => e = .returned (.agg (nextH h).cells) ∧ Below w.heap.size w w' := by
  have HI := hide (fun w => isReg_yes rd hrd w)
  have HN := hide (fun w => next_any h ok w)
  go_enter Tryd.func20, Tryd.ntmps20
  go_wp2_with (first | ((with_reducible refine bx_h w.heap.size h ?_ ?_ ?_); exact rfl; exact rfl; intro W hr hb hz) | ((with_reducible refine bx_a (w.heap.size + 1) ⟨2, pl, n, sg, (rd : Nat), va⟩ ?_ ?_ ?_); exact hz.out; exact rfl; intro W ha hb' hz'; replace hr := hr.bl (hz.out ▸ hb'); replace hb := hb.trans (hb'.mono (by omega)); replace hz := hz') | ((with_reducible refine al_h (w.heap.size + 2) ?_ ?_); exact hz.out; intro W hq hb' hz'; replace hr := hr.bl (hz.out ▸ hb'); replace ha := ha.bl (hz.out ▸ hb'); replace hb := hb.trans (hb'.mono (by omega)); replace hz := hz'; have fa := ha.cell) | (go_at_call 44; refine (HI.out _).mono ?_; rintro e W2 ⟨rfl, rfl⟩) | ((with_reducible refine ld_h w.heap.size _ hr ?_ ?_); exact rfl) | (go_at_call 45; refine (HN.out _).mono ?_; rintro e W ⟨rfl, hbc⟩; replace hr := hr.bl hbc; replace ha := ha.bl hbc; replace hq := hq.bl hbc; replace hb := below_bl rfl hb hbc) | ((with_reducible refine st_h (w.heap.size + 2) _ (nextH h) hq ?_ ?_ ?_); exact rfl; exact rfl; intro W hnew ho; replace hr := hr.only ho (by omega); replace ha := ha.only ho (by omega); replace hq := hnew; replace hb := ho.bel _ _ (by omega) hb))
  refine bodyPost_ret (results_cell_row Tryd.results20 _ _ (w.heap.size + 2) _ _ _ _ rfl hq Tryd.underlying31 rfl size_hart) rfl ?_
  exact ⟨rfl, hb⟩
set_option maxHeartbeats 1000000 in
theorem done_1 (h : H) (ok : h.Ok) (pl rd va v : Nat) (n : Int) (sg : Bool) (hrd : rd < 32) (L : Nat) (hLl : L < 4294967296) (hL : Hid (∀ w, Calls Tryd.prog 47 #[.agg (A6.cells ⟨1, pl, n, sg, (rd : Nat), va⟩), .int .u32 v] w fun e w' => e = .returned (.int .u32 (L : Nat)) ∧ Below w.heap.size w w')) (w : World) :
    Calls Tryd.prog 20 #[.agg h.cells, .agg (A6.cells ⟨1, pl, n, sg, (rd : Nat), va⟩), .int .u32 v] w fun e w' => e = .returned (.agg (nextH (writeH h rd L)).cells) ∧ Below w.heap.size w w' := by
  have HI := hide (fun w => isReg_yes rd hrd w)
  have HW := hide (fun w => write_any h rd hrd L w)
  have HN := hide (fun w => next_any _ (writeH_ok ok rd hLl) w)
  go_enter Tryd.func20, Tryd.ntmps20
  go_wp2_with (first | ((with_reducible refine bx_h w.heap.size h ?_ ?_ ?_); exact rfl; exact rfl; intro W hr hb hz) | ((with_reducible refine bx_a (w.heap.size + 1) ⟨1, pl, n, sg, (rd : Nat), va⟩ ?_ ?_ ?_); exact hz.out; exact rfl; intro W ha hb' hz'; replace hr := hr.bl (hz.out ▸ hb'); replace hb := hb.trans (hb'.mono (by omega)); replace hz := hz') | ((with_reducible refine al_h (w.heap.size + 2) ?_ ?_); exact hz.out; intro W hq hb' hz'; replace hr := hr.bl (hz.out ▸ hb'); replace ha := ha.bl (hz.out ▸ hb'); replace hb := hb.trans (hb'.mono (by omega)); replace hz := hz'; have fa := ha.cell) | (go_at_call 44; refine (HI.out _).mono ?_; rintro e W2 ⟨rfl, rfl⟩))
  refine wp_region_held_drew (S := (fun V => RowAt V w.heap.size h.cells 31 ∧ RowAt V (w.heap.size + 1) (A6.cells ⟨1, pl, n, sg, (rd : Nat), va⟩) 33 ∧ Below w.heap.size w V)) (by kernel_rfl) ?_ (fun hHeld => ?_)
  · exact ⟨hr.dr, ha.dr, hb.drew⟩
  replace hq := hq.dr
  refine wpAnyH_take (i := 0) (oi := ?oi1) (v := .agg h.cells) ?hi1 (by kernel_rfl) (by kernel_rfl) (by kernel_rfl) ?hQ1 ?hy1 (by assumption) ?rest1
  case hi1 => (simp only [List.getElem?_toArray, List.getElem?_cons_zero]; rfl)
  case hQ1 => exact fun _ _ _ h => h
  case hy1 => exact y_h w.heap.size h (fun V hV => hV.1) rfl
  simp only [Act.put, List.setIfInBounds_toArray, List.set_cons_zero, List.set_cons_succ]
  refine wpAnyH_take (i := 1) (oi := ?oi2) (v := .pointer (some ⟨w.heap.size + 1, 4, none⟩)) ?hi2 (by kernel_rfl) (by kernel_rfl) (by kernel_rfl) ?hQ2 ?hy2 (by assumption) ?rest2
  case hi2 => (simp only [List.getElem?_toArray, List.getElem?_cons_zero, List.getElem?_cons_succ]; rfl)
  case hQ2 => exact fun _ _ _ h => h
  case hy2 => exact Or.inl ⟨by rfl, by (intro w hSw; (try dsimp only at hSw); go_simp )⟩
  simp only [Act.put, List.setIfInBounds_toArray, List.set_cons_zero, List.set_cons_succ]
  refine wpAnyH_take (i := 2) (oi := ?oi3) (v := .int .i64 (rd : Nat)) ?hi3 (by kernel_rfl) (by kernel_rfl) (by kernel_rfl) ?hQ3 ?hy3 (by assumption) ?rest3
  case hi3 => (simp only [List.getElem?_toArray, List.getElem?_cons_zero, List.getElem?_cons_succ]; rfl)
  case hQ3 => exact fun _ _ _ h => h
  case hy3 => exact y_int (w.heap.size + 1) 4 _ (fun V hV => (hV.2.1.cell 4).trans rfl) rfl
  simp only [Act.put, List.setIfInBounds_toArray, List.set_cons_zero, List.set_cons_succ]
  refine wpAnyH_take (i := 3) (oi := ?oi4) (v := .agg (A6.cells ⟨1, pl, n, sg, (rd : Nat), va⟩)) ?hi4 (by kernel_rfl) (by kernel_rfl) (by kernel_rfl) ?hQ4 ?hy4 (by assumption) ?rest4
  case hi4 => (simp only [List.getElem?_toArray, List.getElem?_cons_zero, List.getElem?_cons_succ]; rfl)
  case hQ4 => exact fun _ _ _ h => h
  case hy4 => exact y_a (w.heap.size + 1) ⟨1, pl, n, sg, (rd : Nat), va⟩ (fun V hV => hV.2.1) rfl
  simp only [Act.put, List.setIfInBounds_toArray, List.set_cons_zero, List.set_cons_succ]
  refine wpAnyH_take (i := 4) (oi := ?oi5) (v := .int .u32 (v : Nat)) ?hi5 (by kernel_rfl) (by kernel_rfl) (by kernel_rfl) ?hQ5 ?hy5 (by assumption) ?rest5
  case hi5 => (simp only [List.getElem?_toArray, List.getElem?_cons_zero, List.getElem?_cons_succ]; rfl)
  case hQ5 => exact fun _ _ _ h => h
  case hy5 => exact Or.inl ⟨by rfl, by (intro w hSw; (try dsimp only at hSw); go_simp )⟩
  simp only [Act.put, List.setIfInBounds_toArray, List.set_cons_zero, List.set_cons_succ]
  refine wpAnyH_ready (rs := [5]) (by kernel_rfl) (by simp) ?_
  refine AllReadyH.cons (o := ?oi6) ?hi6 (fun K hK => ?_) AllReadyH.nil
  case hi6 => (simp only [List.getElem?_toArray, List.getElem?_cons_zero, List.getElem?_cons_succ]; rfl)
  go_simp
  refine (hL.out _).mono ?_
  rintro e V ⟨rfl, hbc⟩
  replace hr := hHeld.1.bl hbc
  replace ha := hHeld.2.1.bl hbc
  replace hb := below_bl rfl hHeld.2.2 hbc
  replace hq := hq.bl hbc
  clear hHeld
  go_simp
  refine hK.out _ _ ?_ (fun hHeld => ?_)
  · exact ⟨hr, ha, hb⟩
  clear hK K
  refine wpAnyH_ready (rs := [6]) (by kernel_rfl) (by simp) ?_
  refine AllReadyH.cons (o := ?oi7) ?hi7 (fun K hK => ?_) AllReadyH.nil
  case hi7 => (simp only [List.getElem?_toArray, List.getElem?_cons_zero, List.getElem?_cons_succ]; rfl)
  go_simp
  refine (HW.out _).mono ?_
  rintro e V ⟨rfl, hbc⟩
  replace hr := hHeld.1.bl hbc
  replace ha := hHeld.2.1.bl hbc
  replace hb := below_bl rfl hHeld.2.2 hbc
  replace hq := hq.bl hbc
  clear hHeld
  go_simp
  refine hK.out _ _ ?_ (fun hHeld => ?_)
  · exact ⟨hr, ha, hb⟩
  clear hK K
  refine wpAnyH_ready (rs := [7]) (by kernel_rfl) (by simp) ?_
  refine AllReadyH.cons (o := ?oi8) ?hi8 (fun K hK => ?_) AllReadyH.nil
  case hi8 => (simp only [List.getElem?_toArray, List.getElem?_cons_zero, List.getElem?_cons_succ]; rfl)
  go_simp
  refine (HN.out _).mono ?_
  rintro e V ⟨rfl, hbc⟩
  replace hr := hHeld.1.bl hbc
  replace ha := hHeld.2.1.bl hbc
  replace hb := below_bl rfl hHeld.2.2 hbc
  replace hq := hq.bl hbc
  clear hHeld
  go_simp
  refine hK.out _ _ ?_ (fun hHeld => ?_)
  · exact ⟨hr, ha, hb⟩
  clear hK K
  refine wpAnyH_ready (rs := [8]) (by kernel_rfl) (by simp) ?_
  refine AllReadyH.cons (o := ?oi9) ?hi9 (fun K hK => ?_) AllReadyH.nil
  case hi9 => (simp only [List.getElem?_toArray, List.getElem?_cons_zero, List.getElem?_cons_succ]; rfl)
  rw [if_pos (by rfl)]
  (with_reducible refine s_h (w.heap.size + 2) _ (nextH (writeH h rd L)) hq ?_ ?_ ?_)
  · exact rfl
  · exact rfl
  intro V hnew ho
  replace hr := hr.only ho (by omega)
  replace ha := ha.only ho (by omega)
  replace hb := ho.bel _ _ (by omega) hb
  clear hHeld
  refine hK.out _ _ ?_ (fun hHeld => ?_)
  · exact ⟨hr, ha, hb⟩
  clear hK K
  refine wpAnyH_done (by kernel_rfl) ?_ _
  go_wp2
  refine bodyPost_ret (results_cell_row Tryd.results20 _ _ (w.heap.size + 2) _ _ _ _ rfl hnew Tryd.underlying31 rfl size_hart) rfl ?_
  exact ⟨rfl, hb⟩

/-- What stays so. -/
theorem mayH_iff2 (h : H) : mayH h = true ↔ h.pc % 4 = 0 ∧ h.x 0 = 0 ∧ mayB h.c = true := by
  unfold mayH
  simp
theorem trapTo_4 (ve ca : Nat) : trapTo ve ca % 4 = 0 := by
  have e : (ve &&& 4294967292) % 4 = 0 := by
    have := Nat.and_mod_two_pow (a := ve) (b := 4294967292) (n := 2)
    simpa using this
  unfold trapTo
  split
  · omega
  · exact e
theorem may_trapH (h : H) (ok : h.Ok) (hm : mayH h = true) (ca va : Nat) : mayH (trapH h ca va) = true := by
  obtain ⟨h1, h2, h3⟩ := (mayH_iff2 h).1 hm
  exact (mayH_iff2 _).2 ⟨trapTo_4 _ _, h2, may_trap h.c ok.c h3 ca va h.pc⟩
theorem may_upCt (c : S8) (hm : mayB c = true) : mayB (upCt c) = true := hm
theorem may_goH (h : H) (ok : h.Ok) (hm : mayH h = true) (to : Nat) : mayH (goH h to) = true := by
  unfold goH
  split
  · next h4 =>
    obtain ⟨h1, h2, h3⟩ := (mayH_iff2 h).1 hm
    exact (mayH_iff2 _).2 ⟨h4, h2, may_upCt h.c h3⟩
  · exact may_trapH h ok hm _ _
theorem may_nextH (h : H) (ok : h.Ok) (hm : mayH h = true) : mayH (nextH h) = true := may_goH h ok hm _
theorem may_writeH (h : H) (hm : mayH h = true) (r v : Nat) : mayH (writeH h r v) = true := by
  unfold writeH
  split
  · exact hm
  · next h0 =>
    obtain ⟨h1, h2, h3⟩ := (mayH_iff2 h).1 hm
    refine (mayH_iff2 _).2 ⟨h1, ?_, h3⟩
    show setX h.x r v 0 = 0
    unfold setX
    rw [if_neg (fun e => h0 e.symm)]; exact h2
theorem may_jumpH (h : H) (ok : h.Ok) (hm : mayH h = true) (rd to : Nat) : mayH (jumpH h rd to) = true := by
  unfold jumpH
  split
  · exact may_goH _ (writeH_ok ok rd (Nat.mod_lt _ (by decide))) (may_writeH h hm _ _) _
  · exact may_trapH h ok hm _ _
theorem may_withC (h : H) (hm : mayH h = true) (c : S8) (hc : mayB c = true) : mayH (withC h c) = true := by
  obtain ⟨h1, h2, h3⟩ := (mayH_iff2 h).1 hm
  exact (mayH_iff2 _).2 ⟨h1, h2, hc⟩
theorem may_wt (h : H) (hm : mayH h = true) (b : Bool) : mayH ⟨h.pc, h.x, b, h.c⟩ = true := hm
theorem withC_ok {h : H} (ok : h.Ok) {c : S8} (hc : c.Ok) : (withC h c).Ok := ⟨ok.pc, ok.x, hc⟩
theorem ok_wt {h : H} (ok : h.Ok) (b : Bool) : H.Ok ⟨h.pc, h.x, b, h.c⟩ := ⟨ok.pc, ok.x, ok.c⟩
theorem loadAt_lt (h : H) (i : I6) : loadAt_ h i < 4294967296 := Nat.mod_lt _ (by decide)
/-- A hart that may be, and its numbers are words. -/
def Fine (h : H) : Prop := h.Ok ∧ mayH h = true
theorem fine_trap {h : H} (f : Fine h) {ca va : Nat} (h1 : ca < 4294967296) (h2 : va < 4294967296) : Fine (trapH h ca va) := ⟨trapH_ok f.1 h1 h2, may_trapH h f.1 f.2 ca va⟩
theorem fine_go {h : H} (f : Fine h) {to : Nat} (ht : to < 4294967296) : Fine (goH h to) := ⟨goH_ok f.1 ht, may_goH h f.1 f.2 to⟩
theorem fine_next {h : H} (f : Fine h) : Fine (nextH h) := ⟨nextH_ok f.1, may_nextH h f.1 f.2⟩
theorem fine_write {h : H} (f : Fine h) (r : Nat) {v : Nat} (hv : v < 4294967296) : Fine (writeH h r v) := ⟨writeH_ok f.1 r hv, may_writeH h f.2 r v⟩
theorem fine_jump {h : H} (f : Fine h) (rd : Nat) {to : Nat} (ht : to < 4294967296) : Fine (jumpH h rd to) := ⟨jumpH_ok f.1 rd ht, may_jumpH h f.1 f.2 rd to⟩
theorem fine_within {h : H} (f : Fine h) (op : Nat) (i : I6) : Fine (withinH h op i) := by
  unfold withinH
  split
  · exact fine_next (fine_write f _ (immN_lt _))
  split
  · exact fine_next (fine_write f _ (Nat.mod_lt _ (by decide)))
  split
  · exact fine_jump f _ (Nat.mod_lt _ (by decide))
  split
  · exact fine_jump f _ (and_lt (Nat.mod_lt _ (by decide)))
  split
  · split
    · exact fine_go f (Nat.mod_lt _ (by decide))
    · exact fine_next f
  split
  · exact fine_next (fine_write f _ (doN_lt _ _ _ (f.1.x _) (immN_lt _)))
  split
  · exact fine_next (fine_write f _ (doN_lt _ _ _ (f.1.x _) (f.1.x _)))
  split
  · exact fine_next f
  split
  · exact fine_trap f (by decide) (by decide)
  split
  · exact fine_trap f (by decide) f.1.pc
  split
  · exact fine_go ⟨withC_ok f.1 (retN_ok f.1.c), may_withC h f.2 _ (may_ret h.c f.1.c ((mayH_iff2 h).1 f.2).2.2)⟩ f.1.c.ep
  · exact fine_next ⟨ok_wt f.1 true, may_wt h f.2 true⟩
theorem ctlV_lt {h : H} (ok : h.Ok) (op : Nat) (i : I6) (hs : i.rs1.toNat < 32) : ctlV h op i < 4294967296 := by
  unfold ctlV
  split
  · omega
  · exact ok.x _
theorem fine_control {h : H} (f : Fine h) (op : Nat) (i : I6) (hs : i.rs1.toNat < 32) (v l : Nat) (hv : v < 4294967296) (hl : l < 4294967296) : Fine (controlH h op i v l) := by
  unfold controlH
  cases hR : ctlR h op i l with
  | none => exact fine_trap f (by decide) hv
  | some old =>
    have ho : old < 4294967296 := by
      unfold ctlR at hR
      split at hR
      · cases hR; decide
      · exact readN_lt f.1.c _ hl hR
    show Fine (if swapsB op = true ∨ i.rs1 ≠ 0 then if (writeN h.c i.csr (mixN op old (ctlV h op i))).2 = 0 then nextH (writeH (withC h (writeN h.c i.csr (mixN op old (ctlV h op i))).1) i.rd.toNat old) else trapH h 2 v else nextH (writeH h i.rd.toNat old))
    split
    · split
      · next h0 => exact fine_next (fine_write ⟨withC_ok f.1 (writeN_ok f.1.c _ (mixN_lt op ho (ctlV_lt f.1 op i hs))), may_withC h f.2 _ (may_write h.c ((mayH_iff2 h).1 f.2).2.2 _ _ h0)⟩ _ ho)
      · exact fine_trap f (by decide) hv
    · exact fine_next (fine_write f _ ho)
/-- What Do asks for lies where it may. -/
def AccOk (a : A6) : Prop := ∃ (kd : Nat) (pl n : Nat) (sg : Bool) (rd va : Nat), a = ⟨kd, pl, n, sg, rd, va⟩ ∧ (kd = 1 ∨ kd = 2) ∧ (n = 1 ∨ n = 2 ∨ n = 4) ∧ pl % n = 0 ∧ pl < 4294967296 ∧ rd < 32
theorem widN_is (j : Nat) : widN j = 1 ∨ widN j = 2 ∨ widN j = 4 := by
  unfold widN widL
  rcases j with _ | _ | _ | _ | _ | j
  all_goals simp
theorem do_fine {h : H} (f : Fine h) (v l : Nat) (hv : v < 4294967296) (hl : l < 4294967296) : ((doH h v l).2 = noA ∧ Fine (doH h v l).1) ∨ ((doH h v l).1 = h ∧ AccOk (doH h v l).2) := by
  cases hd : decOp v with
  | none =>
    have e0 : doH h v l = (trapH h 2 v, noA) := by simp [doH, hd]
    rw [e0]; exact Or.inl ⟨rfl, fine_trap f (by decide) hv⟩
  | some op =>
    have e0 : doH h v l = doOp h op (toldN op v) v l := by simp [doH, hd]
    obtain ⟨rd, s1, s2, im, cs, hi, hrd, h1, h2⟩ := told_shape op v
    rw [e0, hi]
    unfold doOp
    split
    · unfold loadH
      split
      · next h4 => exact Or.inr ⟨rfl, 1, _, _, _, rd, 0, rfl, Or.inl rfl, widN_is _, h4, loadAt_lt _ _, hrd⟩
      · exact Or.inl ⟨rfl, fine_trap f (by decide) (loadAt_lt _ _)⟩
    split
    · unfold storeH
      split
      · next h4 => exact Or.inr ⟨rfl, 2, _, _, _, 0, _, rfl, Or.inr rfl, widN_is _, h4, loadAt_lt _ _, by decide⟩
      · exact Or.inl ⟨rfl, fine_trap f (by decide) (loadAt_lt _ _)⟩
    split
    · exact Or.inl ⟨rfl, fine_control f op _ (by simpa using h1) v l hv hl⟩
    · exact Or.inl ⟨rfl, fine_within f op _⟩
theorem begin_fine {h : H} (f : Fine h) (l : Nat) : Fine (beginH h l).1 ∧ ((beginH h l).2 = false → (beginH h l).1.wt = true) := by
  unfold beginH
  split
  · next hs => exact ⟨f, fun _ => by unfold sleeps at hs; cases hw : h.wt <;> simp [hw] at hs ⊢⟩
  split
  · exact ⟨⟨awake_ok f.1, may_wt h f.2 false⟩, fun h => by cases h⟩
  · exact ⟨fine_trap ⟨awake_ok f.1, may_wt h f.2 false⟩ (asksN_lt _ _ _) (by decide), fun h => by cases h⟩
end Go.Proofs.YtelakpogochifaaDoor
