/-
  AsmTexts: every instruction as text is the document's, or the error has the number that the document asks; what must come whatever the input is comes; the argument stays. The one condition: the listed variables read as the program's text lays them, to which the card ties them.
-/
import Derived.Test.YtbidhfhmfmhiiaaGreatDoorAs
import Derived.Test.YtbidhfhmfmhiiaaGreatDoorBase
import Derived.Test.YtbidhfhmfmhiiaaGreatDoorRows
import Derived.ProofKit
import Derived.OpenShut
import Derived.LaidMore
import Derived.LaidLaws
import Derived.Test.YtbidhfhmfmhiiaaGreatDoorAsAt
import Derived.Test.YtbidhfhmfmhiiaaGreatDoorTie
import Derived.Test.YtbidhfhmfmhiiaaGreatDoorCards
import Derived.LaidHandle
import Derived.Stop.Joined
import Derived.SevenTiedAt
import Derived.SizedLaws
import Derived.Lib.LaidU8T
import Derived.Lib.LaidTab
import Derived.PinnedBridge
import Derived.Shelf.Vars
import Derived.Lay
import Derived.Test.YtbidhfhmfmhiiaaGreatDoorRCheckA
import Derived.Test.YtbidhfhmfmhiiaaGreatDoorRCheckB
import Derived.Test.YtbidhfhmfmhiiaaGreatDoorRCheckC
import Derived.Test.YtbidhfhmfmhiiaaGreatDoorInAns
import Derived.Test.YtbidhfhmfmhiiaaGreatDoorRAsText
import Derived.Test.YtbidhfhmfmhiiaaGreatDoorRNames
import Derived.Test.YtbidhfhmfmhiiaaGreatDoorAsTextW
import Derived.Test.YtbidhfhmfmhiiaaGreatDoorAsSaid
import Derived.Test.YtbidhfhmfmhiiaaGreatDoorAsWord
import Derived.WideShapes
import Derived.Test.YtbidhfhmfmhiiaaGreatDoorInTold
namespace Go.Proofs.YtbidhfhmfmhiiaaGreatDoor
open Go.RowKit Go.Extern.Stop Go.Stop Go.Extern
set_option linter.unusedVariables false

set_option maxHeartbeats 400000 in
theorem num_nil (w : World) : Calls Tryz.prog 11 #[.nilIface] w fun e w' => e = .returned (.int .i64 0) ∧ Below w.heap.size w w' := by
  go_enter Tryz.func11, Tryz.ntmps11
  go_wp2
  go_ret
  exact ⟨rfl, (Below.refl _ w).alloc (Nat.le_refl _) _⟩

set_option maxHeartbeats 1000000 in
theorem num_err (c : Int) (w : World) (hg : HandleAt w) : Calls Tryz.prog 11 #[.iface 69 (.int .i64 c)] w fun e w' => e = .returned (.int .i64 c) ∧ Below w.heap.size w w' := by
  have hlt : 3 < w.heap.size := by
    rcases Nat.lt_or_ge 3 w.heap.size with h | h
    · exact h
    · simp [HandleAt, World.cell?, Array.getElem?_eq_none h] at hg
  have hgA : (w.alloc (.cells #[.int .i64 0] 69)).cell? ⟨3, 0, none⟩ = some (.iface 146 (.agg #[.pointer (some ⟨12, 25, none⟩)])) := by
    rw [World.cell?_alloc_lt _ _ ⟨3, 0, none⟩ hlt]; exact hg
  have htA : (w.alloc (.cells #[.int .i64 0] 69)).cell? ⟨w.heap.size, 0, none⟩ = some (.int .i64 0) := by simp
  have hfA : (w.alloc (.cells #[.int .i64 0] 69)).frozen? ⟨w.heap.size, 0, none⟩ = false := by simp
  have HH := hide (as_hit c ⟨w.heap.size, 0, none⟩ (.int .i64 0) _ hgA htA hfA)
  clear hgA htA hfA hg hlt
  go_enter Tryz.func11, Tryz.ntmps11
  go_wp2_with (go_at_call 32; refine HH.out.mono ?_; rintro e w' ⟨rfl, rfl⟩)
  go_ret
  refine ⟨rfl, ?_⟩
  repeat (first | exact Below.refl _ _ | refine Below.alloc ?_ (by simp <;> omega) _)
end Go.Proofs.YtbidhfhmfmhiiaaGreatDoor
namespace Go.Proofs.YtbidhfhmfmhiiaaGreatDoor
open Go.ChangeShapes Go.WideShapes Go.ChangeAt Go.RowKit

theorem tab_elem {P : Program} {W : World} {t e : TypeId} {n fuel : Nat} {cs : Array Value} {ds : List (DataW Unit)} {p : List MemPlace}
    (ht : P.underlying t = some (.array n e)) (hce : P.cellsOf e = 1) (hC : P.cellsOf t = n)
    (hd : DataW.trod (fun _ => ()) P W 0 (fun _ => true) false fuel t cs.toList = some (.agg ds, p)) (j : Nat) (hj : j < n) :
    ∃ m v q d, cs[j]? = some v ∧ ds[j]? = some d ∧ DataW.trod (fun _ => ()) P W 0 (fun _ => true) false m e [v] = some (d, q) := by
  obtain ⟨xs, m, _, hx, hlen, hn, hel⟩ := DataW.trod_array ht hd
  rw [hC] at hlen
  simp only [Prod.mk.injEq] at hx
  have h1 := hel j hj
  have hxj : j < xs.length := by omega
  rw [hce, List.getElem?_eq_getElem hxj] at h1
  have hjl : j < cs.toList.length := by omega
  have e3 : (cs.toList.drop (j * 1)).take 1 = [cs.toList[j]] := by rw [Nat.mul_one, List.drop_eq_getElem_cons hjl]; simp
  rw [e3] at h1
  refine ⟨m, cs.toList[j], xs[j].2, xs[j].1, ?_, ?_, h1⟩
  · rw [← Array.getElem?_toList, List.getElem?_eq_getElem hjl]
  · have e7 : ds = xs.map (·.1) := by have := hx.1; injection this
    rw [e7, List.getElem?_map, List.getElem?_eq_getElem hxj]; rfl

theorem tab_int {P : Program} {W : World} {name : String} {g : Nat} {t e : TypeId} {n fuel : Nat} {k : IntKind} {cs : Array Value} {L : List Nat} {p : List MemPlace}
    (hg : P.globalNamed name = some g) (hv : W.var? P name = some cs)
    (ht : P.underlying t = some (.array n e)) (he : P.underlying e = some (.int k)) (hce : P.cellsOf e = 1) (hC : P.cellsOf t = n) (hL : L.length = n)
    (hd : DataW.trod (fun _ => ()) P W 0 (fun _ => true) false fuel t cs.toList = some (.agg (L.map fun x : Nat => .lit (.int k (x : Int))), p)) (j : Nat) (hj : j < n) :
    W.cell? ⟨g, j, none⟩ = some (.int k (L.getD j 0 : Nat)) := by
  obtain ⟨m, v, q, d, h1, h2, h3⟩ := tab_elem ht hce hC hd j hj
  have hjL : j < L.length := by omega
  rw [List.getElem?_map, List.getElem?_eq_getElem hjL] at h2
  obtain ⟨z, e1, e2, _⟩ := DataW.trod_int he h3
  simp only [Option.map_some, Option.some.injEq] at h2
  simp only [Prod.mk.injEq] at e2
  rw [← h2] at e2
  have e5 := e2.1
  simp only [DataW.lit.injEq, Lit.int.injEq, true_and] at e5
  rw [World.var?_cell hg hv j, h1]
  simp only [List.cons.injEq, and_true] at e1
  rw [e1, ← e5, List.getD_eq_getElem?_getD, List.getElem?_eq_getElem hjL]
  rfl

theorem tab_str {P : Program} {W : World} {name : String} {g : Nat} {t e : TypeId} {n fuel : Nat} {cs : Array Value} {L : List (List UInt8)} {p : List MemPlace}
    (hg : P.globalNamed name = some g) (hv : W.var? P name = some cs)
    (ht : P.underlying t = some (.array n e)) (he : P.underlying e = some .string) (hce : P.cellsOf e = 1) (hC : P.cellsOf t = n) (hL : L.length = n)
    (hd : DataW.trod (fun _ => ()) P W 0 (fun _ => true) false fuel t cs.toList = some (.agg (L.map fun x => .lit (.string x)), p)) (j : Nat) (hj : j < n) :
    W.cell? ⟨g, j, none⟩ = some (.string ⟨(L.getD j []).toArray⟩) := by
  obtain ⟨m, v, q, d, h1, h2, h3⟩ := tab_elem ht hce hC hd j hj
  have hjL : j < L.length := by omega
  rw [List.getElem?_map, List.getElem?_eq_getElem hjL] at h2
  obtain ⟨z, e1, e2, _⟩ := DataW.trod_string he h3
  simp only [Option.map_some, Option.some.injEq] at h2
  simp only [Prod.mk.injEq] at e2
  rw [← h2] at e2
  have e5 := e2.1
  simp only [DataW.lit.injEq, Lit.string.injEq] at e5
  rw [World.var?_cell hg hv j, h1]
  simp only [List.cons.injEq, and_true] at e1
  rw [e1, List.getD_eq_getElem?_getD, List.getElem?_eq_getElem hjL]
  simp only [Option.getD_some]
  rw [e5]
end Go.Proofs.YtbidhfhmfmhiiaaGreatDoor
namespace Go.Proofs.YtbidhfhmfmhiiaaGreatDoor
open Go.ChangeShapes Go.WideShapes Go.ChangeAt Go.RowKit
set_option linter.unusedVariables false

theorem own : ownKnob Tryz.prog.godebug = none := by kernel_rfl
theorem gKinds : Tryz.prog.globalNamed "pinnace/inst.kinds" = some 0 := by kernel_rfl
theorem gWords : Tryz.prog.globalNamed "pinnace/inst.words" = some 1 := by kernel_rfl
theorem gNames : Tryz.prog.globalNamed "pinnace/inst.names" = some 2 := by kernel_rfl
theorem tKinds : (Tryz.prog.globals[0]?).map (·.type) = some 103 := by kernel_rfl
theorem tWords : (Tryz.prog.globals[1]?).map (·.type) = some 104 := by kernel_rfl
theorem tNames : (Tryz.prog.globals[2]?).map (·.type) = some 105 := by kernel_rfl
theorem tPow : (Tryz.prog.globals[9]?).map (·.type) = some 211 := by kernel_rfl
theorem dKinds : (Rows.laid_pinnace_inst_kinds : DataW Unit) = .agg (kindL.map fun x : Nat => .lit (.int .u8 (x : Int))) := rfl
theorem dWords : (Rows.laid_pinnace_inst_words : DataW Unit) = .agg (wordL.map fun x : Nat => .lit (.int .u32 (x : Int))) := rfl
theorem dNames : (Rows.laid_pinnace_inst_names : DataW Unit) = .agg (nameL.map fun x => .lit (.string x)) := rfl
theorem dPow : (Rows.laid_internal_strconv_uint64pow10 : DataW Unit) = Lib.tabData .u64 Lib.pow10Tab := by kernel_rfl
theorem dFirst : (Rows.laid_unicode_utf8_first : DataW Unit) = Lib.firstData := by kernel_rfl
theorem dAccept : (Rows.laid_unicode_utf8_acceptRanges : DataW Unit) = Lib.acceptData := by kernel_rfl

theorem tabs_of_reads {W : World} (h0 : Lib.VarReads Tryz.prog W "pinnace/inst.names" Rows.laid_pinnace_inst_names) (h1 : Lib.VarReads Tryz.prog W "pinnace/inst.kinds" Rows.laid_pinnace_inst_kinds) (h2 : Lib.VarReads Tryz.prog W "pinnace/inst.words" Rows.laid_pinnace_inst_words) : TabsAt W := by
  obtain ⟨g0, t0, cs0, f0, p0, hg0, ht0, hv0, hd0⟩ := h0
  obtain ⟨g1, t1, cs1, f1, p1, hg1, ht1, hv1, hd1⟩ := h1
  obtain ⟨g2, t2, cs2, f2, p2, hg2, ht2, hv2, hd2⟩ := h2
  obtain rfl := Option.some.inj (gNames.symm.trans hg0)
  obtain rfl := Option.some.inj (gKinds.symm.trans hg1)
  obtain rfl := Option.some.inj (gWords.symm.trans hg2)
  obtain rfl := Option.some.inj (tNames.symm.trans ht0)
  obtain rfl := Option.some.inj (tKinds.symm.trans ht1)
  obtain rfl := Option.some.inj (tWords.symm.trans ht2)
  rw [dNames] at hd0
  rw [dKinds] at hd1
  rw [dWords] at hd2
  exact ⟨⟨tab_int hg1 hv1 Tryz.underlying103 Tryz.underlying5 (by kernel_rfl) (by kernel_rfl) rfl hd1, tab_int hg2 hv2 Tryz.underlying104 Tryz.underlying48 (by kernel_rfl) (by kernel_rfl) rfl hd2⟩,
    tab_str hg0 hv0 Tryz.underlying105 Tryz.underlying9 (by kernel_rfl) (by kernel_rfl) rfl hd0⟩

theorem pow_of_reads {W : World} (h : Lib.VarReads Tryz.prog W "internal/strconv.uint64pow10" Rows.laid_internal_strconv_uint64pow10) : PowAt W := by
  obtain ⟨g, t, cs, f, p, hg, ht, hv, hd⟩ := h
  obtain rfl := Option.some.inj (gPow.symm.trans hg)
  obtain rfl := Option.some.inj (tPow.symm.trans ht)
  rw [dPow] at hd
  have := Lib.cells_of_tab Tryz.underlying211 Tryz.underlying193 (by kernel_rfl) (by kernel_rfl) hd
  unfold PowAt Lib.TabIs
  rw [hv, ← this]

theorem iface_cell {P : Program} {W : World} {t : TypeId} {ms : Array (String × TypeId)} {fuel : Nat} {cs : List Value} {d : DataW Unit} {p : List MemPlace} (ht : P.underlying t = some (.interface ms))
    (h : DataW.trod (fun _ => ()) P W 0 (fun _ => true) false fuel t cs = some (d, p)) : ∃ v, cs = [v] ∧ (v = .nilIface ∨ ∃ te pe, v = .iface te pe) := by
  cases fuel with
  | zero => simp [DataW.trod] at h
  | succ n =>
    unfold DataW.trod at h
    rw [ht] at h
    match cs, h with
    | [.nilIface], _ => exact ⟨_, rfl, .inl rfl⟩
    | [.iface u v], _ => exact ⟨_, rfl, .inr ⟨u, v, rfl⟩⟩
    | [], h => simp at h
    | a :: b :: r, h => simp at h
theorem err_of_reads {W : World} {name : String} {g : Nat} {d : DataW Unit} (hg : Tryz.prog.globalNamed name = some g) (ht : (Tryz.prog.globals[g]?).map (·.type) = some 25) (h : Lib.VarReads Tryz.prog W name d) : ErrAt g W := by
  obtain ⟨g', t, cs, f, p, hg', ht', hv, hd⟩ := h
  obtain rfl := Option.some.inj (hg.symm.trans hg')
  obtain rfl := Option.some.inj (ht.symm.trans ht')
  obtain ⟨v, hcs, hv'⟩ := iface_cell Tryz.underlying25 hd
  refine ⟨v, ?_, hv'⟩
  rw [World.var?_cell hg hv 0, ← Array.getElem?_toList, hcs]
  rfl

theorem iface_some {P : Program} {W : World} {t : TypeId} {ms : Array (String × TypeId)} {fuel : Nat} {cs : List Value} {nm : String} {d : DataW Unit} {p : List MemPlace} (ht : P.underlying t = some (.interface ms))
    (h : DataW.trod (fun _ => ()) P W 0 (fun _ => true) false fuel t cs = some (.iface nm d, p)) : ∃ te pe, cs = [.iface te pe] := by
  obtain ⟨v, rfl, rfl | ⟨te, pe, rfl⟩⟩ := iface_cell ht h
  · cases fuel with
    | zero => simp [DataW.trod] at h
    | succ n =>
      unfold DataW.trod at h
      rw [ht] at h
      simp at h
  · exact ⟨te, pe, rfl⟩
theorem bad_of_reads {W : World} (h : Lib.VarReads Tryz.prog W "strconv.ErrSyntax" Rows.laid_strconv_ErrSyntax) : BadAt W := by
  obtain ⟨g, t, cs, f, p, hg, ht, hv, hd⟩ := h
  obtain rfl := Option.some.inj (gBad.symm.trans hg)
  obtain rfl := Option.some.inj ((show (Tryz.prog.globals[7]?).map (·.type) = some 25 by kernel_rfl).symm.trans ht)
  obtain ⟨te, pe, hcs⟩ := iface_some Tryz.underlying25 hd
  refine ⟨te, pe, hv.trans ?_⟩
  rw [← hcs]

theorem len_of_shape {W : World} (h : W.ShapedOpen Tryz.prog) : LenAt W :=
  cell_of_shapedOpen_int h (by decide +kernel) (g := 4) (t := 3) (zero := #[.int .i64 0]) (by kernel_rfl) rfl (by kernel_rfl) (by kernel_rfl) Tryz.underlying3

def u8Ren : Go.Shelf.Ren := ⟨fun n => n, fun | 5 => 5 | 119 => 200 | 138 => 202 | 139 => 203 | n => n, fun | 3 => 5 | 4 => 6 | n => n⟩
theorem u8Types : U8Types Tryz.prog u8Ren := ⟨Tryz.underlying5, Tryz.underlying200, Tryz.underlying202, Tryz.underlying203⟩
theorem u8Extra : U8Extra Tryz.prog u8Ren := ⟨by kernel_rfl, by kernel_rfl, by kernel_rfl, by kernel_rfl, by kernel_rfl, by kernel_rfl, by kernel_rfl⟩

/-- All of it, out of any list that names the variables. -/
theorem asAt_of_laid {W : World} {l : List (String × DataW Unit)} (h : laidMet Tryz.prog l W) (hs : W.ShapedOpen Tryz.prog)
    (m0 : ("pinnace/inst.names", Rows.laid_pinnace_inst_names) ∈ l) (m1 : ("pinnace/inst.kinds", Rows.laid_pinnace_inst_kinds) ∈ l) (m2 : ("pinnace/inst.words", Rows.laid_pinnace_inst_words) ∈ l)
    (m3 : ("internal/strconv.uint64pow10", Rows.laid_internal_strconv_uint64pow10) ∈ l) (m4 : ("unicode/utf8.first", Rows.laid_unicode_utf8_first) ∈ l) (m5 : ("unicode/utf8.acceptRanges", Rows.laid_unicode_utf8_acceptRanges) ∈ l)
    (m6 : ("strconv.ErrSyntax", Rows.laid_strconv_ErrSyntax) ∈ l) (m7 : ("strconv.ErrRange", Rows.laid_strconv_ErrRange) ∈ l) : AsAt W :=
  ⟨tabs_of_reads (Lib.laidMet.reads h m0) (Lib.laidMet.reads h m1) (Lib.laidMet.reads h m2), pow_of_reads (Lib.laidMet.reads h m3), len_of_shape hs,
    utf8Tabs_of_readsT u8Types u8Extra (by rw [← dFirst]; exact Lib.laidMet.reads h m4) (by rw [← dAccept]; exact Lib.laidMet.reads h m5),
    bad_of_reads (Lib.laidMet.reads h m6), err_of_reads (by kernel_rfl) (by kernel_rfl) (Lib.laidMet.reads h m7)⟩

/-- The wrap of a row with listed variables, the world's shape kept. -/
theorem wrap_shaped {H : Type} {enc : TypeId × Value → H} {C : Checked} {os : Os} {f : FuncId} {fn : Func} {s : ChangeSpec} {apart fresh handsOn again : Bool} {X : World → Array Value → Prop}
    (hX : ∀ (w w' : World) (args : Array Value), w.heap = w'.heap → X w args → X w' args)
    (own : ownKnob C.prog.godebug = none) (started : os.Started) (noInit : C.prog.inits.idxOf? f = none) (hfn : C.prog.funcs[f]? = some fn)
    (witness : ∃ (w : World) (tape : Tape) (i : Input), w.os = os ∧ (w.forCall tape i).Shaped C.prog ∧ i.vars = [] ∧ Input.okWide C.prog (w.forCall tape i) .any w.heap.size f i ∧
      ((s.pre enc C.prog fn [] apart (w.forCall tape i).memory i.args ∧ X (w.forCall tape i).memory i.args) ∧ sizedMet enc C.prog fn (OpenSpec.ofChange s) apart (w.forCall tape i).memory i.args) ∧ ({} : Assume).holds C.prog (lone (Frame.enter C.prog f i.args .normal) [] (w.forCall tape i)))
    (contract : ∀ (W : World) (base : Nat) (args : Array Value) (ds gs : List (DataW H)) (before : List MemPlace),
      (∀ (j : Nat) t v, fn.params[j]? = some t → args[j]? = some v → Value.okWide C.prog W .any base t v) →
      DataW.Whole enc C.prog fn.params.toList s.vars apart W args.toList ds gs before → X W args → W.ShapedOpen C.prog →
      Calls C.prog f args W fun e W' => ∃ v, e = .returned v ∧ s.post enc C.prog fn apart fresh handsOn again W args v W') :
    ReturnsInHanded {} C os f .any (fun w args => (s.pre enc C.prog fn [] apart w args ∧ X w args) ∧ sizedMet enc C.prog fn (OpenSpec.ofChange s) apart w args) (s.post enc C.prog fn apart fresh handsOn again) := by
  refine returnsInHanded_of_calls own started noInit witness ?_
  intro w tape i _ hsh _ hok hpre _
  obtain ⟨_, _, _, fn', hfn', _, _, _, _, hval⟩ := hok
  obtain rfl : fn' = fn := Option.some.inj (hfn'.symm.trans hfn)
  obtain ⟨⟨⟨ds, gs, before, hw, _⟩, hx⟩, _⟩ := hpre
  refine (contract (w.forCall tape i) w.heap.size i.args ds gs before hval (DataW.Whole.of_heap (w' := w.forCall tape i) (by rfl) hw) (hX _ _ _ (by rfl) hx) hsh).mono fun e W' ⟨v, he, hp⟩ => ?_
  subst he
  exact ChangeSpec.post_blind hp
end Go.Proofs.YtbidhfhmfmhiiaaGreatDoor
namespace Go.Proofs.YtbidhfhmfmhiiaaGreatDoor
open Go.RowKit
set_option linter.unusedVariables false

theorem enc_valid (op : Nat) (hop : op < 57) (i : I6) (hi : i.op = op) (hv : ValidK (kindN op) i) : encN i = 0 ∧ encW i = laidK (kindN op) (wordN op) i := by
  have ht := (valid_ok op hop i hi hv).1
  have eo : i.op.toNat = op := by rw [hi]; rfl
  have ho : encOk i = true := by unfold encOk; rw [eo, ht, I6.same_self]; simp; omega
  unfold encN encW
  rw [ho, eo]
  exact ⟨rfl, rfl⟩
theorem enc_not (op : Nat) (hop : op < 57) (i : I6) (hi : i.op = op) (hv : ¬ ValidK (kindN op) i) : encN i = 1 ∧ encW i = 0 := by
  have eo : i.op.toNat = op := by rw [hi]; rfl
  have ho : encOk i = false := by
    unfold encOk
    rw [eo]
    have : ¬ toldN op (laidN op i) = i := fun h => hv (told_ok op hop i h)
    rw [I6.same_not this]; simp
  unfold encN encW
  rw [ho]
  exact ⟨rfl, rfl⟩
theorem enc_bad (i : I6) (h : ¬ (0 ≤ i.op ∧ i.op < 57)) : encN i = 1 ∧ encW i = 0 := by
  have ho : encOk i = false := by unfold encOk; simp [h]
  unfold encN encW
  rw [ho]
  exact ⟨rfl, rfl⟩

set_option maxHeartbeats 2000000 in
set_option maxRecDepth 100000 in
theorem rcheck_bad (i : I6) (h : i.op < 0 ∨ 56 < i.op) (w : World) :
    Calls Tryz.prog 27 #[.agg i.cells] w fun e w' => e = .returned (.int .i64 1) ∧ Below w.heap.size w w' := by
  have HK := hide (rkind_no i.op h)
  unfold I6.cells
  clear h
  go_enter Tryz.func27, Tryz.ntmps27
  go_wp2_with (first | (go_at_call 29; refine (HK.out _).mono ?_; rintro e w2 ⟨rfl, rfl⟩))
  go_ret
  exact ⟨rfl, (Below.refl _ _).alloc (Nat.le_refl _) _⟩

theorem rcheck_op (op : Nat) (hop : op < 57) (i : I6) (hi : i.op = op) (w : World) :
    Calls Tryz.prog 27 #[.agg i.cells] w fun e w' => (∃ r : Int, e = .returned (.int .i64 r) ∧ CheckAns (kindN op) i r) ∧ Below w.heap.size w w' := by
  obtain ⟨o, rd, rs1, rs2, imm, csr⟩ := i
  simp only at hi
  subst hi
  have hk := kindN_is op hop
  have key : ∀ k, kindN op = k → IsKind k → Calls Tryz.prog 27 #[.agg (I6.mk op rd rs1 rs2 imm csr).cells] w fun e w' => (∃ r : Int, e = .returned (.int .i64 r) ∧ CheckAns k (I6.mk op rd rs1 rs2 imm csr) r) ∧ Below w.heap.size w w' := by
    intro k e hk
    rcases hk with rfl | rfl | rfl | rfl | rfl | rfl | rfl | rfl | rfl | rfl | rfl
    · exact rcheck_U op hop rd rs1 rs2 imm csr e w
    · exact rcheck_J op hop rd rs1 rs2 imm csr e w
    · exact rcheck_I op hop rd rs1 rs2 imm csr e w
    · exact rcheck_L op hop rd rs1 rs2 imm csr e w
    · exact rcheck_F op hop rd rs1 rs2 imm csr e w
    · exact rcheck_C op hop rd rs1 rs2 imm csr e w
    · exact rcheck_B op hop rd rs1 rs2 imm csr e w
    · exact rcheck_S op hop rd rs1 rs2 imm csr e w
    · exact rcheck_H op hop rd rs1 rs2 imm csr e w
    · exact rcheck_R op hop rd rs1 rs2 imm csr e w
    · exact rcheck_N op hop rd rs1 rs2 imm csr e w
  exact key _ rfl hk

theorem rcheck_all (i : I6) (w : World) :
    Calls Tryz.prog 27 #[.agg i.cells] w fun e w' => e = .returned (.int .i64 (encN i)) ∧ Below w.heap.size w w' := by
  by_cases h : 0 ≤ i.op ∧ i.op < 57
  · obtain ⟨h1, h2⟩ := op_nat h
    refine (rcheck_op _ h1 i h2 w).mono ?_
    rintro e w' ⟨⟨r, rfl, hr⟩, hb⟩
    rcases hr with ⟨rfl, hv⟩ | ⟨rfl, hv⟩
    · rw [(enc_valid _ h1 i h2 hv).1]; exact ⟨rfl, hb⟩
    · rw [(enc_not _ h1 i h2 hv).1]; exact ⟨rfl, hb⟩
  · rw [(enc_bad i h).1]
    exact rcheck_bad i (by omega) w
end Go.Proofs.YtbidhfhmfmhiiaaGreatDoor
namespace Go.Proofs.YtbidhfhmfmhiiaaGreatDoor
open Go.RowKit Go.Lib
set_option linter.unusedVariables false

def bs (l : List UInt8) : ByteArray := ⟨l.toArray⟩
theorem bs_app (a b : List UInt8) : bs a ++ bs b = bs (a ++ b) := by apply ByteArray.ext; simp [bs]
theorem bs_size (l : List UInt8) : (bs l).size = l.length := by simp [bs, ByteArray.size]
def Near (z : Int) : Prop := -4294967296 ≤ z ∧ z ≤ 4294967296
theorem dec_of {z : Int} (h : Near z) : DecOf z (bs (itoa z)) := ⟨fun w => rdec_any z (by have := h.1; omega) (by have := h.2; omega) w⟩
theorem dec_size {z : Int} (h : Near z) : (bs (itoa z)).size ≤ 21 := by
  rw [bs_size]; exact itoa_length_le z (by have := h.1; omega) (by have := h.2; omega)
theorem near_div {z : Int} (h : Near z) : Near (z.tdiv 4096) := by
  unfold Near at *
  rcases Int.lt_or_le z 0 with h0 | h0
  · obtain ⟨n, rfl⟩ : ∃ n : Nat, z = -(n : Int) := ⟨z.natAbs, by omega⟩
    rw [Int.neg_tdiv, Int.tdiv_eq_ediv_of_nonneg (by omega)]; omega
  · rw [Int.tdiv_eq_ediv_of_nonneg h0]; omega
theorem near_wrap {z : Int} (h : Near z) : wrap64 z = z := by unfold Near at h; unfold wrap64; omega
theorem valid_near {i : I6} (h : encOk i = true) : Near i.rd ∧ Near i.rs1 ∧ Near i.rs2 ∧ Near i.imm ∧ Near i.csr := by
  obtain ⟨h1, h2⟩ := encOk_valid h
  have hk := kindN_is _ (op_nat h1).1
  obtain ⟨o, rd, rs1, rs2, imm, csr⟩ := i
  unfold Near
  simp only at h2 ⊢
  generalize kindN (I6.op ⟨o, rd, rs1, rs2, imm, csr⟩).toNat = k at *
  rcases hk with rfl | rfl | rfl | rfl | rfl | rfl | rfl | rfl | rfl | rfl | rfl <;> (simp [ValidK] at h2; omega)
theorem name_size {op : Nat} (h : op < 57) : (bs (nameS op)).size ≤ 8 := by
  rw [bs_size]; exact (name_len _ (nameS_mem h)).1
theorem name_of {op : Nat} (h : op < 57) : NameOf (op : Int) (bs (nameS op)) := ⟨fun w => rname_yes op h w⟩

theorem eq_rtext_85 (op : Nat) (i : I6) : ((((((bs (nameS op)) ++ (bs [32])) ++ (bs [120])) ++ (bs (itoa i.rd))) ++ (bs [44, 32])) ++ (bs (itoa (i.imm.tdiv 4096)))) = bs (textK 85 op i) := by
  have hr := rest_U op i
  unfold textK
  rw [hr]
  simp [bs_app, operK, regL]
theorem w_rtext_85 (op : Nat) (hop : op < 57) (i : I6) (hi : i.op = op) (he : encN i = 0) (hk : kindN op = 85) (hn : Near i.rd ∧ Near i.rs1 ∧ Near i.rs2 ∧ Near i.imm ∧ Near i.csr) (w : World) :
    Calls Tryz.prog 10 #[.agg i.cells] w fun e w' => e = .returned (.tuple #[.string (bs (textK 85 op i)), .int .i64 0]) ∧ Below w.heap.size w w' := by
  have hK : KindOf (op : Int) 85 := ⟨fun w => by have h := rkind_yes op hop w; rw [hk] at h; exact h⟩
  have hC := hide (fun w => rcheck_all i w)
  rw [he] at hC
  rw [← eq_rtext_85 op i]
  obtain ⟨o, rd, rs1, rs2, imm, csr⟩ := i
  obtain rfl : o = (op : Int) := hi
  exact rtext_85 op rd rs1 rs2 imm csr (bs (nameS op)) (bs (itoa rd)) (bs (itoa (imm.tdiv 4096))) w hC (name_of hop) (name_size hop) hK (shape_85 _ hK) (dec_of hn.1) (dec_size hn.1) (by rw [near_wrap (near_div hn.2.2.2.1)]; exact dec_of (near_div hn.2.2.2.1)) (dec_size (near_div hn.2.2.2.1))
theorem eq_rtext_74 (op : Nat) (i : I6) : ((((((bs (nameS op)) ++ (bs [32])) ++ (bs [120])) ++ (bs (itoa i.rd))) ++ (bs [44, 32])) ++ (bs (itoa i.imm))) = bs (textK 74 op i) := by
  have hr := rest_J op i
  unfold textK
  rw [hr]
  simp [bs_app, operK, regL]
theorem w_rtext_74 (op : Nat) (hop : op < 57) (i : I6) (hi : i.op = op) (he : encN i = 0) (hk : kindN op = 74) (hn : Near i.rd ∧ Near i.rs1 ∧ Near i.rs2 ∧ Near i.imm ∧ Near i.csr) (w : World) :
    Calls Tryz.prog 10 #[.agg i.cells] w fun e w' => e = .returned (.tuple #[.string (bs (textK 74 op i)), .int .i64 0]) ∧ Below w.heap.size w w' := by
  have hK : KindOf (op : Int) 74 := ⟨fun w => by have h := rkind_yes op hop w; rw [hk] at h; exact h⟩
  have hC := hide (fun w => rcheck_all i w)
  rw [he] at hC
  rw [← eq_rtext_74 op i]
  obtain ⟨o, rd, rs1, rs2, imm, csr⟩ := i
  obtain rfl : o = (op : Int) := hi
  exact rtext_74 op rd rs1 rs2 imm csr (bs (nameS op)) (bs (itoa rd)) (bs (itoa imm)) w hC (name_of hop) (name_size hop) hK (shape_74 _ hK) (dec_of hn.1) (dec_size hn.1) (dec_of hn.2.2.2.1) (dec_size hn.2.2.2.1)
theorem eq_rtext_73 (op : Nat) (i : I6) : (((((((((bs (nameS op)) ++ (bs [32])) ++ (bs [120])) ++ (bs (itoa i.rd))) ++ (bs [44, 32])) ++ (bs [120])) ++ (bs (itoa i.rs1))) ++ (bs [44, 32])) ++ (bs (itoa i.imm))) = bs (textK 73 op i) := by
  have hr := rest_I 73 op (Or.inl rfl) i
  unfold textK
  rw [hr]
  simp [bs_app, operK, regL]
theorem w_rtext_73 (op : Nat) (hop : op < 57) (i : I6) (hi : i.op = op) (he : encN i = 0) (hk : kindN op = 73) (hn : Near i.rd ∧ Near i.rs1 ∧ Near i.rs2 ∧ Near i.imm ∧ Near i.csr) (w : World) :
    Calls Tryz.prog 10 #[.agg i.cells] w fun e w' => e = .returned (.tuple #[.string (bs (textK 73 op i)), .int .i64 0]) ∧ Below w.heap.size w w' := by
  have hK : KindOf (op : Int) 73 := ⟨fun w => by have h := rkind_yes op hop w; rw [hk] at h; exact h⟩
  have hC := hide (fun w => rcheck_all i w)
  rw [he] at hC
  rw [← eq_rtext_73 op i]
  obtain ⟨o, rd, rs1, rs2, imm, csr⟩ := i
  obtain rfl : o = (op : Int) := hi
  exact rtext_73 op rd rs1 rs2 imm csr (bs (nameS op)) (bs (itoa rd)) (bs (itoa rs1)) (bs (itoa imm)) w hC (name_of hop) (name_size hop) hK (shape_73 _ hK) (dec_of hn.1) (dec_size hn.1) (dec_of hn.2.1) (dec_size hn.2.1) (dec_of hn.2.2.2.1) (dec_size hn.2.2.2.1)
theorem eq_rtext_70 (op : Nat) (i : I6) : (((((((((bs (nameS op)) ++ (bs [32])) ++ (bs [120])) ++ (bs (itoa i.rd))) ++ (bs [44, 32])) ++ (bs [120])) ++ (bs (itoa i.rs1))) ++ (bs [44, 32])) ++ (bs (itoa i.imm))) = bs (textK 70 op i) := by
  have hr := rest_I 70 op (Or.inr (Or.inl rfl)) i
  unfold textK
  rw [hr]
  simp [bs_app, operK, regL]
theorem w_rtext_70 (op : Nat) (hop : op < 57) (i : I6) (hi : i.op = op) (he : encN i = 0) (hk : kindN op = 70) (hn : Near i.rd ∧ Near i.rs1 ∧ Near i.rs2 ∧ Near i.imm ∧ Near i.csr) (w : World) :
    Calls Tryz.prog 10 #[.agg i.cells] w fun e w' => e = .returned (.tuple #[.string (bs (textK 70 op i)), .int .i64 0]) ∧ Below w.heap.size w w' := by
  have hK : KindOf (op : Int) 70 := ⟨fun w => by have h := rkind_yes op hop w; rw [hk] at h; exact h⟩
  have hC := hide (fun w => rcheck_all i w)
  rw [he] at hC
  rw [← eq_rtext_70 op i]
  obtain ⟨o, rd, rs1, rs2, imm, csr⟩ := i
  obtain rfl : o = (op : Int) := hi
  exact rtext_70 op rd rs1 rs2 imm csr (bs (nameS op)) (bs (itoa rd)) (bs (itoa rs1)) (bs (itoa imm)) w hC (name_of hop) (name_size hop) hK (shape_70 _ hK) (dec_of hn.1) (dec_size hn.1) (dec_of hn.2.1) (dec_size hn.2.1) (dec_of hn.2.2.2.1) (dec_size hn.2.2.2.1)
theorem eq_rtext_72 (op : Nat) (i : I6) : (((((((((bs (nameS op)) ++ (bs [32])) ++ (bs [120])) ++ (bs (itoa i.rd))) ++ (bs [44, 32])) ++ (bs [120])) ++ (bs (itoa i.rs1))) ++ (bs [44, 32])) ++ (bs (itoa i.imm))) = bs (textK 72 op i) := by
  have hr := rest_I 72 op (Or.inr (Or.inr rfl)) i
  unfold textK
  rw [hr]
  simp [bs_app, operK, regL]
theorem w_rtext_72 (op : Nat) (hop : op < 57) (i : I6) (hi : i.op = op) (he : encN i = 0) (hk : kindN op = 72) (hn : Near i.rd ∧ Near i.rs1 ∧ Near i.rs2 ∧ Near i.imm ∧ Near i.csr) (w : World) :
    Calls Tryz.prog 10 #[.agg i.cells] w fun e w' => e = .returned (.tuple #[.string (bs (textK 72 op i)), .int .i64 0]) ∧ Below w.heap.size w w' := by
  have hK : KindOf (op : Int) 72 := ⟨fun w => by have h := rkind_yes op hop w; rw [hk] at h; exact h⟩
  have hC := hide (fun w => rcheck_all i w)
  rw [he] at hC
  rw [← eq_rtext_72 op i]
  obtain ⟨o, rd, rs1, rs2, imm, csr⟩ := i
  obtain rfl : o = (op : Int) := hi
  exact rtext_72 op rd rs1 rs2 imm csr (bs (nameS op)) (bs (itoa rd)) (bs (itoa rs1)) (bs (itoa imm)) w hC (name_of hop) (name_size hop) hK (shape_72 _ hK) (dec_of hn.1) (dec_size hn.1) (dec_of hn.2.1) (dec_size hn.2.1) (dec_of hn.2.2.2.1) (dec_size hn.2.2.2.1)
theorem eq_rtext_76 (op : Nat) (i : I6) : (((((((((bs (nameS op)) ++ (bs [32])) ++ (bs [120])) ++ (bs (itoa i.rd))) ++ (bs [44, 32])) ++ (bs (itoa i.imm))) ++ (bs [40, 120])) ++ (bs (itoa i.rs1))) ++ (bs [41])) = bs (textK 76 op i) := by
  have hr := rest_L op i
  unfold textK
  rw [hr]
  simp [bs_app, operK, regL]
theorem w_rtext_76 (op : Nat) (hop : op < 57) (i : I6) (hi : i.op = op) (he : encN i = 0) (hk : kindN op = 76) (hn : Near i.rd ∧ Near i.rs1 ∧ Near i.rs2 ∧ Near i.imm ∧ Near i.csr) (w : World) :
    Calls Tryz.prog 10 #[.agg i.cells] w fun e w' => e = .returned (.tuple #[.string (bs (textK 76 op i)), .int .i64 0]) ∧ Below w.heap.size w w' := by
  have hK : KindOf (op : Int) 76 := ⟨fun w => by have h := rkind_yes op hop w; rw [hk] at h; exact h⟩
  have hC := hide (fun w => rcheck_all i w)
  rw [he] at hC
  rw [← eq_rtext_76 op i]
  obtain ⟨o, rd, rs1, rs2, imm, csr⟩ := i
  obtain rfl : o = (op : Int) := hi
  exact rtext_76 op rd rs1 rs2 imm csr (bs (nameS op)) (bs (itoa rd)) (bs (itoa rs1)) (bs (itoa imm)) w hC (name_of hop) (name_size hop) hK (shape_76 _ hK) (dec_of hn.1) (dec_size hn.1) (dec_of hn.2.1) (dec_size hn.2.1) (dec_of hn.2.2.2.1) (dec_size hn.2.2.2.1)
theorem eq_rtext_66 (op : Nat) (i : I6) : (((((((((bs (nameS op)) ++ (bs [32])) ++ (bs [120])) ++ (bs (itoa i.rs1))) ++ (bs [44, 32])) ++ (bs [120])) ++ (bs (itoa i.rs2))) ++ (bs [44, 32])) ++ (bs (itoa i.imm))) = bs (textK 66 op i) := by
  have hr := rest_B op i
  unfold textK
  rw [hr]
  simp [bs_app, operK, regL]
theorem w_rtext_66 (op : Nat) (hop : op < 57) (i : I6) (hi : i.op = op) (he : encN i = 0) (hk : kindN op = 66) (hn : Near i.rd ∧ Near i.rs1 ∧ Near i.rs2 ∧ Near i.imm ∧ Near i.csr) (w : World) :
    Calls Tryz.prog 10 #[.agg i.cells] w fun e w' => e = .returned (.tuple #[.string (bs (textK 66 op i)), .int .i64 0]) ∧ Below w.heap.size w w' := by
  have hK : KindOf (op : Int) 66 := ⟨fun w => by have h := rkind_yes op hop w; rw [hk] at h; exact h⟩
  have hC := hide (fun w => rcheck_all i w)
  rw [he] at hC
  rw [← eq_rtext_66 op i]
  obtain ⟨o, rd, rs1, rs2, imm, csr⟩ := i
  obtain rfl : o = (op : Int) := hi
  exact rtext_66 op rd rs1 rs2 imm csr (bs (nameS op)) (bs (itoa rs1)) (bs (itoa rs2)) (bs (itoa imm)) w hC (name_of hop) (name_size hop) hK (shape_66 _ hK) (dec_of hn.2.1) (dec_size hn.2.1) (dec_of hn.2.2.1) (dec_size hn.2.2.1) (dec_of hn.2.2.2.1) (dec_size hn.2.2.2.1)
theorem eq_rtext_83 (op : Nat) (i : I6) : (((((((((bs (nameS op)) ++ (bs [32])) ++ (bs [120])) ++ (bs (itoa i.rs2))) ++ (bs [44, 32])) ++ (bs (itoa i.imm))) ++ (bs [40, 120])) ++ (bs (itoa i.rs1))) ++ (bs [41])) = bs (textK 83 op i) := by
  have hr := rest_S op i
  unfold textK
  rw [hr]
  simp [bs_app, operK, regL]
theorem w_rtext_83 (op : Nat) (hop : op < 57) (i : I6) (hi : i.op = op) (he : encN i = 0) (hk : kindN op = 83) (hn : Near i.rd ∧ Near i.rs1 ∧ Near i.rs2 ∧ Near i.imm ∧ Near i.csr) (w : World) :
    Calls Tryz.prog 10 #[.agg i.cells] w fun e w' => e = .returned (.tuple #[.string (bs (textK 83 op i)), .int .i64 0]) ∧ Below w.heap.size w w' := by
  have hK : KindOf (op : Int) 83 := ⟨fun w => by have h := rkind_yes op hop w; rw [hk] at h; exact h⟩
  have hC := hide (fun w => rcheck_all i w)
  rw [he] at hC
  rw [← eq_rtext_83 op i]
  obtain ⟨o, rd, rs1, rs2, imm, csr⟩ := i
  obtain rfl : o = (op : Int) := hi
  exact rtext_83 op rd rs1 rs2 imm csr (bs (nameS op)) (bs (itoa rs1)) (bs (itoa rs2)) (bs (itoa imm)) w hC (name_of hop) (name_size hop) hK (shape_83 _ hK) (dec_of hn.2.1) (dec_size hn.2.1) (dec_of hn.2.2.1) (dec_size hn.2.2.1) (dec_of hn.2.2.2.1) (dec_size hn.2.2.2.1)
theorem eq_rtext_82 (op : Nat) (i : I6) : ((((((((((bs (nameS op)) ++ (bs [32])) ++ (bs [120])) ++ (bs (itoa i.rd))) ++ (bs [44, 32])) ++ (bs [120])) ++ (bs (itoa i.rs1))) ++ (bs [44, 32])) ++ (bs [120])) ++ (bs (itoa i.rs2))) = bs (textK 82 op i) := by
  have hr := rest_R op i
  unfold textK
  rw [hr]
  simp [bs_app, operK, regL]
theorem w_rtext_82 (op : Nat) (hop : op < 57) (i : I6) (hi : i.op = op) (he : encN i = 0) (hk : kindN op = 82) (hn : Near i.rd ∧ Near i.rs1 ∧ Near i.rs2 ∧ Near i.imm ∧ Near i.csr) (w : World) :
    Calls Tryz.prog 10 #[.agg i.cells] w fun e w' => e = .returned (.tuple #[.string (bs (textK 82 op i)), .int .i64 0]) ∧ Below w.heap.size w w' := by
  have hK : KindOf (op : Int) 82 := ⟨fun w => by have h := rkind_yes op hop w; rw [hk] at h; exact h⟩
  have hC := hide (fun w => rcheck_all i w)
  rw [he] at hC
  rw [← eq_rtext_82 op i]
  obtain ⟨o, rd, rs1, rs2, imm, csr⟩ := i
  obtain rfl : o = (op : Int) := hi
  exact rtext_82 op rd rs1 rs2 imm csr (bs (nameS op)) (bs (itoa rd)) (bs (itoa rs1)) (bs (itoa rs2)) w hC (name_of hop) (name_size hop) hK (shape_82 _ hK) (dec_of hn.1) (dec_size hn.1) (dec_of hn.2.1) (dec_size hn.2.1) (dec_of hn.2.2.1) (dec_size hn.2.2.1)
theorem eq_rtext_67a (op : Nat) (i : I6) (hlow : ¬ 54 ≤ op) : (((((((((bs (nameS op)) ++ (bs [32])) ++ (bs [120])) ++ (bs (itoa i.rd))) ++ (bs [44, 32])) ++ (bs (itoa i.csr))) ++ (bs [44, 32])) ++ (bs [120])) ++ (bs (itoa i.rs1))) = bs (textK 67 op i) := by
  have hr := rest_C op hlow i
  unfold textK
  rw [hr]
  simp [bs_app, operK, regL, hlow]
theorem w_rtext_67a (op : Nat) (hop : op < 57) (i : I6) (hi : i.op = op) (he : encN i = 0) (hk : kindN op = 67) (hn : Near i.rd ∧ Near i.rs1 ∧ Near i.rs2 ∧ Near i.imm ∧ Near i.csr) (hlow : ¬ 54 ≤ op) (w : World) :
    Calls Tryz.prog 10 #[.agg i.cells] w fun e w' => e = .returned (.tuple #[.string (bs (textK 67 op i)), .int .i64 0]) ∧ Below w.heap.size w w' := by
  have hK : KindOf (op : Int) 67 := ⟨fun w => by have h := rkind_yes op hop w; rw [hk] at h; exact h⟩
  have hC := hide (fun w => rcheck_all i w)
  rw [he] at hC
  rw [← eq_rtext_67a op i hlow]
  obtain ⟨o, rd, rs1, rs2, imm, csr⟩ := i
  obtain rfl : o = (op : Int) := hi
  exact rtext_67a op rd rs1 rs2 imm csr (bs (nameS op)) (bs (itoa rd)) (bs (itoa rs1)) (bs (itoa csr)) w hC (name_of hop) (name_size hop) hK (shape_67 _ hK) (dec_of hn.1) (dec_size hn.1) (dec_of hn.2.1) (dec_size hn.2.1) (dec_of hn.2.2.2.2) (dec_size hn.2.2.2.2) (by omega)
theorem eq_rtext_67b (op : Nat) (i : I6) (hlow : 54 ≤ op) : ((((((((bs (nameS op)) ++ (bs [32])) ++ (bs [120])) ++ (bs (itoa i.rd))) ++ (bs [44, 32])) ++ (bs (itoa i.csr))) ++ (bs [44, 32])) ++ (bs (itoa i.rs1))) = bs (textK 67 op i) := by
  have hr := rest_Ci op hlow i
  unfold textK
  rw [hr]
  simp [bs_app, operK, regL, hlow]
theorem w_rtext_67b (op : Nat) (hop : op < 57) (i : I6) (hi : i.op = op) (he : encN i = 0) (hk : kindN op = 67) (hn : Near i.rd ∧ Near i.rs1 ∧ Near i.rs2 ∧ Near i.imm ∧ Near i.csr) (hlow : 54 ≤ op) (w : World) :
    Calls Tryz.prog 10 #[.agg i.cells] w fun e w' => e = .returned (.tuple #[.string (bs (textK 67 op i)), .int .i64 0]) ∧ Below w.heap.size w w' := by
  have hK : KindOf (op : Int) 67 := ⟨fun w => by have h := rkind_yes op hop w; rw [hk] at h; exact h⟩
  have hC := hide (fun w => rcheck_all i w)
  rw [he] at hC
  rw [← eq_rtext_67b op i hlow]
  obtain ⟨o, rd, rs1, rs2, imm, csr⟩ := i
  obtain rfl : o = (op : Int) := hi
  exact rtext_67b op rd rs1 rs2 imm csr (bs (nameS op)) (bs (itoa rd)) (bs (itoa rs1)) (bs (itoa csr)) w hC (name_of hop) (name_size hop) hK (shape_67 _ hK) (dec_of hn.1) (dec_size hn.1) (dec_of hn.2.1) (dec_size hn.2.1) (dec_of hn.2.2.2.2) (dec_size hn.2.2.2.2) (by omega)
theorem eq_rtext_78 (op : Nat) (i : I6) : (bs (nameS op)) = bs (textK 78 op i) := by
  have hr := rest_N op i
  unfold textK
  rw [hr]
  simp [operK]
theorem w_rtext_78 (op : Nat) (hop : op < 57) (i : I6) (hi : i.op = op) (he : encN i = 0) (hk : kindN op = 78) (hn : Near i.rd ∧ Near i.rs1 ∧ Near i.rs2 ∧ Near i.imm ∧ Near i.csr) (w : World) :
    Calls Tryz.prog 10 #[.agg i.cells] w fun e w' => e = .returned (.tuple #[.string (bs (textK 78 op i)), .int .i64 0]) ∧ Below w.heap.size w w' := by
  have hK : KindOf (op : Int) 78 := ⟨fun w => by have h := rkind_yes op hop w; rw [hk] at h; exact h⟩
  have hC := hide (fun w => rcheck_all i w)
  rw [he] at hC
  rw [← eq_rtext_78 op i]
  obtain ⟨o, rd, rs1, rs2, imm, csr⟩ := i
  obtain rfl : o = (op : Int) := hi
  exact rtext_78 op rd rs1 rs2 imm csr (bs (nameS op))  w hC (name_of hop) (name_size hop) hK (shape_78 _ hK) 

set_option maxHeartbeats 400000 in
theorem rtext_bad (i : I6) (he : encN i = 1) (w : World) :
    Calls Tryz.prog 10 #[.agg i.cells] w fun e w' => e = .returned (.tuple #[.string ⟨#[]⟩, .int .i64 1]) ∧ Below w.heap.size w w' := by
  have HC := hide (rcheck_all i)
  rw [he] at HC
  clear he
  unfold I6.cells at *
  go_enter Tryz.func10, Tryz.ntmps10
  go_wp2_with (first | (go_at_call 27; refine (HC.out _).mono ?_; rintro e w2 ⟨rfl, hb2⟩))
  go_ret2
  exact ⟨rfl, below_bl rfl (below_one _ _) hb2⟩

theorem rtext_all (i : I6) (w : World) :
    Calls Tryz.prog 10 #[.agg i.cells] w fun e w' => e = .returned (.tuple #[.string ⟨(if encOk i = true then textL i else []).toArray⟩, .int .i64 (encN i)]) ∧ Below w.heap.size w w' := by
  by_cases h : encOk i = true
  · have he : encN i = 0 := by unfold encN; rw [if_pos h]
    rw [if_pos h, he]
    have hn := valid_near h
    obtain ⟨h1, h2⟩ := encOk_valid h
    obtain ⟨h3, h4⟩ := op_nat h1
    have hk := kindN_is _ h3
    unfold textL
    generalize i.op.toNat = op at *
    have key : ∀ k, kindN op = k → IsKind k → Calls Tryz.prog 10 #[.agg i.cells] w fun e w' => e = .returned (.tuple #[.string (bs (textK k op i)), .int .i64 0]) ∧ Below w.heap.size w w' := by
      intro k e hk
      rcases hk with rfl | rfl | rfl | rfl | rfl | rfl | rfl | rfl | rfl | rfl | rfl
      all_goals first
        | exact w_rtext_85 op h3 i h4 he e hn w
        | exact w_rtext_74 op h3 i h4 he e hn w
        | exact w_rtext_73 op h3 i h4 he e hn w
        | exact w_rtext_70 op h3 i h4 he e hn w
        | exact w_rtext_72 op h3 i h4 he e hn w
        | exact w_rtext_76 op h3 i h4 he e hn w
        | exact w_rtext_66 op h3 i h4 he e hn w
        | exact w_rtext_83 op h3 i h4 he e hn w
        | exact w_rtext_82 op h3 i h4 he e hn w
        | exact w_rtext_78 op h3 i h4 he e hn w
        | (by_cases hl : 54 ≤ op
           · exact w_rtext_67b op h3 i h4 he e hn hl w
           · exact w_rtext_67a op h3 i h4 he e hn hl w)
    exact key _ rfl hk
  · have he : encN i = 1 := by unfold encN; rw [if_neg h]
    rw [if_neg h, he]
    exact rtext_bad i he w
end Go.Proofs.YtbidhfhmfmhiiaaGreatDoor
namespace Go.Proofs.YtbidhfhmfmhiiaaGreatDoor
open Go.RowKit
set_option linter.unusedVariables false

abbrev Told := Nat × Int × List Nat
def wordsL (m : Labs) : List Ln → Nat → List Nat → Told
  | [], _, acc => (0, 0, acc)
  | l :: r, k, acc => if wordE l.2 ((k : Int) * 4) m = 0 then wordsL m r (k + 1) (acc ++ [wordV l.2 ((k : Int) * 4) m]) else (l.1, 3, [])
def placedL (s : Str) : Option Nat × Labs → Told
  | (some k, _) => (k, 6, [])
  | (none, m) => wordsL m (dropL isLab (saidL s)) 0 []
def progL (s : Str) : Told := if s.length ≤ 65536 then placedL s (placesFrom (saidL s) 0 []) else (0, 2, [])

def wordCells (l : List Nat) : List Value := l.map fun (x : Nat) => Value.int .u32 (x : Int)
def ProgPost (r : Told) (w : World) (e : Ending) (w' : World) : Prop :=
  ∃ v, e = .returned (.tuple #[v, .int .i64 (r.1 : Int), errno r.2.1]) ∧ w'.ownsRow w.heap.size 48 1 v r.2.2.length (wordCells r.2.2) ∧ Below w.heap.size w w' ∧ (r.2.2 = [] → v = .slice none 0 0)

theorem places_bound (ls : List Ln) : ∀ (a : Nat) (m m' : Labs), placesFrom ls a m = (none, m') → (∀ k p, lookL m k = some p → p ≤ a) → ∀ k p, lookL m' k = some p → p ≤ a + 4 * ls.length := by
  induction ls with
  | nil =>
    intro a m m' h hm k p hp
    rw [placesFrom] at h
    cases h
    have := hm k p hp
    simp; omega
  | cons l r ih =>
    intro a m m' h hm k p hp
    rw [placesFrom] at h
    by_cases h1 : labelL l.2 = []
    · rw [if_pos h1] at h
      have := ih (a + 4) m m' h (fun k p hq => by have := hm k p hq; omega) k p hp
      simp; omega
    · rw [if_neg h1] at h
      cases h2 : lookL m (labelL l.2) with
      | some q => rw [h2] at h; cases h
      | none =>
        rw [h2] at h
        have := ih a _ m' h (fun k' p' hq => by
          by_cases hk : k' = labelL l.2
          · rw [hk, look_snoc_same m _ a h2] at hq
            cases hq; exact Nat.le_refl _
          · rw [look_snoc_other m _ k' a hk] at hq
            exact hm k' p' hq) k p hp
        simp; omega
theorem places_some (ls : List Ln) : ∀ (a : Nat) (m m' : Labs) (k : Nat), placesFrom ls a m = (some k, m') → ∃ p ∈ ls, p.1 = k := by
  induction ls with
  | nil => intro a m m' k h; rw [placesFrom] at h; cases h
  | cons l r ih =>
    intro a m m' k h
    rw [placesFrom] at h
    by_cases h1 : labelL l.2 = []
    · rw [if_pos h1] at h
      obtain ⟨p, hp, e⟩ := ih _ _ _ _ h
      exact ⟨p, List.mem_cons_of_mem _ hp, e⟩
    · rw [if_neg h1] at h
      cases h2 : lookL m (labelL l.2) with
      | some q => rw [h2] at h; simp at h; exact ⟨l, List.mem_cons_self, h.1⟩
      | none =>
        rw [h2] at h
        obtain ⟨p, hp, e⟩ := ih _ _ _ _ h
        exact ⟨p, List.mem_cons_of_mem _ hp, e⟩
theorem raw_pos : ∀ (l : List Str) (k : Nat) (p : Ln), p ∈ rawFrom k l → 1 ≤ p.1
  | [], _, p, h => by simp [rawFrom] at h
  | x :: r, k, p, h => by
    rcases List.mem_cons.1 h with h | h
    · rw [h]; simp
    · exact raw_pos r (k + 1) p h
theorem said_mem (s : Str) (p : Ln) (h : p ∈ saidL s) : p.2.length ≤ s.length ∧ 1 ≤ p.1 ∧ p.1 ≤ s.length + 1 := by
  have h' : p ∈ rawFrom 0 (piecesL s) := by unfold saidL dropL at h; exact (List.mem_filter.1 h).1
  obtain ⟨t, ht, h1, h2⟩ := raw_mem _ _ _ h'
  have := pieces_few s
  have := pieces_short s t ht
  have := shown_le t
  rw [h1]
  exact ⟨by omega, raw_pos _ _ _ h', by omega⟩
theorem said_len (s : Str) : (saidL s).length ≤ s.length + 1 := by
  have h := List.length_filter_le (fun p => !isVoid p) (rawFrom 0 (piecesL s))
  rw [raw_len] at h
  have := pieces_few s
  unfold saidL dropL
  omega
theorem drop_len (P : Ln → Bool) (ls : List Ln) : (dropL P ls).length ≤ ls.length := List.length_filter_le _ _
theorem lines_not_map {b g cap : Nat} {m : Labs} {ls : List Ln} {W : World} (h1 : LabAt b m W) (h2 : LinesAt g cap ls W) : b ≠ g := by
  rintro rfl
  obtain ⟨D, ⟨es, clock, hb, _⟩, _⟩ := h1
  obtain ⟨cur, hc, _⟩ := h2
  rw [hb] at hc
  cases hc
theorem LabAt.grown {b g : Nat} {m : Labs} {W W' : World} (h : LabAt b m W) (hg : W.grownBy W' (some g)) (hne : b ≠ g) : LabAt b m W' := by
  obtain ⟨D, h1, h2⟩ := h
  exact ⟨D, h1.kept hg (by simpa using hne), h2⟩

theorem pl_twice {ls : List Ln} {k : Nat} {m : Labs} (hp : placesFrom ls 0 [] = (some k, m)) {w w' : World} {e : Ending} (h : PlPost ls w e w') : e = .returned (.tuple #[.map none, .int .i64 (k : Int)]) ∧ Below w.heap.size w w' := by
  rcases h with ⟨k', m', hq, he, hb⟩ | ⟨b, m', hq, _⟩
  · rw [hp] at hq
    cases hq
    exact ⟨he, hb⟩
  · rw [hp] at hq
    cases hq
theorem pl_once {ls : List Ln} {m : Labs} (hp : placesFrom ls 0 [] = (none, m)) {w w' : World} {e : Ending} (h : PlPost ls w e w') : ∃ b, e = .returned (.tuple #[.map (some b), .int .i64 0]) ∧ LabAt b m w' ∧ Below w.heap.size w w' := by
  rcases h with ⟨k', m', hq, _⟩ | ⟨b, m', hq, he, hl, hb⟩
  · rw [hp] at hq
    cases hq
  · rw [hp] at hq
    cases hq
    exact ⟨b, he, hl, hb⟩

set_option maxHeartbeats 2000000 in
set_option maxRecDepth 100000 in
theorem prog_long (s : Str) (hs : s.length ≤ 1000000000) (hl : ¬ s.length ≤ 65536) (w : World) :
    Calls Tryz.prog 15 #[.string ⟨s.toArray⟩] w fun e w' => ProgPost (progL s) w e w' := by
  unfold progL
  rw [if_neg hl]
  go_enter Tryz.func15, Tryz.ntmps15
  have hsz : (ByteArray.mk s.toArray).size = s.length := by simp [ByteArray.size]
  go_wp2
  go_ret3
  exact ⟨_, rfl, ⟨rfl, .inl ⟨rfl, rfl⟩⟩, Below.refl _ _, fun _ => rfl⟩

set_option maxHeartbeats 2000000 in
set_option maxRecDepth 100000 in
theorem prog_twice (s : Str) (hl : s.length ≤ 65536) (k : Nat) (m : Labs) (hp : placesFrom (saidL s) 0 [] = (some k, m)) (w : World) (hA : AsAt w) :
    Calls Tryz.prog 15 #[.string ⟨s.toArray⟩] w fun e w' => ProgPost (progL s) w e w' := by
  unfold progL
  rw [if_pos hl, hp, placedL]
  have HSd := hide (said_any s hl)
  have HPl := hide (labels_any (saidL s) (by have := said_len s; omega) (fun p hp => by have := said_mem s p hp; omega))
  replace HPl := hide (fun g cap w h => (HPl.out g cap w h).mono (fun e w' h' => pl_twice hp h'))
  have hk : (k : Int) ≠ 0 := by
    obtain ⟨p, hm, e⟩ := places_some _ _ _ _ _ hp
    have := said_mem s p hm
    omega
  have hsz : (ByteArray.mk s.toArray).size = s.length := by simp [ByteArray.size]
  have HA := hide hA
  generalize saidL s = ls at *
  clear hp hA
  go_enter Tryz.func15, Tryz.ntmps15
  go_wp2_with (first | (go_at_call 41; refine (HSd.out _ HA.out).mono ?_; rintro e w2 ⟨g, cap, rfl, hg2, hl2, hx2⟩; have HL2 := hide hl2; have HB2 := hide hx2; clear hx2 hl2) | (go_at_call 42; refine (HPl.out _ _ _ HL2.out).mono ?_; rintro e w3 ⟨rfl, hx3⟩; have HB3 := hide (HB2.out.trans (hx3.mono HB2.out.size)); clear hx3))
  go_ret3
  exact ⟨_, rfl, ⟨rfl, .inl ⟨rfl, rfl⟩⟩, HB3.out, fun _ => rfl⟩

theorem own_lower {W : World} {B B' e sz n : Nat} {v : Value} {xs : List Value} (h : W.ownsRow B e sz v n xs) (hb : B' ≤ B) : W.ownsRow B' e sz v n xs := by
  obtain ⟨h1, h2 | ⟨g, cap, cur, e1, e2, e3⟩⟩ := h
  · exact ⟨h1, Or.inl h2⟩
  · exact ⟨h1, Or.inr ⟨g, cap, cur, e1, Nat.le_trans hb e2, e3⟩⟩
theorem lines_lt {g cap : Nat} {ls : List Ln} {W : World} (h : LinesAt g cap ls W) : g < W.heap.size := by
  obtain ⟨cur, h1, _⟩ := h
  exact (Array.getElem?_eq_some_iff.1 h1).1
theorem lab_lt {b : Nat} {m : Labs} {W : World} (h : LabAt b m W) : b < W.heap.size := by
  obtain ⟨D, h1, _⟩ := h
  exact h1.lt
theorem LabAt.same {b : Nat} {m : Labs} {W W' : World} (h : LabAt b m W) (hb : W'.heap[b]? = W.heap[b]?) : LabAt b m W' := by
  obtain ⟨D, ⟨es, clock, h1, h2⟩, h3⟩ := h
  exact ⟨D, ⟨es, clock, hb.trans h1, h2⟩, h3⟩

/-- Between two rounds. -/
def PgRel (ls : List Ln) (g cap b : Nat) (m : Labs) (w w0 : World) (kv ov : Value) (wr : World) : Prop :=
  ∃ (k : Nat) (acc : List Nat), kv = .int .i64 (k : Int) ∧ k ≤ ls.length ∧ acc.length = k ∧ wordsL m ls 0 [] = wordsL m (ls.drop k) k acc ∧ wr.ownsRow w0.heap.size 48 1 ov k (wordCells acc) ∧ LinesAt g cap ls wr ∧ LabAt b m wr ∧ Below w.heap.size w wr ∧ w0.heap.size ≤ wr.heap.size ∧ (ov = .slice none 0 0 ↔ k = 0)
def pgLeft (ls : List Ln) (kv : Value) : Nat := ls.length - (intOf kv).toNat

set_option maxHeartbeats 4000000 in
set_option maxRecDepth 100000 in
theorem prog_words (s : Str) (hl : s.length ≤ 65536) (m : Labs) (hp : placesFrom (saidL s) 0 [] = (none, m)) (w : World) (hA : AsAt w) :
    Calls Tryz.prog 15 #[.string ⟨s.toArray⟩] w fun e w' => ProgPost (progL s) w e w' := by
  unfold progL
  rw [if_pos hl, hp, placedL]
  have hsl := said_len s
  have hsm := said_mem s
  have HSd := hide (said_any s hl)
  have HPl := hide (labels_any (saidL s) (by omega) (fun p hp => by have := hsm p hp; omega))
  replace HPl := hide (fun g cap w h => (HPl.out g cap w h).mono (fun e w' h' => pl_once hp h'))
  have HD := hide (del_any 44 isLab tells_lab (enters_of Tryz.func44 (by kernel_rfl) rfl) (saidL s) (by omega) (fun p hp => by have := hsm p hp; omega))
  have hmb : ∀ k p, lookL m k = some p → p ≤ 1000000 := fun k p h => by
    have := places_bound _ 0 [] m hp (fun k p h => by cases h) k p h
    omega
  have hdm : ∀ p ∈ dropL isLab (saidL s), p.2.length ≤ 70000 ∧ p.1 ≤ 100000 := fun p hp => by
    have := hsm p (List.mem_filter.1 hp).1
    omega
  have hdl : (dropL isLab (saidL s)).length ≤ 65537 := by have := drop_len isLab (saidL s); omega
  have HDM := hide hdm
  have HMB := hide hmb
  have hsz : (ByteArray.mk s.toArray).size = s.length := by simp [ByteArray.size]
  have HA := hide hA
  clear hp hA hsm hsl hdm hmb
  generalize hds : dropL isLab (saidL s) = ds at *
  generalize saidL s = ls at *
  obtain ⟨i0, hi, hq0, hq1, hq2⟩ := info_parts (P := Tryz.prog) (e := 48) (z := .int .u32 0) (size := 1) (bytes := 4) (by kernel_rfl)
  go_enter Tryz.func15, Tryz.ntmps15
  go_wp2_with (first | (go_at_call 41; refine (HSd.out _ HA.out).mono ?_; rintro e w2 ⟨g, cap, rfl, hg2, hl2, hx2⟩; have HL2 := hide hl2; have HB2 := hide hx2; clear hx2 hl2) | (go_at_call 42; refine (HPl.out _ _ _ HL2.out).mono ?_; rintro e w3 ⟨b, rfl, hb3, hx3⟩; have HB3 := hide (HB2.out.trans (hx3.mono HB2.out.size)); have HL3 := hide (HL2.out.keeps hx3); have HM3 := hide hb3; clear hx3 hb3) | (go_at_call 43; refine (HD.out _ _ _ HL3.out).mono ?_; rintro e w4 ⟨rfl, hx5, hx6⟩; have HL4 := hide hx5; have HM4 := hide (HM3.out.grown hx6 (lines_not_map HM3.out HL3.out)); have HB4 := hide (HB3.out.grown hx6 HB3.out.size (fun j hj => by cases hj; exact hg2)); clear hx5 hx6))
  go_loopw [8, 32] (fun ov kv wr => PgRel ds g cap b m w w4 kv ov wr) (fun ov kv wr => pgLeft ds kv)
  case atStart => exact ⟨0, [], rfl, Nat.zero_le _, rfl, rfl, ⟨rfl, .inl ⟨rfl, rfl⟩⟩, HL4.out, HM4.out, HB4.out, Nat.le_refl _, ⟨fun _ => rfl, fun _ => rfl⟩⟩
  case round =>
    obtain ⟨k, acc, rfl, hk, hacc, hW, hO, hLn, hLb, hB, hZ, hN⟩ := hrel
    have HW := hide hW
    have HO := hide hO
    have HLn := hide hLn
    have HLb := hide hLb
    have HB := hide hB
    have HZ := hide hZ
    have HN := hide hN
    have HK := hide hacc
    have HZ4 := hide (show w.heap.size ≤ w4.heap.size from HB4.out.size)
    have HGB := hide (show g < w4.heap.size ∧ b < w4.heap.size from ⟨lines_lt HL4.out, lab_lt HM4.out⟩)
    clear hW hO hLn hLb hB hZ hN
    by_cases hlt : k < ds.length
    · obtain ⟨⟨num, tx⟩, hp⟩ : ∃ p, ds[k]? = some p := ⟨_, List.getElem?_eq_getElem hlt⟩
      obtain ⟨hc1, hc2⟩ := HLn.out.cells k _ hp
      obtain ⟨htx, hnum⟩ := HDM.out _ (List.mem_of_getElem? hp)
      simp only at hc1 hc2 htx hnum
      have hk2 : (k : Int) * 2 = ((k * 2 : Nat) : Int) := by omega
      have HDr := hide (show ds.drop k = (num, tx) :: ds.drop (k + 1) from by rw [List.drop_eq_getElem_cons hlt]; congr 1; exact (List.getElem?_eq_some_iff.1 hp).2)
      have HW' := HW.out
      rw [HDr.out, wordsL] at HW'
      simp only at HW'
      have HWd := hide (word_any tx htx (k * 4) (by omega) b m HMB.out)
      rw [show (((k * 4 : Nat)) : Int) = (k : Int) * 4 by omega] at HWd
      have hvl := wordV_lt tx ((k : Int) * 4) m
      generalize wordV tx ((k : Int) * 4) m = wv at *
      generalize wordE tx ((k : Int) * 4) m = we at *
      clear hp HDr HW
      by_cases hwe : we = 0
      · subst hwe
        rw [if_pos rfl] at HW'
        have HG := hide HW'
        rw [errno_zero] at HWd
        clear HW'
        go_wp2_with (first | (go_at_call 46; refine (HWd.out _ ((HA.out.below HB.out).below (below_box wr _)) (HLb.out.keeps (below_box wr _))).mono ?_; rintro e w5 ⟨rfl, hx5⟩; have HB5 := hide (below_new hx5); clear hx5) | (at_builtin; refine wpList_append_own _ rfl _ _ 39 rfl w4.heap.size 48 i0 (.int .u32 0) 1 4 Tryz.underlying39 hi hq0 hq1 hq2 rfl (by decide) _ _ _ rfl ((own_keeps HO.out HB5.out).alloc _) ⟨_, 0, none⟩ 1 1 [.int .u32 (wv : Int)] rfl rfl (cell_one_new _ _ _) (by simp [Value.oneCell']) (by unfold maxLen; omega) (by omega) (by have := HZ.out; have := HB5.out.size; simp; omega) ?_; intro v6 w6 hown6 hgrow6 hnil6))
        go_roundw
        case rel =>
          have hX := (own_keeps HO.out HB5.out).alloc (.cells #[.int .u32 (wv : Int)] 48)
          have hz5 : w4.heap.size ≤ w5.heap.size := Nat.le_trans HZ.out HB5.out.size
          have hz6 := hgrow6.size
          have hbz := HB.out.trans (HB5.out.mono HB.out.size)
          have hLn5 := HLn.out.keeps HB5.out
          have hLb5 := HLb.out.keeps HB5.out
          simp at hz6
          have hstay : ∀ j, j < w4.heap.size → w6.heap[j]? = w5.heap[j]? := fun j hj => (hgrow6.block j (by simp; omega) (fun h => by have := own_block_ge hX _ h.symm; omega)).trans (Below.heap_alloc _ _ _ (by omega))
          refine ⟨k + 1, acc ++ [wv], by go_num, by omega, by simp [HK.out], HG.out, by unfold wordCells; rw [List.map_append]; exact hown6, hLn5.same (hstay g HGB.out.1), hLb5.same (hstay b HGB.out.2), ?_, by omega, ⟨fun h => by have := (hnil6.1 h).2; omega, fun h => by omega⟩⟩
          exact (hbz.alloc hbz.size _).grown hgrow6 (by have := hbz.size; simp; omega) (fun j hj => by have := own_block_ge hX j hj; have := HZ4.out; omega)
        case measure => unfold pgLeft; simp only [intOf]; omega
      · rw [if_neg hwe] at HW'
        have HG := hide HW'
        rw [errno_pos _ hwe] at HWd
        clear HW'
        go_wp2_with (first | (go_at_call 46; refine (HWd.out _ ((HA.out.below HB.out).below (below_box wr _)) (HLb.out.keeps (below_box wr _))).mono ?_; rintro e w5 ⟨rfl, hx5⟩; have HB5 := hide (below_new hx5); have hb1 : w5.cell? ⟨wr.heap.size, 0, none⟩ = some (.int .i64 (num : Int)) := (hx5.cell (p := ⟨wr.heap.size, 0, none⟩) (by simp)).trans ((cell_of_row _ _ _ _ _ (0, 0) (heap_alloc_new wr _)).trans rfl); clear hx5))
        go_quiet (fail)
        go_wp2
        go_ret3
        have hbz := HB.out.trans (HB5.out.mono HB.out.size)
        rw [HG.out]
        exact ⟨_, rfl, ⟨rfl, .inl ⟨rfl, rfl⟩⟩, hbz.trans ((below_drewS _ _).mono hbz.size), fun _ => rfl⟩
    · obtain rfl : k = ds.length := by omega
      have HG := HW.out
      rw [List.drop_length, wordsL] at HG
      have HG' := hide HG
      clear HG HW
      go_wp2
      go_ret3
      rw [HG'.out]
      refine ⟨_, rfl, ?_, HB.out, fun h => HN.out.2 (by have := HK.out; rw [show acc = [] from h] at this; exact this.symm)⟩
      have := own_lower HO.out HZ4.out
      rw [← HK.out] at this
      exact this

theorem prog_any (s : Str) (hs : s.length ≤ 1000000000) (w : World) (hA : AsAt w) :
    Calls Tryz.prog 15 #[.string ⟨s.toArray⟩] w fun e w' => ProgPost (progL s) w e w' := by
  by_cases hl : s.length ≤ 65536
  · rcases hp : placesFrom (saidL s) 0 [] with ⟨_ | k, m⟩
    · exact prog_words s hl m hp w hA
    · exact prog_twice s hl k m hp w hA
  · exact prog_long s hs hl w
end Go.Proofs.YtbidhfhmfmhiiaaGreatDoor
namespace Go.Proofs.YtbidhfhmfmhiiaaGreatDoor
open Go.RowKit
set_option linter.unusedVariables false

def loopS : Str := [108, 111, 111, 112, 58, 10, 97, 100, 100, 105, 32, 120, 49, 44, 32, 120, 49, 44, 32, 45, 49, 10, 98, 110, 101, 32, 120, 49, 44, 32, 120, 48, 44, 32, 108, 111, 111, 112, 10]
set_option maxRecDepth 100000 in
theorem prog_loop : progL loopS = (0, 0, [0xfff08093, 0xfe009ee3]) := by decide +kernel
theorem words_cell {W : World} {B n : Nat} {v : Value} {l : List Nat} (h : W.ownsRow B 48 1 v n (wordCells l)) (hn : l.length = n) (hv : l ≠ []) : ∃ g cap, v = .slice (some ⟨g, 0, none⟩) n cap ∧ B ≤ g ∧ n ≤ cap ∧ cap ≤ maxLen ∧ ∀ (k x : Nat), l[k]? = some x → W.cell? ⟨g, k, none⟩ = some (.int .u32 (x : Int)) := by
  have hc := fun (g cap : Nat) (hh : v = .slice (some ⟨g, 0, none⟩) n cap) (k x : Nat) (hk : l[k]? = some x) => (show W.cell? ⟨g, k, none⟩ = some (.int .u32 (x : Int)) from by
    subst hh
    have hkl : k < l.length := (List.getElem?_eq_some_iff.1 hk).1
    refine (h.cellAt k (by omega)).trans ?_
    unfold wordCells
    rw [List.getElem?_map, hk]
    rfl)
  obtain ⟨h1, ⟨h2, h3⟩ | ⟨g, cap, cur, e1, e2, e3, e4, e5, e6⟩⟩ := h
  · subst h3
    exact absurd (List.length_eq_zero_iff.1 hn) hv
  · exact ⟨g, cap, e1, e2, e4, e5, hc g cap e1⟩

set_option maxHeartbeats 1000000 in
set_option maxRecDepth 100000 in
theorem sure_any (w : World) (hA : AsAt w) :
    Calls Tryz.prog 12 #[] w fun e w' => e = .returned (.bool true) ∧ Below w.heap.size w w' := by
  have HP := hide (fun w h => (prog_any loopS (by decide) w h).mono (fun e w' h' => (by
    rw [prog_loop] at h'
    obtain ⟨v, he, ho, hb, _⟩ := h'
    obtain ⟨g, cap, rfl, hg, hcp, hcm, hc⟩ := words_cell ho rfl (by decide)
    exact ⟨g, cap, he, hc 1 0xfe009ee3 rfl, hcp, hb⟩ : ∃ g cap : Nat, e = .returned (.tuple #[.slice (some ⟨g, 0, none⟩) 2 cap, .int .i64 0, .nilIface]) ∧ w'.cell? ⟨g, 1, none⟩ = some (.int .u32 0xfe009ee3) ∧ 2 ≤ cap ∧ Below w.heap.size w w')))
  have HA := hide hA
  clear hA
  go_enter Tryz.func12, Tryz.ntmps12
  go_wp2_with (go_at_call 15; refine (HP.out _ HA.out).mono ?_; rintro e w2 ⟨g, cap, rfl, hc, hcp, hx2⟩; have HB2 := hide hx2; clear hx2)
  go_ret
  exact ⟨rfl, HB2.out⟩
end Go.Proofs.YtbidhfhmfmhiiaaGreatDoor
namespace Go.Proofs.YtbidhfhmfmhiiaaGreatDoor
open Go.ChangeShapes Go.WideShapes Go.ChangeAt Go.RowKit
set_option linter.unusedVariables false

theorem laid_et : Tryz.prog.globalNamed "errors.errorType" = some 3 := by kernel_rfl
theorem laid_rt : (Tryz.prog.cutTypes.find? (·.1 == "internal/reflectlite.rtype")).map (·.2) = some 146 := by kernel_rfl
theorem laid_oneRow : ((List.range 248).filter fun t => Tryz.prog.rowNamed t [101, 114, 114, 111, 114]) = [25] := by kernel_rfl
theorem laid_size : Tryz.prog.types.size = 248 := by kernel_rfl

theorem handle_of_met {W : World} (h : handlesMet Tryz.prog [("errors.errorType", Rows.laid_errors_errorType)] W) : HandleAt W := by
  obtain ⟨name, u, ty, e1, e2, e3, e4, e5⟩ := h _ (List.mem_singleton.2 rfl)
  have en : name = [101, 114, 114, 111, 114] := (Option.some.inj e1).symm
  subst en
  obtain rfl := Option.some.inj (laid_rt.symm.trans e2)
  have hm : ty ∈ (List.range 248).filter fun t => Tryz.prog.rowNamed t [101, 114, 114, 111, 114] := List.mem_filter.2 ⟨List.mem_range.2 (by rw [← laid_size]; exact e3), e4⟩
  rw [laid_oneRow] at hm
  obtain rfl := List.mem_singleton.1 hm
  have hh : typeHandle Tryz.prog 25 = .pointer (some ⟨12, 25, none⟩) := by kernel_rfl
  rw [hh] at e5
  simpa [HandleAt] using World.var?_cell laid_et e5 0
theorem HandleAt.below {w w' : World} (h : HandleAt w) (hb : Below w.heap.size w w') : HandleAt w' := by
  have hl : 3 < w.heap.size := by
    rcases Nat.lt_or_ge 3 w.heap.size with h' | h'
    · exact h'
    · simp [HandleAt, World.cell?, Array.getElem?_eq_none h'] at h
  exact (hb.cell (p := ⟨3, 0, none⟩) hl).trans h
theorem num_all (n : Int) (w : World) (hg : HandleAt w) : Calls Tryz.prog 11 #[errno n] w fun e w' => e = .returned (.int .i64 n) ∧ Below w.heap.size w w' := by
  by_cases h : n = 0
  · subst h
    exact num_nil w
  · rw [errno_pos n h]
    exact num_err n w hg

theorem met_over {P : Program} {w0 : World} {l : List (String × DataW Unit)} (args : Array Value) (hf : w0.layFits P l [] = true) (hi : w0.layIfaces P l ((w0.layVars P l).forCall (fun _ _ => 0) ⟨#[], args, []⟩).memory = true) :
    laidMet P l ((w0.layVars P l).forCall (fun _ _ => 0) ⟨#[], args, []⟩).memory := by
  have hall : ∀ x ∈ l, (l.map (·.1)).contains x.1 = true := fun x hx => List.contains_iff_mem.2 (List.mem_map.2 ⟨x, hx, rfl⟩)
  have f1 : (l.filter fun x => (l.map (·.1)).contains x.1) = l := List.filter_eq_self.2 hall
  have f2 : (l.filter fun x => !(l.map (·.1)).contains x.1) = [] := List.filter_eq_nil_iff.2 fun x hx => by rw [hall x hx]; simp
  refine laidMet_layVars (w0 := w0) (l.map (·.1)) [] ?_ ?_ ?_ ?_
  · rw [f1]; rfl
  · rw [f1]; exact hf
  · rw [f1]; exact hi
  · rw [f2]; exact LaidIn.none
end Go.Proofs.YtbidhfhmfmhiiaaGreatDoor
namespace Go.Proofs.YtbidhfhmfmhiiaaGreatDoor
open Go.RowKit
set_option linter.unusedVariables false

set_option maxHeartbeats 1000000 in
theorem texts_walk (i : I6) (w : World) (hA : AsAt w) (hH : HandleAt w) :
    Calls Tryz.prog 3 #[.agg i.cells] w fun e w' => e = .returned (.bool true) ∧ Below w.heap.size w w' := by
  have HP := hide (text_all i)
  have HD := hide (rtext_all i)
  have HN := hide (num_all (encN i))
  have HS := hide sure_any
  generalize (ByteArray.mk (if encOk i = true then textL i else []).toArray) = t at *
  generalize errno (encN i) = ev at *
  generalize encN i = n at *
  obtain ⟨op, rd, r1, r2, im, cs⟩ := i
  simp only [I6.cells] at HP HD ⊢
  have HA := hide hA
  have HH := hide hH
  clear hA hH
  go_enter Tryz.func3, Tryz.ntmps3
  go_wp2_with (fail)
  obtain ⟨W, hW⟩ : ∃ X, w.alloc (.cells #[.int .i64 op, .int .i64 rd, .int .i64 r1, .int .i64 r2, .int .i64 im, .int .i64 cs] 23) = X := ⟨_, rfl⟩
  have hR : RowAt W w.heap.size #[.int .i64 op, .int .i64 rd, .int .i64 r1, .int .i64 r2, .int .i64 im, .int .i64 cs] 23 := hW ▸ RowAt.new w _ _ _ rfl
  have hB : Below w.heap.size w W := hW ▸ below_one _ _
  have HR := hide hR
  have HB := hide hB
  rw [hW]
  clear hW hR hB
  refine (HP.out _ (HA.out.below HB.out)).mono ?_
  rintro e w1 ⟨rfl, hb1⟩
  have hR := HR.out.bl hb1
  have HB1 := hide (below_bl rfl HB.out hb1)
  have c0 : w1.cell? ⟨w.heap.size, 0, none⟩ = some (.int .i64 op) := hR.cell 0
  have c1 : w1.cell? ⟨w.heap.size, 1, none⟩ = some (.int .i64 rd) := hR.cell 1
  have c2 : w1.cell? ⟨w.heap.size, 2, none⟩ = some (.int .i64 r1) := hR.cell 2
  have c3 : w1.cell? ⟨w.heap.size, 3, none⟩ = some (.int .i64 r2) := hR.cell 3
  have c4 : w1.cell? ⟨w.heap.size, 4, none⟩ = some (.int .i64 im) := hR.cell 4
  have c5 : w1.cell? ⟨w.heap.size, 5, none⟩ = some (.int .i64 cs) := hR.cell 5
  clear HR HB hR hb1
  go_wp2_with (fail)
  refine (HD.out _).mono ?_
  rintro e w2 ⟨rfl, hb2⟩
  have HB2 := hide (below_bl rfl HB1.out hb2)
  clear HB1 hb2 c0 c1 c2 c3 c4 c5
  go_wp2_with (fail)
  refine (HN.out _ (HH.out.below HB2.out)).mono ?_
  rintro e w3 ⟨rfl, hb3⟩
  have HB3 := hide (below_bl rfl HB2.out hb3)
  clear HB2 hb3
  go_wp2_with (fail)
  refine (HS.out _ (HA.out.below HB3.out)).mono ?_
  rintro e w4 ⟨rfl, hb4⟩
  go_wp2_with (fail)
  go_ret
  exact ⟨rfl, below_bl rfl HB3.out hb4⟩
end Go.Proofs.YtbidhfhmfmhiiaaGreatDoor
namespace Go.Proofs.YtbidhfhmfmhiiaaGreatDoor
open Go.ChangeShapes Go.WideShapes Go.ChangeAt Go.RowKit

theorem open_flat {H : Type} {enc : TypeId × Value → H} {P : Program} {w : World} {base b0 : Nat} {spare : Nat → Bool} {held : Bool} {r : Reach} {t e : TypeId} {fs : Array Field} {k : IntKind} {v : Value} {d : DataW H} {p : List MemPlace}
    (ht : P.underlying t = some (.struct fs)) (he : P.underlying e = some (.int k)) (hce : P.cellsOf e = 1) (hC : P.cellsOf t = fs.size) (hf : ((List.range fs.size).all fun i => (fs[i]?).any fun f => f.type == e && f.offset == i) = true)
    (hv : Value.okWide P w r b0 t v) (h : DataW.Trod enc P w base spare held t v d p) :
    ∃ zs : List Int, zs.length = fs.size ∧ v = .agg (zs.map (Value.int k)).toArray ∧ ∀ z ∈ zs, (Lit.int k z).wf = true := by
  simp only [Value.okWide, ht] at hv
  obtain ⟨cs, rfl, hsz, _⟩ := hv
  obtain ⟨fuel, hfu⟩ := h
  obtain ⟨xs, m, _, _, hlen, hxl, hx⟩ := DataW.trod_struct ht hfu
  simp only [Value.cells] at hlen hx
  have hl : cs.toList.length = fs.size := by simpa [hC] using hsz
  have hel : ∀ i (hi : i < cs.toList.length), ∃ z, cs.toList[i] = .int k z ∧ (Lit.int k z).wf = true := by
    intro i hi
    have hi2 : i < fs.size := by omega
    have hfi := List.all_eq_true.1 hf i (List.mem_range.2 hi2)
    rw [Array.getElem?_eq_getElem hi2] at hfi
    simp only [Option.any_some, Bool.and_eq_true, beq_iff_eq] at hfi
    have h1 := hx i fs[i] (Array.getElem?_eq_getElem hi2)
    have hxi : i < xs.length := by omega
    rw [hfi.1, hfi.2, hce, List.getElem?_eq_getElem hxi] at h1
    obtain ⟨z, e1, _, hw⟩ := DataW.trod_int he h1
    refine ⟨z, ?_, hw⟩
    have e2 : (cs.toList.drop i).take 1 = [cs.toList[i]] := by
      rw [List.drop_eq_getElem_cons hi]; simp
    rw [e2] at e1
    simpa using e1
  refine ⟨cs.toList.map intOf, by simpa using hl, ?_, ?_⟩
  · congr 1
    apply Array.ext'
    apply List.ext_getElem
    · simp
    · intro i h1 h2
      obtain ⟨z, ez, _⟩ := hel i h1
      simp only [List.getElem_map]
      rw [ez]; rfl
  · intro z hz
    obtain ⟨v, hv, rfl⟩ := List.mem_map.1 hz
    obtain ⟨i, hi, rfl⟩ := List.mem_iff_getElem.1 hv
    obtain ⟨z, ez, hw⟩ := hel i hi
    rw [ez]; exact hw
end Go.Proofs.YtbidhfhmfmhiiaaGreatDoor
namespace Go.Proofs.YtbidhfhmfmhiiaaGreatDoor
open Go.ChangeShapes Go.WideShapes Go.ChangeAt Go.RowKit

theorem cells_int : Tryz.prog.cellsOf 3 = 1 := by kernel_rfl
theorem cells_rinst : Tryz.prog.cellsOf 23 = 6 := by kernel_rfl

set_option maxRecDepth 100000 in
theorem open_inst {H : Type} {enc : TypeId × Value → H} {w : World} {base b0 : Nat} {spare : Nat → Bool} {held : Bool} {r : Reach} {v : Value} {d : DataW H} {p : List MemPlace}
    (hv : Value.okWide Tryz.prog w r b0 23 v) (h : DataW.Trod enc Tryz.prog w base spare held 23 v d p) :
    ∃ i : I6, v = .agg i.cells ∧ ∀ z ∈ [i.op, i.rd, i.rs1, i.rs2, i.imm, i.csr], (Lit.int .i64 z).wf = true := by
  obtain ⟨zs, hl, rfl, hw⟩ := open_flat Tryz.underlying23 Tryz.underlying3 cells_int cells_rinst (by decide) hv h
  match zs, hl with
  | [a, b, c, d, e, f], _ => exact ⟨⟨a, b, c, d, e, f⟩, rfl, hw⟩
end Go.Proofs.YtbidhfhmfmhiiaaGreatDoor
namespace Go.Proofs.YtbidhfhmfmhiiaaGreatDoor
open Go.ChangeShapes Go.WideShapes Go.ChangeAt Go.RowKit
set_option linter.unusedVariables false

theorem laidOut : laidOutB Tryz.prog = true := by kernel_rfl

abbrev plainT : List (String × DataW Unit) := [("math/bits.deBruijn32tab", Rows.laid_math_bits_deBruijn32tab), ("math/bits.deBruijn64tab", Rows.laid_math_bits_deBruijn64tab), ("internal/strconv.uint64pow10", Rows.laid_internal_strconv_uint64pow10), ("unicode/utf8.acceptRanges", Rows.laid_unicode_utf8_acceptRanges), ("strconv.ErrRange", Rows.laid_strconv_ErrRange), ("strconv.ErrSyntax", Rows.laid_strconv_ErrSyntax), ("pinnace/inst.names", Rows.laid_pinnace_inst_names), ("pinnace/inst.kinds", Rows.laid_pinnace_inst_kinds), ("pinnace/inst.words", Rows.laid_pinnace_inst_words), ("unicode/utf8.first", Rows.laid_unicode_utf8_first)]
theorem met_texts {W : World} (h : laidMetH Tryz.prog Rows.asmTextsRow.laid W) : laidMet Tryz.prog plainT W ∧ handlesMet Tryz.prog [("errors.errorType", Rows.laid_errors_errorType)] W := h
theorem asAt_texts {W : World} (h : laidMetH Tryz.prog Rows.asmTextsRow.laid W) (hs : W.ShapedOpen Tryz.prog) : AsAt W :=
  asAt_of_laid (met_texts h).1 hs (by simp) (by simp) (by simp) (by simp) (by simp) (by simp) (by simp) (by simp)

set_option maxRecDepth 100000 in
theorem asmTexts_lifted (os : Os) (started : os.Started) (H : Type) (enc : TypeId × Value → H) :
    ReturnsInHanded {} Tryz.checked os 3 .any (fun w args => (Rows.asmTextsSpec.pre enc Tryz.prog Tryz.f3 [] false w args ∧ laidMetH Tryz.prog Rows.asmTextsRow.laid w) ∧ sizedMet enc Tryz.prog Tryz.f3 (OpenSpec.ofChange Rows.asmTextsSpec) false w args)
      (Rows.asmTextsSpec.post enc Tryz.prog Tryz.f3 false true false false) := by
  refine wrap_shaped (C := Tryz.checked) (X := fun w _ => laidMetH Tryz.prog Rows.asmTextsRow.laid w) (fun _ _ _ hh h => h.of_heap hh) own started (by kernel_rfl) Tryz.func3
    (ChangeSpec.witness_shaped (enc := enc) (C := Tryz.checked) (os := os) (X := fun w _ => laidMetH Tryz.prog Rows.asmTextsRow.laid w) false (((World.holding Tryz.prog os ⟨#[], #[], []⟩).setCell ⟨3, 0, none⟩ (.iface 146 (.agg #[.pointer (some ⟨12, 25, none⟩)]))).layVars Tryz.prog plainT) #[.agg #[.int .i64 0, .int .i64 0, .int .i64 0, .int .i64 0, .int .i64 0, .int .i64 0]] 8 (World.layVars_os _ _ _)
      (World.shaped_of_ZipB (by kernel_rfl) (by kernel_rfl)) (by kernel_rfl) (by kernel_rfl) (by kernel_rfl)
      (laidMetH_of_parts (met_over (l := plainT) _ (by kernel_rfl) (by kernel_rfl)) (by kernel_rfl))) ?_
  intro W base args ds gs before hval0 hW hL hS
  have hval : ∀ (j : Nat) t v, Tryz.f3.params[j]? = some t → args[j]? = some v → Value.okWide Tryz.prog W .any base t v := hval0
  have hW' := hW
  obtain ⟨p, q, hA0, hV, rfl, hfz, hnd⟩ := hW
  have hA : DataW.TrodAll enc Tryz.prog W 0 (fun _ => true) true Tryz.f3.params.toList args.toList ds p := hA0
  rw [Tryz.params3] at hA hval
  obtain ⟨v0, vs0, d0, ds0, p0, q0, hargs, rfl, rfl, h0, r0⟩ := trodAll_cons hA
  obtain ⟨rfl, rfl, rfl⟩ := trodAll_nil r0
  obtain rfl : args = #[v0] := by cases args; simp_all
  obtain ⟨rfl, rfl⟩ := trodVars_none hV
  have lt0 : ∀ x ∈ p0, x.block < W.heap.size := by obtain ⟨m, hm⟩ := h0; exact DataW.trod_lt m _ _ _ hm
  obtain ⟨i0, rfl, hi0⟩ := open_inst (hval 0 23 v0 rfl rfl) h0
  clear hA0 hval0
  refine (texts_walk i0 W (asAt_texts hL hS) (handle_of_met (met_texts hL).2)).mono fun e W' ⟨he, bel⟩ => ?_
  subst he
  exact ⟨_, rfl, _, _, _, [], _, [], hW', trodAll_mk1 (shut_bool Tryz.underlying4 _), (trodAll_cons_mk (Below.trod laidOut (by kernel_rfl) (of_decide_eq_true (by kernel_rfl)) h0 bel lt0) trodAll_mk0), rfl, bel.frame _, fun h => by cases h⟩

theorem asmTexts_over : Rows.AsmTextsSaid :=
  OpenClaim.holds_of_wide 3 Tryz.f3 rfl rfl rfl rfl rfl rfl rfl ⟨rfl, rfl, rfl, rfl, rfl⟩ rfl rfl rfl rfl rfl (by kernel_rfl) Tryz.func3 (by kernel_rfl)
    (of_decide_eq_true (by kernel_rfl)) (by unfold Func.isWrapper; first | (rw [if_pos (by decide +kernel)]; kernel_rfl) | (rw [if_neg (by decide +kernel)]; exact ⟨rfl, rfl⟩))
    (fun os started H enc _ => asmTexts_lifted os started H enc)

theorem asmTexts_proved : Rows.AsmTextsCardSaid :=
  Claim7.holds_tied_plain_at .later [] [.data, .data, .data, .data, .handle, .sentinel, .sentinel, .data, .data, .data, .pinned] true (true, "008fa0dc7819a8aaae1f0985ab1f82f03eec4d87b3d58ff688b1bbda672f1d5f") true
    asmTexts_over (fun _ h => by cases h) (by kernel_rfl) (fun _ h => by cases h) asmTexts_row_tie rfl ⟨rfl, rfl⟩ (by kernel_rfl) rfl
    (fun f fn hf hfn => by
      obtain rfl : f = 3 := Option.some.inj ((show Tryz.prog.funcNamed Rows.asmTextsRow.func = some 3 by kernel_rfl).symm.trans hf) |>.symm
      obtain rfl : fn = Tryz.f3 := (Option.some.inj (Tryz.func3.symm.trans hfn)).symm
      exact ⟨by kernel_rfl, fun j t ht => by
        rw [Tryz.params3] at ht
        have hm : t ∈ [23] := by simpa using Array.mem_of_getElem? ht
        have hall : ([23].all fun u => !Tryz.prog.wantsStandIn u) = true := by kernel_rfl
        exact (show Tryz.prog.wantsStandIn t = false by simpa using List.all_eq_true.1 hall t hm)⟩)
    (by kernel_rfl)
#print axioms asmTexts_proved
end Go.Proofs.YtbidhfhmfmhiiaaGreatDoor
