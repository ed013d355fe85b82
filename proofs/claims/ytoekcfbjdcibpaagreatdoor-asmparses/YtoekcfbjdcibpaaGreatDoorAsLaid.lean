/-
  What the listed variables' condition and the world's shape give a walk of package asm; the wrap that keeps the shape; a start that meets the condition.
-/
import Derived.Test.YtoekcfbjdcibpaaGreatDoorAsAt
import Derived.Test.YtoekcfbjdcibpaaGreatDoorTabs
import Derived.Test.YtoekcfbjdcibpaaGreatDoorTie
import Derived.Test.YtoekcfbjdcibpaaGreatDoorCards
import Derived.LaidHandle
import Derived.Stop.Joined
import Derived.SevenTiedAt
import Derived.SizedLaws
import Derived.Lib.LaidU8T
import Derived.Lib.LaidTab
import Derived.PinnedBridge
import Derived.Shelf.Vars
import Derived.Lay
namespace Go.Proofs.YtoekcfbjdcibpaaGreatDoor
open Go.ChangeShapes Go.WideShapes Go.ChangeAt Go.RowKit
set_option linter.unusedVariables false

theorem own : ownKnob Tryz.prog.godebug = none := by kernel_rfl
theorem gKinds : Tryz.prog.globalNamed "pinnace/inst.kinds" = some 0 := by kernel_rfl
theorem gWords : Tryz.prog.globalNamed "pinnace/inst.words" = some 1 := by kernel_rfl
theorem gNames : Tryz.prog.globalNamed "pinnace/inst.names" = some 2 := by kernel_rfl
theorem tKinds : (Tryz.prog.globals[0]?).map (·.type) = some 103 := by kernel_rfl
theorem tWords : (Tryz.prog.globals[1]?).map (·.type) = some 104 := by kernel_rfl
theorem tNames : (Tryz.prog.globals[2]?).map (·.type) = some 105 := by kernel_rfl
theorem tPow : (Tryz.prog.globals[9]?).map (·.type) = some 211 := by kernel_rfl
theorem dKinds : (Rows.laid_pinnace_inst_kinds : DataW Unit) = .agg (kindL.map fun x : Nat => .lit (.int .u8 (x : Int))) := rfl
theorem dWords : (Rows.laid_pinnace_inst_words : DataW Unit) = .agg (wordL.map fun x : Nat => .lit (.int .u32 (x : Int))) := rfl
theorem dNames : (Rows.laid_pinnace_inst_names : DataW Unit) = .agg (nameL.map fun x => .lit (.string x)) := rfl
theorem dPow : (Rows.laid_internal_strconv_uint64pow10 : DataW Unit) = Lib.tabData .u64 Lib.pow10Tab := by kernel_rfl
theorem dFirst : (Rows.laid_unicode_utf8_first : DataW Unit) = Lib.firstData := by kernel_rfl
theorem dAccept : (Rows.laid_unicode_utf8_acceptRanges : DataW Unit) = Lib.acceptData := by kernel_rfl

theorem tabs_of_reads {W : World} (h0 : Lib.VarReads Tryz.prog W "pinnace/inst.names" Rows.laid_pinnace_inst_names) (h1 : Lib.VarReads Tryz.prog W "pinnace/inst.kinds" Rows.laid_pinnace_inst_kinds) (h2 : Lib.VarReads Tryz.prog W "pinnace/inst.words" Rows.laid_pinnace_inst_words) : TabsAt W := by
  obtain ⟨g0, t0, cs0, f0, p0, hg0, ht0, hv0, hd0⟩ := h0
  obtain ⟨g1, t1, cs1, f1, p1, hg1, ht1, hv1, hd1⟩ := h1
  obtain ⟨g2, t2, cs2, f2, p2, hg2, ht2, hv2, hd2⟩ := h2
  obtain rfl := Option.some.inj (gNames.symm.trans hg0)
  obtain rfl := Option.some.inj (gKinds.symm.trans hg1)
  obtain rfl := Option.some.inj (gWords.symm.trans hg2)
  obtain rfl := Option.some.inj (tNames.symm.trans ht0)
  obtain rfl := Option.some.inj (tKinds.symm.trans ht1)
  obtain rfl := Option.some.inj (tWords.symm.trans ht2)
  rw [dNames] at hd0
  rw [dKinds] at hd1
  rw [dWords] at hd2
  exact ⟨⟨tab_int hg1 hv1 Tryz.underlying103 Tryz.underlying5 (by kernel_rfl) (by kernel_rfl) rfl hd1, tab_int hg2 hv2 Tryz.underlying104 Tryz.underlying48 (by kernel_rfl) (by kernel_rfl) rfl hd2⟩,
    tab_str hg0 hv0 Tryz.underlying105 Tryz.underlying9 (by kernel_rfl) (by kernel_rfl) rfl hd0⟩

theorem pow_of_reads {W : World} (h : Lib.VarReads Tryz.prog W "internal/strconv.uint64pow10" Rows.laid_internal_strconv_uint64pow10) : PowAt W := by
  obtain ⟨g, t, cs, f, p, hg, ht, hv, hd⟩ := h
  obtain rfl := Option.some.inj (gPow.symm.trans hg)
  obtain rfl := Option.some.inj (tPow.symm.trans ht)
  rw [dPow] at hd
  have := Lib.cells_of_tab Tryz.underlying211 Tryz.underlying193 (by kernel_rfl) (by kernel_rfl) hd
  unfold PowAt Lib.TabIs
  rw [hv, ← this]

theorem iface_cell {P : Program} {W : World} {t : TypeId} {ms : Array (String × TypeId)} {fuel : Nat} {cs : List Value} {d : DataW Unit} {p : List MemPlace} (ht : P.underlying t = some (.interface ms))
    (h : DataW.trod (fun _ => ()) P W 0 (fun _ => true) false fuel t cs = some (d, p)) : ∃ v, cs = [v] ∧ (v = .nilIface ∨ ∃ te pe, v = .iface te pe) := by
  cases fuel with
  | zero => simp [DataW.trod] at h
  | succ n =>
    unfold DataW.trod at h
    rw [ht] at h
    match cs, h with
    | [.nilIface], _ => exact ⟨_, rfl, .inl rfl⟩
    | [.iface u v], _ => exact ⟨_, rfl, .inr ⟨u, v, rfl⟩⟩
    | [], h => simp at h
    | a :: b :: r, h => simp at h
theorem err_of_reads {W : World} {name : String} {g : Nat} {d : DataW Unit} (hg : Tryz.prog.globalNamed name = some g) (ht : (Tryz.prog.globals[g]?).map (·.type) = some 25) (h : Lib.VarReads Tryz.prog W name d) : ErrAt g W := by
  obtain ⟨g', t, cs, f, p, hg', ht', hv, hd⟩ := h
  obtain rfl := Option.some.inj (hg.symm.trans hg')
  obtain rfl := Option.some.inj (ht.symm.trans ht')
  obtain ⟨v, hcs, hv'⟩ := iface_cell Tryz.underlying25 hd
  refine ⟨v, ?_, hv'⟩
  rw [World.var?_cell hg hv 0, ← Array.getElem?_toList, hcs]
  rfl

theorem iface_some {P : Program} {W : World} {t : TypeId} {ms : Array (String × TypeId)} {fuel : Nat} {cs : List Value} {nm : String} {d : DataW Unit} {p : List MemPlace} (ht : P.underlying t = some (.interface ms))
    (h : DataW.trod (fun _ => ()) P W 0 (fun _ => true) false fuel t cs = some (.iface nm d, p)) : ∃ te pe, cs = [.iface te pe] := by
  obtain ⟨v, rfl, rfl | ⟨te, pe, rfl⟩⟩ := iface_cell ht h
  · cases fuel with
    | zero => simp [DataW.trod] at h
    | succ n =>
      unfold DataW.trod at h
      rw [ht] at h
      simp at h
  · exact ⟨te, pe, rfl⟩
theorem bad_of_reads {W : World} (h : Lib.VarReads Tryz.prog W "strconv.ErrSyntax" Rows.laid_strconv_ErrSyntax) : BadAt W := by
  obtain ⟨g, t, cs, f, p, hg, ht, hv, hd⟩ := h
  obtain rfl := Option.some.inj (gBad.symm.trans hg)
  obtain rfl := Option.some.inj ((show (Tryz.prog.globals[7]?).map (·.type) = some 25 by kernel_rfl).symm.trans ht)
  obtain ⟨te, pe, hcs⟩ := iface_some Tryz.underlying25 hd
  refine ⟨te, pe, hv.trans ?_⟩
  rw [← hcs]

theorem len_of_shape {W : World} (h : W.ShapedOpen Tryz.prog) : LenAt W :=
  cell_of_shapedOpen_int h (by decide +kernel) (g := 4) (t := 3) (zero := #[.int .i64 0]) (by kernel_rfl) rfl (by kernel_rfl) (by kernel_rfl) Tryz.underlying3

def u8Ren : Go.Shelf.Ren := ⟨fun n => n, fun | 5 => 5 | 119 => 200 | 138 => 202 | 139 => 203 | n => n, fun | 3 => 5 | 4 => 6 | n => n⟩
theorem u8Types : U8Types Tryz.prog u8Ren := ⟨Tryz.underlying5, Tryz.underlying200, Tryz.underlying202, Tryz.underlying203⟩
theorem u8Extra : U8Extra Tryz.prog u8Ren := ⟨by kernel_rfl, by kernel_rfl, by kernel_rfl, by kernel_rfl, by kernel_rfl, by kernel_rfl, by kernel_rfl⟩

/-- All of it, out of any list that names the variables. -/
theorem asAt_of_laid {W : World} {l : List (String × DataW Unit)} (h : laidMet Tryz.prog l W) (hs : W.ShapedOpen Tryz.prog)
    (m0 : ("pinnace/inst.names", Rows.laid_pinnace_inst_names) ∈ l) (m1 : ("pinnace/inst.kinds", Rows.laid_pinnace_inst_kinds) ∈ l) (m2 : ("pinnace/inst.words", Rows.laid_pinnace_inst_words) ∈ l)
    (m3 : ("internal/strconv.uint64pow10", Rows.laid_internal_strconv_uint64pow10) ∈ l) (m4 : ("unicode/utf8.first", Rows.laid_unicode_utf8_first) ∈ l) (m5 : ("unicode/utf8.acceptRanges", Rows.laid_unicode_utf8_acceptRanges) ∈ l)
    (m6 : ("strconv.ErrSyntax", Rows.laid_strconv_ErrSyntax) ∈ l) (m7 : ("strconv.ErrRange", Rows.laid_strconv_ErrRange) ∈ l) : AsAt W :=
  ⟨tabs_of_reads (Lib.laidMet.reads h m0) (Lib.laidMet.reads h m1) (Lib.laidMet.reads h m2), pow_of_reads (Lib.laidMet.reads h m3), len_of_shape hs,
    utf8Tabs_of_readsT u8Types u8Extra (by rw [← dFirst]; exact Lib.laidMet.reads h m4) (by rw [← dAccept]; exact Lib.laidMet.reads h m5),
    bad_of_reads (Lib.laidMet.reads h m6), err_of_reads (by kernel_rfl) (by kernel_rfl) (Lib.laidMet.reads h m7)⟩

/-- The wrap of a row with listed variables, the world's shape kept. -/
theorem wrap_shaped {H : Type} {enc : TypeId × Value → H} {C : Checked} {os : Os} {f : FuncId} {fn : Func} {s : ChangeSpec} {apart fresh handsOn again : Bool} {X : World → Array Value → Prop}
    (hX : ∀ (w w' : World) (args : Array Value), w.heap = w'.heap → X w args → X w' args)
    (own : ownKnob C.prog.godebug = none) (started : os.Started) (noInit : C.prog.inits.idxOf? f = none) (hfn : C.prog.funcs[f]? = some fn)
    (witness : ∃ (w : World) (tape : Tape) (i : Input), w.os = os ∧ (w.forCall tape i).Shaped C.prog ∧ i.vars = [] ∧ Input.okWide C.prog (w.forCall tape i) .any w.heap.size f i ∧
      ((s.pre enc C.prog fn [] apart (w.forCall tape i).memory i.args ∧ X (w.forCall tape i).memory i.args) ∧ sizedMet enc C.prog fn (OpenSpec.ofChange s) apart (w.forCall tape i).memory i.args) ∧ ({} : Assume).holds C.prog (lone (Frame.enter C.prog f i.args .normal) [] (w.forCall tape i)))
    (contract : ∀ (W : World) (base : Nat) (args : Array Value) (ds gs : List (DataW H)) (before : List MemPlace),
      (∀ (j : Nat) t v, fn.params[j]? = some t → args[j]? = some v → Value.okWide C.prog W .any base t v) →
      DataW.Whole enc C.prog fn.params.toList s.vars apart W args.toList ds gs before → X W args → W.ShapedOpen C.prog →
      Calls C.prog f args W fun e W' => ∃ v, e = .returned v ∧ s.post enc C.prog fn apart fresh handsOn again W args v W') :
    ReturnsInHanded {} C os f .any (fun w args => (s.pre enc C.prog fn [] apart w args ∧ X w args) ∧ sizedMet enc C.prog fn (OpenSpec.ofChange s) apart w args) (s.post enc C.prog fn apart fresh handsOn again) := by
  refine returnsInHanded_of_calls own started noInit witness ?_
  intro w tape i _ hsh _ hok hpre _
  obtain ⟨_, _, _, fn', hfn', _, _, _, _, hval⟩ := hok
  obtain rfl : fn' = fn := Option.some.inj (hfn'.symm.trans hfn)
  obtain ⟨⟨⟨ds, gs, before, hw, _⟩, hx⟩, _⟩ := hpre
  refine (contract (w.forCall tape i) w.heap.size i.args ds gs before hval (DataW.Whole.of_heap (w' := w.forCall tape i) (by rfl) hw) (hX _ _ _ (by rfl) hx) hsh).mono fun e W' ⟨v, he, hp⟩ => ?_
  subst he
  exact ChangeSpec.post_blind hp
end Go.Proofs.YtoekcfbjdcibpaaGreatDoor
