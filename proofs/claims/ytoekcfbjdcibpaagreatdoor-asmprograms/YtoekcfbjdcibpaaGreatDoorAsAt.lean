/-
  What the library's variables hold while package asm works, and that it stays; the number's digits.
-/
import Derived.Test.YtoekcfbjdcibpaaGreatDoorShelf1
import Derived.Test.YtoekcfbjdcibpaaGreatDoorBase
import Derived.Test.YtoekcfbjdcibpaaGreatDoorInTabs
import Derived.Shelf.Unicode.DecodeSlow
import Derived.Lib.SmallJoins
namespace Go.Proofs.YtoekcfbjdcibpaaGreatDoor
open Go.RowKit
set_option linter.unusedVariables false

theorem cell_keeps {w w' : World} (hb : Below w.heap.size w w') {a : Addr} {v : Value} (hc : w.cell? a = some v) : w'.cell? a = some v := (hb.cell (World.block_lt_of_cell? w a hc)).trans hc
theorem tabIs_keeps {P : Program} {n : String} {g : Nat} {k : IntKind} {zs : List Int} {w w' : World} (hg : P.globalNamed n = some g) (h : Lib.TabIs P w n k zs) (hb : Below w.heap.size w w') : Lib.TabIs P w' n k zs := by
  unfold Lib.TabIs World.var? at h ⊢
  rw [hg] at h ⊢
  simp only [Option.bind_some] at h ⊢
  have hlt : g < w.heap.size := by
    rcases Nat.lt_or_ge g w.heap.size with h' | h'
    · exact h'
    · rw [Array.getElem?_eq_none h'] at h; cases h
  rw [hb.block g hlt]
  exact h

def PowAt (w : World) : Prop := Lib.TabIs Tryz.prog w "internal/strconv.uint64pow10" .u64 Lib.pow10Tab
theorem gPow : Tryz.prog.globalNamed "internal/strconv.uint64pow10" = some 9 := by kernel_rfl
def LenAt (w : World) : Prop := ∃ m : Int, w.cell? ⟨4, 0, none⟩ = some (.int .i64 m)
def ErrAt (g : Nat) (w : World) : Prop := ∃ ev : Value, w.cell? ⟨g, 0, none⟩ = some ev ∧ (ev = .nilIface ∨ ∃ te pe, ev = .iface te pe)
def BadAt (w : World) : Prop := ∃ tp p, w.var? Tryz.prog "strconv.ErrSyntax" = some #[.iface tp p]
theorem gBad : Tryz.prog.globalNamed "strconv.ErrSyntax" = some 7 := by kernel_rfl
theorem bad_keeps {w w' : World} (h : BadAt w) (hb : Below w.heap.size w w') : BadAt w' := by
  obtain ⟨tp, p, h⟩ := h
  refine ⟨tp, p, ?_⟩
  unfold World.var? at h ⊢
  rw [gBad] at h ⊢
  simp only [Option.bind_some] at h ⊢
  have hlt : 7 < w.heap.size := by
    rcases Nat.lt_or_ge 7 w.heap.size with h' | h'
    · exact h'
    · rw [Array.getElem?_eq_none h'] at h; cases h
  rw [hb.block _ hlt]
  exact h
def RuneAt (w : World) : Prop := Lib.Utf8Tabs 5 6 w

structure AsAt (w : World) : Prop where
  tabs : TabsAt w
  pow : PowAt w
  len : LenAt w
  runes : RuneAt w
  bad : BadAt w
  far : ErrAt 8 w

theorem AsAt.below {w w' : World} (h : AsAt w) (hb : Below w.heap.size w w') : AsAt w' :=
  ⟨h.tabs.below hb, tabIs_keeps gPow h.pow hb, h.len.elim fun m hm => ⟨m, cell_keeps hb hm⟩, Utf8Tabs_below h.runes hb, bad_keeps h.bad hb, h.far.elim fun v hv => ⟨v, cell_keeps hb hv.1, hv.2⟩⟩

theorem below_step {N : Nat} {w0 a b : World} (hz : N ≤ a.heap.size) (h : Below N w0 a) (k : Below a.heap.size a b) : Below N w0 b := h.trans (k.mono hz)

theorem below_drewS (w : World) : ∀ n, Below w.heap.size w (w.drewN n)
  | 0 => Below.refl _ _
  | n + 1 => (below_drewS w n).drew
theorem below_grow (w : World) (os : Array Obj) : Below w.heap.size w (Sort.grow w os) :=
  ⟨rfl, rfl, rfl, by rw [Sort.size_grow]; omega, fun k hk => Sort.heap_grow_old w os hk⟩

theorem itoa_any (n : Int) (h0 : -9223372036854775808 ≤ n) (h1 : n ≤ 9223372036854775807) (w : World) (h : PowAt w) :
    Calls Tryz.prog 59 #[.int .i64 n] w fun e w' => e = .returned (.string ⟨(Lib.itoa n).toArray⟩) ∧ Below w.heap.size w w' := by
  refine (Tryz.strconv_Itoa n h0 h1 w h).mono ?_
  rintro e w' ⟨rfl, k, os, rfl⟩
  refine ⟨rfl, below_step ?_ (below_drewS w k) (below_grow _ os)⟩
  exact (below_drewS w k).size
end Go.Proofs.YtoekcfbjdcibpaaGreatDoor
