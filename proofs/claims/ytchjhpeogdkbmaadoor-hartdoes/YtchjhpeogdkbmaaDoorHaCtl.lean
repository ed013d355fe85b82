/-
  What hart.control answers of each operation.
-/
import Derived.Test.YtchjhpeogdkbmaaDoorHaCtlB
import Derived.Test.YtchjhpeogdkbmaaDoorHaCtlC
namespace Go.Proofs.YtchjhpeogdkbmaaDoor
open Go.RowKit
set_option linter.unusedVariables false

set_option linter.unusedSimpArgs false
theorem control_51 (h : H) (ok : h.Ok) (rd s1 s2 : Nat) (im cs : Int) (hrd : rd < 32) (h1 : s1 < 32) (v l : Nat) (hl : l < 4294967296) (w : World) :
    Calls Tryd.prog 26 #[.agg h.cells, .agg (I6.cells ⟨51, (rd : Nat), (s1 : Nat), (s2 : Nat), im, cs⟩), .int .u32 v, .int .u32 l] w fun e w' => e = .returned (.agg (controlH h 51 ⟨51, (rd : Nat), (s1 : Nat), (s2 : Nat), im, cs⟩ v l).cells) ∧ Below w.heap.size w w' := by
  by_cases h0 : rd = 0
  · cases hW : writeN h.c cs (mixN 51 0 (h.x s1)) with
    | mk c e =>
      have hc : c.Ok := by have := writeN_ok ok.c cs (mixN_lt 51 (by decide : 0 < 4294967296) (ok.x s1)); rw [hW] at this; exact this
      cases e with
      | zero =>
        have e0 : controlH h 51 ⟨51, (rd : Nat), (s1 : Nat), (s2 : Nat), im, cs⟩ v l = nextH (writeH (withC h c) rd 0) := by simp [controlH, ctlR, ctlV, swapsB, withC, hW, h0]
        rw [e0]
        subst h0
        exact control_51nC h ok 0 s1 s2 im cs hrd h1 v l hl rfl c hc hW w
      | succ k =>
        have e0 : controlH h 51 ⟨51, (rd : Nat), (s1 : Nat), (s2 : Nat), im, cs⟩ v l = trapH h 2 v := by simp [controlH, ctlR, ctlV, swapsB, withC, hW, h0]
        rw [e0]
        subst h0
        exact control_51nB h ok 0 s1 s2 im cs hrd h1 v l hl rfl c k hW w
  · cases hR : readN h.c cs l with
    | none =>
      have e0 : controlH h 51 ⟨51, (rd : Nat), (s1 : Nat), (s2 : Nat), im, cs⟩ v l = trapH h 2 v := by simp [controlH, ctlR, ctlV, swapsB, withC, hR, h0]
      rw [e0]
      exact control_51rA h ok rd s1 s2 im cs hrd h1 v l hl h0 hR w
    | some old =>
      have hold := readN_lt ok.c cs hl hR
      cases hW : writeN h.c cs (mixN 51 old (h.x s1)) with
      | mk c e =>
        have hc : c.Ok := by have := writeN_ok ok.c cs (mixN_lt 51 hold (ok.x s1)); rw [hW] at this; exact this
        cases e with
        | zero =>
          have e0 : controlH h 51 ⟨51, (rd : Nat), (s1 : Nat), (s2 : Nat), im, cs⟩ v l = nextH (writeH (withC h c) rd old) := by simp [controlH, ctlR, ctlV, swapsB, withC, hW, hR, h0]
          rw [e0]
          exact control_51rC h ok rd s1 s2 im cs hrd h1 v l hl h0 old hold hR c hc hW w
        | succ k =>
          have e0 : controlH h 51 ⟨51, (rd : Nat), (s1 : Nat), (s2 : Nat), im, cs⟩ v l = trapH h 2 v := by simp [controlH, ctlR, ctlV, swapsB, withC, hW, hR, h0]
          rw [e0]
          exact control_51rB h ok rd s1 s2 im cs hrd h1 v l hl h0 old hold hR c k hW w
theorem control_52 (h : H) (ok : h.Ok) (rd s1 s2 : Nat) (im cs : Int) (hrd : rd < 32) (h1 : s1 < 32) (v l : Nat) (hl : l < 4294967296) (w : World) :
    Calls Tryd.prog 26 #[.agg h.cells, .agg (I6.cells ⟨52, (rd : Nat), (s1 : Nat), (s2 : Nat), im, cs⟩), .int .u32 v, .int .u32 l] w fun e w' => e = .returned (.agg (controlH h 52 ⟨52, (rd : Nat), (s1 : Nat), (s2 : Nat), im, cs⟩ v l).cells) ∧ Below w.heap.size w w' := by
  cases hR : readN h.c cs l with
  | none =>
    have e0 : controlH h 52 ⟨52, (rd : Nat), (s1 : Nat), (s2 : Nat), im, cs⟩ v l = trapH h 2 v := by simp [controlH, ctlR, ctlV, swapsB, withC, hR]
    rw [e0]
    exact control_52rA h ok rd s1 s2 im cs hrd h1 v l hl hR w
  | some old =>
    have hold := readN_lt ok.c cs hl hR
    by_cases h0 : s1 = 0
    · have e0 : controlH h 52 ⟨52, (rd : Nat), (s1 : Nat), (s2 : Nat), im, cs⟩ v l = nextH (writeH h rd old) := by simp [controlH, ctlR, ctlV, swapsB, withC, hR, h0]
      rw [e0]
      exact control_52rD h ok rd s1 s2 im cs hrd h1 v l hl h0 old hold hR w
    · cases hW : writeN h.c cs (mixN 52 old (h.x s1)) with
      | mk c e =>
        have hc : c.Ok := by have := writeN_ok ok.c cs (mixN_lt 52 hold (ok.x s1)); rw [hW] at this; exact this
        cases e with
        | zero =>
          have e0 : controlH h 52 ⟨52, (rd : Nat), (s1 : Nat), (s2 : Nat), im, cs⟩ v l = nextH (writeH (withC h c) rd old) := by simp [controlH, ctlR, ctlV, swapsB, withC, hW, hR, h0]
          rw [e0]
          exact control_52rC h ok rd s1 s2 im cs hrd h1 v l hl h0 old hold hR c hc hW w
        | succ k =>
          have e0 : controlH h 52 ⟨52, (rd : Nat), (s1 : Nat), (s2 : Nat), im, cs⟩ v l = trapH h 2 v := by simp [controlH, ctlR, ctlV, swapsB, withC, hW, hR, h0]
          rw [e0]
          exact control_52rB h ok rd s1 s2 im cs hrd h1 v l hl h0 old hold hR c k hW w
theorem control_53 (h : H) (ok : h.Ok) (rd s1 s2 : Nat) (im cs : Int) (hrd : rd < 32) (h1 : s1 < 32) (v l : Nat) (hl : l < 4294967296) (w : World) :
    Calls Tryd.prog 26 #[.agg h.cells, .agg (I6.cells ⟨53, (rd : Nat), (s1 : Nat), (s2 : Nat), im, cs⟩), .int .u32 v, .int .u32 l] w fun e w' => e = .returned (.agg (controlH h 53 ⟨53, (rd : Nat), (s1 : Nat), (s2 : Nat), im, cs⟩ v l).cells) ∧ Below w.heap.size w w' := by
  cases hR : readN h.c cs l with
  | none =>
    have e0 : controlH h 53 ⟨53, (rd : Nat), (s1 : Nat), (s2 : Nat), im, cs⟩ v l = trapH h 2 v := by simp [controlH, ctlR, ctlV, swapsB, withC, hR]
    rw [e0]
    exact control_53rA h ok rd s1 s2 im cs hrd h1 v l hl hR w
  | some old =>
    have hold := readN_lt ok.c cs hl hR
    by_cases h0 : s1 = 0
    · have e0 : controlH h 53 ⟨53, (rd : Nat), (s1 : Nat), (s2 : Nat), im, cs⟩ v l = nextH (writeH h rd old) := by simp [controlH, ctlR, ctlV, swapsB, withC, hR, h0]
      rw [e0]
      exact control_53rD h ok rd s1 s2 im cs hrd h1 v l hl h0 old hold hR w
    · cases hW : writeN h.c cs (mixN 53 old (h.x s1)) with
      | mk c e =>
        have hc : c.Ok := by have := writeN_ok ok.c cs (mixN_lt 53 hold (ok.x s1)); rw [hW] at this; exact this
        cases e with
        | zero =>
          have e0 : controlH h 53 ⟨53, (rd : Nat), (s1 : Nat), (s2 : Nat), im, cs⟩ v l = nextH (writeH (withC h c) rd old) := by simp [controlH, ctlR, ctlV, swapsB, withC, hW, hR, h0]
          rw [e0]
          exact control_53rC h ok rd s1 s2 im cs hrd h1 v l hl h0 old hold hR c hc hW w
        | succ k =>
          have e0 : controlH h 53 ⟨53, (rd : Nat), (s1 : Nat), (s2 : Nat), im, cs⟩ v l = trapH h 2 v := by simp [controlH, ctlR, ctlV, swapsB, withC, hW, hR, h0]
          rw [e0]
          exact control_53rB h ok rd s1 s2 im cs hrd h1 v l hl h0 old hold hR c k hW w
theorem control_54 (h : H) (ok : h.Ok) (rd s1 s2 : Nat) (im cs : Int) (hrd : rd < 32) (h1 : s1 < 32) (v l : Nat) (hl : l < 4294967296) (w : World) :
    Calls Tryd.prog 26 #[.agg h.cells, .agg (I6.cells ⟨54, (rd : Nat), (s1 : Nat), (s2 : Nat), im, cs⟩), .int .u32 v, .int .u32 l] w fun e w' => e = .returned (.agg (controlH h 54 ⟨54, (rd : Nat), (s1 : Nat), (s2 : Nat), im, cs⟩ v l).cells) ∧ Below w.heap.size w w' := by
  by_cases h0 : rd = 0
  · cases hW : writeN h.c cs (mixN 54 0 s1) with
    | mk c e =>
      have hc : c.Ok := by have := writeN_ok ok.c cs (mixN_lt 54 (by decide : 0 < 4294967296) (by omega : s1 < 4294967296)); rw [hW] at this; exact this
      cases e with
      | zero =>
        have e0 : controlH h 54 ⟨54, (rd : Nat), (s1 : Nat), (s2 : Nat), im, cs⟩ v l = nextH (writeH (withC h c) rd 0) := by simp [controlH, ctlR, ctlV, swapsB, withC, hW, h0]
        rw [e0]
        subst h0
        exact control_54nC h ok 0 s1 s2 im cs hrd h1 v l hl rfl c hc hW w
      | succ k =>
        have e0 : controlH h 54 ⟨54, (rd : Nat), (s1 : Nat), (s2 : Nat), im, cs⟩ v l = trapH h 2 v := by simp [controlH, ctlR, ctlV, swapsB, withC, hW, h0]
        rw [e0]
        subst h0
        exact control_54nB h ok 0 s1 s2 im cs hrd h1 v l hl rfl c k hW w
  · cases hR : readN h.c cs l with
    | none =>
      have e0 : controlH h 54 ⟨54, (rd : Nat), (s1 : Nat), (s2 : Nat), im, cs⟩ v l = trapH h 2 v := by simp [controlH, ctlR, ctlV, swapsB, withC, hR, h0]
      rw [e0]
      exact control_54rA h ok rd s1 s2 im cs hrd h1 v l hl h0 hR w
    | some old =>
      have hold := readN_lt ok.c cs hl hR
      cases hW : writeN h.c cs (mixN 54 old s1) with
      | mk c e =>
        have hc : c.Ok := by have := writeN_ok ok.c cs (mixN_lt 54 hold (by omega : s1 < 4294967296)); rw [hW] at this; exact this
        cases e with
        | zero =>
          have e0 : controlH h 54 ⟨54, (rd : Nat), (s1 : Nat), (s2 : Nat), im, cs⟩ v l = nextH (writeH (withC h c) rd old) := by simp [controlH, ctlR, ctlV, swapsB, withC, hW, hR, h0]
          rw [e0]
          exact control_54rC h ok rd s1 s2 im cs hrd h1 v l hl h0 old hold hR c hc hW w
        | succ k =>
          have e0 : controlH h 54 ⟨54, (rd : Nat), (s1 : Nat), (s2 : Nat), im, cs⟩ v l = trapH h 2 v := by simp [controlH, ctlR, ctlV, swapsB, withC, hW, hR, h0]
          rw [e0]
          exact control_54rB h ok rd s1 s2 im cs hrd h1 v l hl h0 old hold hR c k hW w
theorem control_55 (h : H) (ok : h.Ok) (rd s1 s2 : Nat) (im cs : Int) (hrd : rd < 32) (h1 : s1 < 32) (v l : Nat) (hl : l < 4294967296) (w : World) :
    Calls Tryd.prog 26 #[.agg h.cells, .agg (I6.cells ⟨55, (rd : Nat), (s1 : Nat), (s2 : Nat), im, cs⟩), .int .u32 v, .int .u32 l] w fun e w' => e = .returned (.agg (controlH h 55 ⟨55, (rd : Nat), (s1 : Nat), (s2 : Nat), im, cs⟩ v l).cells) ∧ Below w.heap.size w w' := by
  cases hR : readN h.c cs l with
  | none =>
    have e0 : controlH h 55 ⟨55, (rd : Nat), (s1 : Nat), (s2 : Nat), im, cs⟩ v l = trapH h 2 v := by simp [controlH, ctlR, ctlV, swapsB, withC, hR]
    rw [e0]
    exact control_55rA h ok rd s1 s2 im cs hrd h1 v l hl hR w
  | some old =>
    have hold := readN_lt ok.c cs hl hR
    by_cases h0 : s1 = 0
    · have e0 : controlH h 55 ⟨55, (rd : Nat), (s1 : Nat), (s2 : Nat), im, cs⟩ v l = nextH (writeH h rd old) := by simp [controlH, ctlR, ctlV, swapsB, withC, hR, h0]
      rw [e0]
      exact control_55rD h ok rd s1 s2 im cs hrd h1 v l hl h0 old hold hR w
    · cases hW : writeN h.c cs (mixN 55 old s1) with
      | mk c e =>
        have hc : c.Ok := by have := writeN_ok ok.c cs (mixN_lt 55 hold (by omega : s1 < 4294967296)); rw [hW] at this; exact this
        cases e with
        | zero =>
          have e0 : controlH h 55 ⟨55, (rd : Nat), (s1 : Nat), (s2 : Nat), im, cs⟩ v l = nextH (writeH (withC h c) rd old) := by simp [controlH, ctlR, ctlV, swapsB, withC, hW, hR, h0]
          rw [e0]
          exact control_55rC h ok rd s1 s2 im cs hrd h1 v l hl h0 old hold hR c hc hW w
        | succ k =>
          have e0 : controlH h 55 ⟨55, (rd : Nat), (s1 : Nat), (s2 : Nat), im, cs⟩ v l = trapH h 2 v := by simp [controlH, ctlR, ctlV, swapsB, withC, hW, hR, h0]
          rw [e0]
          exact control_55rB h ok rd s1 s2 im cs hrd h1 v l hl h0 old hold hR c k hW w
theorem control_56 (h : H) (ok : h.Ok) (rd s1 s2 : Nat) (im cs : Int) (hrd : rd < 32) (h1 : s1 < 32) (v l : Nat) (hl : l < 4294967296) (w : World) :
    Calls Tryd.prog 26 #[.agg h.cells, .agg (I6.cells ⟨56, (rd : Nat), (s1 : Nat), (s2 : Nat), im, cs⟩), .int .u32 v, .int .u32 l] w fun e w' => e = .returned (.agg (controlH h 56 ⟨56, (rd : Nat), (s1 : Nat), (s2 : Nat), im, cs⟩ v l).cells) ∧ Below w.heap.size w w' := by
  cases hR : readN h.c cs l with
  | none =>
    have e0 : controlH h 56 ⟨56, (rd : Nat), (s1 : Nat), (s2 : Nat), im, cs⟩ v l = trapH h 2 v := by simp [controlH, ctlR, ctlV, swapsB, withC, hR]
    rw [e0]
    exact control_56rA h ok rd s1 s2 im cs hrd h1 v l hl hR w
  | some old =>
    have hold := readN_lt ok.c cs hl hR
    by_cases h0 : s1 = 0
    · have e0 : controlH h 56 ⟨56, (rd : Nat), (s1 : Nat), (s2 : Nat), im, cs⟩ v l = nextH (writeH h rd old) := by simp [controlH, ctlR, ctlV, swapsB, withC, hR, h0]
      rw [e0]
      exact control_56rD h ok rd s1 s2 im cs hrd h1 v l hl h0 old hold hR w
    · cases hW : writeN h.c cs (mixN 56 old s1) with
      | mk c e =>
        have hc : c.Ok := by have := writeN_ok ok.c cs (mixN_lt 56 hold (by omega : s1 < 4294967296)); rw [hW] at this; exact this
        cases e with
        | zero =>
          have e0 : controlH h 56 ⟨56, (rd : Nat), (s1 : Nat), (s2 : Nat), im, cs⟩ v l = nextH (writeH (withC h c) rd old) := by simp [controlH, ctlR, ctlV, swapsB, withC, hW, hR, h0]
          rw [e0]
          exact control_56rC h ok rd s1 s2 im cs hrd h1 v l hl h0 old hold hR c hc hW w
        | succ k =>
          have e0 : controlH h 56 ⟨56, (rd : Nat), (s1 : Nat), (s2 : Nat), im, cs⟩ v l = trapH h 2 v := by simp [controlH, ctlR, ctlV, swapsB, withC, hW, hR, h0]
          rw [e0]
          exact control_56rB h ok rd s1 s2 im cs hrd h1 v l hl h0 old hold hR c k hW w
end Go.Proofs.YtchjhpeogdkbmaaDoor
