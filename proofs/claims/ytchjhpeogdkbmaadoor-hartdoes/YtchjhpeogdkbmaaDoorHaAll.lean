/-
  What hart.Do answers.
-/
import Derived.Test.YtchjhpeogdkbmaaDoorHaWithI
import Derived.Test.YtchjhpeogdkbmaaDoorHaStore
import Derived.Test.YtchjhpeogdkbmaaDoorHaCtl
import Derived.Test.YtchjhpeogdkbmaaDoorHaDo
namespace Go.Proofs.YtchjhpeogdkbmaaDoor
open Go.RowKit
set_option linter.unusedVariables false

/-- What a world must hold for a hart. -/
structure HartAt (w : World) : Prop where
  ks : KindsAt w
  ws : WordsAt w
  on : OnAt w
  wd : WidAt w
theorem HartAt.below {w w' : World} (h : HartAt w) (hb : Below w.heap.size w w') : HartAt w' := ⟨h.ks.below hb, h.ws.below hb, h.on.below hb, h.wd.below hb⟩
/-- Do, of an instruction that is told. -/
def DoesOp (h : H) (v l op : Nat) (i : I6) (w : World) : Prop :=
  (∀ w', Below w.heap.size w w' → Calls Tryd.prog 21 #[.int .u32 v] w' fun e w2 => e = .returned (.tuple #[.agg i.cells, .nilIface]) ∧ Below w'.heap.size w' w2) →
  (∀ w', Below w.heap.size w w' → Calls Tryd.prog 23 #[.int .i64 op] w' fun e w2 => e = .returned (.int .u8 (kindN op : Nat)) ∧ w2 = w') →
  Calls Tryd.prog 8 #[.agg h.cells, .int .u32 v, .int .u32 l] w fun e w' => e = .returned (.tuple #[.agg (doOp h op i v l).1.cells, .agg (doOp h op i v l).2.cells]) ∧ Below w.heap.size w w'
theorem does_0 (h : H) (ok : h.Ok) (rd s1 s2 : Nat) (im cs : Int) (hrd : rd < 32) (h1 : s1 < 32) (h2 : s2 < 32) (v l : Nat) (hl : l < 4294967296) (w : World) (hA : HartAt w) : DoesOp h v l 0 ⟨0, (rd : Nat), (s1 : Nat), (s2 : Nat), im, cs⟩ w := by
  intro hD hK
  have e0 : doOp h 0 ⟨0, (rd : Nat), (s1 : Nat), (s2 : Nat), im, cs⟩ v l = (nextH (writeH h rd (immN im)), noA) := by first | rfl | simp [doOp, withinH, kindN, kindL]
  rw [e0]
  exact do_W h v l 0 rd s1 s2 im cs 85 (by decide) (by decide) (by decide) w hD hK _ (fun w' hb => within_U0 h ok 0 rd s1 s2 im cs (by decide) hrd h1 h2 (by decide) rfl w' (hA.ks.below hb))
theorem does_1 (h : H) (ok : h.Ok) (rd s1 s2 : Nat) (im cs : Int) (hrd : rd < 32) (h1 : s1 < 32) (h2 : s2 < 32) (v l : Nat) (hl : l < 4294967296) (w : World) (hA : HartAt w) : DoesOp h v l 1 ⟨1, (rd : Nat), (s1 : Nat), (s2 : Nat), im, cs⟩ w := by
  intro hD hK
  have e0 : doOp h 1 ⟨1, (rd : Nat), (s1 : Nat), (s2 : Nat), im, cs⟩ v l = (nextH (writeH h rd ((immN im + h.pc) % 4294967296)), noA) := by first | rfl | simp [doOp, withinH, kindN, kindL]
  rw [e0]
  exact do_W h v l 1 rd s1 s2 im cs 85 (by decide) (by decide) (by decide) w hD hK _ (fun w' hb => within_U1 h ok 1 rd s1 s2 im cs (by decide) hrd h1 h2 (by decide) rfl w' (hA.ks.below hb))
theorem does_2 (h : H) (ok : h.Ok) (rd s1 s2 : Nat) (im cs : Int) (hrd : rd < 32) (h1 : s1 < 32) (h2 : s2 < 32) (v l : Nat) (hl : l < 4294967296) (w : World) (hA : HartAt w) : DoesOp h v l 2 ⟨2, (rd : Nat), (s1 : Nat), (s2 : Nat), im, cs⟩ w := by
  intro hD hK
  have e0 : doOp h 2 ⟨2, (rd : Nat), (s1 : Nat), (s2 : Nat), im, cs⟩ v l = (jumpH h rd ((h.pc + immN im) % 4294967296), noA) := by first | rfl | simp [doOp, withinH, kindN, kindL]
  rw [e0]
  exact do_W h v l 2 rd s1 s2 im cs 74 (by decide) (by decide) (by decide) w hD hK _ (fun w' hb => within_J h ok 2 rd s1 s2 im cs (by decide) hrd h1 h2 rfl w' (hA.ks.below hb))
theorem does_3 (h : H) (ok : h.Ok) (rd s1 s2 : Nat) (im cs : Int) (hrd : rd < 32) (h1 : s1 < 32) (h2 : s2 < 32) (v l : Nat) (hl : l < 4294967296) (w : World) (hA : HartAt w) : DoesOp h v l 3 ⟨3, (rd : Nat), (s1 : Nat), (s2 : Nat), im, cs⟩ w := by
  intro hD hK
  have e0 : doOp h 3 ⟨3, (rd : Nat), (s1 : Nat), (s2 : Nat), im, cs⟩ v l = (jumpH h rd ((h.x s1 + immN im) % 4294967296 &&& 4294967294), noA) := by first | rfl | simp [doOp, withinH, kindN, kindL]
  rw [e0]
  exact do_W h v l 3 rd s1 s2 im cs 73 (by decide) (by decide) (by decide) w hD hK _ (fun w' hb => within_jalr h ok 3 rd s1 s2 im cs (by decide) hrd h1 h2 (by decide) rfl w' (hA.ks.below hb))
theorem does_4 (h : H) (ok : h.Ok) (rd s1 s2 : Nat) (im cs : Int) (hrd : rd < 32) (h1 : s1 < 32) (h2 : s2 < 32) (v l : Nat) (hl : l < 4294967296) (w : World) (hA : HartAt w) : DoesOp h v l 4 ⟨4, (rd : Nat), (s1 : Nat), (s2 : Nat), im, cs⟩ w := by
  intro hD hK
  have e0 : doOp h 4 ⟨4, (rd : Nat), (s1 : Nat), (s2 : Nat), im, cs⟩ v l = ((if holdsN 0 (h.x s1) (h.x s2) then goH h ((h.pc + immN im) % 4294967296) else nextH h), noA) := rfl
  rw [e0]
  cases hh : holdsN 0 (h.x s1) (h.x s2) with
  | true =>
    exact do_W h v l 4 rd s1 s2 im cs 66 (by decide) (by decide) (by decide) w hD hK _ (fun w' hb => within_Byes h ok 4 rd s1 s2 im cs (by decide) hrd h1 h2 (by decide) (by decide) hh rfl w' (hA.ks.below hb))
  | false =>
    exact do_W h v l 4 rd s1 s2 im cs 66 (by decide) (by decide) (by decide) w hD hK _ (fun w' hb => within_Bno h ok 4 rd s1 s2 im cs (by decide) hrd h1 h2 (by decide) (by decide) hh rfl w' (hA.ks.below hb))
theorem does_5 (h : H) (ok : h.Ok) (rd s1 s2 : Nat) (im cs : Int) (hrd : rd < 32) (h1 : s1 < 32) (h2 : s2 < 32) (v l : Nat) (hl : l < 4294967296) (w : World) (hA : HartAt w) : DoesOp h v l 5 ⟨5, (rd : Nat), (s1 : Nat), (s2 : Nat), im, cs⟩ w := by
  intro hD hK
  have e0 : doOp h 5 ⟨5, (rd : Nat), (s1 : Nat), (s2 : Nat), im, cs⟩ v l = ((if holdsN 1 (h.x s1) (h.x s2) then goH h ((h.pc + immN im) % 4294967296) else nextH h), noA) := rfl
  rw [e0]
  cases hh : holdsN 1 (h.x s1) (h.x s2) with
  | true =>
    exact do_W h v l 5 rd s1 s2 im cs 66 (by decide) (by decide) (by decide) w hD hK _ (fun w' hb => within_Byes h ok 5 rd s1 s2 im cs (by decide) hrd h1 h2 (by decide) (by decide) hh rfl w' (hA.ks.below hb))
  | false =>
    exact do_W h v l 5 rd s1 s2 im cs 66 (by decide) (by decide) (by decide) w hD hK _ (fun w' hb => within_Bno h ok 5 rd s1 s2 im cs (by decide) hrd h1 h2 (by decide) (by decide) hh rfl w' (hA.ks.below hb))
theorem does_6 (h : H) (ok : h.Ok) (rd s1 s2 : Nat) (im cs : Int) (hrd : rd < 32) (h1 : s1 < 32) (h2 : s2 < 32) (v l : Nat) (hl : l < 4294967296) (w : World) (hA : HartAt w) : DoesOp h v l 6 ⟨6, (rd : Nat), (s1 : Nat), (s2 : Nat), im, cs⟩ w := by
  intro hD hK
  have e0 : doOp h 6 ⟨6, (rd : Nat), (s1 : Nat), (s2 : Nat), im, cs⟩ v l = ((if holdsN 2 (h.x s1) (h.x s2) then goH h ((h.pc + immN im) % 4294967296) else nextH h), noA) := rfl
  rw [e0]
  cases hh : holdsN 2 (h.x s1) (h.x s2) with
  | true =>
    exact do_W h v l 6 rd s1 s2 im cs 66 (by decide) (by decide) (by decide) w hD hK _ (fun w' hb => within_Byes h ok 6 rd s1 s2 im cs (by decide) hrd h1 h2 (by decide) (by decide) hh rfl w' (hA.ks.below hb))
  | false =>
    exact do_W h v l 6 rd s1 s2 im cs 66 (by decide) (by decide) (by decide) w hD hK _ (fun w' hb => within_Bno h ok 6 rd s1 s2 im cs (by decide) hrd h1 h2 (by decide) (by decide) hh rfl w' (hA.ks.below hb))
theorem does_7 (h : H) (ok : h.Ok) (rd s1 s2 : Nat) (im cs : Int) (hrd : rd < 32) (h1 : s1 < 32) (h2 : s2 < 32) (v l : Nat) (hl : l < 4294967296) (w : World) (hA : HartAt w) : DoesOp h v l 7 ⟨7, (rd : Nat), (s1 : Nat), (s2 : Nat), im, cs⟩ w := by
  intro hD hK
  have e0 : doOp h 7 ⟨7, (rd : Nat), (s1 : Nat), (s2 : Nat), im, cs⟩ v l = ((if holdsN 3 (h.x s1) (h.x s2) then goH h ((h.pc + immN im) % 4294967296) else nextH h), noA) := rfl
  rw [e0]
  cases hh : holdsN 3 (h.x s1) (h.x s2) with
  | true =>
    exact do_W h v l 7 rd s1 s2 im cs 66 (by decide) (by decide) (by decide) w hD hK _ (fun w' hb => within_Byes h ok 7 rd s1 s2 im cs (by decide) hrd h1 h2 (by decide) (by decide) hh rfl w' (hA.ks.below hb))
  | false =>
    exact do_W h v l 7 rd s1 s2 im cs 66 (by decide) (by decide) (by decide) w hD hK _ (fun w' hb => within_Bno h ok 7 rd s1 s2 im cs (by decide) hrd h1 h2 (by decide) (by decide) hh rfl w' (hA.ks.below hb))
theorem does_8 (h : H) (ok : h.Ok) (rd s1 s2 : Nat) (im cs : Int) (hrd : rd < 32) (h1 : s1 < 32) (h2 : s2 < 32) (v l : Nat) (hl : l < 4294967296) (w : World) (hA : HartAt w) : DoesOp h v l 8 ⟨8, (rd : Nat), (s1 : Nat), (s2 : Nat), im, cs⟩ w := by
  intro hD hK
  have e0 : doOp h 8 ⟨8, (rd : Nat), (s1 : Nat), (s2 : Nat), im, cs⟩ v l = ((if holdsN 4 (h.x s1) (h.x s2) then goH h ((h.pc + immN im) % 4294967296) else nextH h), noA) := rfl
  rw [e0]
  cases hh : holdsN 4 (h.x s1) (h.x s2) with
  | true =>
    exact do_W h v l 8 rd s1 s2 im cs 66 (by decide) (by decide) (by decide) w hD hK _ (fun w' hb => within_Byes h ok 8 rd s1 s2 im cs (by decide) hrd h1 h2 (by decide) (by decide) hh rfl w' (hA.ks.below hb))
  | false =>
    exact do_W h v l 8 rd s1 s2 im cs 66 (by decide) (by decide) (by decide) w hD hK _ (fun w' hb => within_Bno h ok 8 rd s1 s2 im cs (by decide) hrd h1 h2 (by decide) (by decide) hh rfl w' (hA.ks.below hb))
theorem does_9 (h : H) (ok : h.Ok) (rd s1 s2 : Nat) (im cs : Int) (hrd : rd < 32) (h1 : s1 < 32) (h2 : s2 < 32) (v l : Nat) (hl : l < 4294967296) (w : World) (hA : HartAt w) : DoesOp h v l 9 ⟨9, (rd : Nat), (s1 : Nat), (s2 : Nat), im, cs⟩ w := by
  intro hD hK
  have e0 : doOp h 9 ⟨9, (rd : Nat), (s1 : Nat), (s2 : Nat), im, cs⟩ v l = ((if holdsN 5 (h.x s1) (h.x s2) then goH h ((h.pc + immN im) % 4294967296) else nextH h), noA) := rfl
  rw [e0]
  cases hh : holdsN 5 (h.x s1) (h.x s2) with
  | true =>
    exact do_W h v l 9 rd s1 s2 im cs 66 (by decide) (by decide) (by decide) w hD hK _ (fun w' hb => within_Byes h ok 9 rd s1 s2 im cs (by decide) hrd h1 h2 (by decide) (by decide) hh rfl w' (hA.ks.below hb))
  | false =>
    exact do_W h v l 9 rd s1 s2 im cs 66 (by decide) (by decide) (by decide) w hD hK _ (fun w' hb => within_Bno h ok 9 rd s1 s2 im cs (by decide) hrd h1 h2 (by decide) (by decide) hh rfl w' (hA.ks.below hb))
theorem does_10 (h : H) (ok : h.Ok) (rd s1 s2 : Nat) (im cs : Int) (hrd : rd < 32) (h1 : s1 < 32) (h2 : s2 < 32) (v l : Nat) (hl : l < 4294967296) (w : World) (hA : HartAt w) : DoesOp h v l 10 ⟨10, (rd : Nat), (s1 : Nat), (s2 : Nat), im, cs⟩ w := by
  intro hD hK
  have e0 : doOp h 10 ⟨10, (rd : Nat), (s1 : Nat), (s2 : Nat), im, cs⟩ v l = if ((h.x s1 + immN im) % 4294967296) % 1 = 0 then (h, ⟨1, ((h.x s1 + immN im) % 4294967296), 1, true, (rd : Nat), 0⟩) else (trapH h 4 ((h.x s1 + immN im) % 4294967296), noA) := rfl
  by_cases ht : ((h.x s1 + immN im) % 4294967296) % 1 = 0
  · rw [e0, if_pos ht]
    exact do_L h v l 10 rd s1 s2 im cs w hD hK _ _ (fun w' hb => load_10 h ok rd s1 s2 im cs h1 h2 _ rfl w' (hA.wd.below hb))
  · exact absurd (Nat.mod_one _) ht
theorem does_11 (h : H) (ok : h.Ok) (rd s1 s2 : Nat) (im cs : Int) (hrd : rd < 32) (h1 : s1 < 32) (h2 : s2 < 32) (v l : Nat) (hl : l < 4294967296) (w : World) (hA : HartAt w) : DoesOp h v l 11 ⟨11, (rd : Nat), (s1 : Nat), (s2 : Nat), im, cs⟩ w := by
  intro hD hK
  have e0 : doOp h 11 ⟨11, (rd : Nat), (s1 : Nat), (s2 : Nat), im, cs⟩ v l = if ((h.x s1 + immN im) % 4294967296) % 2 = 0 then (h, ⟨1, ((h.x s1 + immN im) % 4294967296), 2, true, (rd : Nat), 0⟩) else (trapH h 4 ((h.x s1 + immN im) % 4294967296), noA) := rfl
  by_cases ht : ((h.x s1 + immN im) % 4294967296) % 2 = 0
  · rw [e0, if_pos ht]
    exact do_L h v l 11 rd s1 s2 im cs w hD hK _ _ (fun w' hb => load_11 h ok rd s1 s2 im cs h1 h2 _ rfl ht w' (hA.wd.below hb))
  · rw [e0, if_neg ht]
    exact do_L h v l 11 rd s1 s2 im cs w hD hK _ _ (fun w' hb => load_11no h ok rd s1 s2 im cs h1 h2 _ rfl ht w' (hA.wd.below hb))
theorem does_12 (h : H) (ok : h.Ok) (rd s1 s2 : Nat) (im cs : Int) (hrd : rd < 32) (h1 : s1 < 32) (h2 : s2 < 32) (v l : Nat) (hl : l < 4294967296) (w : World) (hA : HartAt w) : DoesOp h v l 12 ⟨12, (rd : Nat), (s1 : Nat), (s2 : Nat), im, cs⟩ w := by
  intro hD hK
  have e0 : doOp h 12 ⟨12, (rd : Nat), (s1 : Nat), (s2 : Nat), im, cs⟩ v l = if ((h.x s1 + immN im) % 4294967296) % 4 = 0 then (h, ⟨1, ((h.x s1 + immN im) % 4294967296), 4, true, (rd : Nat), 0⟩) else (trapH h 4 ((h.x s1 + immN im) % 4294967296), noA) := rfl
  by_cases ht : ((h.x s1 + immN im) % 4294967296) % 4 = 0
  · rw [e0, if_pos ht]
    exact do_L h v l 12 rd s1 s2 im cs w hD hK _ _ (fun w' hb => load_12 h ok rd s1 s2 im cs h1 h2 _ rfl ht w' (hA.wd.below hb))
  · rw [e0, if_neg ht]
    exact do_L h v l 12 rd s1 s2 im cs w hD hK _ _ (fun w' hb => load_12no h ok rd s1 s2 im cs h1 h2 _ rfl ht w' (hA.wd.below hb))
theorem does_13 (h : H) (ok : h.Ok) (rd s1 s2 : Nat) (im cs : Int) (hrd : rd < 32) (h1 : s1 < 32) (h2 : s2 < 32) (v l : Nat) (hl : l < 4294967296) (w : World) (hA : HartAt w) : DoesOp h v l 13 ⟨13, (rd : Nat), (s1 : Nat), (s2 : Nat), im, cs⟩ w := by
  intro hD hK
  have e0 : doOp h 13 ⟨13, (rd : Nat), (s1 : Nat), (s2 : Nat), im, cs⟩ v l = if ((h.x s1 + immN im) % 4294967296) % 1 = 0 then (h, ⟨1, ((h.x s1 + immN im) % 4294967296), 1, false, (rd : Nat), 0⟩) else (trapH h 4 ((h.x s1 + immN im) % 4294967296), noA) := rfl
  by_cases ht : ((h.x s1 + immN im) % 4294967296) % 1 = 0
  · rw [e0, if_pos ht]
    exact do_L h v l 13 rd s1 s2 im cs w hD hK _ _ (fun w' hb => load_13 h ok rd s1 s2 im cs h1 h2 _ rfl w' (hA.wd.below hb))
  · exact absurd (Nat.mod_one _) ht
theorem does_14 (h : H) (ok : h.Ok) (rd s1 s2 : Nat) (im cs : Int) (hrd : rd < 32) (h1 : s1 < 32) (h2 : s2 < 32) (v l : Nat) (hl : l < 4294967296) (w : World) (hA : HartAt w) : DoesOp h v l 14 ⟨14, (rd : Nat), (s1 : Nat), (s2 : Nat), im, cs⟩ w := by
  intro hD hK
  have e0 : doOp h 14 ⟨14, (rd : Nat), (s1 : Nat), (s2 : Nat), im, cs⟩ v l = if ((h.x s1 + immN im) % 4294967296) % 2 = 0 then (h, ⟨1, ((h.x s1 + immN im) % 4294967296), 2, false, (rd : Nat), 0⟩) else (trapH h 4 ((h.x s1 + immN im) % 4294967296), noA) := rfl
  by_cases ht : ((h.x s1 + immN im) % 4294967296) % 2 = 0
  · rw [e0, if_pos ht]
    exact do_L h v l 14 rd s1 s2 im cs w hD hK _ _ (fun w' hb => load_14 h ok rd s1 s2 im cs h1 h2 _ rfl ht w' (hA.wd.below hb))
  · rw [e0, if_neg ht]
    exact do_L h v l 14 rd s1 s2 im cs w hD hK _ _ (fun w' hb => load_14no h ok rd s1 s2 im cs h1 h2 _ rfl ht w' (hA.wd.below hb))
theorem does_15 (h : H) (ok : h.Ok) (rd s1 s2 : Nat) (im cs : Int) (hrd : rd < 32) (h1 : s1 < 32) (h2 : s2 < 32) (v l : Nat) (hl : l < 4294967296) (w : World) (hA : HartAt w) : DoesOp h v l 15 ⟨15, (rd : Nat), (s1 : Nat), (s2 : Nat), im, cs⟩ w := by
  intro hD hK
  have e0 : doOp h 15 ⟨15, (rd : Nat), (s1 : Nat), (s2 : Nat), im, cs⟩ v l = if ((h.x s1 + immN im) % 4294967296) % 1 = 0 then (h, ⟨2, ((h.x s1 + immN im) % 4294967296), 1, false, 0, h.x s2⟩) else (trapH h 6 ((h.x s1 + immN im) % 4294967296), noA) := rfl
  by_cases ht : ((h.x s1 + immN im) % 4294967296) % 1 = 0
  · rw [e0, if_pos ht]
    exact do_S h v l 15 rd s1 s2 im cs w hD hK _ _ (fun w' hb => store_15 h ok rd s1 s2 im cs h1 h2 _ rfl w' (hA.wd.below hb))
  · exact absurd (Nat.mod_one _) ht
theorem does_16 (h : H) (ok : h.Ok) (rd s1 s2 : Nat) (im cs : Int) (hrd : rd < 32) (h1 : s1 < 32) (h2 : s2 < 32) (v l : Nat) (hl : l < 4294967296) (w : World) (hA : HartAt w) : DoesOp h v l 16 ⟨16, (rd : Nat), (s1 : Nat), (s2 : Nat), im, cs⟩ w := by
  intro hD hK
  have e0 : doOp h 16 ⟨16, (rd : Nat), (s1 : Nat), (s2 : Nat), im, cs⟩ v l = if ((h.x s1 + immN im) % 4294967296) % 2 = 0 then (h, ⟨2, ((h.x s1 + immN im) % 4294967296), 2, false, 0, h.x s2⟩) else (trapH h 6 ((h.x s1 + immN im) % 4294967296), noA) := rfl
  by_cases ht : ((h.x s1 + immN im) % 4294967296) % 2 = 0
  · rw [e0, if_pos ht]
    exact do_S h v l 16 rd s1 s2 im cs w hD hK _ _ (fun w' hb => store_16 h ok rd s1 s2 im cs h1 h2 _ rfl ht w' (hA.wd.below hb))
  · rw [e0, if_neg ht]
    exact do_S h v l 16 rd s1 s2 im cs w hD hK _ _ (fun w' hb => store_16no h ok rd s1 s2 im cs h1 h2 _ rfl ht w' (hA.wd.below hb))
theorem does_17 (h : H) (ok : h.Ok) (rd s1 s2 : Nat) (im cs : Int) (hrd : rd < 32) (h1 : s1 < 32) (h2 : s2 < 32) (v l : Nat) (hl : l < 4294967296) (w : World) (hA : HartAt w) : DoesOp h v l 17 ⟨17, (rd : Nat), (s1 : Nat), (s2 : Nat), im, cs⟩ w := by
  intro hD hK
  have e0 : doOp h 17 ⟨17, (rd : Nat), (s1 : Nat), (s2 : Nat), im, cs⟩ v l = if ((h.x s1 + immN im) % 4294967296) % 4 = 0 then (h, ⟨2, ((h.x s1 + immN im) % 4294967296), 4, false, 0, h.x s2⟩) else (trapH h 6 ((h.x s1 + immN im) % 4294967296), noA) := rfl
  by_cases ht : ((h.x s1 + immN im) % 4294967296) % 4 = 0
  · rw [e0, if_pos ht]
    exact do_S h v l 17 rd s1 s2 im cs w hD hK _ _ (fun w' hb => store_17 h ok rd s1 s2 im cs h1 h2 _ rfl ht w' (hA.wd.below hb))
  · rw [e0, if_neg ht]
    exact do_S h v l 17 rd s1 s2 im cs w hD hK _ _ (fun w' hb => store_17no h ok rd s1 s2 im cs h1 h2 _ rfl ht w' (hA.wd.below hb))
theorem does_18 (h : H) (ok : h.Ok) (rd s1 s2 : Nat) (im cs : Int) (hrd : rd < 32) (h1 : s1 < 32) (h2 : s2 < 32) (v l : Nat) (hl : l < 4294967296) (w : World) (hA : HartAt w) : DoesOp h v l 18 ⟨18, (rd : Nat), (s1 : Nat), (s2 : Nat), im, cs⟩ w := by
  intro hD hK
  have e0 : doOp h 18 ⟨18, (rd : Nat), (s1 : Nat), (s2 : Nat), im, cs⟩ v l = (nextH (writeH h rd (doN (onN 0) (h.x s1) (immN im))), noA) := by first | rfl | simp [doOp, withinH, kindN, kindL]
  rw [e0]
  exact do_W h v l 18 rd s1 s2 im cs 73 (by decide) (by decide) (by decide) w hD hK _ (fun w' hb => within_I73 h ok 18 rd s1 s2 im cs (by decide) hrd h1 h2 (by decide) (by decide) (doN_lt _ _ _ (ok.x _) (immN_lt _)) rfl w' (hA.ks.below hb) (hA.on.below hb))
theorem does_19 (h : H) (ok : h.Ok) (rd s1 s2 : Nat) (im cs : Int) (hrd : rd < 32) (h1 : s1 < 32) (h2 : s2 < 32) (v l : Nat) (hl : l < 4294967296) (w : World) (hA : HartAt w) : DoesOp h v l 19 ⟨19, (rd : Nat), (s1 : Nat), (s2 : Nat), im, cs⟩ w := by
  intro hD hK
  have e0 : doOp h 19 ⟨19, (rd : Nat), (s1 : Nat), (s2 : Nat), im, cs⟩ v l = (nextH (writeH h rd (doN (onN 1) (h.x s1) (immN im))), noA) := by first | rfl | simp [doOp, withinH, kindN, kindL]
  rw [e0]
  exact do_W h v l 19 rd s1 s2 im cs 73 (by decide) (by decide) (by decide) w hD hK _ (fun w' hb => within_I73 h ok 19 rd s1 s2 im cs (by decide) hrd h1 h2 (by decide) (by decide) (doN_lt _ _ _ (ok.x _) (immN_lt _)) rfl w' (hA.ks.below hb) (hA.on.below hb))
theorem does_20 (h : H) (ok : h.Ok) (rd s1 s2 : Nat) (im cs : Int) (hrd : rd < 32) (h1 : s1 < 32) (h2 : s2 < 32) (v l : Nat) (hl : l < 4294967296) (w : World) (hA : HartAt w) : DoesOp h v l 20 ⟨20, (rd : Nat), (s1 : Nat), (s2 : Nat), im, cs⟩ w := by
  intro hD hK
  have e0 : doOp h 20 ⟨20, (rd : Nat), (s1 : Nat), (s2 : Nat), im, cs⟩ v l = (nextH (writeH h rd (doN (onN 2) (h.x s1) (immN im))), noA) := by first | rfl | simp [doOp, withinH, kindN, kindL]
  rw [e0]
  exact do_W h v l 20 rd s1 s2 im cs 73 (by decide) (by decide) (by decide) w hD hK _ (fun w' hb => within_I73 h ok 20 rd s1 s2 im cs (by decide) hrd h1 h2 (by decide) (by decide) (doN_lt _ _ _ (ok.x _) (immN_lt _)) rfl w' (hA.ks.below hb) (hA.on.below hb))
theorem does_21 (h : H) (ok : h.Ok) (rd s1 s2 : Nat) (im cs : Int) (hrd : rd < 32) (h1 : s1 < 32) (h2 : s2 < 32) (v l : Nat) (hl : l < 4294967296) (w : World) (hA : HartAt w) : DoesOp h v l 21 ⟨21, (rd : Nat), (s1 : Nat), (s2 : Nat), im, cs⟩ w := by
  intro hD hK
  have e0 : doOp h 21 ⟨21, (rd : Nat), (s1 : Nat), (s2 : Nat), im, cs⟩ v l = (nextH (writeH h rd (doN (onN 3) (h.x s1) (immN im))), noA) := by first | rfl | simp [doOp, withinH, kindN, kindL]
  rw [e0]
  exact do_W h v l 21 rd s1 s2 im cs 73 (by decide) (by decide) (by decide) w hD hK _ (fun w' hb => within_I73 h ok 21 rd s1 s2 im cs (by decide) hrd h1 h2 (by decide) (by decide) (doN_lt _ _ _ (ok.x _) (immN_lt _)) rfl w' (hA.ks.below hb) (hA.on.below hb))
theorem does_22 (h : H) (ok : h.Ok) (rd s1 s2 : Nat) (im cs : Int) (hrd : rd < 32) (h1 : s1 < 32) (h2 : s2 < 32) (v l : Nat) (hl : l < 4294967296) (w : World) (hA : HartAt w) : DoesOp h v l 22 ⟨22, (rd : Nat), (s1 : Nat), (s2 : Nat), im, cs⟩ w := by
  intro hD hK
  have e0 : doOp h 22 ⟨22, (rd : Nat), (s1 : Nat), (s2 : Nat), im, cs⟩ v l = (nextH (writeH h rd (doN (onN 4) (h.x s1) (immN im))), noA) := by first | rfl | simp [doOp, withinH, kindN, kindL]
  rw [e0]
  exact do_W h v l 22 rd s1 s2 im cs 73 (by decide) (by decide) (by decide) w hD hK _ (fun w' hb => within_I73 h ok 22 rd s1 s2 im cs (by decide) hrd h1 h2 (by decide) (by decide) (doN_lt _ _ _ (ok.x _) (immN_lt _)) rfl w' (hA.ks.below hb) (hA.on.below hb))
theorem does_23 (h : H) (ok : h.Ok) (rd s1 s2 : Nat) (im cs : Int) (hrd : rd < 32) (h1 : s1 < 32) (h2 : s2 < 32) (v l : Nat) (hl : l < 4294967296) (w : World) (hA : HartAt w) : DoesOp h v l 23 ⟨23, (rd : Nat), (s1 : Nat), (s2 : Nat), im, cs⟩ w := by
  intro hD hK
  have e0 : doOp h 23 ⟨23, (rd : Nat), (s1 : Nat), (s2 : Nat), im, cs⟩ v l = (nextH (writeH h rd (doN (onN 5) (h.x s1) (immN im))), noA) := by first | rfl | simp [doOp, withinH, kindN, kindL]
  rw [e0]
  exact do_W h v l 23 rd s1 s2 im cs 73 (by decide) (by decide) (by decide) w hD hK _ (fun w' hb => within_I73 h ok 23 rd s1 s2 im cs (by decide) hrd h1 h2 (by decide) (by decide) (doN_lt _ _ _ (ok.x _) (immN_lt _)) rfl w' (hA.ks.below hb) (hA.on.below hb))
theorem does_24 (h : H) (ok : h.Ok) (rd s1 s2 : Nat) (im cs : Int) (hrd : rd < 32) (h1 : s1 < 32) (h2 : s2 < 32) (v l : Nat) (hl : l < 4294967296) (w : World) (hA : HartAt w) : DoesOp h v l 24 ⟨24, (rd : Nat), (s1 : Nat), (s2 : Nat), im, cs⟩ w := by
  intro hD hK
  have e0 : doOp h 24 ⟨24, (rd : Nat), (s1 : Nat), (s2 : Nat), im, cs⟩ v l = (nextH (writeH h rd (doN (onN 6) (h.x s1) (immN im))), noA) := by first | rfl | simp [doOp, withinH, kindN, kindL]
  rw [e0]
  exact do_W h v l 24 rd s1 s2 im cs 72 (by decide) (by decide) (by decide) w hD hK _ (fun w' hb => within_I72 h ok 24 rd s1 s2 im cs (by decide) hrd h1 h2 (by decide) (by decide) (doN_lt _ _ _ (ok.x _) (immN_lt _)) rfl w' (hA.ks.below hb) (hA.on.below hb))
theorem does_25 (h : H) (ok : h.Ok) (rd s1 s2 : Nat) (im cs : Int) (hrd : rd < 32) (h1 : s1 < 32) (h2 : s2 < 32) (v l : Nat) (hl : l < 4294967296) (w : World) (hA : HartAt w) : DoesOp h v l 25 ⟨25, (rd : Nat), (s1 : Nat), (s2 : Nat), im, cs⟩ w := by
  intro hD hK
  have e0 : doOp h 25 ⟨25, (rd : Nat), (s1 : Nat), (s2 : Nat), im, cs⟩ v l = (nextH (writeH h rd (doN (onN 7) (h.x s1) (immN im))), noA) := by first | rfl | simp [doOp, withinH, kindN, kindL]
  rw [e0]
  exact do_W h v l 25 rd s1 s2 im cs 72 (by decide) (by decide) (by decide) w hD hK _ (fun w' hb => within_I72 h ok 25 rd s1 s2 im cs (by decide) hrd h1 h2 (by decide) (by decide) (doN_lt _ _ _ (ok.x _) (immN_lt _)) rfl w' (hA.ks.below hb) (hA.on.below hb))
theorem does_26 (h : H) (ok : h.Ok) (rd s1 s2 : Nat) (im cs : Int) (hrd : rd < 32) (h1 : s1 < 32) (h2 : s2 < 32) (v l : Nat) (hl : l < 4294967296) (w : World) (hA : HartAt w) : DoesOp h v l 26 ⟨26, (rd : Nat), (s1 : Nat), (s2 : Nat), im, cs⟩ w := by
  intro hD hK
  have e0 : doOp h 26 ⟨26, (rd : Nat), (s1 : Nat), (s2 : Nat), im, cs⟩ v l = (nextH (writeH h rd (doN (onN 8) (h.x s1) (immN im))), noA) := by first | rfl | simp [doOp, withinH, kindN, kindL]
  rw [e0]
  exact do_W h v l 26 rd s1 s2 im cs 72 (by decide) (by decide) (by decide) w hD hK _ (fun w' hb => within_I72 h ok 26 rd s1 s2 im cs (by decide) hrd h1 h2 (by decide) (by decide) (doN_lt _ _ _ (ok.x _) (immN_lt _)) rfl w' (hA.ks.below hb) (hA.on.below hb))
theorem does_27 (h : H) (ok : h.Ok) (rd s1 s2 : Nat) (im cs : Int) (hrd : rd < 32) (h1 : s1 < 32) (h2 : s2 < 32) (v l : Nat) (hl : l < 4294967296) (w : World) (hA : HartAt w) : DoesOp h v l 27 ⟨27, (rd : Nat), (s1 : Nat), (s2 : Nat), im, cs⟩ w := by
  intro hD hK
  have e0 : doOp h 27 ⟨27, (rd : Nat), (s1 : Nat), (s2 : Nat), im, cs⟩ v l = (nextH (writeH h rd (doN 0 (h.x s1) (h.x s2))), noA) := by first | rfl | simp [doOp, withinH, kindN, kindL]
  rw [e0]
  exact do_W h v l 27 rd s1 s2 im cs 82 (by decide) (by decide) (by decide) w hD hK _ (fun w' hb => within_R h ok 27 rd s1 s2 im cs (by decide) hrd h1 h2 (by decide) (by decide) (doN_lt _ _ _ (ok.x _) (ok.x _)) rfl w' (hA.ks.below hb))
theorem does_28 (h : H) (ok : h.Ok) (rd s1 s2 : Nat) (im cs : Int) (hrd : rd < 32) (h1 : s1 < 32) (h2 : s2 < 32) (v l : Nat) (hl : l < 4294967296) (w : World) (hA : HartAt w) : DoesOp h v l 28 ⟨28, (rd : Nat), (s1 : Nat), (s2 : Nat), im, cs⟩ w := by
  intro hD hK
  have e0 : doOp h 28 ⟨28, (rd : Nat), (s1 : Nat), (s2 : Nat), im, cs⟩ v l = (nextH (writeH h rd (doN 1 (h.x s1) (h.x s2))), noA) := by first | rfl | simp [doOp, withinH, kindN, kindL]
  rw [e0]
  exact do_W h v l 28 rd s1 s2 im cs 82 (by decide) (by decide) (by decide) w hD hK _ (fun w' hb => within_R h ok 28 rd s1 s2 im cs (by decide) hrd h1 h2 (by decide) (by decide) (doN_lt _ _ _ (ok.x _) (ok.x _)) rfl w' (hA.ks.below hb))
theorem does_29 (h : H) (ok : h.Ok) (rd s1 s2 : Nat) (im cs : Int) (hrd : rd < 32) (h1 : s1 < 32) (h2 : s2 < 32) (v l : Nat) (hl : l < 4294967296) (w : World) (hA : HartAt w) : DoesOp h v l 29 ⟨29, (rd : Nat), (s1 : Nat), (s2 : Nat), im, cs⟩ w := by
  intro hD hK
  have e0 : doOp h 29 ⟨29, (rd : Nat), (s1 : Nat), (s2 : Nat), im, cs⟩ v l = (nextH (writeH h rd (doN 2 (h.x s1) (h.x s2))), noA) := by first | rfl | simp [doOp, withinH, kindN, kindL]
  rw [e0]
  exact do_W h v l 29 rd s1 s2 im cs 82 (by decide) (by decide) (by decide) w hD hK _ (fun w' hb => within_R h ok 29 rd s1 s2 im cs (by decide) hrd h1 h2 (by decide) (by decide) (doN_lt _ _ _ (ok.x _) (ok.x _)) rfl w' (hA.ks.below hb))
theorem does_30 (h : H) (ok : h.Ok) (rd s1 s2 : Nat) (im cs : Int) (hrd : rd < 32) (h1 : s1 < 32) (h2 : s2 < 32) (v l : Nat) (hl : l < 4294967296) (w : World) (hA : HartAt w) : DoesOp h v l 30 ⟨30, (rd : Nat), (s1 : Nat), (s2 : Nat), im, cs⟩ w := by
  intro hD hK
  have e0 : doOp h 30 ⟨30, (rd : Nat), (s1 : Nat), (s2 : Nat), im, cs⟩ v l = (nextH (writeH h rd (doN 3 (h.x s1) (h.x s2))), noA) := by first | rfl | simp [doOp, withinH, kindN, kindL]
  rw [e0]
  exact do_W h v l 30 rd s1 s2 im cs 82 (by decide) (by decide) (by decide) w hD hK _ (fun w' hb => within_R h ok 30 rd s1 s2 im cs (by decide) hrd h1 h2 (by decide) (by decide) (doN_lt _ _ _ (ok.x _) (ok.x _)) rfl w' (hA.ks.below hb))
theorem does_31 (h : H) (ok : h.Ok) (rd s1 s2 : Nat) (im cs : Int) (hrd : rd < 32) (h1 : s1 < 32) (h2 : s2 < 32) (v l : Nat) (hl : l < 4294967296) (w : World) (hA : HartAt w) : DoesOp h v l 31 ⟨31, (rd : Nat), (s1 : Nat), (s2 : Nat), im, cs⟩ w := by
  intro hD hK
  have e0 : doOp h 31 ⟨31, (rd : Nat), (s1 : Nat), (s2 : Nat), im, cs⟩ v l = (nextH (writeH h rd (doN 4 (h.x s1) (h.x s2))), noA) := by first | rfl | simp [doOp, withinH, kindN, kindL]
  rw [e0]
  exact do_W h v l 31 rd s1 s2 im cs 82 (by decide) (by decide) (by decide) w hD hK _ (fun w' hb => within_R h ok 31 rd s1 s2 im cs (by decide) hrd h1 h2 (by decide) (by decide) (doN_lt _ _ _ (ok.x _) (ok.x _)) rfl w' (hA.ks.below hb))
theorem does_32 (h : H) (ok : h.Ok) (rd s1 s2 : Nat) (im cs : Int) (hrd : rd < 32) (h1 : s1 < 32) (h2 : s2 < 32) (v l : Nat) (hl : l < 4294967296) (w : World) (hA : HartAt w) : DoesOp h v l 32 ⟨32, (rd : Nat), (s1 : Nat), (s2 : Nat), im, cs⟩ w := by
  intro hD hK
  have e0 : doOp h 32 ⟨32, (rd : Nat), (s1 : Nat), (s2 : Nat), im, cs⟩ v l = (nextH (writeH h rd (doN 5 (h.x s1) (h.x s2))), noA) := by first | rfl | simp [doOp, withinH, kindN, kindL]
  rw [e0]
  exact do_W h v l 32 rd s1 s2 im cs 82 (by decide) (by decide) (by decide) w hD hK _ (fun w' hb => within_R h ok 32 rd s1 s2 im cs (by decide) hrd h1 h2 (by decide) (by decide) (doN_lt _ _ _ (ok.x _) (ok.x _)) rfl w' (hA.ks.below hb))
theorem does_33 (h : H) (ok : h.Ok) (rd s1 s2 : Nat) (im cs : Int) (hrd : rd < 32) (h1 : s1 < 32) (h2 : s2 < 32) (v l : Nat) (hl : l < 4294967296) (w : World) (hA : HartAt w) : DoesOp h v l 33 ⟨33, (rd : Nat), (s1 : Nat), (s2 : Nat), im, cs⟩ w := by
  intro hD hK
  have e0 : doOp h 33 ⟨33, (rd : Nat), (s1 : Nat), (s2 : Nat), im, cs⟩ v l = (nextH (writeH h rd (doN 6 (h.x s1) (h.x s2))), noA) := by first | rfl | simp [doOp, withinH, kindN, kindL]
  rw [e0]
  exact do_W h v l 33 rd s1 s2 im cs 82 (by decide) (by decide) (by decide) w hD hK _ (fun w' hb => within_R h ok 33 rd s1 s2 im cs (by decide) hrd h1 h2 (by decide) (by decide) (doN_lt _ _ _ (ok.x _) (ok.x _)) rfl w' (hA.ks.below hb))
theorem does_34 (h : H) (ok : h.Ok) (rd s1 s2 : Nat) (im cs : Int) (hrd : rd < 32) (h1 : s1 < 32) (h2 : s2 < 32) (v l : Nat) (hl : l < 4294967296) (w : World) (hA : HartAt w) : DoesOp h v l 34 ⟨34, (rd : Nat), (s1 : Nat), (s2 : Nat), im, cs⟩ w := by
  intro hD hK
  have e0 : doOp h 34 ⟨34, (rd : Nat), (s1 : Nat), (s2 : Nat), im, cs⟩ v l = (nextH (writeH h rd (doN 7 (h.x s1) (h.x s2))), noA) := by first | rfl | simp [doOp, withinH, kindN, kindL]
  rw [e0]
  exact do_W h v l 34 rd s1 s2 im cs 82 (by decide) (by decide) (by decide) w hD hK _ (fun w' hb => within_R h ok 34 rd s1 s2 im cs (by decide) hrd h1 h2 (by decide) (by decide) (doN_lt _ _ _ (ok.x _) (ok.x _)) rfl w' (hA.ks.below hb))
theorem does_35 (h : H) (ok : h.Ok) (rd s1 s2 : Nat) (im cs : Int) (hrd : rd < 32) (h1 : s1 < 32) (h2 : s2 < 32) (v l : Nat) (hl : l < 4294967296) (w : World) (hA : HartAt w) : DoesOp h v l 35 ⟨35, (rd : Nat), (s1 : Nat), (s2 : Nat), im, cs⟩ w := by
  intro hD hK
  have e0 : doOp h 35 ⟨35, (rd : Nat), (s1 : Nat), (s2 : Nat), im, cs⟩ v l = (nextH (writeH h rd (doN 8 (h.x s1) (h.x s2))), noA) := by first | rfl | simp [doOp, withinH, kindN, kindL]
  rw [e0]
  exact do_W h v l 35 rd s1 s2 im cs 82 (by decide) (by decide) (by decide) w hD hK _ (fun w' hb => within_R h ok 35 rd s1 s2 im cs (by decide) hrd h1 h2 (by decide) (by decide) (doN_lt _ _ _ (ok.x _) (ok.x _)) rfl w' (hA.ks.below hb))
theorem does_36 (h : H) (ok : h.Ok) (rd s1 s2 : Nat) (im cs : Int) (hrd : rd < 32) (h1 : s1 < 32) (h2 : s2 < 32) (v l : Nat) (hl : l < 4294967296) (w : World) (hA : HartAt w) : DoesOp h v l 36 ⟨36, (rd : Nat), (s1 : Nat), (s2 : Nat), im, cs⟩ w := by
  intro hD hK
  have e0 : doOp h 36 ⟨36, (rd : Nat), (s1 : Nat), (s2 : Nat), im, cs⟩ v l = (nextH (writeH h rd (doN 9 (h.x s1) (h.x s2))), noA) := by first | rfl | simp [doOp, withinH, kindN, kindL]
  rw [e0]
  exact do_W h v l 36 rd s1 s2 im cs 82 (by decide) (by decide) (by decide) w hD hK _ (fun w' hb => within_R h ok 36 rd s1 s2 im cs (by decide) hrd h1 h2 (by decide) (by decide) (doN_lt _ _ _ (ok.x _) (ok.x _)) rfl w' (hA.ks.below hb))
theorem does_37 (h : H) (ok : h.Ok) (rd s1 s2 : Nat) (im cs : Int) (hrd : rd < 32) (h1 : s1 < 32) (h2 : s2 < 32) (v l : Nat) (hl : l < 4294967296) (w : World) (hA : HartAt w) : DoesOp h v l 37 ⟨37, (rd : Nat), (s1 : Nat), (s2 : Nat), im, cs⟩ w := by
  intro hD hK
  have e0 : doOp h 37 ⟨37, (rd : Nat), (s1 : Nat), (s2 : Nat), im, cs⟩ v l = (nextH (writeH h rd (doN 10 (h.x s1) (h.x s2))), noA) := by first | rfl | simp [doOp, withinH, kindN, kindL]
  rw [e0]
  exact do_W h v l 37 rd s1 s2 im cs 82 (by decide) (by decide) (by decide) w hD hK _ (fun w' hb => within_R h ok 37 rd s1 s2 im cs (by decide) hrd h1 h2 (by decide) (by decide) (doN_lt _ _ _ (ok.x _) (ok.x _)) rfl w' (hA.ks.below hb))
theorem does_38 (h : H) (ok : h.Ok) (rd s1 s2 : Nat) (im cs : Int) (hrd : rd < 32) (h1 : s1 < 32) (h2 : s2 < 32) (v l : Nat) (hl : l < 4294967296) (w : World) (hA : HartAt w) : DoesOp h v l 38 ⟨38, (rd : Nat), (s1 : Nat), (s2 : Nat), im, cs⟩ w := by
  intro hD hK
  have e0 : doOp h 38 ⟨38, (rd : Nat), (s1 : Nat), (s2 : Nat), im, cs⟩ v l = (nextH (writeH h rd (doN 11 (h.x s1) (h.x s2))), noA) := by first | rfl | simp [doOp, withinH, kindN, kindL]
  rw [e0]
  exact do_W h v l 38 rd s1 s2 im cs 82 (by decide) (by decide) (by decide) w hD hK _ (fun w' hb => within_R h ok 38 rd s1 s2 im cs (by decide) hrd h1 h2 (by decide) (by decide) (doN_lt _ _ _ (ok.x _) (ok.x _)) rfl w' (hA.ks.below hb))
theorem does_39 (h : H) (ok : h.Ok) (rd s1 s2 : Nat) (im cs : Int) (hrd : rd < 32) (h1 : s1 < 32) (h2 : s2 < 32) (v l : Nat) (hl : l < 4294967296) (w : World) (hA : HartAt w) : DoesOp h v l 39 ⟨39, (rd : Nat), (s1 : Nat), (s2 : Nat), im, cs⟩ w := by
  intro hD hK
  have e0 : doOp h 39 ⟨39, (rd : Nat), (s1 : Nat), (s2 : Nat), im, cs⟩ v l = (nextH (writeH h rd (doN 12 (h.x s1) (h.x s2))), noA) := by first | rfl | simp [doOp, withinH, kindN, kindL]
  rw [e0]
  exact do_W h v l 39 rd s1 s2 im cs 82 (by decide) (by decide) (by decide) w hD hK _ (fun w' hb => within_R h ok 39 rd s1 s2 im cs (by decide) hrd h1 h2 (by decide) (by decide) (doN_lt _ _ _ (ok.x _) (ok.x _)) rfl w' (hA.ks.below hb))
theorem does_40 (h : H) (ok : h.Ok) (rd s1 s2 : Nat) (im cs : Int) (hrd : rd < 32) (h1 : s1 < 32) (h2 : s2 < 32) (v l : Nat) (hl : l < 4294967296) (w : World) (hA : HartAt w) : DoesOp h v l 40 ⟨40, (rd : Nat), (s1 : Nat), (s2 : Nat), im, cs⟩ w := by
  intro hD hK
  have e0 : doOp h 40 ⟨40, (rd : Nat), (s1 : Nat), (s2 : Nat), im, cs⟩ v l = (nextH (writeH h rd (doN 13 (h.x s1) (h.x s2))), noA) := by first | rfl | simp [doOp, withinH, kindN, kindL]
  rw [e0]
  exact do_W h v l 40 rd s1 s2 im cs 82 (by decide) (by decide) (by decide) w hD hK _ (fun w' hb => within_R h ok 40 rd s1 s2 im cs (by decide) hrd h1 h2 (by decide) (by decide) (doN_lt _ _ _ (ok.x _) (ok.x _)) rfl w' (hA.ks.below hb))
theorem does_41 (h : H) (ok : h.Ok) (rd s1 s2 : Nat) (im cs : Int) (hrd : rd < 32) (h1 : s1 < 32) (h2 : s2 < 32) (v l : Nat) (hl : l < 4294967296) (w : World) (hA : HartAt w) : DoesOp h v l 41 ⟨41, (rd : Nat), (s1 : Nat), (s2 : Nat), im, cs⟩ w := by
  intro hD hK
  have e0 : doOp h 41 ⟨41, (rd : Nat), (s1 : Nat), (s2 : Nat), im, cs⟩ v l = (nextH (writeH h rd (doN 14 (h.x s1) (h.x s2))), noA) := by first | rfl | simp [doOp, withinH, kindN, kindL]
  rw [e0]
  exact do_W h v l 41 rd s1 s2 im cs 82 (by decide) (by decide) (by decide) w hD hK _ (fun w' hb => within_R h ok 41 rd s1 s2 im cs (by decide) hrd h1 h2 (by decide) (by decide) (doN_lt _ _ _ (ok.x _) (ok.x _)) rfl w' (hA.ks.below hb))
theorem does_42 (h : H) (ok : h.Ok) (rd s1 s2 : Nat) (im cs : Int) (hrd : rd < 32) (h1 : s1 < 32) (h2 : s2 < 32) (v l : Nat) (hl : l < 4294967296) (w : World) (hA : HartAt w) : DoesOp h v l 42 ⟨42, (rd : Nat), (s1 : Nat), (s2 : Nat), im, cs⟩ w := by
  intro hD hK
  have e0 : doOp h 42 ⟨42, (rd : Nat), (s1 : Nat), (s2 : Nat), im, cs⟩ v l = (nextH (writeH h rd (doN 15 (h.x s1) (h.x s2))), noA) := by first | rfl | simp [doOp, withinH, kindN, kindL]
  rw [e0]
  exact do_W h v l 42 rd s1 s2 im cs 82 (by decide) (by decide) (by decide) w hD hK _ (fun w' hb => within_R h ok 42 rd s1 s2 im cs (by decide) hrd h1 h2 (by decide) (by decide) (doN_lt _ _ _ (ok.x _) (ok.x _)) rfl w' (hA.ks.below hb))
theorem does_43 (h : H) (ok : h.Ok) (rd s1 s2 : Nat) (im cs : Int) (hrd : rd < 32) (h1 : s1 < 32) (h2 : s2 < 32) (v l : Nat) (hl : l < 4294967296) (w : World) (hA : HartAt w) : DoesOp h v l 43 ⟨43, (rd : Nat), (s1 : Nat), (s2 : Nat), im, cs⟩ w := by
  intro hD hK
  have e0 : doOp h 43 ⟨43, (rd : Nat), (s1 : Nat), (s2 : Nat), im, cs⟩ v l = (nextH (writeH h rd (doN 16 (h.x s1) (h.x s2))), noA) := by first | rfl | simp [doOp, withinH, kindN, kindL]
  rw [e0]
  exact do_W h v l 43 rd s1 s2 im cs 82 (by decide) (by decide) (by decide) w hD hK _ (fun w' hb => within_R h ok 43 rd s1 s2 im cs (by decide) hrd h1 h2 (by decide) (by decide) (doN_lt _ _ _ (ok.x _) (ok.x _)) rfl w' (hA.ks.below hb))
theorem does_44 (h : H) (ok : h.Ok) (rd s1 s2 : Nat) (im cs : Int) (hrd : rd < 32) (h1 : s1 < 32) (h2 : s2 < 32) (v l : Nat) (hl : l < 4294967296) (w : World) (hA : HartAt w) : DoesOp h v l 44 ⟨44, (rd : Nat), (s1 : Nat), (s2 : Nat), im, cs⟩ w := by
  intro hD hK
  have e0 : doOp h 44 ⟨44, (rd : Nat), (s1 : Nat), (s2 : Nat), im, cs⟩ v l = (nextH (writeH h rd (doN 17 (h.x s1) (h.x s2))), noA) := by first | rfl | simp [doOp, withinH, kindN, kindL]
  rw [e0]
  exact do_W h v l 44 rd s1 s2 im cs 82 (by decide) (by decide) (by decide) w hD hK _ (fun w' hb => within_R h ok 44 rd s1 s2 im cs (by decide) hrd h1 h2 (by decide) (by decide) (doN_lt _ _ _ (ok.x _) (ok.x _)) rfl w' (hA.ks.below hb))
theorem does_45 (h : H) (ok : h.Ok) (rd s1 s2 : Nat) (im cs : Int) (hrd : rd < 32) (h1 : s1 < 32) (h2 : s2 < 32) (v l : Nat) (hl : l < 4294967296) (w : World) (hA : HartAt w) : DoesOp h v l 45 ⟨45, (rd : Nat), (s1 : Nat), (s2 : Nat), im, cs⟩ w := by
  intro hD hK
  have e0 : doOp h 45 ⟨45, (rd : Nat), (s1 : Nat), (s2 : Nat), im, cs⟩ v l = (nextH h, noA) := by first | rfl | simp [doOp, withinH, kindN, kindL]
  rw [e0]
  exact do_W h v l 45 rd s1 s2 im cs 70 (by decide) (by decide) (by decide) w hD hK _ (fun w' hb => within_F h ok 45 rd s1 s2 im cs (by decide) hrd h1 h2 rfl w' (hA.ks.below hb))
theorem does_46 (h : H) (ok : h.Ok) (rd s1 s2 : Nat) (im cs : Int) (hrd : rd < 32) (h1 : s1 < 32) (h2 : s2 < 32) (v l : Nat) (hl : l < 4294967296) (w : World) (hA : HartAt w) : DoesOp h v l 46 ⟨46, (rd : Nat), (s1 : Nat), (s2 : Nat), im, cs⟩ w := by
  intro hD hK
  have e0 : doOp h 46 ⟨46, (rd : Nat), (s1 : Nat), (s2 : Nat), im, cs⟩ v l = (nextH h, noA) := by first | rfl | simp [doOp, withinH, kindN, kindL]
  rw [e0]
  exact do_W h v l 46 rd s1 s2 im cs 70 (by decide) (by decide) (by decide) w hD hK _ (fun w' hb => within_F h ok 46 rd s1 s2 im cs (by decide) hrd h1 h2 rfl w' (hA.ks.below hb))
theorem does_47 (h : H) (ok : h.Ok) (rd s1 s2 : Nat) (im cs : Int) (hrd : rd < 32) (h1 : s1 < 32) (h2 : s2 < 32) (v l : Nat) (hl : l < 4294967296) (w : World) (hA : HartAt w) : DoesOp h v l 47 ⟨47, (rd : Nat), (s1 : Nat), (s2 : Nat), im, cs⟩ w := by
  intro hD hK
  have e0 : doOp h 47 ⟨47, (rd : Nat), (s1 : Nat), (s2 : Nat), im, cs⟩ v l = (trapH h 11 0, noA) := by first | rfl | simp [doOp, withinH, kindN, kindL]
  rw [e0]
  exact do_W h v l 47 rd s1 s2 im cs 78 (by decide) (by decide) (by decide) w hD hK _ (fun w' hb => within_47 h ok rd s1 s2 im cs hrd h1 h2 w' (hA.ks.below hb))
theorem does_48 (h : H) (ok : h.Ok) (rd s1 s2 : Nat) (im cs : Int) (hrd : rd < 32) (h1 : s1 < 32) (h2 : s2 < 32) (v l : Nat) (hl : l < 4294967296) (w : World) (hA : HartAt w) : DoesOp h v l 48 ⟨48, (rd : Nat), (s1 : Nat), (s2 : Nat), im, cs⟩ w := by
  intro hD hK
  have e0 : doOp h 48 ⟨48, (rd : Nat), (s1 : Nat), (s2 : Nat), im, cs⟩ v l = (trapH h 3 h.pc, noA) := by first | rfl | simp [doOp, withinH, kindN, kindL]
  rw [e0]
  exact do_W h v l 48 rd s1 s2 im cs 78 (by decide) (by decide) (by decide) w hD hK _ (fun w' hb => within_48 h ok rd s1 s2 im cs hrd h1 h2 w' (hA.ks.below hb))
theorem does_49 (h : H) (ok : h.Ok) (rd s1 s2 : Nat) (im cs : Int) (hrd : rd < 32) (h1 : s1 < 32) (h2 : s2 < 32) (v l : Nat) (hl : l < 4294967296) (w : World) (hA : HartAt w) : DoesOp h v l 49 ⟨49, (rd : Nat), (s1 : Nat), (s2 : Nat), im, cs⟩ w := by
  intro hD hK
  have e0 : doOp h 49 ⟨49, (rd : Nat), (s1 : Nat), (s2 : Nat), im, cs⟩ v l = (goH (withC h (retN h.c)) h.c.ep, noA) := by first | rfl | simp [doOp, withinH, kindN, kindL]
  rw [e0]
  exact do_W h v l 49 rd s1 s2 im cs 78 (by decide) (by decide) (by decide) w hD hK _ (fun w' hb => within_49 h ok rd s1 s2 im cs hrd h1 h2 w' (hA.ks.below hb))
theorem does_50 (h : H) (ok : h.Ok) (rd s1 s2 : Nat) (im cs : Int) (hrd : rd < 32) (h1 : s1 < 32) (h2 : s2 < 32) (v l : Nat) (hl : l < 4294967296) (w : World) (hA : HartAt w) : DoesOp h v l 50 ⟨50, (rd : Nat), (s1 : Nat), (s2 : Nat), im, cs⟩ w := by
  intro hD hK
  have e0 : doOp h 50 ⟨50, (rd : Nat), (s1 : Nat), (s2 : Nat), im, cs⟩ v l = (nextH ⟨h.pc, h.x, true, h.c⟩, noA) := by first | rfl | simp [doOp, withinH, kindN, kindL]
  rw [e0]
  exact do_W h v l 50 rd s1 s2 im cs 78 (by decide) (by decide) (by decide) w hD hK _ (fun w' hb => within_50 h ok rd s1 s2 im cs hrd h1 h2 w' (hA.ks.below hb))
theorem does_51 (h : H) (ok : h.Ok) (rd s1 s2 : Nat) (im cs : Int) (hrd : rd < 32) (h1 : s1 < 32) (h2 : s2 < 32) (v l : Nat) (hl : l < 4294967296) (w : World) (hA : HartAt w) : DoesOp h v l 51 ⟨51, (rd : Nat), (s1 : Nat), (s2 : Nat), im, cs⟩ w := by
  intro hD hK
  have e0 : doOp h 51 ⟨51, (rd : Nat), (s1 : Nat), (s2 : Nat), im, cs⟩ v l = (controlH h 51 ⟨51, (rd : Nat), (s1 : Nat), (s2 : Nat), im, cs⟩ v l, noA) := rfl
  rw [e0]
  exact do_C h v l 51 rd s1 s2 im cs w hD hK _ (fun w' hb => control_51 h ok rd s1 s2 im cs hrd h1 v l hl w')
theorem does_52 (h : H) (ok : h.Ok) (rd s1 s2 : Nat) (im cs : Int) (hrd : rd < 32) (h1 : s1 < 32) (h2 : s2 < 32) (v l : Nat) (hl : l < 4294967296) (w : World) (hA : HartAt w) : DoesOp h v l 52 ⟨52, (rd : Nat), (s1 : Nat), (s2 : Nat), im, cs⟩ w := by
  intro hD hK
  have e0 : doOp h 52 ⟨52, (rd : Nat), (s1 : Nat), (s2 : Nat), im, cs⟩ v l = (controlH h 52 ⟨52, (rd : Nat), (s1 : Nat), (s2 : Nat), im, cs⟩ v l, noA) := rfl
  rw [e0]
  exact do_C h v l 52 rd s1 s2 im cs w hD hK _ (fun w' hb => control_52 h ok rd s1 s2 im cs hrd h1 v l hl w')
theorem does_53 (h : H) (ok : h.Ok) (rd s1 s2 : Nat) (im cs : Int) (hrd : rd < 32) (h1 : s1 < 32) (h2 : s2 < 32) (v l : Nat) (hl : l < 4294967296) (w : World) (hA : HartAt w) : DoesOp h v l 53 ⟨53, (rd : Nat), (s1 : Nat), (s2 : Nat), im, cs⟩ w := by
  intro hD hK
  have e0 : doOp h 53 ⟨53, (rd : Nat), (s1 : Nat), (s2 : Nat), im, cs⟩ v l = (controlH h 53 ⟨53, (rd : Nat), (s1 : Nat), (s2 : Nat), im, cs⟩ v l, noA) := rfl
  rw [e0]
  exact do_C h v l 53 rd s1 s2 im cs w hD hK _ (fun w' hb => control_53 h ok rd s1 s2 im cs hrd h1 v l hl w')
theorem does_54 (h : H) (ok : h.Ok) (rd s1 s2 : Nat) (im cs : Int) (hrd : rd < 32) (h1 : s1 < 32) (h2 : s2 < 32) (v l : Nat) (hl : l < 4294967296) (w : World) (hA : HartAt w) : DoesOp h v l 54 ⟨54, (rd : Nat), (s1 : Nat), (s2 : Nat), im, cs⟩ w := by
  intro hD hK
  have e0 : doOp h 54 ⟨54, (rd : Nat), (s1 : Nat), (s2 : Nat), im, cs⟩ v l = (controlH h 54 ⟨54, (rd : Nat), (s1 : Nat), (s2 : Nat), im, cs⟩ v l, noA) := rfl
  rw [e0]
  exact do_C h v l 54 rd s1 s2 im cs w hD hK _ (fun w' hb => control_54 h ok rd s1 s2 im cs hrd h1 v l hl w')
theorem does_55 (h : H) (ok : h.Ok) (rd s1 s2 : Nat) (im cs : Int) (hrd : rd < 32) (h1 : s1 < 32) (h2 : s2 < 32) (v l : Nat) (hl : l < 4294967296) (w : World) (hA : HartAt w) : DoesOp h v l 55 ⟨55, (rd : Nat), (s1 : Nat), (s2 : Nat), im, cs⟩ w := by
  intro hD hK
  have e0 : doOp h 55 ⟨55, (rd : Nat), (s1 : Nat), (s2 : Nat), im, cs⟩ v l = (controlH h 55 ⟨55, (rd : Nat), (s1 : Nat), (s2 : Nat), im, cs⟩ v l, noA) := rfl
  rw [e0]
  exact do_C h v l 55 rd s1 s2 im cs w hD hK _ (fun w' hb => control_55 h ok rd s1 s2 im cs hrd h1 v l hl w')
theorem does_56 (h : H) (ok : h.Ok) (rd s1 s2 : Nat) (im cs : Int) (hrd : rd < 32) (h1 : s1 < 32) (h2 : s2 < 32) (v l : Nat) (hl : l < 4294967296) (w : World) (hA : HartAt w) : DoesOp h v l 56 ⟨56, (rd : Nat), (s1 : Nat), (s2 : Nat), im, cs⟩ w := by
  intro hD hK
  have e0 : doOp h 56 ⟨56, (rd : Nat), (s1 : Nat), (s2 : Nat), im, cs⟩ v l = (controlH h 56 ⟨56, (rd : Nat), (s1 : Nat), (s2 : Nat), im, cs⟩ v l, noA) := rfl
  rw [e0]
  exact do_C h v l 56 rd s1 s2 im cs w hD hK _ (fun w' hb => control_56 h ok rd s1 s2 im cs hrd h1 v l hl w')

theorem does_all (h : H) (ok : h.Ok) (op : Nat) (hop : op < 57) (rd s1 s2 : Nat) (im cs : Int) (hrd : rd < 32) (h1 : s1 < 32) (h2 : s2 < 32) (v l : Nat) (hl : l < 4294967296) (w : World) (hA : HartAt w) : DoesOp h v l op ⟨op, rd, s1, s2, im, cs⟩ w :=
  match op, hop with
  | 0, _ => does_0 h ok rd s1 s2 im cs hrd h1 h2 v l hl w hA
  | 1, _ => does_1 h ok rd s1 s2 im cs hrd h1 h2 v l hl w hA
  | 2, _ => does_2 h ok rd s1 s2 im cs hrd h1 h2 v l hl w hA
  | 3, _ => does_3 h ok rd s1 s2 im cs hrd h1 h2 v l hl w hA
  | 4, _ => does_4 h ok rd s1 s2 im cs hrd h1 h2 v l hl w hA
  | 5, _ => does_5 h ok rd s1 s2 im cs hrd h1 h2 v l hl w hA
  | 6, _ => does_6 h ok rd s1 s2 im cs hrd h1 h2 v l hl w hA
  | 7, _ => does_7 h ok rd s1 s2 im cs hrd h1 h2 v l hl w hA
  | 8, _ => does_8 h ok rd s1 s2 im cs hrd h1 h2 v l hl w hA
  | 9, _ => does_9 h ok rd s1 s2 im cs hrd h1 h2 v l hl w hA
  | 10, _ => does_10 h ok rd s1 s2 im cs hrd h1 h2 v l hl w hA
  | 11, _ => does_11 h ok rd s1 s2 im cs hrd h1 h2 v l hl w hA
  | 12, _ => does_12 h ok rd s1 s2 im cs hrd h1 h2 v l hl w hA
  | 13, _ => does_13 h ok rd s1 s2 im cs hrd h1 h2 v l hl w hA
  | 14, _ => does_14 h ok rd s1 s2 im cs hrd h1 h2 v l hl w hA
  | 15, _ => does_15 h ok rd s1 s2 im cs hrd h1 h2 v l hl w hA
  | 16, _ => does_16 h ok rd s1 s2 im cs hrd h1 h2 v l hl w hA
  | 17, _ => does_17 h ok rd s1 s2 im cs hrd h1 h2 v l hl w hA
  | 18, _ => does_18 h ok rd s1 s2 im cs hrd h1 h2 v l hl w hA
  | 19, _ => does_19 h ok rd s1 s2 im cs hrd h1 h2 v l hl w hA
  | 20, _ => does_20 h ok rd s1 s2 im cs hrd h1 h2 v l hl w hA
  | 21, _ => does_21 h ok rd s1 s2 im cs hrd h1 h2 v l hl w hA
  | 22, _ => does_22 h ok rd s1 s2 im cs hrd h1 h2 v l hl w hA
  | 23, _ => does_23 h ok rd s1 s2 im cs hrd h1 h2 v l hl w hA
  | 24, _ => does_24 h ok rd s1 s2 im cs hrd h1 h2 v l hl w hA
  | 25, _ => does_25 h ok rd s1 s2 im cs hrd h1 h2 v l hl w hA
  | 26, _ => does_26 h ok rd s1 s2 im cs hrd h1 h2 v l hl w hA
  | 27, _ => does_27 h ok rd s1 s2 im cs hrd h1 h2 v l hl w hA
  | 28, _ => does_28 h ok rd s1 s2 im cs hrd h1 h2 v l hl w hA
  | 29, _ => does_29 h ok rd s1 s2 im cs hrd h1 h2 v l hl w hA
  | 30, _ => does_30 h ok rd s1 s2 im cs hrd h1 h2 v l hl w hA
  | 31, _ => does_31 h ok rd s1 s2 im cs hrd h1 h2 v l hl w hA
  | 32, _ => does_32 h ok rd s1 s2 im cs hrd h1 h2 v l hl w hA
  | 33, _ => does_33 h ok rd s1 s2 im cs hrd h1 h2 v l hl w hA
  | 34, _ => does_34 h ok rd s1 s2 im cs hrd h1 h2 v l hl w hA
  | 35, _ => does_35 h ok rd s1 s2 im cs hrd h1 h2 v l hl w hA
  | 36, _ => does_36 h ok rd s1 s2 im cs hrd h1 h2 v l hl w hA
  | 37, _ => does_37 h ok rd s1 s2 im cs hrd h1 h2 v l hl w hA
  | 38, _ => does_38 h ok rd s1 s2 im cs hrd h1 h2 v l hl w hA
  | 39, _ => does_39 h ok rd s1 s2 im cs hrd h1 h2 v l hl w hA
  | 40, _ => does_40 h ok rd s1 s2 im cs hrd h1 h2 v l hl w hA
  | 41, _ => does_41 h ok rd s1 s2 im cs hrd h1 h2 v l hl w hA
  | 42, _ => does_42 h ok rd s1 s2 im cs hrd h1 h2 v l hl w hA
  | 43, _ => does_43 h ok rd s1 s2 im cs hrd h1 h2 v l hl w hA
  | 44, _ => does_44 h ok rd s1 s2 im cs hrd h1 h2 v l hl w hA
  | 45, _ => does_45 h ok rd s1 s2 im cs hrd h1 h2 v l hl w hA
  | 46, _ => does_46 h ok rd s1 s2 im cs hrd h1 h2 v l hl w hA
  | 47, _ => does_47 h ok rd s1 s2 im cs hrd h1 h2 v l hl w hA
  | 48, _ => does_48 h ok rd s1 s2 im cs hrd h1 h2 v l hl w hA
  | 49, _ => does_49 h ok rd s1 s2 im cs hrd h1 h2 v l hl w hA
  | 50, _ => does_50 h ok rd s1 s2 im cs hrd h1 h2 v l hl w hA
  | 51, _ => does_51 h ok rd s1 s2 im cs hrd h1 h2 v l hl w hA
  | 52, _ => does_52 h ok rd s1 s2 im cs hrd h1 h2 v l hl w hA
  | 53, _ => does_53 h ok rd s1 s2 im cs hrd h1 h2 v l hl w hA
  | 54, _ => does_54 h ok rd s1 s2 im cs hrd h1 h2 v l hl w hA
  | 55, _ => does_55 h ok rd s1 s2 im cs hrd h1 h2 v l hl w hA
  | 56, _ => does_56 h ok rd s1 s2 im cs hrd h1 h2 v l hl w hA
  | n + 57, h => absurd h (by omega)
theorem do_all (h : H) (ok : h.Ok) (v : Nat) (hv : v < 4294967296) (l : Nat) (hl : l < 4294967296) (w : World) (hA : HartAt w) :
    Calls Tryd.prog 8 #[.agg h.cells, .int .u32 v, .int .u32 l] w fun e w' => e = .returned (.tuple #[.agg (doH h v l).1.cells, .agg (doH h v l).2.cells]) ∧ Below w.heap.size w w' := by
  cases hd : decOp v with
  | none =>
    have e0 : doH h v l = (trapH h 2 v, noA) := by simp [doH, hd]
    rw [e0]
    exact do_none h v l ok w (fun w' hb => decode_none v hv (decOp_none hd) w' (hA.ks.below hb) (hA.ws.below hb))
  | some op =>
    have e0 : doH h v l = doOp h op (toldN op v) v l := by simp [doH, hd]
    obtain ⟨rd, s1, s2, im, cs, hi, hrd, h1, h2⟩ := told_shape op v
    rw [e0, hi]
    refine does_all h ok op (decOp_some hd).1 rd s1 s2 im cs hrd h1 h2 v l hl w hA (fun w' hb => ?_) (fun w' hb => kind_yes op (decOp_some hd).1 w' (hA.ks.below hb))
    have := decode_some v hv op hd w' (hA.ks.below hb) (hA.ws.below hb)
    rw [hi] at this
    exact this
end Go.Proofs.YtchjhpeogdkbmaaDoor
