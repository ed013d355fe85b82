/-
  What the document's Parts answers.
-/
import Derived.Test.YtoekcfbjdcibpaaGreatDoorJA
import Derived.OwnWalk
import Derived.Maps.AppendAt
namespace Go.Proofs.YtoekcfbjdcibpaaGreatDoor
open Go.RowKit Go.Lib
set_option linter.unusedVariables false

theorem infoString : (Tryz.prog.info? 9).map (fun i => (i.zero, i.size, i.bytes)) = some (some (.string ⟨#[]⟩), 1, 16) := by kernel_rfl
def strsOf (l : List ByteArray) : List Value := l.map fun x => Value.string x
theorem strsOf_snoc (l : List ByteArray) (x : ByteArray) : strsOf (l ++ [x]) = strsOf l ++ [.string x] := by simp [strsOf]
theorem own_from {w : World} {base : Nat} {e : TypeId} {size n : Nat} {v : Value} {xs : List Value} (h : w.ownsRow base e size v n xs) : ∀ k, v.ownBlock = some k → base ≤ k := by
  intro k hk
  rcases h.2 with ⟨rfl, _⟩ | ⟨g, cap, cur, rfl, hg, _⟩
  · simp [Value.ownBlock] at hk
  · simp [Value.ownBlock] at hk; omega
theorem own_dn {w : World} {base : Nat} {e : TypeId} {size n : Nat} {v : Value} {xs : List Value} (h : w.ownsRow base e size v n xs) (m : Nat) : (w.drewN m).ownsRow base e size v n xs := h
theorem L32 : (ByteArray.mk #[32]).data.toList = [32] := rfl
theorem L4432 : (ByteArray.mk #[44, 32]).data.toList = [44, 32] := rfl
/-- The parts of a text, as the document's values. -/
structure PartsIs (s : Str) (w w' : World) (v : Value) : Prop where
  ex : ∃ (nm : ByteArray) (lv : Value) (l : List ByteArray), v = .tuple #[.string nm, lv] ∧ nm.data.toList = (cut s [32]).1 ∧ l.map (·.data.toList) = operD s ∧ w'.ownsRow w.heap.size 9 1 lv l.length (strsOf l) ∧ l.length ≤ s.length ∧ Below w.heap.size w w'

set_option maxHeartbeats 2000000 in
set_option maxRecDepth 100000 in
theorem rparts_any (s : ByteArray) (hs : s.size ≤ 5000) (w : World) :
    Calls Tryz.prog 36 #[.string s] w fun e w' => ∃ v, e = .returned v ∧ PartsIs s.data.toList w w' v := by
  obtain ⟨i0, hi, hz0, hz1, hz2⟩ := info_parts infoString
  have HC1 := hide (rcut_any s (ByteArray.mk #[32]) (by omega) (by decide) (by decide) w)
  have HC2 := hide (fun (r : ByteArray) (hr : r.size ≤ 5000) w => rcut_any r (ByteArray.mk #[44, 32]) (by omega) (by decide) (by decide) w)
  have hOp := hide (oper_is s.data.toList)
  have hsl : s.data.toList.length = s.size := by simp
  go_enter Tryz.func36, Tryz.ntmps36
  generalize hb1 : ByteArray.mk #[32] = b1 at *
  generalize hb2 : ByteArray.mk #[44, 32] = b2 at *
  have HL1 : Hid (b1.data.toList = [32]) := hide (by rw [← hb1])
  have HL2 : Hid (b2.data.toList = [44, 32]) := hide (by rw [← hb2])
  clear hb1 hb2
  go_wp2_with (go_at_call 40; refine HC1.out.mono ?_; rintro e w1 ⟨⟨v, rfl, ⟨nm, r0, rfl, h1, h2⟩⟩, n1, rfl⟩)
  rw [HL1.out] at h1 h2 ⊢
  have HNm := hide h1
  have hlen0 : r0.size ≤ s.size ∧ ((cut s.data.toList [32]).2.2 = true → r0.size < s.size) := by
    have e1 : r0.data.toList.length = r0.size := by simp
    rw [h2] at e1
    cases hc : (cut s.data.toList [32]).2.2 with
    | true => have := cut_less (s := s.data.toList) (by simp) hc; exact ⟨by omega, fun _ => by omega⟩
    | false =>
      have := (cut_nay hc).2
      rw [this] at e1
      simp at e1
      exact ⟨by omega, fun h => by cases h⟩
  have HO2 : Hid (operD s.data.toList = if (cut s.data.toList [32]).2.2 = true then partsF r0.data.toList.length r0.data.toList else []) := hide (by rw [hOp.out, ← h2])
  clear h1 h2 hOp HC1
  generalize (cut s.data.toList [32]).2.2 = m0 at *
  go_loopw [5, 6, 7] (fun rv mv lv wr => ∃ (r : ByteArray) (m : Bool) (l : List ByteArray), rv = .string r ∧ mv = .bool m ∧ wr.ownsRow w.heap.size 9 1 lv l.length (strsOf l) ∧ l.map (·.data.toList) ++ (if m = true then partsF r.data.toList.length r.data.toList else []) = operD s.data.toList ∧ l.length + r.size + m.toNat ≤ s.size ∧ Below w.heap.size w wr) (fun rv mv _ _ => match rv, mv with | .string r, .bool m => r.size + m.toNat | _, _ => 0)
  case atStart => exact ⟨r0, m0, [], rfl, rfl, World.ownsRow_nil _ _ _ _, by rw [HO2.out]; rfl, by (cases m0; (simp; exact hlen0.1); (have := hlen0.2 rfl; simp; omega)), below_drewN (Below.refl _ w) _⟩
  case round =>
    obtain ⟨r, m, l, rfl, rfl, hrow, hl, hlen, hB⟩ := hrel
    have HLn := hide hl
    clear hl
    cases m with
    | false =>
      go_wp2
      go_ret2
      exact ⟨_, rfl, ⟨nm, _, l, rfl, HNm.out, by have := HLn.out; simpa using this, hrow, by rw [hsl]; simp at hlen; omega, hB⟩⟩
    | true =>
      have HStep := hide (parts_step r.data.toList)
      have hrl : r.data.toList.length = r.size := by simp
      have hlen' : l.length + r.size + 1 ≤ s.size := by simpa using hlen
      have HG := hide (own_from hrow)
      have HR := hide hrow
      have HB0 := hide hB
      clear hrow hB
      have hsz := HB0.out.size
      go_wp2_with (first | (go_at_call 40; refine (HC2.out r (by omega) _).mono ?_; rintro e w2 ⟨⟨v2, rfl, ⟨x, y, rfl, g1, g2⟩⟩, n2, rfl⟩; rw [HL2.out] at g1 g2; have HE1 := hide g1; have HE2 := hide g2; clear g1 g2) | (refine wpList_buildSlice rfl 51 9 1 _ rfl #[.string x] i0 (.string ⟨#[]⟩) Tryz.underlying51 hi hz0 (by rw [hz1]; decide) (by rw [hz1]; decide) (by rw [hz1]; kernel_rfl) ?_) | (at_builtin; refine wpList_append_own _ rfl _ _ 51 rfl w.heap.size 9 i0 (.string ⟨#[]⟩) 1 16 Tryz.underlying51 hi hz0 hz1 hz2 rfl (by decide) _ _ _ rfl ((own_dn HR.out n2).alloc _) ⟨_, 0, none⟩ 1 1 [.string x] rfl rfl (cell_one_new _ _ _) (by simp [Value.oneCell']) (by unfold maxLen; omega) (by omega) (by simp; omega) ?_; intro v' w4 hown' hgrow' _))
      rw [HL2.out]
      have hy : y.data.toList.length = y.size := by simp
      obtain ⟨m', hm'⟩ : ∃ b, (cut r.data.toList [44, 32]).2.2 = b := ⟨_, rfl⟩
      rw [hm']
      have HP : Hid (partsF r.data.toList.length r.data.toList = x.data.toList :: (if m' = true then partsF y.data.toList.length y.data.toList else [])) := hide (by
        rw [HStep.out, hm', HE1.out, HE2.out]
        cases m' <;> rfl)
      have hys : y.size + m'.toNat ≤ r.size := by
        rw [HE2.out] at hy
        cases m' with
        | true => have := cut_less (s := r.data.toList) (by simp) hm'; simp; omega
        | false =>
          have := (cut_nay hm').2
          rw [this] at hy
          simp at hy ⊢
          omega
      clear hm'
      go_roundw
      case rel => exact ⟨y, m', l ++ [x], rfl, rfl, by rw [strsOf_snoc, List.length_append]; exact hown', by (have := HLn.out; simp only [if_true] at this; rw [HP.out] at this; rw [← this]; simp), by (simp; omega), ((below_drewN HB0.out n2).alloc (by simp; omega) _).grown hgrow' (by simp; omega) HG.out⟩
      case measure => simp; omega
end Go.Proofs.YtoekcfbjdcibpaaGreatDoor
