/-
  mem's Same, and where the pages of noughts lie behind it; mem's Writes.
-/
import Derived.Test.YtalcgipcephnnaaDoorJMeZ
namespace Go.Proofs.YtalcgipcephnnaaDoor
open Go.RowKit
set_option linter.unusedVariables false
attribute [local go_sem ↓] Go.wp_at_zero Go.wp_at_succ

theorem z_join {a b c : Option Nat} {S T : Nat} (h : b = a ∨ ∃ x, b = some x ∧ S ≤ x) (hS : S ≤ T) (k : c = b ∨ ∃ x, c = some x ∧ T ≤ x) : c = a ∨ ∃ x, c = some x ∧ S ≤ x := by
  rcases k with e | ⟨y, e1, e2⟩
  · rcases h with e3 | ⟨y, e3, e4⟩
    · exact .inl (e.trans e3)
    · exact .inr ⟨y, e.trans e3, e4⟩
  · exact .inr ⟨y, e1, Nat.le_trans hS e2⟩
set_option maxRecDepth 100000 in
set_option maxHeartbeats 2000000 in
theorem same_z {w : World} {B b P D c Q E : Nat} {m k : Mem} (h : RamAt w B b P D m) (h' : RamAt w B c Q E k) (hB : B ≤ w.heap.size) (hn : k.n = m.n) (ho : Off m b P D k c Q E) (ho' : Off k c Q E m b P D)
    (hf : ∀ p o, m.dat p o < 256) (hf' : ∀ p o, k.dat p o < 256) :
    Calls Tryd.prog 22 #[.pointer (some ⟨b, 0, none⟩), .pointer (some ⟨c, 0, none⟩)] w fun e w' => (∃ s : Bool, e = .returned (.bool s) ∧ (s = true ↔ ∀ p, p < m.n → ∀ o, o < 4096 → m.dat p o = k.dat p o)) ∧
      (∃ m' k', Looked m m' ∧ Looked k k' ∧ RamAt w' B b P D m' ∧ RamAt w' B c Q E k' ∧ Off m' b P D k' c Q E ∧ Off k' c Q E m' b P D ∧ (m'.z = m.z ∨ ∃ x, m'.z = some x ∧ w.heap.size ≤ x) ∧ (k'.z = k.z ∨ ∃ x, k'.z = some x ∧ w.heap.size ≤ x)) ∧ Kept B w w' (fun x => m.owns b P D x ∨ k.owns c Q E x) := by
  have c0 : w.cell? ⟨b, 0, none⟩ = some (.slice (some ⟨P, 0, none⟩) m.n m.n) := h.head.cell 0
  have d0 : w.cell? ⟨c, 0, none⟩ = some (.slice (some ⟨Q, 0, none⟩) k.n k.n) := h'.head.cell 0
  rw [hn] at d0
  have hfew := h.few
  have hnn : ((m.n : Int) != (m.n : Int)) = false := by simp
  have HR := hide h
  have HR' := hide h'
  have HF := hide hf
  have HF' := hide hf'
  have HOf := hide ho
  have HOf' := hide ho'
  clear h h' hf hf' ho ho'
  go_enter Tryd.func22, Tryd.ntmps22
  go_wp2
  go_quiet (fail)
  go_wp2
  go_loopw [30] (fun iv wr => ∃ (i : Nat) (m' k' : Mem), i ≤ m.n ∧ iv = .int .i64 (i : Nat) ∧ (∀ p, p < i → ∀ o, o < 4096 → m.dat p o = k.dat p o) ∧ Looked m m' ∧ Looked k k' ∧ RamAt wr B b P D m' ∧ RamAt wr B c Q E k' ∧ Off m' b P D k' c Q E ∧ Off k' c Q E m' b P D ∧ ((m'.z = m.z ∨ ∃ x, m'.z = some x ∧ w.heap.size ≤ x) ∧ (k'.z = k.z ∨ ∃ x, k'.z = some x ∧ w.heap.size ≤ x)) ∧ Kept B w wr (fun x => m.owns b P D x ∨ k.owns c Q E x)) (fun iv _ => m.n - (intOf iv).toNat)
  case atStart =>
    have hbd : Below w.heap.size w (w.drewN nq) := ⟨rfl, rfl, rfl, Nat.le_refl _, fun _ _ => rfl⟩
    exact ⟨0, m, k, by omega, rfl, fun p hp => absurd hp (by omega), Looked.refl m, Looked.refl k, HR.out.bl hbd, HR'.out.bl hbd, HOf.out, HOf'.out, ⟨.inl rfl, .inl rfl⟩, Kept.of hbd hB⟩
  case round =>
    clear HR HR' HOf HOf' c0 d0
    obtain ⟨i, m', k', hi, rfl, heq, hl1, hl2, hr1, hr2, ho1, ho2, hzz, hK⟩ := hrel
    have HZZ := hide hzz
    clear hzz
    have HEq := hide heq
    have HL1 := hide hl1
    have HL2 := hide hl2
    have HR1 := hide hr1
    have HR2 := hide hr2
    have HO1 := hide ho1
    have HO2 := hide ho2
    have HK := hide hK
    clear heq hl1 hl2 hr1 hr2 ho1 ho2 hK
    by_cases hlt : i < m.n
    · have HT1 := hide (look_any (p := i) HR1.out (Nat.le_trans hB HK.out.size) (by rw [HL1.out.n]; exact hlt))
      have HT2 := hide (fun W hW hr => look_any (w := W) (B := B) (b := c) (P := Q) (D := E) (m := k') (p := i) hr hW (by rw [HL2.out.n, hn]; exact hlt))
      have i0 : (0 : Int) ≤ (i : Int) := by omega
      have hnot : ∀ (x : Bool) (w : World), (Op.unary .not (.bool x)).run Tryd.prog w = .ok (.bool (!x)) w := fun _ _ => rfl
      have hBr := Nat.le_trans hB HK.out.size
      go_upto_region 7 with (first | (go_at_call 43; (with_reducible refine HT1.out.mono ?_); rintro e w3 ⟨g1, m2, rfl, hx1, hx2, hx3, hx4, hx5, hx6⟩; have HM3 := hide hx2; have HG3 := hide hx3; have HK3 := hide hx4; have HL3 := hide hx1; have HI3 := hide hx5; have HZ3 := hide hx6; have HR3 := hide (HR2.out.other HO1.out hx4); clear hx1 hx2 hx3 hx4 hx5 hx6) | (go_at_call 43; (with_reducible refine (HT2.out _ (Nat.le_trans hBr HK3.out.size) HR3.out).mono ?_); rintro e w4 ⟨g2, k2, rfl, hx1, hx2, hx3, hx4, hx5, hx6⟩; have HM4 := hide hx2; have HG4 := hide hx3; have HK4 := hide hx4; have HL4 := hide hx1; have HZ4 := hide hx6; have HP1 := hide (HO2.out.right HR2.out HL3.out HZ3.out); have HG5 := hide (hx4.holds HG3.out (fun hh => (HO2.out.right HR2.out HL3.out HZ3.out).no g1 hh HI3.out)); clear hx1 hx2 hx3 hx4 hx5 hx6) | (go_at_call 48; (with_reducible refine (equal_any (fun j => by rw [HL1.out.dat]; exact HF.out i j) (fun j => by rw [HL2.out.dat]; exact HF'.out i j) HG5.out HG4.out).mono ?_); rintro e w5 ⟨⟨bb, rfl, hbb⟩, rfl⟩; have HBB := hide hbb; clear hbb))
      · have hb0 : bb = false := by
          cases hbb : bb with
          | false => rfl
          | true => simp_all
        have HNo : Hid (¬ ∀ p, p < m.n → ∀ o, o < 4096 → m.dat p o = k.dat p o) := hide (fun hh => by
          have := HBB.out.2 (fun j hj => by rw [HL1.out.dat, HL2.out.dat]; exact hh i hlt j hj)
          rw [hb0] at this
          cases this)
        go_wp2
        go_ret
        exact ⟨⟨false, rfl, ⟨fun h => (by cases h), fun h => absurd h HNo.out⟩⟩, ⟨m2, k2, HL1.out.trans HL3.out, HL2.out.trans HL4.out, HM3.out.other HP1.out HK4.out, HM4.out, (HO1.out.left HL3.out).right HM3.out HL4.out HZ4.out, HP1.out.left HL4.out, ⟨z_join HZZ.out.1 HK.out.size HZ3.out, z_join HZZ.out.2 (Nat.le_trans HK.out.size HK3.out.size) HZ4.out⟩⟩,
          (HK.out.then HK3.out (fun x _ hx => .inl (HL1.out.owns.1 hx))).then HK4.out (fun x _ hx => .inr (HL2.out.owns.1 hx))⟩
      · have hb0 : bb = true := by
          cases hbb : bb with
          | true => rfl
          | false => simp_all
        have HPg := hide (HBB.out.1 hb0)
        refine ⟨⟨i + 1, m2, k2, by omega, by go_num, fun p hp o hoo => ?_, HL1.out.trans HL3.out, HL2.out.trans HL4.out, HM3.out.other HP1.out HK4.out, HM4.out, (HO1.out.left HL3.out).right HM3.out HL4.out HZ4.out, HP1.out.left HL4.out, ⟨z_join HZZ.out.1 HK.out.size HZ3.out, z_join HZZ.out.2 (Nat.le_trans HK.out.size HK3.out.size) HZ4.out⟩,
          (HK.out.then HK3.out (fun x _ hx => .inl (HL1.out.owns.1 hx))).then HK4.out (fun x _ hx => .inr (HL2.out.owns.1 hx))⟩, by simp [intOf]; omega⟩
        by_cases e : p = i
        · subst e
          have := HPg.out o hoo
          rwa [HL1.out.dat, HL2.out.dat] at this
        · exact HEq.out p (by omega) o hoo
    · obtain rfl : i = m.n := by omega
      go_wp2
      go_ret
      exact ⟨⟨true, rfl, ⟨fun _ => HEq.out, fun _ => rfl⟩⟩, ⟨m', k', HL1.out, HL2.out, HR1.out, HR2.out, HO1.out, HO2.out, HZZ.out⟩, HK.out⟩
end Go.Proofs.YtalcgipcephnnaaDoor
