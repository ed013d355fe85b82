/-
  mem's Clone: another memory with the same bytes and marks, all its blocks new.
-/
import Derived.Test.YtalcgipcephnnaaDoorJMeClo
import Derived.Deep.CutRange
import Derived.Deep.DrawnRows
namespace Go.Proofs.YtalcgipcephnnaaDoor
open Go.RowKit
set_option linter.unusedVariables false
attribute [local go_sem ↓] Go.wp_at_zero Go.wp_at_succ

theorem RamAt.got {w : World} {B c Q E : Nat} {k : Mem} (h : RamAt w B c Q E k) {i x C : Nat} {f : Nat → Nat} (hi : i < k.n) (hz : k.z = none) (hx : HoldsAt w x 4096 5 (fun o => .int .u8 (f o : Nat))) (hxB : B ≤ x)
    (hf1 : x ≠ c) (hf2 : x ≠ Q) (hf3 : x ≠ E) (hf4 : ∀ p, p < k.n → k.blk p ≠ some x) (hC : 4096 ≤ C) (hC2 : C ≤ maxLen) :
    RamAt (w.setCell ⟨Q, i, none⟩ (.slice (some ⟨x, 0, none⟩) 4096 C)) B c Q E { k with blk := upd k.blk i (some x), dat := upd k.dat i f, cap := upd k.cap i C } := by
  have hr := h.head
  obtain ⟨a1, a2, a3, a4⟩ := h.apart
  obtain ⟨l1, l2, l3, l4⟩ := h.low
  have blk' : ∀ q g, upd k.blk i (some x) q = some g → (q = i ∧ g = x) ∨ (q ≠ i ∧ k.blk q = some g) := fun q g hg => by
    by_cases hq : q = i
    · subst hq; rw [upd_same] at hg; exact .inl ⟨rfl, (Option.some.inj hg).symm⟩
    · rw [upd_other _ _ hq] at hg; exact .inr ⟨hq, hg⟩
  exact { head := hr.far a1 i _, zero := fun g hg => (by (rw [show k.z = some g from hg] at hz; cases hz)),
          pages := (h.pages.put hi (.slice (some ⟨x, 0, none⟩) 4096 C)).congr (fun j _ => by
            by_cases hj : j = i
            · subst hj; rw [upd_same]; show _ = pageV (upd k.cap j C j) (upd k.blk j (some x) j); rw [upd_same, upd_same]; rfl
            · rw [upd_other _ _ hj]; show _ = pageV (upd k.cap i C j) (upd k.blk i (some x) j); rw [upd_other _ _ hj, upd_other _ _ hj]),
          marks := h.marks.far (fun e => a3 e.symm) i _,
          bytes := fun q g hq hg => by
            rcases blk' q g hg with ⟨rfl, rfl⟩ | ⟨hqp, hg'⟩
            · refine (hx.far hf2 _ _).congr (fun j _ => ?_)
              show _ = Value.int .u8 ((upd k.dat q f q j : Nat) : Int)
              rw [upd_same]
            · refine ((h.bytes q g hq hg').far (a4 q g hq hg').2.1 i _).congr (fun j _ => ?_)
              show _ = Value.int .u8 ((upd k.dat i f q j : Nat) : Int)
              rw [upd_other _ _ hqp],
          noughts := fun q hq hn o => by
            have hqi : q ≠ i := fun e => by
              subst e
              have : upd k.blk q (some x) q = none := hn
              rw [upd_same] at this; cases this
            show upd k.dat i f q o = 0
            rw [upd_other _ _ hqi]
            have : upd k.blk i (some x) q = none := hn
            rw [upd_other _ _ hqi] at this
            exact h.noughts q hq this o,
          low := ⟨l1, l2, l3, fun q g hq hg => by
            rcases blk' q g hg with ⟨rfl, rfl⟩ | ⟨hqp, hg'⟩
            · exact hxB
            · exact l4 q g hq hg'⟩,
          apart := ⟨a1, a2, a3, fun q g hq hg => by
            rcases blk' q g hg with ⟨rfl, rfl⟩ | ⟨hqp, hg'⟩
            · exact ⟨hf1, hf2, hf3⟩
            · exact a4 q g hq hg'⟩,
          alone := fun p q g hp hq hne h1 h2 => by
            rcases blk' p g h1 with ⟨e1, e2⟩ | ⟨e1, e2⟩
            · rcases blk' q g h2 with ⟨e3, e4⟩ | ⟨e3, e4⟩
              · exact hne (e1.trans e3.symm)
              · exact hf4 q hq (e2 ▸ e4)
            · rcases blk' q g h2 with ⟨e3, e4⟩ | ⟨e3, e4⟩
              · exact hf4 p hp (e4 ▸ e2)
              · exact h.alone p q g hp hq hne e2 e4,
          few := h.few,
          caps := fun q hq => by
            show 4096 ≤ upd k.cap i C q ∧ upd k.cap i C q ≤ maxLen ∧ (upd k.blk i (some x) q = none → upd k.cap i C q = 4096)
            by_cases hqi : q = i
            · subst hqi
              rw [upd_same, upd_same]
              exact ⟨hC, hC2, fun e => by cases e⟩
            · rw [upd_other _ _ hqi, upd_other _ _ hqi]
              exact h.caps q hq,
          room := h.room }
/-- A page that is not there stays so, if nothing is stored in its place. -/
theorem RamAt.void {w : World} {B c Q E : Nat} {k : Mem} (h : RamAt w B c Q E k) {i : Nat} (hi : i < k.n) (hz : k.z = none) (hb : k.blk i = none) :
    RamAt (w.setCell ⟨Q, i, none⟩ (.slice none 0 0)) B c Q E k := by
  have hr := h.head
  obtain ⟨a1, a2, a3, a4⟩ := h.apart
  exact { head := hr.far a1 i _, zero := fun g hg => (by (rw [show k.z = some g from hg] at hz; cases hz)),
          pages := (h.pages.put hi (.slice none 0 0)).congr (fun j _ => by
            by_cases hj : j = i
            · subst hj; rw [upd_same, hb]; rfl
            · rw [upd_other _ _ hj]),
          marks := h.marks.far (fun e => a3 e.symm) i _,
          bytes := fun q g hq hg => (h.bytes q g hq hg).far (a4 q g hq hg).2.1 i _,
          noughts := h.noughts, low := h.low, apart := h.apart, alone := h.alone, few := h.few, caps := h.caps, room := h.room }
theorem RamAt.counts {w : World} {B b P D : Nat} {m : Mem} (h : RamAt w B b P D m) (x : Nat) : RamAt (w.setCell ⟨b, 2, none⟩ (.int .i64 (x : Nat))) B b P D { m with wr := x } := by
  have hr := h.head
  obtain ⟨a1, a2, a3, a4⟩ := h.apart
  exact { head := hr.put 2 _, zero := fun g hg => (by (obtain ⟨z1, z2, z3, z4⟩ := h.zero g hg; exact ⟨z1.far z3 _ _, z2, z3, z4⟩)), pages := h.pages.far (fun e => a1 e.symm) _ _, marks := h.marks.far (fun e => a2 e.symm) _ _, bytes := fun q g hq hg => (h.bytes q g hq hg).far (a4 q g hq hg).1 _ _, noughts := h.noughts, low := h.low, apart := h.apart, alone := h.alone, few := h.few, caps := h.caps, room := h.room }
theorem RamAt.lower {w : World} {B B' b P D : Nat} {m : Mem} (h : RamAt w B' b P D m) (hB : B ≤ B') : RamAt w B b P D m := by
  obtain ⟨l1, l2, l3, l4⟩ := h.low
  exact { head := h.head, zero := fun g hg => (by (obtain ⟨z1, z2, z3⟩ := h.zero g hg; exact ⟨z1, Nat.le_trans hB z2, z3⟩)), pages := h.pages, marks := h.marks, bytes := h.bytes, noughts := h.noughts,
          low := ⟨Nat.le_trans hB l1, Nat.le_trans hB l2, Nat.le_trans hB l3, fun p g hp hg => Nat.le_trans hB (l4 p g hp hg)⟩, apart := h.apart, alone := h.alone, few := h.few, caps := h.caps, room := h.room }

/-- What Clone has made when i pages are over. -/
structure Cloned (m k : Mem) (i : Nat) : Prop where
  n : k.n = m.n
  dirty : k.dirty = m.dirty
  z : k.z = none
  dat : ∀ p o, p < i → k.dat p o = m.dat p o
  rest : ∀ p, i ≤ p → k.blk p = none

theorem cloned_start {w : World} {B c Q E C : Nat} {m : Mem} (hn : m.n ≤ 16384) (hr : RowAt w c (ramV Q E m.n C 0 (.slice none 0 0) 0) 105) (hQ : HoldsAt w Q m.n 43 (fun _ => .slice none 0 0)) (hE : HoldsAt w E m.n 4 (fun p => .bool (m.dirty p)))
    (hC : m.n ≤ C) (hC2 : C ≤ maxLen) (h1 : B ≤ c) (h2 : B ≤ Q) (h3 : B ≤ E) (a1 : c ≠ Q) (a2 : c ≠ E) (a3 : Q ≠ E) :
    RamAt w B c Q E ⟨m.n, fun _ => none, fun _ _ => 0, m.dirty, 0, none, fun _ => 4096, C⟩ :=
  { head := hr, zero := fun g h => (by cases h), pages := hQ, marks := hE, bytes := fun p g _ h => by simp at h, noughts := fun p _ _ o => rfl, low := ⟨h1, h2, h3, fun p g _ h => by simp at h⟩, apart := ⟨a1, a2, a3, fun p g _ h => by simp at h⟩,
    alone := fun p q g _ _ _ h => by simp at h, few := hn, caps := fun p _ => ⟨Nat.le_refl _, (by show 4096 ≤ maxLen; unfold maxLen; omega), fun _ => rfl⟩, room := ⟨hC, hC2⟩ }

set_option maxRecDepth 100000 in
set_option maxHeartbeats 2000000 in
theorem clone_any {w : World} {B b P D : Nat} {m : Mem} (h : RamAt w B b P D m) (hB : B ≤ w.heap.size) (hn : 0 < m.n) :
    Calls Tryd.prog 21 #[.pointer (some ⟨b, 0, none⟩)] w fun e w' => ∃ c Q E k, e = .returned (.pointer (some ⟨c, 0, none⟩)) ∧ RamAt w' w.heap.size c Q E k ∧ k.n = m.n ∧ k.dirty = m.dirty ∧ k.z = none ∧ k.wr = m.wr ∧ (∀ p o, p < m.n → k.dat p o = m.dat p o) ∧ Below w.heap.size w w' := by
  have c0 : w.cell? ⟨b, 0, none⟩ = some (.slice (some ⟨P, 0, none⟩) m.n m.n) := h.head.cell 0
  have c1 : w.cell? ⟨b, 1, none⟩ = some (.slice (some ⟨D, 0, none⟩) m.n m.dc) := h.head.cell 1
  have hfew := h.few
  have lb := h.head.lt
  have HR := hide h
  have hmk := run_make_row' (P := Tryd.prog) 89 43 (.slice none 0 0) 24 Tryd.underlying89 (by kernel_rfl) rfl .i64 .i64 m.n (by omega) (by omega)
  have HM := hide h.marks
  have HCl : Hid (∀ W, HoldsAt W D m.n 4 (fun p => .bool (m.dirty p)) → Calls Tryd.prog 44 #[.slice (some ⟨D, 0, none⟩) m.n m.dc] W fun e w' => ∃ C x, e = .returned (.slice (some ⟨x, 0, none⟩) m.n C) ∧ m.n ≤ C ∧ C ≤ maxLen ∧ HoldsAt w' x m.n 4 (fun p => .bool (m.dirty p)) ∧ W.heap.size ≤ x ∧ Below W.heap.size W w') := hide (fun W hW => clone_bools W D m.n m.dc hn hfew _ hW)
  clear h
  go_enter Tryd.func21, Tryd.ntmps21
  go_upto_region 3 with (fail)
  go_cut [3] from 6 (fun s3 wx => ∃ c Q E C : Nat, s3 = .pointer (some ⟨c, 0, none⟩) ∧ RowAt wx c (ramV Q E m.n C 0 (.slice none 0 0) 0) 105 ∧ HoldsAt wx Q m.n 43 (fun _ => .slice none 0 0) ∧ HoldsAt wx E m.n 4 (fun p => .bool (m.dirty p)) ∧ m.n ≤ C ∧ C ≤ maxLen ∧ w.heap.size ≤ c ∧ w.heap.size ≤ Q ∧ w.heap.size ≤ E ∧ c ≠ Q ∧ c ≠ E ∧ Q ≠ E ∧ Below w.heap.size w wx)
  case first =>
    go_region_with (first | (go_at_call 44; refine (HCl.out _ ?_).mono ?_; (first | exact HM.out | exact HM.out.dr | exact HM.out.al _ | exact HM.out.dr.al _ | exact (HM.out.al _).dr); rintro e w5 ⟨C, x, rfl, hC1, hC2, hx, hxl, hbx⟩; have c05 : w5.cell? ⟨b, 0, none⟩ = some (.slice (some ⟨P, 0, none⟩) m.n m.n) := cell_bl hbx (by (first | exact c0 | exact cellD c0 | exact cellA c0 _ | exact cellD (cellA c0 _) | exact cellA (cellD c0) _)); have HC1 := hide hC1; have HC2 := hide hC2; have HX := hide hx; have HXL := hide hxl; have HBX := hide hbx; clear hC1 hC2 hx hxl hbx))
    all_goals
      go_wp2_with (fail)
      go_meet
      case rel =>
        have hxl := HXL.out
        have hsz := HBX.out.size
        have hxlt := HX.out.lt
        have e1 : ∀ o, (w.alloc o).drew.heap.size = w.heap.size + 1 := fun o => (show (w.alloc o).heap.size = _ by simp)
        have e2 : w.drew.heap.size = w.heap.size := rfl
        first | rw [e1] at hxl hsz | rw [e2] at hxl hsz
        first
          | exact ⟨_, _, _, C, rfl, RowAt.new w5 _ _ _ rfl, ((HoldsAt.made (RowAt.new w _ _ _ rfl)).dr.bl HBX.out).al _, HX.out.al _, HC1.out, HC2.out, by omega, by omega, by omega, by omega, by omega, by omega, (((Below.refl _ w).alloc (Nat.le_refl _) _).drew.trans (HBX.out.mono (by simp))).alloc (by omega) _⟩
          | exact ⟨_, _, _, C, rfl, RowAt.new _ _ _ _ (by simp), (HoldsAt.made (RowAt.new w5 _ _ _ rfl)).al _, (HX.out.al _).al _, HC1.out, HC2.out, by omega, by omega, by omega, by omega, by omega, by omega, (((Below.refl _ w).drew.trans HBX.out).alloc (by omega) _).alloc (by simp; omega) _⟩
  case rest =>
    obtain ⟨c, Q, E, C, rfl, hr, hQ, hE, hC1, hC2, l1, l2, l3, a1, a2, a3, hB1⟩ := hcut
    have hk0 := cloned_start (B := w.heap.size) hfew hr hQ hE hC1 hC2 l1 l2 l3 a1 a2 a3
    have HK0 := hide hk0
    have HB1 := hide hB1
    have c0c := cell_bl hB1 c0
    clear hr hQ hE hC1 hC2 hB1 hk0 hmk HCl HM
    go_wp2_with (fail)
    go_loopw [4, 5, 26] (fun _ _ iv wr => ∃ (i : Nat) (k : Mem), i ≤ m.n ∧ iv = .int .i64 (i : Nat) ∧ RamAt wr w.heap.size c Q E k ∧ Cloned m k i ∧ Below w.heap.size w wr) (fun _ _ iv _ => m.n - (intOf iv).toNat)
    case atStart => exact ⟨0, _, by omega, rfl, HK0.out, ⟨rfl, rfl, rfl, fun p o h => absurd h (Nat.not_lt_zero _), fun p _ => rfl⟩, HB1.out⟩
    case round =>
      obtain ⟨i, k, hi, rfl, hK, hCl, hBl⟩ := hrel
      have HK := hide hK
      have HCd := hide hCl
      have HBl := hide hBl
      have hkn : k.n = m.n := hCl.n
      have cQ : wr.cell? ⟨c, 0, none⟩ = some (.slice (some ⟨Q, 0, none⟩) m.n m.n) := (hK.head.cell 0).trans (by simp [ramV, hkn])
      have hM := HR.out.bl hBl
      have HM := hide hM
      by_cases hlt : i < m.n
      · have cp := hM.pages.cell hlt
        have i0 : (0 : Int) ≤ (i : Int) := by omega
        have i9 : (i : Int) < (m.n : Int) := by omega
        have fq := hK.pages.thaw i
        have cq := hK.pages.cell (show i < k.n by omega)
        clear hK hCl hBl hM HK0 HB1 c0c
        cases hb : m.blk i with
        | none =>
          rw [hb] at cp
          rw [HCd.out.rest i (Nat.le_refl _)] at cq
          simp only [pageV] at cp cq
          have HN := hide clone_nil
          go_wp2
          go_region_with (go_at_call 45; refine (HN.out _).mono ?_; rintro e w5 ⟨rfl, rfl⟩)
          all_goals
            go_simp
            go_wp2
            go_roundw
            case rel =>
              refine ⟨i + 1, k, by omega, by go_num, (HK.out.void (by omega) HCd.out.z (HCd.out.rest i (Nat.le_refl _))).dr, ⟨HCd.out.n, HCd.out.dirty, HCd.out.z, fun p o hp => ?_, fun p hp => HCd.out.rest p (by omega)⟩, (HBl.out.setCell (p := ⟨Q, i, none⟩) l2 _).drew⟩
              by_cases hpi : p = i
              · subst hpi
                rw [HM.out.noughts p hlt hb o, HK.out.noughts p (by omega) (HCd.out.rest p (Nat.le_refl _)) o]
              · exact HCd.out.dat p o (by omega)
            case measure => simp [intOf]; omega
        | some g =>
          rw [hb] at cp
          rw [HCd.out.rest i (Nat.le_refl _)] at cq
          simp only [pageV] at cp cq
          have HN := hide (fun W hW => clone_page W g 4096 (m.cap i) (by omega) (by omega) (fun o => Value.int .u8 (m.dat i o : Nat)) hW)
          have HG := hide (HM.out.bytes i g hlt hb)
          generalize m.cap i = cg at *
          go_wp2
          go_region_with (go_at_call 45; refine (HN.out _ HG.out.dr).mono ?_; rintro e w5 ⟨C5, x, rfl, hx1, hx2, hx3, hx4, hx5⟩; have cQ5 : w5.cell? ⟨c, 0, none⟩ = some (.slice (some ⟨Q, 0, none⟩) m.n m.n) := cell_bl hx5 (cellD cQ); have cq5 : w5.cell? ⟨Q, i, none⟩ = some (.slice none 0 0) := cell_bl hx5 (cellD cq); have fq5 : w5.frozen? ⟨Q, i, none⟩ = false := (HK.out.dr.bl hx5).pages.thaw i; have H1 := hide hx1; have H2 := hide hx2; have H3 := hide hx3; have H4 := hide hx4; have H5 := hide hx5; clear hx1 hx2 hx3 hx4 hx5)
          all_goals
            go_simp
            go_wp2
            go_roundw
            case rel =>
              have hxl : wr.heap.size ≤ x := H4.out
              have hs5 : wr.heap.size ≤ w5.heap.size := H5.out.size
              have hws := HBl.out.size
              have hK5 := HK.out.dr.bl H5.out
              have lt1 := HK.out.head.lt
              have lt2 := HK.out.pages.lt
              have lt3 := HK.out.marks.lt
              refine ⟨i + 1, _, by omega, by go_num, hK5.got (i := i) (by omega) HCd.out.z H3.out (by omega) (by omega) (by omega) (by omega) (fun p hp e => by have := (HK.out.bytes p x hp e).lt; omega) H1.out H2.out, ⟨HCd.out.n, HCd.out.dirty, HCd.out.z, fun p o hp => ?_, fun p hp => ?_⟩, ((HBl.out.drew.trans (H5.out.mono hws)).setCell (p := ⟨Q, i, none⟩) l2 _)⟩
              · show upd k.dat i (m.dat i) p o = m.dat p o
                by_cases hpi : p = i
                · subst hpi; rw [upd_same]
                · rw [upd_other _ _ hpi]; exact HCd.out.dat p o (by omega)
              · show upd k.blk i (some x) p = none
                rw [upd_other _ _ (by omega)]
                exact HCd.out.rest p (by omega)
            case measure => simp [intOf]; omega
      · obtain rfl : i = m.n := by omega
        have cw : wr.cell? ⟨b, 2, none⟩ = some (.int .i64 (m.wr : Nat)) := hM.head.cell 2
        have ck : wr.cell? ⟨c, 2, none⟩ = some (.int .i64 (k.wr : Nat)) := hK.head.cell 2
        have fk := hK.head.thaw 2
        have HL := hide (load64 ⟨b, 2, none⟩ _ wr.drew (cellD cw))
        have HS := hide (store64 ⟨c, 2, none⟩ _ (m.wr : Nat) wr.drew (cellD ck) fk)
        clear hK hCl hBl hM HK0 HB1 c0c
        go_wp2
        go_region_with (first | (go_at_call 47; refine HL.out.mono ?_; rintro e w5 ⟨rfl, rfl⟩) | (go_at_call 46; refine HS.out.mono ?_; rintro e w6 ⟨rfl, rfl⟩))
        all_goals
          go_simp
          go_wp2
          go_ret
          exact ⟨c, Q, E, _, rfl, HK.out.dr.counts m.wr, HCd.out.n, HCd.out.dirty, HCd.out.z, rfl, fun p o hp => HCd.out.dat p o hp, HBl.out.drew.setCell (p := ⟨c, 2, none⟩) l1 _⟩
end Go.Proofs.YtalcgipcephnnaaDoor
